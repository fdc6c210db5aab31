/- Texts put together: Fl. -/
import Derived.Test.YtmejcchkoflciaaDoorG27
import Derived.Test.YtmejcchkoflciaaDoorG30
namespace Go.Proofs.YtmejcchkoflciaaDoor
set_option linter.unusedVariables false
set_option linter.unusedSimpArgs false
open Go.RowKit Go.Joins

set_option maxRecDepth 100000 in
set_option maxHeartbeats 4000000 in
theorem formatCompiles_walk (s : List UInt8) (hs : s.length ≤ 140737488351232) (w : World) (E : EnvF w) :
    Calls Tryd.prog 3 #[.string (bs s)] w fun e w' => e = .returned (.bool true) ∧ Below w.heap.size w w' := by
  have HE := hid E
  by_cases h4 : s.length ≤ 400
  · have h5 : ¬ (400 : Int) < (s.length : Int) := by omega
    have HC := hid (compile_any s (by omega) w E)
    have HR := hid (fun w2 => rcompile_any s (by omega) w2)
    have HL := hid (compileF_len s).2.1
    clear E hs h4
    go_enter Tryd.func3, Tryd.ntmps3
    go_wp2_with fail
    refine HC.out.mono ?_
    rintro e w1 ⟨v1, rfl, hp1, hb1⟩
    have HP1 := hid hp1.ptv
    have HB1 := hid hb1
    clear hp1 hb1
    go_wp2_with fail
    refine (HR.out _).mono ?_
    rintro e w2 ⟨v2, rfl, hp2, hb2⟩
    have HP2 := hid (And.intro (HP1.out.up hb2) hp2.ptv)
    have HB2 := hid (estep HB1.out hb2)
    clear hp2 hb2
    generalize compileF s = cf at *
    obtain ⟨cl, cp, ce⟩ := cf
    simp only at HP2 HL
    go_wp2_with fail
    refine (psame_any cl _ _ _ (by have := HL.out; omega) HP2.out.1 HP2.out.2).mono ?_
    rintro e w3 ⟨rfl, hb3⟩
    have HB3 := hid (estep HB2.out hb3)
    have HE3 := hid (HE.out.up HB3.out)
    clear hb3
    go_wp2_with fail
    refine (known19_any _ HE3.out).mono ?_
    rintro e w4 ⟨rfl, hb4⟩
    have HB4 := hid (estep HB3.out hb4)
    clear hb4
    go_wp2_with fail
    go_returns
    exact ⟨rfl, HB4.out⟩
  · have h5 : (400 : Int) < (s.length : Int) := by omega
    clear E h4
    go_enter Tryd.func3, Tryd.ntmps3
    go_wp2_with fail
    refine (known19_any _ HE.out).mono ?_
    rintro e w4 ⟨rfl, hb4⟩
    have HB4 := hid hb4
    clear hb4
    go_wp2_with fail
    go_returns
    exact ⟨rfl, HB4.out⟩
theorem compileF_wr {s : List UInt8} {l : List Prt} {k : Nat} (h : compileF s = (l, k, 0)) : wrA l = s := by
  have h1 := compileF_back h
  have h2 := (compileF_len s).2.2.1
  rw [h] at h2
  unfold writeF at h1
  rw [if_pos h2] at h1
  exact (Prod.mk.inj h1).1
set_option maxRecDepth 100000 in
set_option maxHeartbeats 4000000 in
theorem formatBack_walk (s : List UInt8) (hs : s.length ≤ 140737488351232) (w : World) (E : EnvF w) :
    Calls Tryd.prog 5 #[.string (bs s)] w fun e w' => e = .returned (.bool true) ∧ Below w.heap.size w w' := by
  have HE := hid E
  by_cases h4 : s.length ≤ 400
  · have h5 : ¬ (400 : Int) < (s.length : Int) := by omega
    have HC := hid (compile_any s (by omega) w E)
    have HL := hid (compileF_len s)
    have HWR := hid (fun l k => compileF_wr (s := s) (l := l) (k := k))
    clear E hs h4
    go_enter Tryd.func5, Tryd.ntmps5
    go_wp2_with fail
    refine HC.out.mono ?_
    rintro e w1 ⟨v1, rfl, hp1, hb1⟩
    have HP1 := hid hp1.ptv
    have HB1 := hid hb1
    have HE1 := hid (HE.out.up hb1)
    clear hp1 hb1
    obtain ⟨⟨cl, cp, ce⟩, hcf⟩ : ∃ cf, compileF s = cf := ⟨_, rfl⟩
    rw [hcf] at HL HP1 HWR ⊢
    simp only at HP1 HL ⊢
    clear HC hcf
    by_cases hce : ce = 0
    · subst hce
      have HW2 := hid (HWR.out cl cp rfl)
      have HWK := hid (write_ok cl v1 w1 HL.out.2.2.1 (by have := HL.out.2.1; omega) (fun p hp => by have := szF_mem hp; have := HL.out.1; omega) HP1.out HE1.out)
      rw [HW2.out] at HWK
      clear HWR HW2
      go_wp2_with fail
      refine HWK.out.mono ?_
      rintro e w3 ⟨rfl, hb3⟩
      have HB3 := hid (estep HB1.out hb3)
      have HE3 := hid (HE1.out.up hb3)
      clear hb3
      go_wp2_with fail
      refine (known19_any _ HE3.out).mono ?_
      rintro e w4 ⟨rfl, hb4⟩
      have HB4 := hid (estep HB3.out hb4)
      clear hb4
      go_wp2_with fail
      go_returns
      exact ⟨rfl, HB4.out⟩
    · have hn : (ce != 0) = true := by simpa using hce
      obtain rfl : cl = [] := HL.out.2.2.2 hce
      obtain ⟨A, c, rfl, -⟩ := HP1.out
      clear hce HWR
      go_wp2_with fail
      refine (known19_any _ HE1.out).mono ?_
      rintro e w4 ⟨rfl, hb4⟩
      have HB4 := hid (estep HB1.out hb4)
      clear hb4
      go_wp2_with fail
      go_returns
      exact ⟨rfl, HB4.out⟩
  · have h5 : (400 : Int) < (s.length : Int) := by omega
    clear E h4
    go_enter Tryd.func5, Tryd.ntmps5
    go_wp2_with fail
    refine (known19_any _ HE.out).mono ?_
    rintro e w4 ⟨rfl, hb4⟩
    have HB4 := hid hb4
    clear hb4
    go_wp2_with fail
    go_returns
    exact ⟨rfl, HB4.out⟩
theorem Onl.upB {g B : Nat} {a b c : World} (h : Onl g a b) (k : Below B b c) (hB : a.heap.size ≤ B) : Onl g a c :=
  ⟨k.os.trans h.os, k.tape.trans h.tape, k.output.trans h.output, Nat.le_trans h.size k.size, fun j hj hn => (k.block j (Nat.lt_of_lt_of_le hj hB)).trans (h.block j hj hn)⟩
/-- What FormatOnce's loop knows. -/
structure OncL (s : List UInt8) (w w2 wr : World) (g : Nat) (A : Option Addr) (i : Nat) : Prop where
  st : (i = 0 ∧ FmB wr g s 0 0 (.slice none 0 0) 0 0) ∨ (∃ B, FmS wr B g s 1 0 1)
  onl : Onl g w2 wr
  bel : Below w.heap.size w wr
theorem OncL.parts {s : List UInt8} {w w2 wr : World} {g : Nat} {A : Option Addr} {i : Nat} (h : OncL s w w2 wr g A i) (hs : s.length ≤ 9223372036854775807) (E : EnvF w) :
    Calls Tryd.prog 16 #[.pointer (some ⟨g, 0, none⟩)] wr fun e w' => PrtR g s wr e w' := by
  rcases h.st with ⟨-, h1⟩ | ⟨B, h1⟩
  · exact parts_first g s wr hs h1 (E.up h.bel)
  · exact parts_again g s B wr h1
set_option maxRecDepth 100000 in
set_option maxHeartbeats 4000000 in
theorem formatOnce_walk (s : List UInt8) (times : Int) (hs : s.length ≤ 140737488351232) (ht : in64 times) (w : World) (E : EnvF w) :
    Calls Tryd.prog 4 #[.string (bs s), .int .i64 times] w fun e w' => e = .returned (.bool true) ∧ Below w.heap.size w w' := by
  have hnot := enot
  have HE := hid E
  have HK := hid (known19_any w E)
  unfold in64 at ht
  by_cases h4 : s.length ≤ 400
  · have d1 : decide ((400 : Int) < (s.length : Int)) = false := by simp; omega
    by_cases h0 : times < 0
    · have d2 : decide (times < 0) = true := by simpa using h0
      clear E
      go_enter Tryd.func4, Tryd.ntmps4
      go_wp2_with fail
      refine HK.out.mono ?_
      rintro e w4 ⟨rfl, hb4⟩
      have HB4 := hid hb4
      clear hb4
      go_wp2_with fail
      go_returns
      exact ⟨rfl, HB4.out⟩
    · have d2 : decide (times < 0) = false := by simpa using h0
      by_cases h20 : 20 < times
      · have d3 : decide (20 < times) = true := by simpa using h20
        clear E
        go_enter Tryd.func4, Tryd.ntmps4
        go_wp2_with fail
        refine HK.out.mono ?_
        rintro e w4 ⟨rfl, hb4⟩
        have HB4 := hid hb4
        clear hb4
        go_wp2_with fail
        go_returns
        exact ⟨rfl, HB4.out⟩
      · have d3 : decide (20 < times) = false := by simpa using h20
        obtain ⟨n, rfl⟩ : ∃ n : Nat, times = (n : Int) := ⟨times.toNat, by omega⟩
        have hn20 : n ≤ 20 := by omega
        have HR := hid (fun w2 => rcompile_any s (by omega) w2)
        have HLN := hid (compileF_len s)
        have HSL := hid (show s.length ≤ 9223372036854775807 by omega)
        have HN := hid (new_any s w)
        clear E hs ht h0 h20 h4 HK
        go_enter Tryd.func4, Tryd.ntmps4
        go_wp2_with fail
        refine HN.out.mono ?_
        rintro e w1 ⟨rfl, hf1, hb1⟩
        have HF1 := hid hf1
        have HB1 := hid hb1
        clear hf1 hb1
        go_wp2_with fail
        refine (made_anyF _ 0 _ HF1.out.cells.2.2.2.2.2.2 (by omega) (by omega)).mono ?_
        rintro e w1' ⟨rfl, rfl⟩
        go_wp2_with fail
        refine (HR.out _).mono ?_
        rintro e w2 ⟨v2, rfl, hp2, hb2⟩
        obtain ⟨Ab, cb, rfl, hgx, -⟩ := GB.reads encPt_len hp2
        have hgl := Bk.lt HF1.out
        have HGX := hid (hgx.imp (M := fun b => b < w2.heap.size ∧ b ≠ w.heap.size) fun b hb => ⟨hb.2, by omega⟩)
        have HST := hid (show OncL s w w2 w2 w.heap.size Ab 0 from ⟨Or.inl ⟨rfl, HF1.out.up hb2⟩, Onl.refl _ _, HB1.out.trans (hb2.mono HB1.out.size)⟩)
        clear hp2 hgx hb2
        obtain ⟨⟨cl, cp, ce⟩, hcf⟩ : ∃ cf, compileF s = cf := ⟨_, rfl⟩
        have HCF := hid hcf
        rw [hcf] at HGX HLN ⊢
        simp only at HGX HLN ⊢
        have hcl : cl.length ≤ 120 := HLN.out.2.1
        clear hcf
        go_wp2_with fail
        go_loopw [9] (fun i wr => ∃ k : Nat, k ≤ n ∧ i = .int .i64 k ∧ Hid (OncL s w w2 wr w.heap.size Ab k)) (fun i _ => n - (intOf i).toNat)
        case atStart => exact ⟨0, by omega, rfl, HST⟩
        case round =>
          obtain ⟨k, hk, rfl, HW⟩ := hrel
          by_cases hlt : k < n
          · have hlt2 : (k : Int) < (n : Int) := by omega
            have HPT := hid (HW.out.parts HSL.out HE.out)
            go_wp2_with fail
            refine HPT.out.mono ?_
            rintro e w6 ⟨v6, B, he6, hp6, hf6, hB6, ho6⟩
            rw [HCF.out] at he6 hp6
            subst he6
            have HP6 := hid hp6
            have HF6 := hid hf6
            have HO6 := hid (HW.out.onl.trans ho6)
            have HBL6 := hid (ho6.below HW.out.bel (Nat.le_refl _) HW.out.bel.size)
            have HW2B := hid (show w2.heap.size ≤ B from Nat.le_trans HW.out.onl.size hB6)
            have HWB := hid (show w.heap.size ≤ B from Nat.le_trans HW.out.bel.size hB6)
            have HBl : Hid (B ≤ w6.heap.size) := hid (by obtain ⟨_, _, _, _, _, _, h5⟩ := hf6; exact h5)
            have HPB6 := hid (show PtV w6 (.slice Ab cl.length cb) cl from ⟨Ab, cb, rfl, (HGX.out.same (fun b hb => HO6.out.block b hb.1 hb.2)).imp fun b hb => Nat.lt_of_lt_of_le hb.1 HO6.out.size⟩)
            clear hp6 hf6 hB6 ho6
            simp only
            go_wp2_with fail
            refine (psame_any cl _ _ _ (by omega) HP6.out.ptv HPB6.out).mono ?_
            rintro e w7 ⟨rfl, hb7⟩
            have HF7 := hid (HF6.out.keep (hb7.mono HBl.out))
            have HP7 := hid (HP6.out.below hb7)
            have HO7 := hid (HO6.out.up hb7)
            have HBL7 := hid (HBL6.out.trans (hb7.mono HBL6.out.size))
            clear hb7
            go_wp2_with fail
            refine (made_anyF _ 1 _ HF7.out.cells.2.2.1 (by omega) (by omega)).mono ?_
            rintro e w7' ⟨rfl, rfl⟩
            have hfm := GB.form encPt_len HP7.out
            have HOW := hid (show ∃ xs, w7.ownsRow B 35 2 v6 cl.length xs from ⟨_, HP7.out⟩)
            obtain ⟨A6, c6, rfl⟩ : ∃ A c, v6 = .slice A cl.length c := by
              rcases hfm with ⟨rfl, h⟩ | ⟨g, c, rfl, -⟩
              · exact ⟨none, 0, by rw [h]; rfl⟩
              · exact ⟨_, c, rfl⟩
            have HFM : Hid (cl.length = 0 ∨ ∃ g, A6 = some ⟨g, 0, none⟩ ∧ B ≤ g) := hid (by
              rcases hfm with ⟨-, h⟩ | ⟨g, c, e, h, -⟩
              · exact Or.inl (by rw [h]; rfl)
              · injection e with e1
                exact Or.inr ⟨g, e1, h⟩)
            clear hfm
            go_wp2_with fail
            go_loopw [12] (fun i wq => ∃ j : Nat, j ≤ cl.length ∧ i = .int .i64 j ∧ Hid ((∃ xs, wq.ownsRow B 35 2 (.slice A6 cl.length c6) cl.length xs) ∧ Below B w7 wq)) (fun i _ => cl.length - (intOf i).toNat)
            case atStart => exact ⟨0, by omega, rfl, hid ⟨HOW.out, Below.refl _ _⟩⟩
            case round =>
              obtain ⟨j, hj, rfl, HQ⟩ := hrel
              by_cases hjl : j < cl.length
              · obtain ⟨g6, rfl, hg6⟩ : ∃ g, A6 = some ⟨g, 0, none⟩ ∧ B ≤ g := by
                  rcases HFM.out with h | h
                  · omega
                  · exact h
                obtain ⟨xs, hxs⟩ := HQ.out.1
                have hxl : xs.length = cl.length * 2 := hxs.1
                have e0 := World.ownsRow.cellAt hxs (j * 2) (by omega)
                have e1 := World.ownsRow.cellAt hxs (j * 2 + 1) (by omega)
                have f0 := World.ownsRow.frozenAt hxs (j * 2)
                have f1 := World.ownsRow.frozenAt hxs (j * 2 + 1)
                rw [List.getElem?_eq_getElem (by omega)] at e0 e1
                have HS1 := hid (World.ownsRow.stored (World.ownsRow.stored hxs (j * 2) (.int .i64 (-1))).1 (j * 2 + 1) (.string (bs []))).1
                have hi0 : (0 : Int) ≤ (j : Int) := by omega
                have hi1 : (j : Int) < (cl.length : Int) := by omega
                have c0 : (ByteArray.mk #[]) = bs [] := rfl
                generalize xs[j * 2] = y0 at *
                generalize xs[j * 2 + 1] = y1 at *
                clear hxs hxl
                go_wp2_with fail
                go_roundw
                case rel => exact ⟨j + 1, by omega, by go_num, hid ⟨⟨_, HS1.out⟩, (HQ.out.2.setCell hg6 _).setCell hg6 _⟩⟩
                case measure => simp [intOf]; omega
              · obtain rfl : j = cl.length := by omega
                go_wp2_with fail
                go_roundw
                case rel => exact ⟨k + 1, by omega, by go_num, hid ⟨Or.inr ⟨B, HF7.out.keep HQ.out.2⟩, HO7.out.upB HQ.out.2 HW2B.out, HBL7.out.trans (HQ.out.2.mono HWB.out)⟩⟩
                case measure => simp [intOf]; omega
          · obtain rfl : k = n := by omega
            have HEK := hid (HE.out.up HW.out.bel)
            go_wp2_with fail
            refine (parts_nil _).mono ?_
            rintro e w8 ⟨rfl, rfl⟩
            go_wp2_with fail
            refine (made_nilF _).mono ?_
            rintro e w8 ⟨rfl, rfl⟩
            go_wp2_with fail
            refine (known19_any _ HEK.out).mono ?_
            rintro e w9 ⟨rfl, hb9⟩
            have HB9 := hid (estep HW.out.bel hb9)
            clear hb9
            go_wp2_with fail
            go_returns
            exact ⟨rfl, HB9.out⟩
  · have d1 : decide ((400 : Int) < (s.length : Int)) = true := by simp; omega
    clear E
    go_enter Tryd.func4, Tryd.ntmps4
    go_wp2_with fail
    refine HK.out.mono ?_
    rintro e w4 ⟨rfl, hb4⟩
    have HB4 := hid hb4
    clear hb4
    go_wp2_with fail
    go_returns
    exact ⟨rfl, HB4.out⟩
end Go.Proofs.YtmejcchkoflciaaDoor
