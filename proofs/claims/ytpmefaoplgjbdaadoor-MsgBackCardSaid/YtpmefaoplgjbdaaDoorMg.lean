import Derived.Test.YtpmefaoplgjbdaaDoorMf
import Derived.Test.YtpmefaoplgjbdaaDoorHe
namespace Go.Proofs.YtpmefaoplgjbdaaDoor
set_option linter.unusedVariables false
set_option linter.unusedSimpArgs false
open Go.RowKit Go.Joins

/-- Nothing that was is another, but block g. -/
structure Sole (g : Nat) (w w' : World) : Prop where
  os : w'.os = w.os
  tape : w'.tape = w.tape
  output : w'.output = w.output
  size : w.heap.size ≤ w'.heap.size
  block : ∀ k, k < w.heap.size → k ≠ g → w'.heap[k]? = w.heap[k]?
theorem Sole.refl (g : Nat) (w : World) : Sole g w w := ⟨rfl, rfl, rfl, Nat.le_refl _, fun _ _ _ => rfl⟩
theorem Sole.trans {g : Nat} {a b c : World} (h : Sole g a b) (k : Sole g b c) : Sole g a c :=
  ⟨k.os.trans h.os, k.tape.trans h.tape, k.output.trans h.output, Nat.le_trans h.size k.size, fun j hj hn => (k.block j (Nat.lt_of_lt_of_le hj h.size) hn).trans (h.block j hj hn)⟩
theorem Sole.set (g : Nat) (b : World) (i : Nat) (u : Value) : Sole g b (b.setCell ⟨g, i, none⟩ u) :=
  ⟨rfl, rfl, rfl, by simp [World.setCell], fun k _ hn => Below.heap_setCell b ⟨g, i, none⟩ u k hn⟩
theorem Sole.then_below {g : Nat} {a b c : World} (h : Sole g a b) (k : Below a.heap.size b c) : Sole g a c :=
  ⟨k.os.trans h.os, k.tape.trans h.tape, k.output.trans h.output, Nat.le_trans h.size k.size, fun j hj hn => (k.block j hj).trans (h.block j hj hn)⟩
theorem Sole.of_below {g : Nat} {a b : World} (h : Below a.heap.size a b) : Sole g a b := ⟨h.os, h.tape, h.output, h.size, fun k hk _ => h.block k hk⟩
theorem Sole.below {g B : Nat} {a b c : World} (h : Below B a b) (o : Sole g b c) (hg : B ≤ g) (hB : B ≤ b.heap.size) : Below B a c :=
  h.trans ⟨o.os, o.tape, o.output, o.size, fun k hk => o.block k (by omega) (by omega)⟩
/-- A variable of its own that holds a text. -/
def SC (w : World) (g : Nat) (s : List UInt8) : Prop := w.cell? ⟨g, 0, none⟩ = some (.string (bs s)) ∧ w.frozen? ⟨g, 0, none⟩ = false
theorem SC.lt {w : World} {g : Nat} {s : List UInt8} (h : SC w g s) : g < w.heap.size := lt_of_cell h.1
theorem frozen_of_block {w w' : World} {a : Addr} (h : w'.heap[a.block]? = w.heap[a.block]?) : w'.frozen? a = w.frozen? a := by
  unfold World.frozen?; rw [h]
theorem SC.below {w w' : World} {g B : Nat} {s : List UInt8} (h : SC w g s) (hb : Below B w w') (hg : g < B) : SC w' g s :=
  ⟨(hb.cell hg).trans h.1, (frozen_of_block (hb.block g hg)).trans h.2⟩
theorem SC.new (w : World) (s : List UInt8) (t : TypeId) : SC (w.alloc (.cells #[.string (bs s)] t)) w.heap.size s := ⟨by simp, by simp⟩
theorem SC.set {w : World} {g : Nat} {s : List UInt8} (h : SC w g s) (t : List UInt8) : SC (w.setCell ⟨g, 0, none⟩ (.string (bs t))) g t := by
  have h1 := h.1
  have h2 := h.2
  exact ⟨by go_simp, by go_simp⟩
theorem HB.sole {w w' : World} {base g : Nat} {v : Value} {L : List Hd} (h : HB w base v L) (hb : Sole g w w') (hg : g < base) : HB w' base v L := by
  unfold HB at *
  refine World.ownsRow.kept (row := some g) h ⟨hb.os, hb.tape, hb.output, hb.size, fun k hk hn => hb.block k hk (by simpa using hn)⟩ ?_
  by_cases e : v.ownBlock = none
  · exact Or.inl e
  · refine Or.inr fun e2 => ?_
    have := (World.ownsRow.lt h g e2).1
    omega
theorem cutS_len (sep : List UInt8) : ∀ s : List UInt8, (cutS sep s).1.length ≤ s.length ∧ (cutS sep s).2.1.length ≤ s.length
  | [] => ⟨Nat.le_refl _, Nat.le_refl _⟩
  | b :: l => by
    have ih := cutS_len sep l
    rw [cutS]
    split
    · simp
    · simp; omega
set_option maxHeartbeats 800000 in
theorem cut1_any (g : Nat) (s mark : List UInt8) (hm : mark ≠ []) (w0 w : World) (E : Env w0) (hb : Below w0.heap.size w0 w) (hg : w0.heap.size ≤ g) (hc : SC w g s) (hl : s.length ≤ 100000) :
    Calls Tryd.prog 51 #[.string (bs mark), .pointer (some ⟨g, 0, none⟩)] w fun e w' => e = .returned (.tuple #[.string (bs (cutS mark s).1), .bool (cutS mark s).2.2]) ∧ SC w' g (cutS mark s).2.1 ∧ Sole g w w' := by
  have hLL := fun (w1 : World) (E1 : Env w1) => lib_cut s mark hm hl w1 E1
  obtain ⟨ca, cb, cf, hcc⟩ : ∃ a b f, cutS mark s = (a, b, f) := ⟨_, _, _, rfl⟩
  rw [hcc] at hLL ⊢
  have HL := hid hLL
  clear hcc hLL
  have hc0 := hc.1
  have hf0 := hc.2
  have HE := hid (E.later hb)
  have HSC := hid hc
  clear hc E
  go_enter Tryd.func51, Tryd.ntmps51
  go_wp2_with fail
  refine (HL.out _ HE.out).mono ?_
  rintro e w1 ⟨rfl, hb1⟩
  have HB1 := hid hb1
  have hsc := HSC.out.below hb1 HSC.out.lt
  have hc1 := hsc.1
  have hf1 := hsc.2
  have HS1 := hid hsc
  clear hb1 hsc hc0 hf0
  go_wp2_with fail
  go_returns
  exact ⟨rfl, HS1.out.set _, (Sole.of_below HB1.out).trans (Sole.set _ _ _ _)⟩
set_option maxHeartbeats 800000 in
theorem cut2_any (g : Nat) (s : List UInt8) (w : World) (hc : SC w g s) :
    Calls Tryd.prog 53 #[.pointer (some ⟨g, 0, none⟩)] w fun e w' => e = .returned (.string (bs s)) ∧ w = w' := by
  have hc0 := hc.1
  go_enter Tryd.func53, Tryd.ntmps53
  go_wp2_with fail
  go_returns
  exact ⟨rfl, rfl⟩
def cutF (g : Nat) : Value := .func (.func 51) #[] #[.pointer (some ⟨g, 0, none⟩)]
def restF (g : Nat) : Value := .func (.func 53) #[] #[.pointer (some ⟨g, 0, none⟩)]
set_option maxHeartbeats 800000 in
theorem cutter_any (s : List UInt8) (w : World) :
    Calls Tryd.prog 36 #[.string (bs s)] w fun e w' => e = .returned (.tuple #[.func (.func 51) #[] #[.pointer (some ⟨w.heap.size, 0, none⟩)], .func (.func 53) #[] #[.pointer (some ⟨w.heap.size, 0, none⟩)]]) ∧ SC w' w.heap.size s ∧ Below w.heap.size w w' := by
  have hmf : ∀ (fn : Fn) (first cap : Array Value) (w : World), (Instr.makeFunc fn first cap).run Tryd.prog w = .ok (.func fn first cap) w := fun _ _ _ _ => rfl
  go_enter Tryd.func36, Tryd.ntmps36
  go_wp2_with fail
  go_returns
  exact ⟨rfl, SC.new _ _ _, below_new' _ _⟩
def lenV : Value → Nat
  | .slice _ n _ => n
  | _ => 0
theorem rhM_step (acc : List Hd) (s : List UInt8) (h : acc.length ≤ 16) : rhM (17 - acc.length) acc s = if (cutS [10] s).1 = [] then (acc, (cutS [10] s).2.2, (cutS [10] s).2.1)
    else if (cutS [58, 32] (cutS [10] s).1).2.2 = false ∨ acc.length = 16 then ([], false, (cutS [10] s).2.1)
    else rhM (17 - (acc.length + 1)) (acc ++ [((cutS [58, 32] (cutS [10] s).1).1, (cutS [58, 32] (cutS [10] s).1).2.1)]) (cutS [10] s).2.1 := by
  rw [show 17 - acc.length = (17 - (acc.length + 1)) + 1 from by omega, rhM]
set_option maxRecDepth 100000 in
set_option maxHeartbeats 4000000 in
theorem readheads_any (g : Nat) (s : List UInt8) (w0 w : World) (E : Env w0) (hb : Below w0.heap.size w0 w) (hg : w0.heap.size ≤ g) (hc : SC w g s) (hl : s.length ≤ 100000) :
    Calls Tryd.prog 37 #[.func (.func 51) #[] #[.pointer (some ⟨g, 0, none⟩)]] w fun e w' => (∃ v, e = .returned (.tuple #[v, .bool (rhM 17 [] s).2.1]) ∧ HB w' w.heap.size v (rhM 17 [] s).1) ∧ SC w' g (rhM 17 [] s).2.2 ∧ Sole g w w' := by
  have hgw := hc.lt
  have HE := hid (And.intro E (And.intro hb hg))
  have HSC := hid hc
  have hnot := notB'
  have hbs : w0.heap.size ≤ w.heap.size := hb.size
  clear E hb hc
  go_enter Tryd.func37, Tryd.ntmps37
  go_wp2_with fail
  go_loopw [4] (fun v wr => ∃ acc s', acc.length ≤ 16 ∧ Hid ((∃ A cap, v = .slice A acc.length cap) ∧ HB wr w.heap.size v acc ∧ SC wr g s' ∧ Sole g w wr ∧ rhM (17 - acc.length) acc s' = rhM 17 [] s ∧ s'.length ≤ 100000)) (fun v _ => 17 - lenV v)
  case atStart => exact ⟨[], s, by simp, hid ⟨⟨none, 0, rfl⟩, HB.nil _ _, HSC.out, Sole.refl _ _, rfl, hl⟩⟩
  case round =>
    obtain ⟨acc, s', h16, HW⟩ := hrel
    obtain ⟨⟨A, cap, rfl⟩, hown, hsc, hso, hrh, hl'⟩ := HW.out
    have hbw := Sole.below HE.out.2.1 hso HE.out.2.2 hbs
    have HC1 := hid (cut1_any g s' [10] (by simp) w0 wr HE.out.1 hbw HE.out.2.2 hsc hl')
    have HST := hid (rhM_step acc s' h16)
    have hln := cutS_len [10] s'
    have HRH := hid hrh
    have HO := hid (And.intro hown hso)
    generalize hcc : cutS [10] s' = c at *
    clear hcc hown hsc hso hrh hbw
    obtain ⟨line, behind, found⟩ := c
    have hl1 : line.length ≤ s'.length := hln.1
    have hl2 : behind.length ≤ s'.length := hln.2
    clear hln
    have c1 : (ByteArray.mk #[10]) = bs [10] := rfl
    have c2 : (ByteArray.mk #[58, 32]) = bs [58, 32] := rfl
    by_cases h0 : line = []
    · subst h0
      go_wp2_with fail
      refine HC1.out.mono ?_
      rintro e w1 ⟨rfl, hs1, hso1⟩
      have H1 := hid (And.intro hs1 hso1)
      clear hs1 hso1
      go_wp2_with fail
      go_returns
      rw [← HRH.out, HST.out, if_pos trivial]
      exact ⟨⟨_, rfl, HO.out.1.sole H1.out.2 hgw⟩, H1.out.1, HO.out.2.trans H1.out.2⟩
    · have hbe : (line == []) = false := by simpa using h0
      have H0 := hid h0
      clear h0
      go_wp2_with fail
      refine HC1.out.mono ?_
      rintro e w1 ⟨rfl, hs1, hso1⟩
      have H1 := hid (And.intro hs1 (HO.out.2.trans hso1))
      have HO1 := hid (HO.out.1.sole hso1 hgw)
      clear hs1 hso1
      have HLC := hid (lib_cut line [58, 32] (by simp) (by omega) w1 (HE.out.1.later (Sole.below HE.out.2.1 H1.out.2 HE.out.2.2 hbs)))
      generalize cutS [58, 32] line = c at *
      obtain ⟨nm, vl, named⟩ := c
      go_wp2_with fail
      refine HLC.out.mono ?_
      rintro e w2 ⟨rfl, hb2⟩
      have hsz : w.heap.size ≤ w1.heap.size := H1.out.2.size
      have H2 := hid (And.intro (H1.out.1.below hb2 H1.out.1.lt) (H1.out.2.then_below (hb2.mono hsz)))
      have HO2 := hid (HO1.out.below hb2)
      clear hb2
      cases named
      · go_wp2_with fail
        go_returns
        rw [← HRH.out, HST.out, if_neg H0.out, if_pos (Or.inl trivial)]
        exact ⟨⟨_, rfl, HB.nil _ _⟩, H2.out.1, H2.out.2⟩
      · by_cases h16' : acc.length = 16
        · have hi16 : ((acc.length : Int) == 16) = true := by simp; omega
          go_wp2_with fail
          go_returns
          rw [← HRH.out, HST.out, if_neg H0.out, if_pos (Or.inr h16')]
          exact ⟨⟨_, rfl, HB.nil _ _⟩, H2.out.1, H2.out.2⟩
        · have hi16 : ((acc.length : Int) == 16) = false := by simp; omega
          have hsz2 : w.heap.size ≤ w2.heap.size := H2.out.2.size
          go_wp2_with (at_builtin; refine wpList_append_hd (W0 := w2) rfl _ _ rfl w.heap.size _ acc (nm, vl) _ rfl (HO2.out.alloc _) rfl ⟨by simp, by simp⟩ (by omega) ((Below.refl _ _).alloc hsz2 _) hsz2 ?_)
          intro v' w3 hown hbel
          have HN := hid (And.intro hown hbel)
          obtain ⟨A3, cap3, hv3, _⟩ := hown.reads
          have HV := hid hv3
          clear hown hbel hv3
          go_wp2_with fail
          go_roundw
          case rel =>
            refine ⟨acc ++ [(nm, vl)], behind, by simp; omega, hid ⟨⟨A3, cap3, HV.out⟩, HN.out.1, H2.out.1.below HN.out.2 hgw, H2.out.2.then_below HN.out.2, ?_, by omega⟩⟩
            rw [← HRH.out, HST.out, if_neg H0.out, if_neg (by simp; omega)]
            simp
          case measure => rw [HV.out]; simp [lenV]; omega
end Go.Proofs.YtpmefaoplgjbdaaDoor
