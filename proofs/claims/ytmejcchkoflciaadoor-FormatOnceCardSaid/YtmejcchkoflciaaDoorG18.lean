/- Texts put together: Gb Gc. -/
import Derived.Test.YtmejcchkoflciaaDoorG05
import Derived.Test.YtmejcchkoflciaaDoorG17
import Derived.Test.YtmejcchkoflciaaDoorG02
import Derived.Deep.RegionLaw
namespace Go.Proofs.YtmejcchkoflciaaDoor
set_option linter.unusedVariables false
set_option linter.unusedSimpArgs false
open Go.RowKit Go.Joins

def encB (b : UInt8) : List Value := [.int .u8 (b.toNat : Int)]
theorem encB_len (b : UInt8) : (encB b).length = 1 := rfl
theorem rowB : RowT Tryd.prog encB 1 80 5 (.int .u8 0) 1 where
  ht := Tryd.underlying80
  inf := by kernel_rfl
  hzs := rfl
  k0 := by decide
  hk := encB_len
  h1 := fun x u hu => by
    simp [encB] at hu
    subst hu; rfl
  hb := by decide
/-- A slice of bytes that the call itself has made. -/
def YB (w : World) (base : Nat) (v : Value) (l : List UInt8) : Prop := GB encB 1 5 w base v l
theorem conv_yb {w : World} {base : Nat} {v : Value} {l : List UInt8} (h : YB w base v l) : (convert 80 9 v).run Tryd.prog w = .ok (.string (bs l)) w := by
  refine conv_buf (base := base) ?_
  have e : gvals encB l = bvals l := by
    clear h
    induction l with
    | nil => rfl
    | cons b r ih => simp only [gvals, bvals, List.flatMap_cons, List.map_cons] at ih ⊢; rw [ih]; rfl
  unfold YB GB at h
  unfold Buf
  rw [← e]
  exact h
theorem gx_new {α : Type} {enc : α → List Value} {k : Nat} (hk : ∀ x, (enc x).length = k) {w : World} {g : Nat} {t : TypeId} {cs : Array Value} {M : List α} (h : Bk w g t cs) (hc : cs.toList = gvals enc M) : GX enc k w (fun b => b = g) (some ⟨g, 0, none⟩) M := by
  intro i hi
  refine ⟨g, 0, rfl, rfl, fun j hj => ?_⟩
  rw [Bk.cell h, ← gvals_at enc k hk M i hi j hj, ← hc, Array.getElem?_toList, Nat.zero_add]
theorem yb_made (w : World) (n : Nat) (h : n ≤ 10000000) : ∃ w', (Instr.makeSlice 80 (.int .i64 0) (.int .i64 (n : Int))).run Tryd.prog w = .ok (.slice (some ⟨w.heap.size, 0, none⟩) 0 n) w' ∧ YB w' w.heap.size (.slice (some ⟨w.heap.size, 0, none⟩) 0 n) [] ∧ Below w.heap.size w w' := by
  obtain ⟨i, hi, hz, hs, hb⟩ := info_parts info5
  obtain ⟨w', h1, h2, h3⟩ := run_make_own (P := Tryd.prog) w w.heap.size 80 5 i _ 1 Tryd.underlying80 hi hz hs .i64 .i64 n (by rw [hb]; omega) (by unfold maxLen; omega) (Nat.le_refl _)
  exact ⟨w', h1, h2, (Below.refl _ _).grown h3 (Nat.le_refl _) (fun k hk => by cases hk)⟩
/-- append of a row to one of the call's own, at a step of a region that draws. -/
theorem step_append_gx' {α : Type} {enc : α → List Value} {k : Nat} {e : TypeId} {P : Program} {t : TypeId} {z : Value} {bytes : Nat} (T : RowT P enc k t e z bytes) {ops : Array Oper} {o : Oper} {a : Act} {K : Act → World → Prop} {Q : Exit → Act → World → Prop} {E : Prop} {w : World} (hgd : o.guard = none) (s x : Operand)
    (ho : o.op = .call { callee := .builtin .append, args := #[s, x], argTypes := #[t, t] }) (base : Nat) (v : Value) (L M : List α) (g cap : Nat) (N : Nat → Prop)
    (hs : a.eval s = v) (hown : GB enc k e w base v L) (hx : a.eval x = .slice (some ⟨g, 0, none⟩) M.length cap) (hR : GX enc k w N (some ⟨g, 0, none⟩) M)
    (hl : L.length + M.length ≤ 10000000) (hbase : base ≤ w.heap.size) (h : ∀ v' w', GB enc k e w' base v' (L ++ M) → w.grownBy w' v.ownBlock → K (a.put o.dst v') w') :
    if Region.wanted o (yielded ops a.tmps) = true then Oper.wp P o a w K Q else E := by
  have hw : Region.wanted o (yielded ops a.tmps) = true := by simp [Region.wanted, hgd]
  rw [if_pos hw]
  obtain ⟨i0, hi, hz0, hz1, hz2⟩ := info_parts T.inf
  have hby : (L.length + M.length) * bytes ≤ 140737488355328 := Nat.le_trans (Nat.mul_le_mul hl T.hb) (by omega)
  have fin : ∀ v' w', w'.ownsRow base e k v' (L.length + M.length) (gvals enc L ++ gvals enc M) → w.grownBy w' v.ownBlock → (v' = .slice none 0 0 ↔ v = .slice none 0 0 ∧ M.length = 0) → K (a.put o.dst v') w' := by
    intro v' w' h1 h2 _
    refine h v' w' ?_ h2
    unfold GB
    rw [List.length_append, ← gvals_append]
    exact h1
  exact wp_append_own w s x t ho base e i0 z k bytes T.ht hi hz0 hz1 hz2 T.hzs T.k0 v L.length (gvals enc L) hs hown ⟨g, 0, none⟩ M.length cap
    (gvals enc M) hx (gvals_len enc k T.hk M) (GX.cell T.hk hR) (fun u hu => by
      simp only [gvals, List.mem_flatMap] at hu
      obtain ⟨y, _, hu⟩ := hu
      exact T.h1 y u hu) (by unfold maxLen; omega) hby hbase fin
/-- What escaped answers. -/
def EscR (base : Nat) (l : List UInt8) (w : World) (e : Ending) (w' : World) : Prop := ∃ v', e = .returned v' ∧ YB w' base v' l ∧ Below base w w'
theorem alloc_yb {w : World} {base : Nat} {v : Value} {l : List UInt8} (h : YB w base v l) (o : Obj) : YB (w.alloc o) base v l := GB.below h (enew w o)
theorem grown_yb {w w1 w2 : World} {base : Nat} {v : Value} {l : List UInt8} (h : YB w base v l) (hb : base ≤ w.heap.size) (h1 : Below base w w1) (hg : w1.grownBy w2 v.ownBlock) : Below base w w2 :=
  h1.grown hg (Nat.le_trans hb h1.size) (fun k hk => (World.ownsRow.lt h k hk).1)
set_option maxRecDepth 100000 in
set_option maxHeartbeats 2000000 in
theorem escaped_any (base : Nat) (v : Value) (l : List UInt8) (c : UInt8) (w : World) (hown : YB w base v l) (hb : base ≤ w.heap.size) (hl : l.length ≤ 5000000) :
    Calls Tryd.prog 38 #[v, .int .u8 (c.toNat : Int)] w fun e w' => EscR base (l ++ escB c) w e w' := by
  have hc := UInt8.toNat_lt c
  have HO := hid hown
  have HB := hid hb
  have hbel : ∀ o : Obj, Below base w (w.alloc o) := fun o => (Below.refl _ _).alloc hb _
  have HBE := hid hbel
  have HL := hid hl
  clear hown hb hbel hl
  by_cases hr : c.toNat < 32 ∨ 126 < c.toNat
  · have HE := hid (show escB c = [92, 120, hexd (c.toNat / 16), hexd (c.toNat % 16)] by unfold escB; rw [if_pos hr])
    have n1 : ((c.toNat : Int) == 34) = false := by simp; omega
    have n2 : ((c.toNat : Int) == 92) = false := by simp; omega
    obtain ⟨m, hm⟩ : ∃ m, c.toNat = m := ⟨_, rfl⟩
    rw [hm] at hc hr n1 n2 HE ⊢
    obtain ⟨a, ha⟩ : ∃ a, a = m / 16 := ⟨_, rfl⟩
    obtain ⟨b, hb⟩ : ∃ b, b = m % 16 := ⟨_, rfl⟩
    rw [← ha, ← hb] at HE
    have i1 : (a : Int) < 16 := by omega
    have i3 : (b : Int) < 16 := by omega
    have q1 : IntKind.u8.wrap ((m : Int) / 16) = (a : Int) := by rw [IntKind.wrap_u8', ha]; omega
    have q2 : (m : Int).tmod 16 = (b : Int) := by rw [Int.tmod_eq_emod_of_nonneg (by omega), hb]; omega
    have x1 := hexlit_at a (by omega)
    have x2 := hexlit_at b (by omega)
    clear hm ha hb
    have HEE := hid HE.out
    obtain ⟨es, hes⟩ : ∃ es, escB c = es := ⟨_, rfl⟩
    rw [hes] at HE ⊢
    obtain rfl := HE.out
    clear hes HE HEE
    have d0 : decide ((m : Int) < 32) = true ∨ (decide ((m : Int) < 32) = false ∧ decide ((126 : Int) < (m : Int)) = true) := by
      by_cases h32 : m < 32
      · exact Or.inl (by simp; omega)
      · exact Or.inr ⟨by simp; omega, by simp; omega⟩
    clear hr hc
    rcases d0 with d1 | ⟨d1, d2⟩
    all_goals
      go_enter Tryd.func38, Tryd.ntmps38
      go_wp2_with fail
      go_region_law (
          (refine step_append_gx' rowB rfl _ _ rfl base v l [92, 120, hexd a, hexd b] w.heap.size 4 (fun b => b = w.heap.size) rfl (by first | exact alloc_yb HO.out _ | exact alloc_yb (w := w.drew) HO.out _) rfl (by first | exact gx_new encB_len (Bk.new w 5 _) rfl | exact gx_new encB_len (Bk.new w.drew 5 _) rfl) (by have := HL.out; simp only [List.length_cons, List.length_nil]; omega) (by have := HB.out; simp; omega) ?_
           intro v' w' hF hg))
      all_goals
        have HF := hid hF
        have HG := hid hg
        clear hF hg
        go_wp2_with fail
        go_returns
        exact ⟨_, rfl, HF.out, grown_yb HO.out HB.out (by first | exact HBE.out _ | exact (HBE.out _).drew) HG.out⟩
  · by_cases hq : c.toNat = 34 ∨ c.toNat = 92
    · have HE : escB c = [92, c] := by unfold escB; rw [if_neg hr, if_pos hq]
      rw [HE]
      clear HE
      have d0 : ((c.toNat : Int) == 34) = true ∨ (((c.toNat : Int) == 34) = false ∧ ((c.toNat : Int) == 92) = true) := by
        by_cases h34 : c.toNat = 34
        · exact Or.inl (by simp; omega)
        · exact Or.inr ⟨by simp; omega, by simp; omega⟩
      clear hr hq
      rcases d0 with d1 | ⟨d1, d2⟩
      all_goals
        go_enter Tryd.func38, Tryd.ntmps38
        go_wp2_with (at_builtin; refine wpList_append_gx (W0 := w) rowB rfl _ _ rfl base v l [92, c] (some ⟨w.heap.size, 0, none⟩) 2 (fun b => b = w.heap.size) rfl (alloc_yb HO.out _) rfl (gx_new encB_len (Bk.new w 5 _) rfl) (fun h => by cases h) (by have := HL.out; simp only [List.length_cons, List.length_nil]; omega) (HBE.out _) HB.out ?_)
        intro v' w' hF hbel _
        have HF := hid (And.intro hF hbel)
        clear hF hbel
        go_wp2_with fail
        go_returns
        exact ⟨_, rfl, HF.out⟩
    · have HE : escB c = [c] := by unfold escB; rw [if_neg hr, if_neg hq]
      rw [HE]
      clear HE
      have d1 : ((c.toNat : Int) == 34) = false := by simp; omega
      have d2 : ((c.toNat : Int) == 92) = false := by simp; omega
      have d3 : decide ((c.toNat : Int) < 32) = false := by simp; omega
      have d4 : decide ((126 : Int) < (c.toNat : Int)) = false := by simp; omega
      clear hr hq
      go_enter Tryd.func38, Tryd.ntmps38
      go_wp2_with (at_builtin; refine wpList_append_gx (W0 := w) rowB rfl _ _ rfl base v l [c] (some ⟨w.heap.size, 0, none⟩) 1 (fun b => b = w.heap.size) rfl (alloc_yb HO.out _) rfl (gx_new encB_len (Bk.new w 5 _) rfl) (fun h => by cases h) (by have := HL.out; simp only [List.length_cons, List.length_nil]; omega) (HBE.out _) HB.out ?_)
      intro v' w' hF hbel _
      have HF := hid (And.intro hF hbel)
      clear hF hbel
      go_wp2_with fail
      go_returns
      exact ⟨_, rfl, HF.out⟩
end Go.Proofs.YtmejcchkoflciaaDoor
namespace Go.Proofs.YtmejcchkoflciaaDoor
set_option linter.unusedVariables false
set_option linter.unusedSimpArgs false
open Go.RowKit Go.Joins

theorem escF_take_len (s : List UInt8) (k : Nat) (h : k ≤ s.length) : ((s.take k).flatMap escB).length ≤ 4 * k := by
  have := (escF_len (s.take k)).2
  rw [List.length_take] at this
  omega
theorem escF_all {s : List UInt8} (h : s ≠ []) : (s.take s.length).flatMap escB = escS s := by
  rw [List.take_length, escS, if_neg h]
set_option maxRecDepth 100000 in
set_option maxHeartbeats 2000000 in
theorem escape_any (s : List UInt8) (hl : s.length ≤ 1000000) (w : World) :
    Calls Tryd.prog 19 #[.string (bs s)] w fun e w' => e = .returned (.string (bs (escS s))) ∧ Below w.heap.size w w' := by
  by_cases h0 : s = []
  · subst h0
    go_enter Tryd.func19, Tryd.ntmps19
    go_wp2_with fail
    go_returns
    exact ⟨rfl, Below.refl _ _⟩
  · have hbe : (s == []) = false := by simpa using h0
    have HA := hid (escF_all h0)
    obtain ⟨w1, hmk, hbuf, hb1⟩ := yb_made w s.length (by omega)
    have H1 := hid (And.intro hbuf hb1)
    clear hbuf hb1 h0
    go_enter Tryd.func19, Tryd.ntmps19
    go_wp2_with fail
    go_loopw [3, 12] (fun v i wr => ∃ k : Nat, k ≤ s.length ∧ i = .int .i64 k ∧ Hid (YB wr w.heap.size v ((s.take k).flatMap escB) ∧ Below w.heap.size w wr)) (fun _ i _ => s.length - (intOf i).toNat)
    case atStart => exact ⟨0, by omega, rfl, H1⟩
    case round =>
      obtain ⟨k, hk, rfl, HW⟩ := hrel
      by_cases hlt : k < s.length
      · have HS := hid (escF_take s k hlt)
        have HLN := hid (escF_take_len s k hk)
        have HSZ := hid HW.out.2.size
        go_wp2_with fail
        refine (escaped_any w.heap.size _ _ s[k] _ HW.out.1 HSZ.out (by have := HLN.out; omega)).mono ?_
        rintro e w2 ⟨v', rfl, hv, hb⟩
        have H2 := hid (And.intro hv hb)
        clear hv hb
        go_wp2_with fail
        go_roundw
        case rel => exact ⟨k + 1, by omega, by go_num, hid ⟨by rw [HS.out]; exact H2.out.1, HW.out.2.trans H2.out.2⟩⟩
        case measure => simp [intOf]; omega
      · obtain rfl : k = s.length := by omega
        have hcv := conv_yb HW.out.1
        rw [HA.out] at hcv
        go_wp2_with fail
        go_returns
        exact ⟨rfl, HW.out.2⟩
theorem hex_two (c : UInt8) : hexS c.toNat 2 = ([hexd (c.toNat / 16), hexd (c.toNat % 16)], 0) := by
  have hc := UInt8.toNat_lt c
  rw [hexS, putX_ok (by omega) (by omega) (by rw [show (2 : Int).toNat = 2 from rfl]; omega)]
  show ([hexd (c.toNat / 16 % 16), hexd (c.toNat % 16)], (0 : Int)) = _
  rw [Nat.mod_eq_of_lt (show c.toNat / 16 < 16 by omega)]
set_option maxRecDepth 100000 in
set_option maxHeartbeats 2000000 in
theorem rescape_any (s : List UInt8) (hl : s.length ≤ 1000000) (w : World) :
    Calls Tryd.prog 20 #[.string (bs s)] w fun e w' => e = .returned (.string (bs (escS s))) ∧ Below w.heap.size w w' := by
  by_cases h0 : s = []
  · subst h0
    go_enter Tryd.func20, Tryd.ntmps20
    go_wp2_with fail
    go_returns
    exact ⟨rfl, Below.refl _ _⟩
  · have hbe : (s == []) = false := by simpa using h0
    have HA := hid (escF_all h0)
    clear h0
    go_enter Tryd.func20, Tryd.ntmps20
    go_wp2_with fail
    go_loopw [3, 4] (fun v i wr => ∃ k : Nat, k ≤ s.length ∧ i = .int .i64 k ∧ (∃ t : List UInt8, v = .string (bs t) ∧ t.length ≤ 4 * k ∧ Hid (t = (s.take k).flatMap escB)) ∧ Hid (Below w.heap.size w wr)) (fun _ i _ => s.length - (intOf i).toNat)
    case atStart => exact ⟨0, by omega, rfl, ⟨[], rfl, by simp, hid (by simp)⟩, hid (Below.refl _ _)⟩
    case round =>
      obtain ⟨k, hk, rfl, ⟨t, rfl, hln, HT⟩, HW⟩ := hrel
      by_cases hlt : k < s.length
      · have HS := hid (escF_take s k hlt)
        have HLE := hid (escF_take_len s (k + 1) hlt)
        have x1 : (bs s).extract k (k + 1) = bs [s[k]] := by
          rw [bs_extract, Nat.add_sub_cancel_left, List.drop_eq_getElem_cons hlt]; rfl
        have hc := UInt8.toNat_lt s[k]
        obtain ⟨c, hcc⟩ : ∃ c, c = s[k] := ⟨_, rfl⟩
        have HX := hid (hex_two s[k])
        have c1 : (ByteArray.mk #[92, 120]) = bs [92, 120] := rfl
        have c2 : (ByteArray.mk #[92]) = bs [92] := rfl
        by_cases hr : s[k].toNat < 32 ∨ 126 < s[k].toNat
        · have HE := hid (show escB s[k] = [92, 120, hexd (s[k].toNat / 16), hexd (s[k].toNat % 16)] by unfold escB; rw [if_pos hr])
          have hq : IntKind.u64.wrap (s[k].toNat : Int) = (s[k].toNat : Int) := IntWalk.u64_in _ (by omega)
          have d0 : decide ((s[k].toNat : Int) < 32) = true ∨ (decide ((s[k].toNat : Int) < 32) = false ∧ decide ((126 : Int) < (s[k].toNat : Int)) = true) := by
            by_cases h32 : s[k].toNat < 32
            · exact Or.inl (by simp; omega)
            · exact Or.inr ⟨by simp; omega, by simp; omega⟩
          clear hr hcc
          rcases d0 with d1 | ⟨d1, d2⟩
          all_goals
            go_wp2_with fail
            refine (rhex_any (s[k].toNat : Int) 2 _ (by omega) (hid (by omega))).mono ?_
            rintro e w2 ⟨rfl, hb⟩
            have HB := hid hb
            clear hb
            rw [Int.toNat_natCast, HX.out]
            go_wp2_with fail
            go_roundw
            case rel => exact ⟨k + 1, by omega, by go_num, ⟨(s.take (k + 1)).flatMap escB, by rw [HS.out, ← HT.out, HE.out], HLE.out, hid rfl⟩, hid (HW.out.trans (HB.out.mono HW.out.size))⟩
            case measure => simp [intOf]; omega
        · have d3 : decide ((s[k].toNat : Int) < 32) = false := by simp; omega
          have d4 : decide ((126 : Int) < (s[k].toNat : Int)) = false := by simp; omega
          by_cases hq : s[k].toNat = 34 ∨ s[k].toNat = 92
          · have HE := hid (show escB s[k] = [92, s[k]] by unfold escB; rw [if_neg hr, if_pos hq])
            have d0 : ((s[k].toNat : Int) == 34) = true ∨ (((s[k].toNat : Int) == 34) = false ∧ ((s[k].toNat : Int) == 92) = true) := by
              by_cases h34 : s[k].toNat = 34
              · exact Or.inl (by simp; omega)
              · exact Or.inr ⟨by simp; omega, by simp; omega⟩
            clear hr hq hcc
            rcases d0 with d1 | ⟨d1, d2⟩
            all_goals
              go_wp2_with fail
              go_roundw
              case rel => exact ⟨k + 1, by omega, by go_num, ⟨(s.take (k + 1)).flatMap escB, by rw [HS.out, ← HT.out, HE.out], HLE.out, hid rfl⟩, HW⟩
              case measure => simp [intOf]; omega
          · have HE := hid (show escB s[k] = [s[k]] by unfold escB; rw [if_neg hr, if_neg hq])
            have d1 : ((s[k].toNat : Int) == 34) = false := by simp; omega
            have d2 : ((s[k].toNat : Int) == 92) = false := by simp; omega
            clear hr hq hcc
            go_wp2_with fail
            go_roundw
            case rel => exact ⟨k + 1, by omega, by go_num, ⟨(s.take (k + 1)).flatMap escB, by rw [HS.out, ← HT.out, HE.out], HLE.out, hid rfl⟩, HW⟩
            case measure => simp [intOf]; omega
      · obtain rfl : k = s.length := by omega
        have HTA := hid (HT.out.trans HA.out)
        go_wp2_with fail
        go_returns
        exact ⟨by rw [← HTA.out]; rfl, HW.out⟩
end Go.Proofs.YtmejcchkoflciaaDoor
