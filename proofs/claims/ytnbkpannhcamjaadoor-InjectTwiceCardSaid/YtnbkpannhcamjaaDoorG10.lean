/- Texts put together: Hg. -/
import Derived.Test.YtnbkpannhcamjaaDoorG09
import Derived.Laws.EntriesVeiled
namespace Go.Proofs.YtnbkpannhcamjaaDoor
set_option linter.unusedVariables false
set_option linter.unusedSimpArgs false
open Go.RowKit Go.Joins

set_option maxHeartbeats 800000 in
theorem without1_any (b : Nat) (fv : Value) (p : Hd → Bool) (h : Hd) (w : World) (hc : w.cell? ⟨b, 0, none⟩ = some fv) (hF : FV w w.heap.size fv p) :
    Calls Tryd.prog 33 #[.agg #[.string (bs h.1), .string (bs h.2)], .pointer (some ⟨b, 0, none⟩)] w fun e w' => e = .returned (.bool (!p h)) ∧ Below w.heap.size w w' := by
  obtain ⟨h0, h1⟩ := h
  have hb := lt_of_cell hc
  have hB := (Below.refl w.heap.size w).alloc (Nat.le_refl _) (.cells #[.string (bs h0), .string (bs h1)] 45)
  have hc2 : (w.alloc (.cells #[.string (bs h0), .string (bs h1)] 45)).cell? ⟨b, 0, none⟩ = some fv := (hB.cell hb).trans hc
  obtain ⟨F, c, rfl, eg, hF⟩ := hF
  have HF := hid (hF _ hB (h0, h1))
  have HB := hid hB
  clear hF hc hB
  have hnot := notB'
  go_enter Tryd.func33, Tryd.ntmps33
  go_wp2_with fail
  refine HF.out.mono ?_
  rintro e w1 ⟨rfl, hb1⟩
  go_wp2_with fail
  go_ret
  exact ⟨rfl, HB.out.trans (hb1.mono (by simp))⟩
set_option maxHeartbeats 1600000 in
theorem hwithout_any (A : Option Addr) (cap : Nat) (L : List Hd) (A2 : Option Addr) (cap2 : Nat) (names : List (List UInt8)) (w : World) (hR : HReads w (· < w.heap.size) A L) (hS : STexts w (· < w.heap.size) A2 names) (hl : L.length ≤ 1000000) (hn : names.length ≤ 9223372036854775807) :
    Calls Tryd.prog 20 #[.slice A L.length cap, .slice A2 names.length cap2] w fun e w' => ∃ r, e = .returned r ∧ HB w' w.heap.size r (withoutH L names) ∧ Below w.heap.size w w' := by
  have HNM := hid (named_any A2 cap2 names w hS hn)
  have HR := hid hR
  clear hR hS
  have hmf : ∀ (fn : Fn) (first cap : Array Value) (w : World), (Instr.makeFunc fn first cap).run Tryd.prog w = .ok (.func fn first cap) w := fun _ _ _ _ => rfl
  go_enter Tryd.func20, Tryd.ntmps20
  go_wp2_with fail
  refine HNM.out.mono ?_
  rintro e w1 ⟨fv, rfl, hfv, hb1⟩
  have HFV := hid hfv
  have HB1 := hid hb1
  clear hfv hb1
  obtain ⟨F, c, hfe, _, _⟩ := HFV.out
  subst hfe
  go_wp2_with fail
  have hb2 : Below w1.heap.size w1 (w1.alloc (.cells #[Value.func (Fn.func F) #[] #[c]] 65)) := (Below.refl _ _).alloc (Nat.le_refl _) _
  have hfv2 : FV (w1.alloc (.cells #[Value.func (Fn.func F) #[] #[c]] 65)) (w1.alloc (.cells #[Value.func (Fn.func F) #[] #[c]] 65)).heap.size (.func (.func 33) #[] #[.pointer (some ⟨w1.heap.size, 0, none⟩)]) (fun h => !hasN names h) := by
    refine ⟨33, .pointer (some ⟨w1.heap.size, 0, none⟩), rfl, fun _ _ => by kernel_rfl, fun w2 hw2 h => ?_⟩
    refine without1_any w1.heap.size (Value.func (Fn.func F) #[] #[c]) (hasN names) h w2 ?_ ?_
    · rw [hw2.cell (by simp)]; simp
    · exact ((HFV.out.later hb2).later (hw2.mono (by simp))).more (Nat.le_trans (by simp) hw2.size)
  have hr2 : HReads (w1.alloc (.cells #[Value.func (Fn.func F) #[] #[c]] 65)) (· < (w1.alloc (.cells #[Value.func (Fn.func F) #[] #[c]] 65)).heap.size) A L :=
    ((HR.out.below HB1.out).below (hb2.mono HB1.out.size)).imp fun b hb => Nat.lt_of_lt_of_le hb (Nat.le_trans HB1.out.size (by simp))
  refine (left_any A cap L _ _ _ hr2 hfv2 hl).mono ?_
  rintro e w3 ⟨r, rfl, hr, hb3⟩
  have H3 := hid (And.intro hr hb3)
  clear hr hb3 hb2 hfv2 hr2
  go_wp2_with fail
  go_ret
  have hb := below_step' HB1.out ((Below.refl w1.heap.size w1).alloc (Nat.le_refl _) (.cells #[Value.func (Fn.func F) #[] #[c]] 65))
  refine ⟨r, rfl, ?_, below_step' hb H3.out.2⟩
  have h1 := H3.out.1
  refine ⟨h1.1, ?_⟩
  rcases h1.2 with h2 | ⟨g, cap', cur, e1, e2, e3⟩
  · exact Or.inl h2
  · exact Or.inr ⟨g, cap', cur, e1, Nat.le_trans hb.size e2, e3⟩
theorem HB.more {w : World} {base base' : Nat} {v : Value} {L : List Hd} (h : HB w base v L) (hb : base' ≤ base) : HB w base' v L := by
  refine ⟨h.1, ?_⟩
  rcases h.2 with h2 | ⟨g, cap', cur, e1, e2, e3⟩
  · exact Or.inl h2
  · exact Or.inr ⟨g, cap', cur, e1, Nat.le_trans hb e2, e3⟩
theorem stexts_one (w : World) (n : List UInt8) (t : TypeId) : STexts (w.alloc (.cells #[.string (bs n)] t)) (· < (w.alloc (.cells #[.string (bs n)] t)).heap.size) (some ⟨w.heap.size, 0, none⟩) [n] := by
  intro k hk
  obtain rfl : k = 0 := by simpa using hk
  exact ⟨_, rfl, by simp, by simp [Addr.add]⟩
set_option maxHeartbeats 1600000 in
theorem hget_any (A : Option Addr) (cap : Nat) (L : List Hd) (n : List UInt8) (w : World) (hR : HReads w (· < w.heap.size) A L) (hl : L.length ≤ 1000000) :
    Calls Tryd.prog 18 #[.slice A L.length cap, .string (bs n)] w fun e w' => e = .returned (.tuple #[.string (bs (getH L n).1), .bool (getH L n).2]) ∧ Below w.heap.size w w' := by
  have HR := hid hR
  clear hR
  have HNM := hid (named_any (some ⟨w.heap.size, 0, none⟩) 1 [n] (w.alloc (.cells #[.string (bs n)] 9)) (stexts_one w n _) (by simp))
  have HG := hid (getH_of L n)
  go_enter Tryd.func18, Tryd.ntmps18
  go_wp2_with fail
  refine HNM.out.mono ?_
  rintro e w1 ⟨fv, rfl, hfv, hb1⟩
  have hw1 := below_step' ((Below.refl w.heap.size w).alloc (Nat.le_refl _) (.cells #[.string (bs n)] 9)) hb1
  have HFV := hid hfv
  have HB1 := hid hw1
  clear hfv hb1 hw1
  go_wp2_with fail
  refine (indexFunc_any A cap L fv (hasN [n]) w1 ((HR.out.below HB1.out).imp fun b hb => Nat.lt_of_lt_of_le hb HB1.out.size) HFV.out (by omega)).mono ?_
  rintro e w2 ⟨rfl, hb2⟩
  have HB2 := hid (below_step' HB1.out hb2)
  clear hb2
  by_cases hx : L.findIdx (hasN [n]) < L.length
  · have HI := hid (show idxH (hasN [n]) L = (L.findIdx (hasN [n]) : Int) by rw [idxH, if_pos hx])
    have HGV := hid (show getH L n = (L[L.findIdx (hasN [n])].2, true) by rw [HG.out, dif_pos hx])
    obtain ⟨b, o, rfl, hB, hc0, hc1⟩ := (HR.out.below HB2.out) _ hx
    generalize hk : L.findIdx (hasN [n]) = k at *
    have HKK := hid hk
    clear hk
    rw [HI.out]
    go_wp2_with fail
    go_ret2
    exact ⟨by rw [HGV.out]; rfl, HB2.out⟩
  · have HI := hid (show idxH (hasN [n]) L = -1 by rw [idxH, if_neg hx])
    have HGV := hid (show getH L n = ([], false) by rw [HG.out, dif_neg hx])
    rw [HI.out]
    go_wp2_with fail
    go_ret2
    exact ⟨by rw [HGV.out]; rfl, HB2.out⟩
end Go.Proofs.YtnbkpannhcamjaaDoor
