/- Texts put together: Hg. -/
import Derived.Test.YtmejcchkoflciaaDoorG13
import Derived.Laws.EntriesVeiled
namespace Go.Proofs.YtmejcchkoflciaaDoor
set_option linter.unusedVariables false
set_option linter.unusedSimpArgs false
open Go.RowKit Go.Joins

theorem HB.more {w : World} {base base' : Nat} {v : Value} {L : List Hd} (h : HB w base v L) (hb : base' ≤ base) : HB w base' v L := by
  refine ⟨h.1, ?_⟩
  rcases h.2 with h2 | ⟨g, cap', cur, e1, e2, e3⟩
  · exact Or.inl h2
  · exact Or.inr ⟨g, cap', cur, e1, Nat.le_trans hb e2, e3⟩
theorem stexts_one (w : World) (n : List UInt8) (t : TypeId) : STexts (w.alloc (.cells #[.string (bs n)] t)) (· < (w.alloc (.cells #[.string (bs n)] t)).heap.size) (some ⟨w.heap.size, 0, none⟩) [n] := by
  intro k hk
  obtain rfl : k = 0 := by simpa using hk
  exact ⟨_, rfl, by simp, by simp [Addr.add]⟩
set_option maxHeartbeats 1600000 in
theorem hget_any (A : Option Addr) (cap : Nat) (L : List Hd) (n : List UInt8) (w : World) (hR : HReads w (· < w.heap.size) A L) (hl : L.length ≤ 1000000) :
    Calls Tryd.prog 43 #[.slice A L.length cap, .string (bs n)] w fun e w' => e = .returned (.tuple #[.string (bs (getH L n).1), .bool (getH L n).2]) ∧ Below w.heap.size w w' := by
  have HR := hid hR
  clear hR
  have HNM := hid (named_any (some ⟨w.heap.size, 0, none⟩) 1 [n] (w.alloc (.cells #[.string (bs n)] 9)) (stexts_one w n _) (by simp))
  have HG := hid (getH_of L n)
  go_enter Tryd.func43, Tryd.ntmps43
  go_wp2_with fail
  refine HNM.out.mono ?_
  rintro e w1 ⟨fv, rfl, hfv, hb1⟩
  have hw1 := below_step' ((Below.refl w.heap.size w).alloc (Nat.le_refl _) (.cells #[.string (bs n)] 9)) hb1
  have HFV := hid hfv
  have HB1 := hid hw1
  clear hfv hb1 hw1
  go_wp2_with fail
  refine (indexFunc_any A cap L fv (hasN [n]) w1 ((HR.out.below HB1.out).imp fun b hb => Nat.lt_of_lt_of_le hb HB1.out.size) HFV.out (by omega)).mono ?_
  rintro e w2 ⟨rfl, hb2⟩
  have HB2 := hid (below_step' HB1.out hb2)
  clear hb2
  by_cases hx : L.findIdx (hasN [n]) < L.length
  · have HI := hid (show idxH (hasN [n]) L = (L.findIdx (hasN [n]) : Int) by rw [idxH, if_pos hx])
    have HGV := hid (show getH L n = (L[L.findIdx (hasN [n])].2, true) by rw [HG.out, dif_pos hx])
    obtain ⟨b, o, rfl, hB, hc0, hc1⟩ := (HR.out.below HB2.out) _ hx
    generalize hk : L.findIdx (hasN [n]) = k at *
    have HKK := hid hk
    clear hk
    rw [HI.out]
    go_wp2_with fail
    go_ret2
    exact ⟨by rw [HGV.out]; rfl, HB2.out⟩
  · have HI := hid (show idxH (hasN [n]) L = -1 by rw [idxH, if_neg hx])
    have HGV := hid (show getH L n = ([], false) by rw [HG.out, dif_neg hx])
    rw [HI.out]
    go_wp2_with fail
    go_ret2
    exact ⟨by rw [HGV.out]; rfl, HB2.out⟩
end Go.Proofs.YtmejcchkoflciaaDoor
