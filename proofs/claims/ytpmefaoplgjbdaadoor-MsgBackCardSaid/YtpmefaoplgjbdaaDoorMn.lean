import Derived.Test.YtpmefaoplgjbdaaDoorMj
import Derived.Test.YtpmefaoplgjbdaaDoorHc
namespace Go.Proofs.YtpmefaoplgjbdaaDoor
set_option linter.unusedVariables false
set_option linter.unusedSimpArgs false
open Go.RowKit Go.Joins

set_option maxRecDepth 100000 in
set_option maxHeartbeats 1600000 in
theorem fewq_any (m h p : List UInt8) (A : Option Addr) (cap : Nat) (L : List Hd) (b : List UInt8) (w : World) (hR : HReads w (· < w.heap.size) A L) (hl : L.length ≤ 9223372036854775807) (hs : ∀ h ∈ L, h.1.length ≤ 140737488351232 ∧ h.2.length ≤ 140737488351232)
    (hm : m.length ≤ 140737488351232) (hh : h.length ≤ 140737488351232) (hp : p.length ≤ 140737488351232) (hb : b.length ≤ 140737488351232) :
    Calls Tryd.prog 7 #[.agg #[.string (bs m), .string (bs h), .string (bs p), .slice A L.length cap, .string (bs b)]] w fun e w' => e = .returned (.bool (fewQ m h p L b)) ∧ Below w.heap.size w w' := by
  have hal := below_new' w (.cells #[.string (bs m), .string (bs h), .string (bs p), .slice A L.length cap, .string (bs b)] 24)
  have k5 := five_new w (.string (bs m)) (.string (bs h)) (.string (bs p)) (.slice A L.length cap) (.string (bs b)) 24
  have HR := hid (hR.later' hal)
  have HS := hid hs
  have HAL := hid hal
  have K5 := hid k5
  clear hR hs hal k5
  have a1 : IntKind.i64.wrap ((m.length : Int) + (h.length : Int)) = (m.length : Int) + (h.length : Int) := IntWalk.i64_in _ (by omega)
  have a2 : IntKind.i64.wrap ((m.length : Int) + (h.length : Int) + (p.length : Int)) = (m.length : Int) + (h.length : Int) + (p.length : Int) := IntWalk.i64_in _ (by omega)
  have a3 : IntKind.i64.wrap ((m.length : Int) + (h.length : Int) + (p.length : Int) + (b.length : Int)) = (m.length : Int) + (h.length : Int) + (p.length : Int) + (b.length : Int) := IntWalk.i64_in _ (by omega)
  by_cases h2 : (m.length : Int) + (h.length : Int) + (p.length : Int) + (b.length : Int) > 2000
  · have HC := hid (show fewQ m h p L b = false by rw [fewQ, decide_eq_false (by omega)]; rfl)
    go_enter Tryd.func7, Tryd.ntmps7
    go_wp2_with fail
    go_ret
    exact ⟨by rw [HC.out]; rfl, HAL.out⟩
  · by_cases h4 : (L.length : Int) > 40
    · have HC := hid (show fewQ m h p L b = false by rw [fewQ, decide_eq_false (show ¬ L.length ≤ 40 by omega)]; simp)
      go_enter Tryd.func7, Tryd.ntmps7
      go_wp2_with fail
      go_ret
      exact ⟨by rw [HC.out]; rfl, HAL.out⟩
    · have HC := hid (show fewQ m h p L b = L.all fun h => decide (h.1.length + h.2.length ≤ 400) by rw [fewQ, decide_eq_true (by omega), decide_eq_true (show L.length ≤ 40 by omega)]; rfl)
      go_enter Tryd.func7, Tryd.ntmps7
      go_wp2_with fail
      generalize hv1 : w.alloc (.cells #[.string (bs m), .string (bs h), .string (bs p), .slice A L.length cap, .string (bs b)] 24) = v1 at *
      clear hv1
      go_loopw [3] (fun i wr => ∃ k : Nat, k ≤ L.length ∧ i = .int .i64 k ∧ Hid (((L.take k).all fun h => decide (h.1.length + h.2.length ≤ 400)) = true ∧ Below v1.heap.size v1 wr)) (fun i _ => L.length - (intOf i).toNat)
      case atStart => exact ⟨0, by omega, rfl, hid ⟨rfl, Below.refl _ _⟩⟩
      case round =>
        obtain ⟨k, hk, rfl, HW⟩ := hrel
        have k3 := (keep_five K5.out HW.out.2).2.2.2.1
        by_cases hlt : k < L.length
        · obtain ⟨bb, o, rfl, hB, hc0, hc1⟩ := (HR.out.below HW.out.2) k hlt
          have HT := hid (List.take_succ_eq_append_getElem hlt)
          have HM := hid (List.getElem_mem hlt)
          obtain ⟨hs0, hs1⟩ := HS.out _ (List.getElem_mem hlt)
          generalize L[k] = hh' at *
          obtain ⟨g0, g1⟩ := hh'
          have hz0 : g0.length ≤ 140737488351232 := hs0
          have hz1 : g1.length ≤ 140737488351232 := hs1
          clear hs0 hs1
          have hi0 : (0 : Int) ≤ (k : Int) := by omega
          have hi1 : (k : Int) < (L.length : Int) := by omega
          have hadd : IntKind.i64.wrap ((g0.length : Int) + (g1.length : Int)) = (g0.length : Int) + (g1.length : Int) := IntWalk.i64_in _ (by omega)
          go_wp2_with fail
          go_quiet (fail)
          go_wp2_with fail
          · go_ret
            exact ⟨by rw [HC.out, List.all_eq_false.2 ⟨_, HM.out, by simp; omega⟩]; rfl, below_drewN (below_step' HAL.out HW.out.2) _⟩
          · go_roundw
            case rel => exact ⟨k + 1, by omega, by go_num, hid ⟨by rw [HT.out, List.all_append, HW.out.1]; simp; omega, below_drewN HW.out.2 _⟩⟩
            case measure => simp [intOf]; omega
        · obtain rfl : k = L.length := by omega
          go_wp2_with fail
          go_ret
          have := HW.out.1
          rw [List.take_length] at this
          exact ⟨by rw [HC.out, this]; rfl, below_step' HAL.out HW.out.2⟩
end Go.Proofs.YtpmefaoplgjbdaaDoor
