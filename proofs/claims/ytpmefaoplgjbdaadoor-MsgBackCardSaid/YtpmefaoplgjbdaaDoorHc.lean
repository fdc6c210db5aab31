import Derived.Test.YtpmefaoplgjbdaaDoorHa
import Derived.Deep.QuietTactic
import Derived.BigQuiet
import Derived.WalkSmall
namespace Go.Proofs.YtpmefaoplgjbdaaDoor
set_option linter.unusedVariables false
set_option linter.unusedSimpArgs false
open Go.RowKit

def fewOk (L : List Hd) : Bool := decide (L.length ≤ 60) && L.all fun h => decide (h.1.length + h.2.length ≤ 400)
set_option maxHeartbeats 1600000 in
theorem few_any (A : Option Addr) (cap : Nat) (L : List Hd) (w : World) (hR : HReads w (· < w.heap.size) A L) (hl : L.length ≤ 9223372036854775807) (hs : ∀ h ∈ L, h.1.length ≤ 140737488351232 ∧ h.2.length ≤ 140737488351232) :
    Calls Tryd.prog 13 #[.slice A L.length cap] w fun e w' => e = .returned (.bool (fewOk L)) ∧ Below w.heap.size w w' := by
  have HR := hid hR
  have HS := hid hs
  clear hR hs
  by_cases h60 : 60 < L.length
  · have HC := hid (show fewOk L = false by rw [fewOk, decide_eq_false (by omega)]; rfl)
    go_enter Tryd.func13, Tryd.ntmps13
    go_wp2_with fail
    go_ret
    exact ⟨by rw [HC.out]; rfl, Below.refl _ _⟩
  · have HC := hid (show fewOk L = L.all fun h => decide (h.1.length + h.2.length ≤ 400) by rw [fewOk, decide_eq_true (by omega)]; rfl)
    go_enter Tryd.func13, Tryd.ntmps13
    go_wp2_with fail
    go_loopw [3] (fun i wr => ∃ k : Nat, k ≤ L.length ∧ i = .int .i64 k ∧ Hid (((L.take k).all fun h => decide (h.1.length + h.2.length ≤ 400)) = true ∧ Below w.heap.size w wr)) (fun i _ => L.length - (intOf i).toNat)
    case atStart => exact ⟨0, by omega, rfl, hid ⟨rfl, Below.refl _ _⟩⟩
    case round =>
      obtain ⟨k, hk, rfl, HW⟩ := hrel
      by_cases hlt : k < L.length
      · obtain ⟨b, o, rfl, hB, hc0, hc1⟩ := (HR.out.below HW.out.2) k hlt
        have HT := hid (List.take_succ_eq_append_getElem hlt)
        have HM := hid (List.getElem_mem hlt)
        obtain ⟨hs0, hs1⟩ := HS.out _ (List.getElem_mem hlt)
        generalize L[k] = h at *
        obtain ⟨h0, h1⟩ := h
        have hz0 : h0.length ≤ 140737488351232 := hs0
        have hz1 : h1.length ≤ 140737488351232 := hs1
        clear hs0 hs1
        have hi0 : (0 : Int) ≤ (k : Int) := by omega
        have hi1 : (k : Int) < (L.length : Int) := by omega
        have hadd : IntKind.i64.wrap ((h0.length : Int) + (h1.length : Int)) = (h0.length : Int) + (h1.length : Int) := IntWalk.i64_in _ (by omega)
        go_wp2_with fail
        go_quiet (fail)
        go_wp2_with fail
        · go_ret
          exact ⟨by rw [HC.out, List.all_eq_false.2 ⟨_, HM.out, by simp; omega⟩]; rfl, below_drewN HW.out.2 _⟩
        · go_roundw
          case rel => exact ⟨k + 1, by omega, by go_num, hid ⟨by rw [HT.out, List.all_append, HW.out.1]; simp; omega, below_drewN HW.out.2 _⟩⟩
          case measure => simp [intOf]; omega
      · obtain rfl : k = L.length := by omega
        go_wp2_with fail
        go_ret
        have := HW.out.1
        rw [List.take_length] at this
        exact ⟨by rw [HC.out, this]; rfl, HW.out.2⟩
end Go.Proofs.YtpmefaoplgjbdaaDoor

