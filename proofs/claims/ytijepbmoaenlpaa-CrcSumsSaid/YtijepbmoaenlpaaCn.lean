import Derived.Test.YtijepbmoaenlpaaCm
import Derived.StillTailTactics
namespace Go.Proofs.Ytijepbmoaenlpaa
set_option linter.unusedVariables false
open Go.RowKit

set_option maxRecDepth 100000 in
set_option maxHeartbeats 1000000 in
theorem fill_any (g : Nat) (d st n : Int) (w : World) (h : Mc w g d st 0 n 0) :
    Calls Try.prog 45 #[.pointer (some ⟨g, 0, none⟩)] w fun e w' => e = .returned (.tuple #[]) ∧ Mc w' g d st 1 n 256 ∧ Only g w w' := by
  have H := hid h
  clear h
  go_enter Try.func45, Try.ntmps45
  go_wp2_with fail
  go_loopw [3] (fun i wr => ∃ k : Nat, k ≤ 256 ∧ i = .int .i64 k ∧ Hid (Mc wr g d st 0 n k ∧ Only g w wr)) (fun i _ => 256 - (intOf i).toNat)
  case atStart => exact ⟨0, by omega, rfl, hid ⟨H.out, Only.refl _ _⟩⟩
  case round =>
    obtain ⟨k, hk, rfl, HM⟩ := hrel
    by_cases hlt : k < 256
    · have hc : ∃ v, wr.drew.cell? ⟨g, 3 + k, none⟩ = some v := ⟨_, HM.out.1.ct hlt⟩
      obtain ⟨v, hc⟩ := hc
      have hz : wr.drew.frozen? ⟨g, 3 + k, none⟩ = false := HM.out.1.free _
      go_wp2_with fail
      have hkm : IntKind.u8.wrap (k : Int) = k := by rw [IntKind.wrap_u8']; omega
      refine wp_region_still_tail 8 (by kernel_rfl) (by kernel_rfl) ?_
      simp only [List.take_succ_cons, List.take_zero, List.drop_succ_cons, List.drop_zero]
      still_step
      still_step
      still_step
      still_step
      still_call ((shifted_any k _ hlt).mono (by rintro e w3 ⟨rfl, rfl⟩; exact ⟨rfl, rfl⟩))
      repeat still_step
      refine wpStill_nil ?_
      change wpList _ _ _ _ _ wr.drew
      go_wp2_with fail
      go_roundw
      case rel => exact ⟨k + 1, by omega, by go_num, hid ⟨(HM.out.1.sett hlt).drew, (HM.out.2.set _ _).drew⟩⟩
      case measure => simp [intOf]; omega
    · obtain rfl : k = 256 := by omega
      have hM := HM.out.1
      have hc := hM.cm
      have hz := hM.free 259
      go_wp2_with fail
      refine (iadd_any ⟨g, 259, none⟩ 0 1 _ hc hz (by omega) (by omega)).mono ?_
      rintro e w' ⟨rfl, rfl⟩
      go_wp2
      go_end0
      exact ⟨rfl, hM.setm 1, HM.out.2.set _ _⟩
end Go.Proofs.Ytijepbmoaenlpaa
