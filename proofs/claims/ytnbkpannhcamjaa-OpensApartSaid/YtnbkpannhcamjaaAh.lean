/- opens: slices.Concat of two lists; the definition's Same where both sides are the same. -/
import Derived.Test.YtnbkpannhcamjaaAg
import Derived.Lib.AppendZeros
namespace Go.Proofs.Ytnbkpannhcamjaa
set_option linter.unusedVariables false
set_option linter.unusedSimpArgs false
open Go.RowKit Go.Joins

/-- What an append of so many zeros to nothing leaves. -/
theorem grow_run (n : Nat) (h0 : 0 < n) (hn : n ≤ 1000000) (w : World) : ∃ G w9, n ≤ G ∧ G ≤ maxLen ∧ (∀ ty, (Builtin.append_ #[22, 3] ty #[.slice none 0 0, .int .i64 (n : Int)]).run Try.prog w = .ok (.slice (some ⟨w.heap.size, 0, none⟩) n G) w9) ∧ GB encO 12 44 w9 w.heap.size (.slice (some ⟨w.heap.size, 0, none⟩) 0 G) [] ∧ Below w.heap.size w w9 := by
  obtain ⟨i0, hi, hz0, hz1, hz2⟩ := info_parts rowO.inf
  have hzs := rowO.hzs
  generalize (Value.agg #[.int .i64 0, .int .u64 0, .int .u64 0, .int .u64 0, .int .u64 0, .string ByteArray.empty, .int .i64 0, .int .i64 0, .int .i64 0, .bool false, .int .i64 0, .int .i64 0]) = z at *
  have hr : ∀ ty, (Builtin.append_ #[22, 3] ty #[.slice none 0 0, .int .i64 (n : Int)]).run Try.prog w = _ := fun ty =>
    Lib.run_append_nil_zeros w 22 3 ty 44 i0 z .i64 .i64 Try.underlying22 Try.underlying3 hi hz0 n h0 (by rw [hz1]; decide) (by omega) (by rw [hz2]; omega)
  have hG := grownCap_ge w n 0 44
  have hM := grownCap_le_maxLen w n 0 44 (by unfold maxLen; omega)
  refine ⟨_, _, hG, hM, hr, ⟨by simp [gvals], Or.inr ⟨w.heap.size, _, _, rfl, Nat.le_refl _, heap_alloc_new w.drew _, Nat.zero_le _, hM, ?_, by simp [gvals]⟩⟩, (Below.drew (Below.refl _ _)).alloc (Nat.le_refl _) _⟩
  rw [Array.size_append, size_zeroCells, size_zeroCells, hzs]
  omega
set_option maxRecDepth 100000 in
set_option maxHeartbeats 8000000 in
theorem grow_nil (n : Nat) (hn : n ≤ 1000000) (w : World) :
    Calls Try.prog 19 #[.slice none 0 0, .int .i64 (n : Int)] w fun e w' => ∃ y, e = .returned y ∧ GB encO 12 44 w' w.heap.size y [] ∧ Below w.heap.size w w' := by
  have h1 : ¬ ((n : Int) < 0) := by omega
  rcases Nat.eq_zero_or_pos n with rfl | h0
  · go_enter Try.func19, Try.ntmps19
    go_wp2_with fail
    go_returns
    exact ⟨_, rfl, GB.nil _ _, Below.refl _ _⟩
  · have h2 : (n : Int) > 0 := by omega
    obtain ⟨G, w9, hG, hM, hr, hF⟩ := grow_run n h0 hn w
    have hG63 : (G : Int) ≤ 9223372036854775807 := by unfold maxLen at hM; omega
    have hGn : (n : Int) ≤ (G : Int) := by omega
    have HR := hid hr
    have HF := hid hF
    clear hr hM hF
    go_enter Try.func19, Try.ntmps19
    go_wp2_with (at_builtin; refine Lib.wpList_append_run _ rfl _ _ _ _ rfl _ _ rfl rfl _ _ (HR.out _) ?_)
    go_wp2_with fail
    go_returns
    exact ⟨_, rfl, HF.out⟩
end Go.Proofs.Ytnbkpannhcamjaa
