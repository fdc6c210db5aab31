/- wheel: the definition's lists that are alike; Ints. -/
import Derived.Test.YtldilhbomilcpaaJs
import Derived.Test.YtldilhbomilcpaaGq
import Derived.BigQuiet
namespace Go.Proofs.Ytldilhbomilcpaa
set_option linter.unusedVariables false
set_option linter.unusedSimpArgs false
open Go.RowKit Go.Joins

theorem du_guard (op : BinOp) (x y : Operand) (xs ys : Array Value) (w : World) : (eqGuard op 76 x y (.agg xs) (.agg ys)).run Try.prog w = .ok () w := run_eqGuard_agg w op _ x y xs ys (by kernel_rfl)
theorem du_eqIn (w : World) (a b : Int) : (Op.equalIn 10000 76 (.agg #[.int .i64 a, .int .i64 b]) (.agg #[.int .i64 a, .int .i64 b])).run Try.prog w = .ok true w := by
  have us := Try.underlying3
  have asx := Try.isAgg3
  have zs := Try.sizeOf3
  rw [show (10000 : Nat) = 9999 + 1 from rfl, run_equalIn_agg w 9999 _ _ _ (by kernel_rfl) (by kernel_rfl)]
  simp only [Program.fieldsOf, Try.underlying76]
  go_simp
theorem du_neq (w : World) (a b : Int) : (binOp .neq 76 (.agg #[.int .i64 a, .int .i64 b]) (.agg #[.int .i64 a, .int .i64 b])).run Try.prog w = .ok (.bool false) w := by
  rw [run_neq_struct, du_eqIn]; rfl
set_option maxRecDepth 100000 in
set_option maxHeartbeats 4000000 in
/-- Ints of lists that are alike. -/
theorem ints_same (A B : Option Addr) (ca cb : Nat) (L : List Int) {n : Nat} (hn : L.length = n) (w : World) (hA : GX encWi 1 w (· < w.heap.size) A L) (hB : GX encWi 1 w (· < w.heap.size) B L) (hl : n ≤ 1000000) :
    Calls Try.prog 21 #[.slice A n ca, .slice B n cb] w fun e w' => e = .returned (.bool true) ∧ Below w.heap.size w w' := by
  have HA := hid hA
  have HBr := hid hB
  have HN := hid hn
  clear hA hB hn
  go_enter Try.func21, Try.ntmps21
  go_wp2_with fail
  go_loopw [5] (fun i wr => ∃ k : Nat, k ≤ n ∧ i = .int .i64 k ∧ Hid (Below w.heap.size w wr)) (fun i _ => n - (intOf i).toNat)
  case atStart => exact ⟨0, by omega, rfl, hid (Below.refl _ _)⟩
  case round =>
    obtain ⟨k, hk, rfl, HK⟩ := hrel
    by_cases hlt : k < n
    · have hkL : k < L.length := by have := HN.out; omega
      obtain ⟨b, o, rfl, hB1, hc0⟩ := (HA.out.up HK.out).wi k hkL
      obtain ⟨b2, o2, rfl, hB2, hd0⟩ := (HBr.out.up HK.out).wi k hkL
      generalize L[k] = x at *
      have hi0 : (0 : Int) ≤ (k : Int) := by omega
      have hi1 : (k : Int) < (n : Int) := by omega
      go_wp2_with fail
      go_quiet (fail)
      go_wp2_with fail
      go_roundw
      case rel => exact ⟨k + 1, by omega, by go_num, hid (below_drewN HK.out _)⟩
      case measure => simp [intOf]; omega
    · obtain rfl : k = n := by omega
      go_wp2_with fail
      go_ret
      exact ⟨rfl, HK.out⟩
set_option maxRecDepth 100000 in
set_option maxHeartbeats 4000000 in
/-- Same of lists that are alike. -/
theorem dues_same (A B : Option Addr) (ca cb : Nat) (L : List (Int × Int)) {n : Nat} (hn : L.length = n) (w : World) (hA : GX encDu 2 w (· < w.heap.size) A L) (hB : GX encDu 2 w (· < w.heap.size) B L) (hl : n ≤ 1000000) :
    Calls Try.prog 27 #[.slice A n ca, .slice B n cb] w fun e w' => e = .returned (.bool true) ∧ Below w.heap.size w w' := by
  have HA := hid hA
  have HBr := hid hB
  have HN := hid hn
  have hg := du_guard
  have hq := du_neq
  clear hA hB hn
  go_enter Try.func27, Try.ntmps27
  go_wp2_with fail
  go_loopw [5] (fun i wr => ∃ k : Nat, k ≤ n ∧ i = .int .i64 k ∧ Hid (Below w.heap.size w wr)) (fun i _ => n - (intOf i).toNat)
  case atStart => exact ⟨0, by omega, rfl, hid (Below.refl _ _)⟩
  case round =>
    obtain ⟨k, hk, rfl, HK⟩ := hrel
    by_cases hlt : k < n
    · have hkL : k < L.length := by have := HN.out; omega
      obtain ⟨b, o, rfl, hB1, hc0, hc1⟩ := (HA.out.up HK.out).du k hkL
      obtain ⟨b2, o2, rfl, hB2, hd0, hd1⟩ := (HBr.out.up HK.out).du k hkL
      generalize L[k] = x at *
      obtain ⟨xa, xb⟩ := x
      simp only at hc0 hc1 hd0 hd1
      have hi0 : (0 : Int) ≤ (k : Int) := by omega
      have hi1 : (k : Int) < (n : Int) := by omega
      go_wp2_with fail
      go_quiet (fail)
      go_wp2_with fail
      go_roundw
      case rel => exact ⟨k + 1, by omega, by go_num, hid (below_drewN HK.out _)⟩
      case measure => simp [intOf]; omega
    · obtain rfl : k = n := by omega
      go_wp2_with fail
      go_ret
      exact ⟨rfl, HK.out⟩
end Go.Proofs.Ytldilhbomilcpaa
