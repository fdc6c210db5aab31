/- Texts put together: Ia. -/
import Derived.Test.YtpfhmpblcmednaaRows
import Derived.Test.YtpfhmpblcmednaaE02
import Derived.Test.YtpfhmpblcmednaaE01
import Derived.Test.YtpfhmpblcmednaaE05
import Derived.Deep.QuietTactic
import Derived.BigQuiet
import Derived.Deep.RegionHeld3
import Derived.Laws.StructEq
import Derived.WalkLawsBesides
namespace Go.Proofs.Ytpfhmpblcmednaa
set_option linter.unusedVariables false
set_option linter.unusedSimpArgs false
open Go.RowKit

theorem max_len {l : List UInt8} (h : l.length ≤ 140737488351232) : (bs l).size ≤ maxLen := by rw [bs_size]; unfold maxLen; omega
theorem ret_bool' {a b : Bool} (h : a = b) : Ending.returned (.bool a) = Ending.returned (.bool b) := by rw [h]
theorem below_step2 {a b c : World} (h : Below a.heap.size a b) (k : Below b.heap.size b c) : Below a.heap.size a c := h.trans (k.mono h.size)
/-- A trace in a block of its own, kept. -/
theorem keep_two {w1 w' : World} {g : Nat} {x y : Value} (h0 : w1.cell? ⟨g, 0, none⟩ = some x) (h1 : w1.cell? ⟨g, 1, none⟩ = some y) (hb : Below w1.heap.size w1 w') :
    w'.cell? ⟨g, 0, none⟩ = some x ∧ w'.cell? ⟨g, 1, none⟩ = some y ∧ Below w1.heap.size w1 w' :=
  ⟨(hb.cell (lt_of_cell h0)).trans h0, (hb.cell (lt_of_cell h1)).trans h1, hb⟩
set_option maxHeartbeats 800000 in
theorem zero_any (a b : Nat) (w : World) :
    Calls Try.prog 83 #[.agg #[.int .u64 a, .int .u64 b]] w fun e w' => e = .returned (.bool (decide (a = 0 ∧ b = 0))) ∧ w' = w.alloc (.cells #[.int .u64 (a : Int), .int .u64 (b : Int)] 35) := by
  by_cases ha : a = 0
  all_goals
    have hna : ((a : Int) == 0) = decide (a = 0) := by rw [Bool.eq_iff_iff]; simp
    have hnb : ((b : Int) == 0) = decide (b = 0) := by rw [Bool.eq_iff_iff]; simp
    simp only [ha, decide_true, decide_false] at hna
    go_enter Try.func83, Try.ntmps83
    go_wp2_with fail
    go_ret
    refine ⟨?_, by first | rfl | (rw [ha]; rfl)⟩
    first
      | rfl
      | (simp [ha]; done)
      | (refine ret_bool' ?_; simp [ha])
def sameTr (a b c d : Nat) : Bool := decide (a = c ∧ b = d)
theorem tr_guard (op : BinOp) (x y : Operand) (xs ys : Array Value) (w : World) : (eqGuard op 35 x y (.agg xs) (.agg ys)).run Try.prog w = .ok () w := run_eqGuard_agg w op _ x y xs ys (by kernel_rfl)
theorem tr_eqIn (w : World) (a b c d : Nat) : (Op.equalIn 10000 35 (.agg #[.int .u64 a, .int .u64 b]) (.agg #[.int .u64 c, .int .u64 d])).run Try.prog w = .ok (sameTr a b c d) w := by
  have us := Try.underlying33
  have asx := Try.isAgg33
  have zs := Try.sizeOf33
  rw [show (10000 : Nat) = 9999 + 1 from rfl, run_equalIn_agg w 9999 _ _ _ (by kernel_rfl) (by kernel_rfl)]
  simp only [Program.fieldsOf, Try.underlying35]
  go_simp
  unfold sameTr
  by_cases h1 : a = c <;> by_cases h2 : b = d <;> simp [h1, h2] <;> omega
theorem tr_neq (w : World) (a b c d : Nat) : (binOp .neq 35 (.agg #[.int .u64 a, .int .u64 b]) (.agg #[.int .u64 c, .int .u64 d])).run Try.prog w = .ok (.bool (!sameTr a b c d)) w := by
  rw [run_neq_struct, tr_eqIn]; rfl
theorem tr_eql (w : World) (a b c d : Nat) : (binOp .eql 35 (.agg #[.int .u64 a, .int .u64 b]) (.agg #[.int .u64 c, .int .u64 d])).run Try.prog w = .ok (.bool (sameTr a b c d)) w := by
  rw [run_eql_struct, tr_eqIn]; rfl
set_option maxHeartbeats 800000 in
theorem rzero_any (a b : Nat) (w : World) :
    Calls Try.prog 48 #[.agg #[.int .u64 a, .int .u64 b]] w fun e w' => e = .returned (.bool (decide (a = 0 ∧ b = 0))) ∧ Below w.heap.size w w' := by
  have hg : ∀ (x y : Operand) (xs ys : Array Value) (w : World), (eqGuard .eql 35 x y (.agg xs) (.agg ys)).run Try.prog w = .ok () w := fun x y xs ys w => tr_guard .eql x y xs ys w
  have he : ∀ w : World, (binOp .eql 35 (.agg #[.int .u64 (a : Int), .int .u64 (b : Int)]) (.agg #[.int .u64 0, .int .u64 0])).run Try.prog w = .ok (.bool (sameTr a b 0 0)) w := fun w => tr_eql w a b 0 0
  go_enter Try.func48, Try.ntmps48
  go_wp2_with fail
  go_ret
  exact ⟨rfl, (Below.refl _ _).alloc (Nat.le_refl _) _⟩
end Go.Proofs.Ytpfhmpblcmednaa
