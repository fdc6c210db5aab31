import Derived.Test.YtddmmpjamnjilaaDoorPg
namespace Go.Proofs.YtddmmpjamnjilaaDoor
set_option linter.unusedVariables false
set_option linter.unusedSimpArgs false
open Go.RowKit Go.Joins

def smp (f : Int) : Bool := !(f.tmod 2 == 0)
set_option maxHeartbeats 800000 in
theorem sampled_any (a b s : Nat) (f : Int) (w : World) :
    Calls Tryd.prog 14 #[.agg #[.int .u64 a, .int .u64 b, .int .u64 s, .int .i64 f]] w fun e w' => e = .returned (.bool (smp f)) ∧ Below w.heap.size w w' := by
  go_enter Tryd.func14, Tryd.ntmps14
  go_wp2_with fail
  go_returns
  exact ⟨rfl, by go_grown⟩
set_option maxHeartbeats 800000 in
theorem rsampled_any (a b s : Nat) (f : Int) (w : World) :
    Calls Tryd.prog 15 #[.agg #[.int .u64 a, .int .u64 b, .int .u64 s, .int .i64 f]] w fun e w' => e = .returned (.bool (smp f)) ∧ Below w.heap.size w w' := by
  go_enter Tryd.func15, Tryd.ntmps15
  go_wp2_with fail
  go_returns
  exact ⟨rfl, by go_grown⟩
set_option maxHeartbeats 800000 in
theorem child_any (a b s c : Nat) (f : Int) (w : World) :
    Calls Tryd.prog 16 #[.agg #[.int .u64 a, .int .u64 b, .int .u64 s, .int .i64 f], .int .u64 c] w fun e w' => e = .returned (.agg #[.int .u64 a, .int .u64 b, .int .u64 c, .int .i64 f]) ∧ Below w.heap.size w w' := by
  go_enter Tryd.func16, Tryd.ntmps16
  go_wp2_with fail
  go_returns
  exact ⟨rfl, by go_grown⟩
set_option maxHeartbeats 800000 in
theorem rchild_any (a b s c : Nat) (f : Int) (w : World) :
    Calls Tryd.prog 17 #[.agg #[.int .u64 a, .int .u64 b, .int .u64 s, .int .i64 f], .int .u64 c] w fun e w' => e = .returned (.agg #[.int .u64 a, .int .u64 b, .int .u64 c, .int .i64 f]) ∧ Below w.heap.size w w' := by
  go_enter Tryd.func17, Tryd.ntmps17
  go_wp2_with fail
  go_returns
  exact ⟨rfl, by go_grown⟩
/-- What is said, held against what is said. -/
def samePr (a b s : Nat) (f : Int) (a' b' s' : Nat) (f' : Int) : Bool := decide (a = a' ∧ b = b' ∧ s = s' ∧ f = f')
theorem samePr_self (a b s : Nat) (f : Int) : samePr a b s f a b s f = true := by simp [samePr]
theorem pr_guard (op : BinOp) (x y : Operand) (xs ys : Array Value) (w : World) : (eqGuard op 27 x y (.agg xs) (.agg ys)).run Tryd.prog w = .ok () w := run_eqGuard_agg w op _ x y xs ys (by kernel_rfl)
theorem tr_eqIn' (w : World) (a b c d : Nat) : (Op.equalIn 9999 25 (.agg #[.int .u64 a, .int .u64 b]) (.agg #[.int .u64 c, .int .u64 d])).run Tryd.prog w = .ok (sameTr a b c d) w := by
  have us := Tryd.underlying23
  have asx := Tryd.isAgg23
  have zs := Tryd.sizeOf23
  rw [show (9999 : Nat) = 9998 + 1 from rfl, run_equalIn_agg w 9998 _ _ _ (by kernel_rfl) (by kernel_rfl)]
  simp only [Program.fieldsOf, Tryd.underlying25]
  go_simp
  unfold sameTr
  by_cases h1 : a = c <;> by_cases h2 : b = d <;> simp [h1, h2] <;> omega
theorem pr_eqIn (w : World) (a b s : Nat) (f : Int) (a' b' s' : Nat) (f' : Int) : (Op.equalIn 10000 27 (.agg #[.int .u64 a, .int .u64 b, .int .u64 s, .int .i64 f]) (.agg #[.int .u64 a', .int .u64 b', .int .u64 s', .int .i64 f'])).run Tryd.prog w = .ok (samePr a b s f a' b' s' f') w := by
  have us := Tryd.underlying23
  have asx := Tryd.isAgg23
  have zs := Tryd.sizeOf23
  have us2 := Tryd.underlying3
  have as2 := Tryd.isAgg3
  have zs2 := Tryd.sizeOf3
  have us3 := Tryd.underlying25
  have as3 := Tryd.isAgg25
  have zs3 := Tryd.sizeOf25
  have ht := tr_eqIn' w a b a' b'
  rw [show (10000 : Nat) = 9999 + 1 from rfl, run_equalIn_agg w 9999 _ _ _ (by kernel_rfl) (by kernel_rfl)]
  simp only [Program.fieldsOf, Tryd.underlying27]
  go_simp
  unfold samePr
  by_cases h1 : a = a' <;> by_cases h2 : b = b' <;> by_cases h3 : s = s' <;> by_cases h4 : f = f' <;> simp [h1, h2, h3, h4] <;> omega
theorem pr_neq (w : World) (a b s : Nat) (f : Int) (a' b' s' : Nat) (f' : Int) : (binOp .neq 27 (.agg #[.int .u64 a, .int .u64 b, .int .u64 s, .int .i64 f]) (.agg #[.int .u64 a', .int .u64 b', .int .u64 s', .int .i64 f'])).run Tryd.prog w = .ok (.bool (!samePr a b s f a' b' s' f')) w := by
  rw [run_neq_struct, pr_eqIn]; rfl
theorem pr_eql (w : World) (a b s : Nat) (f : Int) (a' b' s' : Nat) (f' : Int) : (binOp .eql 27 (.agg #[.int .u64 a, .int .u64 b, .int .u64 s, .int .i64 f]) (.agg #[.int .u64 a', .int .u64 b', .int .u64 s', .int .i64 f'])).run Tryd.prog w = .ok (.bool (samePr a b s f a' b' s' f')) w := by
  rw [run_eql_struct, pr_eqIn]; rfl
end Go.Proofs.YtddmmpjamnjilaaDoor
