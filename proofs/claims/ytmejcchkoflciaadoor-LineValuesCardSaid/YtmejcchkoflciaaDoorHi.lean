import Derived.Test.YtmejcchkoflciaaDoorHg
import Derived.Laws.StructEq
namespace Go.Proofs.YtmejcchkoflciaaDoor
set_option linter.unusedVariables false
set_option linter.unusedSimpArgs false
open Go.RowKit Go.Joins

theorem hd_guard (op : BinOp) (x y : Operand) (xs ys : Array Value) (w : World) : (eqGuard op 91 x y (.agg xs) (.agg ys)).run Tryd.prog w = .ok () w := run_eqGuard_agg w op _ x y xs ys (by kernel_rfl)
def sameHd (x y : Hd) : Bool := decide (x = y)
theorem hd_eqIn (w : World) (x y : Hd) : (Op.equalIn 10000 91 (.agg #[.string (bs x.1), .string (bs x.2)]) (.agg #[.string (bs y.1), .string (bs y.2)])).run Tryd.prog w = .ok (sameHd x y) w := by
  obtain ⟨x0, x1⟩ := x
  obtain ⟨y0, y1⟩ := y
  have us := Tryd.underlying9
  have asx := Tryd.isAgg9
  have zs := Tryd.sizeOf9
  rw [show (10000 : Nat) = 9999 + 1 from rfl, run_equalIn_agg w 9999 _ _ _ (by kernel_rfl) (by kernel_rfl)]
  simp only [Program.fieldsOf, Tryd.underlying91]
  go_simp
  unfold sameHd
  by_cases h1 : x0 = y0 <;> by_cases h2 : x1 = y1 <;> simp [h1, h2]
theorem hd_neq (w : World) (x y : Hd) : (binOp .neq 91 (.agg #[.string (bs x.1), .string (bs x.2)]) (.agg #[.string (bs y.1), .string (bs y.2)])).run Tryd.prog w = .ok (.bool (!sameHd x y)) w := by
  rw [run_neq_struct, hd_eqIn]; rfl
theorem hd_eql (w : World) (x y : Hd) : (binOp .eql 91 (.agg #[.string (bs x.1), .string (bs x.2)]) (.agg #[.string (bs y.1), .string (bs y.2)])).run Tryd.prog w = .ok (.bool (sameHd x y)) w := by
  rw [run_eql_struct, hd_eqIn]; rfl
end Go.Proofs.YtmejcchkoflciaaDoor
