import Derived.Test.YtnbkpannhcamjaaOb
namespace Go.Proofs.Ytnbkpannhcamjaa
set_option linter.unusedVariables false
open Go.RowKit

theorem nat_div_zero (a b : Nat) (h : b = 0) : a / b = 0 := by subst h; simp
end Go.Proofs.Ytnbkpannhcamjaa
