import Derived.Test.YtnbkpannhcamjaaHg
import Derived.Laws.StructEq
namespace Go.Proofs.Ytnbkpannhcamjaa
set_option linter.unusedVariables false
set_option linter.unusedSimpArgs false
open Go.RowKit Go.Joins

def sameHd (x y : Hd) : Bool := decide (x = y)
end Go.Proofs.Ytnbkpannhcamjaa
