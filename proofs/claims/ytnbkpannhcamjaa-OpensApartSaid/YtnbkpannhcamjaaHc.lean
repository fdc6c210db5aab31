import Derived.Test.YtnbkpannhcamjaaHa
import Derived.Deep.QuietTactic
import Derived.BigQuiet
import Derived.WalkSmall
namespace Go.Proofs.Ytnbkpannhcamjaa
set_option linter.unusedVariables false
set_option linter.unusedSimpArgs false
open Go.RowKit

def fewOk (L : List Hd) : Bool := decide (L.length ≤ 60) && L.all fun h => decide (h.1.length + h.2.length ≤ 400)
end Go.Proofs.Ytnbkpannhcamjaa

