/- Texts put together: Ef Eh. -/
import Derived.Test.YtelglcakekgdeaaGreatG13
import Derived.Deep.RegionHeld3
import Derived.StillTailTactics
namespace Go.Proofs.YtelglcakekgdeaaGreat
set_option linter.unusedVariables false
set_option linter.unusedSimpArgs false
open Go.RowKit Go.Joins

end Go.Proofs.YtelglcakekgdeaaGreat
namespace Go.Proofs.YtelglcakekgdeaaGreat
set_option linter.unusedVariables false
set_option linter.unusedSimpArgs false
open Go.RowKit Go.Joins

def k11Q : List Hd := [([107], [118])]
end Go.Proofs.YtelglcakekgdeaaGreat
