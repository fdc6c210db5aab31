/- Texts put together: Ef Eh. -/
import Derived.Test.YtelglcakekgdeaaA13
import Derived.Deep.RegionHeld3
import Derived.StillTailTactics
namespace Go.Proofs.Ytelglcakekgdeaa
set_option linter.unusedVariables false
set_option linter.unusedSimpArgs false
open Go.RowKit Go.Joins

end Go.Proofs.Ytelglcakekgdeaa
namespace Go.Proofs.Ytelglcakekgdeaa
set_option linter.unusedVariables false
set_option linter.unusedSimpArgs false
open Go.RowKit Go.Joins

def k11Q : List Hd := [([107], [118])]
end Go.Proofs.Ytelglcakekgdeaa
