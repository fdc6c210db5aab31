/- Texts put together: Ef Eh. -/
import Derived.Test.YtelglcakekgdeaaGreatDoorG15
import Derived.Deep.RegionHeld3
import Derived.StillTailTactics
namespace Go.Proofs.YtelglcakekgdeaaGreatDoor
set_option linter.unusedVariables false
set_option linter.unusedSimpArgs false
open Go.RowKit Go.Joins

end Go.Proofs.YtelglcakekgdeaaGreatDoor
namespace Go.Proofs.YtelglcakekgdeaaGreatDoor
set_option linter.unusedVariables false
set_option linter.unusedSimpArgs false
open Go.RowKit Go.Joins

def k11Q : List Hd := [([107], [118])]
end Go.Proofs.YtelglcakekgdeaaGreatDoor
