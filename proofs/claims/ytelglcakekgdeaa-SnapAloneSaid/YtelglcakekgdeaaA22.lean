/- Texts put together: Rl. -/
import Derived.Test.YtelglcakekgdeaaA18
import Derived.Deep.LoopGhost
import Derived.Deep.CutRange
namespace Go.Proofs.Ytelglcakekgdeaa
set_option linter.unusedVariables false
set_option linter.unusedSimpArgs false
open Go.RowKit Go.Joins

end Go.Proofs.Ytelglcakekgdeaa
