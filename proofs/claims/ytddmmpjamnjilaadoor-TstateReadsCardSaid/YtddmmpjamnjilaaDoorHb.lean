import Derived.Test.YtddmmpjamnjilaaDoorHa
namespace Go.Proofs.YtddmmpjamnjilaaDoor
set_option linter.unusedVariables false
set_option linter.unusedSimpArgs false
open Go.RowKit

end Go.Proofs.YtddmmpjamnjilaaDoor
