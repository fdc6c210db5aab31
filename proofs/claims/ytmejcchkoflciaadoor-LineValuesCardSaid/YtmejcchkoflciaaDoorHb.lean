import Derived.Test.YtmejcchkoflciaaDoorHa
namespace Go.Proofs.YtmejcchkoflciaaDoor
set_option linter.unusedVariables false
set_option linter.unusedSimpArgs false
open Go.RowKit

end Go.Proofs.YtmejcchkoflciaaDoor
