import Derived.Test.YtldilhbomilcpaaHa
namespace Go.Proofs.Ytldilhbomilcpaa
set_option linter.unusedVariables false
set_option linter.unusedSimpArgs false
open Go.RowKit

end Go.Proofs.Ytldilhbomilcpaa
