import Derived.Test.YtnbkpannhcamjaaHa
namespace Go.Proofs.Ytnbkpannhcamjaa
set_option linter.unusedVariables false
set_option linter.unusedSimpArgs false
open Go.RowKit

end Go.Proofs.Ytnbkpannhcamjaa
