import Derived.Test.YtgpioafkahoahaaCm
import Derived.StillTailTactics
namespace Go.Proofs.Ytgpioafkahoahaa
set_option linter.unusedVariables false
open Go.RowKit

end Go.Proofs.Ytgpioafkahoahaa
