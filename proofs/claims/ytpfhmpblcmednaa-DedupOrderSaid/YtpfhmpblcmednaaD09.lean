/- Texts put together: Ma. -/
import Derived.Test.YtpfhmpblcmednaaD06
import Derived.Test.YtpfhmpblcmednaaD03
import Derived.Test.YtpfhmpblcmednaaD08
import Derived.Handy
namespace Go.Proofs.Ytpfhmpblcmednaa
set_option linter.unusedVariables false
set_option linter.unusedSimpArgs false
open Go.RowKit

theorem methodB_of (l : List UInt8) : (decide (1 ≤ l.length) && (decide (l.length ≤ 8) && l.all (inB 65 90))) = methodB l := by
  cases l with
  | nil => rfl
  | cons c r => simp [methodB]
end Go.Proofs.Ytpfhmpblcmednaa
