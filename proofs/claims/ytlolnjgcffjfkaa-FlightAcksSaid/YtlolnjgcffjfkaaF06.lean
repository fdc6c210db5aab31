/- Texts put together: Ha Hb. -/
import Derived.Test.YtlolnjgcffjfkaaRows
import Derived.Test.YtlolnjgcffjfkaaF01
import Derived.Test.YtlolnjgcffjfkaaF05
import Derived.Lib.SmallJoins
import Derived.WalkLawsBesides
namespace Go.Proofs.Ytlolnjgcffjfkaa
set_option linter.unusedVariables false
set_option linter.unusedSimpArgs false
open Go.RowKit

theorem ret_bool {a b : Bool} (h : a = b) : Ending.returned (.bool a) = Ending.returned (.bool b) := by rw [h]
theorem notB' (x : Bool) (w : World) : (Op.unary .not (.bool x)).run Try.prog w = .ok (.bool (!x)) w := rfl
theorem headD_at' (l : List UInt8) (h : 0 < l.length) : (l.headD 0).toNat = l[0].toNat := by rw [headD_at h]
end Go.Proofs.Ytlolnjgcffjfkaa
namespace Go.Proofs.Ytlolnjgcffjfkaa
set_option linter.unusedVariables false
set_option linter.unusedSimpArgs false
open Go.RowKit

end Go.Proofs.Ytlolnjgcffjfkaa
