/- Texts put together: Rk. -/
import Derived.Test.YtgkegpdmidcmoaaG19
import Derived.Deep.CutRange
namespace Go.Proofs.Ytgkegpdmidcmoaa
set_option linter.unusedVariables false
set_option linter.unusedSimpArgs false
open Go.RowKit Go.Sort Go.Proofs
variable {P : Program} {α : Type} {enc : α → List Value} {k : Nat} {key : α → Int}

end Go.Proofs.Ytgkegpdmidcmoaa
