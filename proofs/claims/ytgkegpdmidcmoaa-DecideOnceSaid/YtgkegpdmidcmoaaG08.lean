/- Texts put together: Ma Kq. -/
import Derived.Test.YtgkegpdmidcmoaaG04
import Derived.Test.YtgkegpdmidcmoaaG02
import Derived.Test.YtgkegpdmidcmoaaG07
import Derived.Handy
namespace Go.Proofs.Ytgkegpdmidcmoaa
set_option linter.unusedVariables false
set_option linter.unusedSimpArgs false
open Go.RowKit

theorem prefix_slash (l : List UInt8) (w : World) : Calls Try.prog 57 #[.string (bs l), .string (ByteArray.mk #[47])] w fun e w' => e = .returned (.bool (List.isPrefixOf [47] l)) ∧ w = w' :=
  (Try.strings_HasPrefix (bs l) (ByteArray.mk #[47]) w).mono fun e w' ⟨h1, h2⟩ => ⟨by rw [h1, bs_data]; rfl, h2.symm⟩
theorem methodB_of (l : List UInt8) : (decide (1 ≤ l.length) && (decide (l.length ≤ 8) && l.all (inB 65 90))) = methodB l := by
  cases l with
  | nil => rfl
  | cons c r => simp [methodB]
end Go.Proofs.Ytgkegpdmidcmoaa
namespace Go.Proofs.Ytgkegpdmidcmoaa
set_option linter.unusedVariables false
set_option linter.unusedSimpArgs false
open Go.RowKit

end Go.Proofs.Ytgkegpdmidcmoaa
