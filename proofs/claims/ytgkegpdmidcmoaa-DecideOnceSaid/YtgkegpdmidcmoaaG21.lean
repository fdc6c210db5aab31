/- Texts put together: Rq. -/
import Derived.Test.YtgkegpdmidcmoaaG20
import Derived.Test.YtgkegpdmidcmoaaG02
import Derived.Test.YtgkegpdmidcmoaaG07
import Derived.Lib.Small
namespace Go.Proofs.Ytgkegpdmidcmoaa
set_option linter.unusedVariables false
set_option linter.unusedSimpArgs false
open Go.RowKit Go.Sort Go.Proofs

def cfR (x y : Ru) : Int := Lib.compareInt y.rank x.rank
theorem cfR_lt (x y : Ru) : cfR x y < 0 ↔ y.rank < x.rank := by
  unfold cfR Lib.compareInt
  split
  · constructor <;> intro h <;> omega
  · split
    · constructor <;> intro h <;> omega
    · constructor <;> intro h <;> omega
theorem half_srt {C : List Ru} (h1 : Srt rkR (C.take 20)) (h : C.length ≤ 20) : Srt rkR C := by rwa [List.take_of_length_le h] at h1
end Go.Proofs.Ytgkegpdmidcmoaa
