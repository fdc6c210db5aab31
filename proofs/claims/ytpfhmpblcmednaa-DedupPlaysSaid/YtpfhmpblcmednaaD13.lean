/- Texts put together: Hg. -/
import Derived.Test.YtpfhmpblcmednaaD12
import Derived.Laws.EntriesVeiled
namespace Go.Proofs.Ytpfhmpblcmednaa
set_option linter.unusedVariables false
set_option linter.unusedSimpArgs false
open Go.RowKit Go.Joins

theorem stexts_one (w : World) (n : List UInt8) (t : TypeId) : STexts (w.alloc (.cells #[.string (bs n)] t)) (· < (w.alloc (.cells #[.string (bs n)] t)).heap.size) (some ⟨w.heap.size, 0, none⟩) [n] := by
  intro k hk
  obtain rfl : k = 0 := by simpa using hk
  exact ⟨_, rfl, by simp, by simp [Addr.add]⟩
end Go.Proofs.Ytpfhmpblcmednaa
