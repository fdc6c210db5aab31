import Derived.Test.YtpmefaoplgjbdaaDoorHf
import Derived.Laws.EntriesVeiled
namespace Go.Proofs.YtpmefaoplgjbdaaDoor
set_option linter.unusedVariables false
set_option linter.unusedSimpArgs false
open Go.RowKit Go.Joins

theorem HB.more {w : World} {base base' : Nat} {v : Value} {L : List Hd} (h : HB w base v L) (hb : base' ≤ base) : HB w base' v L := by
  refine ⟨h.1, ?_⟩
  rcases h.2 with h2 | ⟨g, cap', cur, e1, e2, e3⟩
  · exact Or.inl h2
  · exact Or.inr ⟨g, cap', cur, e1, Nat.le_trans hb e2, e3⟩
theorem stexts_one (w : World) (n : List UInt8) (t : TypeId) : STexts (w.alloc (.cells #[.string (bs n)] t)) (· < (w.alloc (.cells #[.string (bs n)] t)).heap.size) (some ⟨w.heap.size, 0, none⟩) [n] := by
  intro k hk
  obtain rfl : k = 0 := by simpa using hk
  exact ⟨_, rfl, by simp, by simp [Addr.add]⟩
end Go.Proofs.YtpmefaoplgjbdaaDoor
