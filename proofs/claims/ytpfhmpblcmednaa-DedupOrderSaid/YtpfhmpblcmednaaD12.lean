/- Texts put together: Hf. -/
import Derived.Test.YtpfhmpblcmednaaD11
import Derived.Laws.AppendOwnNone
import Derived.OwnWalk
namespace Go.Proofs.Ytpfhmpblcmednaa
set_option linter.unusedVariables false
set_option linter.unusedSimpArgs false
open Go.RowKit Go.Joins

theorem one_cell_hvals (L : List Hd) : ∀ u ∈ hvals L, u.oneCell' = true := by
  intro u hu
  simp only [hvals, List.mem_flatMap] at hu
  obtain ⟨h, _, hu⟩ := hu
  exact one_cell_hd h u hu
theorem hvals_cell {w : World} {N : Nat → Prop} {b o : Nat} {L : List Hd} (h : HReads w N (some ⟨b, o, none⟩) L) : ∀ j u, (hvals L)[j]? = some u → w.cell? ((⟨b, o, none⟩ : Addr).add j) = some u := by
  intro j u hj
  have hjl : j < L.length * 2 := by rw [← hvals_length]; exact (List.getElem?_eq_some_iff.1 hj).1
  obtain ⟨b', o', e, _, h1, h2⟩ := h (j / 2) (by omega)
  injection e with e; injection e with e1 e2; subst e1; subst e2
  obtain ⟨g1, g2⟩ := hvals_at L (j / 2) (by omega)
  rw [Addr.add_lit]
  rcases Nat.mod_two_eq_zero_or_one j with e | e
  · rw [show j / 2 * 2 = j from by omega] at h1 g1
    rw [h1, ← g1, hj]
  · rw [show o + j / 2 * 2 + 1 = o + j from by omega] at h2
    rw [show j / 2 * 2 + 1 = j from by omega] at g2
    rw [h2, ← g2, hj]
end Go.Proofs.Ytpfhmpblcmednaa
