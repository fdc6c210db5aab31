/- Texts put together: He. -/
import Derived.Test.YtpfhmpblcmednaaD07
import Derived.Laws.AppendOwn
import Derived.Maps.AppendAt
import Derived.Laws.OwnMore
namespace Go.Proofs.Ytpfhmpblcmednaa
set_option linter.unusedVariables false
set_option linter.unusedSimpArgs false
open Go.RowKit Go.Joins

def hvals (L : List Hd) : List Value := L.flatMap fun h => [Value.string (bs h.1), Value.string (bs h.2)]
theorem hvals_length (L : List Hd) : (hvals L).length = L.length * 2 := by
  induction L with
  | nil => rfl
  | cons h r ih => simp only [hvals, List.flatMap_cons, List.length_append] at ih ⊢; rw [ih]; simp; omega
theorem hvals_snoc (L : List Hd) (h : Hd) : hvals L ++ [.string (bs h.1), .string (bs h.2)] = hvals (L ++ [h]) := by simp [hvals]
theorem hvals_append (L M : List Hd) : hvals L ++ hvals M = hvals (L ++ M) := by simp [hvals]
theorem hvals_at (L : List Hd) (k : Nat) (h : k < L.length) : (hvals L)[k * 2]? = some (.string (bs L[k].1)) ∧ (hvals L)[k * 2 + 1]? = some (.string (bs L[k].2)) := by
  induction L generalizing k with
  | nil => simp at h
  | cons x r ih =>
    have hc : hvals (x :: r) = .string (bs x.1) :: .string (bs x.2) :: hvals r := rfl
    cases k with
    | zero => rw [hc]; simp
    | succ k =>
      have := ih k (by simpa using h)
      rw [hc, show (k + 1) * 2 = k * 2 + 1 + 1 from by omega]
      simpa using this
theorem one_cell_hd (h : Hd) : ∀ u ∈ [Value.string (bs h.1), Value.string (bs h.2)], u.oneCell' = true := by intro u hu; simp at hu; rcases hu with rfl | rfl <;> rfl
theorem cell_two_new (w : World) (x y : Value) (t : TypeId) : ∀ j u, [x, y][j]? = some u → (w.alloc (.cells #[x, y] t)).cell? ((⟨w.heap.size, 0, none⟩ : Addr).add j) = some u := by
  intro j u hj
  match j, hj with
  | 0, hj => simp at hj; subst hj; simp [Addr.add]
  | 1, hj => simp at hj; subst hj; rw [Addr.add_lit]; simp
  | j + 2, hj => simp at hj
end Go.Proofs.Ytpfhmpblcmednaa
