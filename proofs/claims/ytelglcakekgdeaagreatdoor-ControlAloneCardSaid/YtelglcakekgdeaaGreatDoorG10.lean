/- Texts put together: Mc Md. -/
import Derived.Test.YtelglcakekgdeaaGreatDoorG03
import Derived.Test.YtelglcakekgdeaaGreatDoorG09
namespace Go.Proofs.YtelglcakekgdeaaGreatDoor
set_option linter.unusedVariables false
set_option linter.unusedSimpArgs false
open Go.RowKit

/-- Few and short enough to be written. -/
def Small (L : List Hd) : Prop := L.length ≤ 16 ∧ ∀ h ∈ L, h.1.length ≤ 32 ∧ h.2.length ≤ 64
theorem small_of {L : List Hd} (h : checkS L = 0) : Small L := by
  obtain ⟨h1, h2⟩ := checkS_ok h
  refine ⟨h1, fun x hx => ?_⟩
  obtain ⟨a, b⟩ := h2 x hx
  simp only [nameB, valueB, Bool.and_eq_true, decide_eq_true_eq] at a b
  exact ⟨a.2.1, b.1⟩
theorem headsT_take (L : List Hd) (k : Nat) (h : k < L.length) : headsT (L.take (k + 1)) = headsT (L.take k) ++ headT L[k] := by
  rw [List.take_succ_eq_append_getElem h, headsT, headsT, List.flatMap_append]; simp
theorem headsT_len (L : List Hd) (hs : ∀ h ∈ L, h.1.length ≤ 32 ∧ h.2.length ≤ 64) : (headsT L).length ≤ 99 * L.length := by
  induction L with
  | nil => simp [headsT]
  | cons x r ih =>
    have := ih (fun h hh => hs h (by simp [hh]))
    obtain ⟨a, b⟩ := hs x (by simp)
    have e : headsT (x :: r) = headT x ++ headsT r := by simp [headsT]
    rw [e, List.length_append, headT]
    simp; omega
end Go.Proofs.YtelglcakekgdeaaGreatDoor
namespace Go.Proofs.YtelglcakekgdeaaGreatDoor
set_option linter.unusedVariables false
set_option linter.unusedSimpArgs false
open Go.RowKit

def wrQ (m h p : List UInt8) (L : List Hd) (b : List UInt8) : List UInt8 × Int := if chkQ m h p L b = 0 then (textQ m h p L b, 0) else ([], chkQ m h p L b)
theorem keep_five {w1 w' : World} {g : Nat} {x0 x1 x2 x3 x4 : Value} (h : w1.cell? ⟨g, 0, none⟩ = some x0 ∧ w1.cell? ⟨g, 1, none⟩ = some x1 ∧ w1.cell? ⟨g, 2, none⟩ = some x2 ∧ w1.cell? ⟨g, 3, none⟩ = some x3 ∧ w1.cell? ⟨g, 4, none⟩ = some x4) (hb : Below w1.heap.size w1 w') :
    w'.cell? ⟨g, 0, none⟩ = some x0 ∧ w'.cell? ⟨g, 1, none⟩ = some x1 ∧ w'.cell? ⟨g, 2, none⟩ = some x2 ∧ w'.cell? ⟨g, 3, none⟩ = some x3 ∧ w'.cell? ⟨g, 4, none⟩ = some x4 ∧ Below w1.heap.size w1 w' :=
  ⟨(hb.cell (lt_of_cell h.1)).trans h.1, (hb.cell (lt_of_cell h.2.1)).trans h.2.1, (hb.cell (lt_of_cell h.2.2.1)).trans h.2.2.1, (hb.cell (lt_of_cell h.2.2.2.1)).trans h.2.2.2.1, (hb.cell (lt_of_cell h.2.2.2.2)).trans h.2.2.2.2, hb⟩
theorem five_new (w : World) (x0 x1 x2 x3 x4 : Value) (t : TypeId) :
    (w.alloc (.cells #[x0, x1, x2, x3, x4] t)).cell? ⟨w.heap.size, 0, none⟩ = some x0 ∧ (w.alloc (.cells #[x0, x1, x2, x3, x4] t)).cell? ⟨w.heap.size, 1, none⟩ = some x1 ∧ (w.alloc (.cells #[x0, x1, x2, x3, x4] t)).cell? ⟨w.heap.size, 2, none⟩ = some x2 ∧ (w.alloc (.cells #[x0, x1, x2, x3, x4] t)).cell? ⟨w.heap.size, 3, none⟩ = some x3 ∧ (w.alloc (.cells #[x0, x1, x2, x3, x4] t)).cell? ⟨w.heap.size, 4, none⟩ = some x4 :=
  ⟨by simp, by simp, by simp, by simp, by simp⟩
theorem lens_ok {m h p : List UInt8} {L : List Hd} {b : List UInt8} (hc : chkQ m h p L b = 0) : m.length ≤ 8 ∧ h.length ≤ 32 ∧ p.length ≤ 64 ∧ Small L ∧ b.length ≤ 200 := by
  obtain ⟨h1, h2, h3, h4, h5⟩ := chk5_ok (q := (m, h, p, L, b)) hc
  simp only [methodB, nameB, pathB, Bool.and_eq_true, decide_eq_true_eq] at h1 h2 h3
  exact ⟨h1.2.1, h2.2.1, h3.2.1, small_of h4, h5⟩
theorem tailT_len {L : List Hd} {b : List UInt8} (hs : Small L) (hb : b.length ≤ 200) : (tailT L b).length ≤ 1785 := by
  have := headsT_len L hs.2
  have := hs.1
  rw [tailT, List.length_append, List.length_append]; simp; omega
end Go.Proofs.YtelglcakekgdeaaGreatDoor
