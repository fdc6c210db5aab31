/- Texts put together: Ei. -/
import Derived.Test.YtingjembjpckcaaG14
import Derived.Test.YtingjembjpckcaaG15
import Derived.Deep.RegionHeld3
namespace Go.Proofs.Ytingjembjpckcaa
set_option linter.unusedVariables false
set_option linter.unusedSimpArgs false
open Go.RowKit Go.Joins

def encP (e : Pd) : List Value := [.int .i64 e.k, .string (bs e.n), .string (bs e.v)]
theorem encP_len (e : Pd) : (encP e).length = 3 := rfl
theorem rowP : RowT Try.prog encP 3 47 53 (.agg #[.int .i64 0, .string ByteArray.empty, .string ByteArray.empty]) 40 where
  ht := Try.underlying47
  inf := by kernel_rfl
  hzs := rfl
  k0 := by decide
  hk := encP_len
  h1 := fun x u hu => by
    simp [encP] at hu
    rcases hu with rfl | rfl | rfl <;> rfl
  hb := by decide
theorem PX.gx {w : World} {N : Nat → Prop} {A : Option Addr} {L : List Pd} (h : PX w N A L) : GX encP 3 w N A L := by
  intro i hi
  obtain ⟨b, o, e, h1, c0, c1, c2⟩ := h i hi
  refine ⟨b, o, e, h1, fun j hj => ?_⟩
  match j, hj with
  | 0, _ => exact c0
  | 1, _ => rw [← Nat.add_assoc]; exact c1
  | 2, _ => rw [← Nat.add_assoc]; exact c2
theorem GX.px {w : World} {N : Nat → Prop} {A : Option Addr} {L : List Pd} (h : GX encP 3 w N A L) : PX w N A L := by
  intro i hi
  obtain ⟨b, o, e, h1, h2⟩ := h i hi
  refine ⟨b, o, e, h1, ?_, ?_, ?_⟩
  · exact h2 0 (by omega)
  · rw [Nat.add_assoc]; exact h2 1 (by omega)
  · rw [Nat.add_assoc]; exact h2 2 (by omega)
theorem keepBP {w v w' : World} {g : Nat} {k : Int} {n s : List UInt8} (h : BP v g k n s) (hz : Below v.heap.size v w') : w'.cell? ⟨g, 0, none⟩ = some (.int .i64 k) ∧ w'.cell? ⟨g, 1, none⟩ = some (.string (bs n)) ∧ w'.cell? ⟨g, 2, none⟩ = some (.string (bs s)) ∧ Below v.heap.size v w' := by
  obtain ⟨a, b, c⟩ := (h.up hz).cells
  exact ⟨a, b, c, hz⟩
theorem keepPQ {v w' : World} {g g2 : Nat} {k : Int} {n s m h p b : List UInt8} {x : Value} (h1 : BP v g k n s) (h2 : BQ v g2 m h p x b) (hz : Below v.heap.size v w') :
    w'.cell? ⟨g, 0, none⟩ = some (.int .i64 k) ∧ w'.cell? ⟨g, 1, none⟩ = some (.string (bs n)) ∧ w'.cell? ⟨g, 2, none⟩ = some (.string (bs s)) ∧ w'.cell? ⟨g2, 0, none⟩ = some (.string (bs m)) ∧ w'.cell? ⟨g2, 1, none⟩ = some (.string (bs h)) ∧ w'.cell? ⟨g2, 2, none⟩ = some (.string (bs p)) ∧ w'.cell? ⟨g2, 3, none⟩ = some x ∧ w'.cell? ⟨g2, 4, none⟩ = some (.string (bs b)) ∧ Below v.heap.size v w' := by
  obtain ⟨a, b, c⟩ := (h1.up hz).cells
  obtain ⟨q0, q1, q2, q3, q4⟩ := (h2.up hz).cells
  exact ⟨a, b, c, q0, q1, q2, q3, q4, hz⟩
end Go.Proofs.Ytingjembjpckcaa
