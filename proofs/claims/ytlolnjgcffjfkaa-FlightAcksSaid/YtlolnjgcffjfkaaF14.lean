/- Texts put together: Hi Hh Hj. -/
import Derived.Test.YtlolnjgcffjfkaaF13
import Derived.Laws.StructEq
namespace Go.Proofs.Ytlolnjgcffjfkaa
set_option linter.unusedVariables false
set_option linter.unusedSimpArgs false
open Go.RowKit Go.Joins

def sameHd (x y : Hd) : Bool := decide (x = y)
end Go.Proofs.Ytlolnjgcffjfkaa
namespace Go.Proofs.Ytlolnjgcffjfkaa
set_option linter.unusedVariables false
set_option linter.unusedSimpArgs false
open Go.RowKit Go.Joins

theorem infoS : (Try.prog.info? 9).map (fun i => (i.zero, i.size, i.bytes)) = some (some (.string ByteArray.empty), 1, 16) := by kernel_rfl
def tvals (L : List (List UInt8)) : List Value := L.map fun l => Value.string (bs l)
theorem tvals_length (L : List (List UInt8)) : (tvals L).length = L.length := by simp [tvals]
theorem tvals_snoc (L : List (List UInt8)) (l : List UInt8) : tvals L ++ [.string (bs l)] = tvals (L ++ [l]) := by simp [tvals]
/-- A slice of strings that the call itself has made, holding L. -/
def TB (w : World) (base : Nat) (v : Value) (L : List (List UInt8)) : Prop := w.ownsRow base 9 1 v L.length (tvals L)
theorem TB.nil (w : World) (base : Nat) : TB w base (.slice none 0 0) [] := ⟨rfl, Or.inl ⟨rfl, rfl⟩⟩
theorem TB.reads {w : World} {base : Nat} {v : Value} {L : List (List UInt8)} (h : TB w base v L) : ∃ A cap, v = .slice A L.length cap ∧ STexts w (fun b => base ≤ b ∧ b < w.heap.size) A L := by
  rcases ownsRow_forms h with ⟨rfl, h0⟩ | ⟨g, cap, rfl⟩
  · exact ⟨none, 0, by rw [h0], fun k hk => absurd hk (by omega)⟩
  · refine ⟨some ⟨g, 0, none⟩, cap, rfl, fun k hk => ⟨⟨g, 0, none⟩, rfl, World.ownsRow.lt h g rfl, ?_⟩⟩
    rw [Addr.add_lit, Nat.zero_add, World.ownsRow.cellAt h k (by omega)]
    simp [tvals, hk]
theorem TB.below {w w' : World} {base : Nat} {v : Value} {L : List (List UInt8)} (h : TB w base v L) (hb : Below w.heap.size w w') : TB w' base v L := by
  unfold TB at *
  refine World.ownsRow.kept (row := none) h ⟨hb.os, hb.tape, hb.output, hb.size, fun k hk _ => hb.block k hk⟩ ?_
  by_cases e : v.ownBlock = none
  · exact Or.inl e
  · exact Or.inr e
theorem TB.more {w : World} {base base' : Nat} {v : Value} {L : List (List UInt8)} (h : TB w base v L) (hb : base' ≤ base) : TB w base' v L := by
  refine ⟨h.1, ?_⟩
  rcases h.2 with h2 | ⟨g, cap', cur, e1, e2, e3⟩
  · exact Or.inl h2
  · exact Or.inr ⟨g, cap', cur, e1, Nat.le_trans hb e2, e3⟩
theorem TB.alloc {w : World} {base : Nat} {v : Value} {L : List (List UInt8)} (h : TB w base v L) (o : Obj) : TB (w.alloc o) base v L := h.below ((Below.refl _ _).alloc (Nat.le_refl _) _)
theorem map_take {α β : Type} (f : α → β) (L : List α) (k : Nat) (h : k < L.length) : (L.take (k + 1)).map f = (L.take k).map f ++ [f L[k]] := by
  rw [List.take_succ_eq_append_getElem h, List.map_append]; rfl
/-- A comparison of two lists of headers. -/
theorem hd_ne (a b : Hd) : (a == b) = (a.1 == b.1 && a.2 == b.2) := by cases a; cases b; rfl
end Go.Proofs.Ytlolnjgcffjfkaa
namespace Go.Proofs.Ytlolnjgcffjfkaa
set_option linter.unusedVariables false
set_option linter.unusedSimpArgs false
open Go.RowKit Go.Joins

theorem allS_take (L : List Hd) (n : List UInt8) (k : Nat) (h : k < L.length) : allS (L.take (k + 1)) n = allS (L.take k) n ++ if (L[k].1 == n) = true then [L[k].2] else [] := by
  rw [allS, allS, filter_take _ _ _ h, hasN_one]
  cases hp : (L[k].1 == n) <;> simp
theorem allS_length (L : List Hd) (n : List UInt8) : (allS L n).length ≤ L.length := by rw [allS, List.length_map]; exact List.length_filter_le _ _
theorem setR_step (n v : List UInt8) (met : Bool) (L : List Hd) (k : Nat) (h : k < L.length) :
    setR n v met (L.drop k) = if (L[k].1 == n) = false then L[k] :: setR n v met (L.drop (k + 1)) else if met = true then setR n v met (L.drop (k + 1)) else (n, v) :: setR n v true (L.drop (k + 1)) := by
  rw [List.drop_eq_getElem_cons h, setR]
  by_cases e : L[k].1 = n <;> simp [e]
theorem setR_length (n v : List UInt8) (L : List Hd) : ∀ met, (setR n v met L).length ≤ L.length + 1 := by
  induction L with
  | nil => intro met; cases met <;> simp [setR]
  | cons h r ih =>
    intro met
    rw [setR]
    have := ih met
    have := ih true
    split
    · simp only [List.length_cons]; omega
    · split
      · simp only [List.length_cons]; omega
      · simp only [List.length_cons]; omega
end Go.Proofs.Ytlolnjgcffjfkaa
