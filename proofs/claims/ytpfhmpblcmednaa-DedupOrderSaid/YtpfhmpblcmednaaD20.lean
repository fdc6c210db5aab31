/- Texts put together: Rw. -/
import Derived.Test.YtpfhmpblcmednaaD01
import Derived.Test.YtpfhmpblcmednaaD16
import Derived.Shelf.SlicesQ.Load
import Derived.Shelf.SlSortCmp.QuietGrown
import Derived.Deep.LoopGhost
import Derived.Deep.Cut
namespace Go.Proofs.Ytpfhmpblcmednaa
set_option linter.unusedVariables false
set_option linter.unusedSimpArgs false
open Go.RowKit Go.Sort Go.Proofs

/-- Nothing that was is another, but block g. -/
structure Onl (g : Nat) (w w' : World) : Prop where
  os : w'.os = w.os
  tape : w'.tape = w.tape
  output : w'.output = w.output
  size : w.heap.size ≤ w'.heap.size
  block : ∀ k, k < w.heap.size → k ≠ g → w'.heap[k]? = w.heap[k]?
theorem Onl.refl (g : Nat) (w : World) : Onl g w w := ⟨rfl, rfl, rfl, Nat.le_refl _, fun _ _ _ => rfl⟩
theorem Onl.trans {g : Nat} {a b c : World} (h : Onl g a b) (k : Onl g b c) : Onl g a c :=
  ⟨k.os.trans h.os, k.tape.trans h.tape, k.output.trans h.output, Nat.le_trans h.size k.size, fun j hj hn => (k.block j (Nat.lt_of_lt_of_le hj h.size) hn).trans (h.block j hj hn)⟩
theorem Onl.drew {g : Nat} {a b : World} (h : Onl g a b) : Onl g a b.drew := ⟨h.os, h.tape, h.output, h.size, h.block⟩
theorem Onl.drewN {g : Nat} {a b : World} (h : Onl g a b) (n : Nat) : Onl g a (b.drewN n) := ⟨h.os, h.tape, h.output, h.size, h.block⟩
theorem Onl.grow {g : Nat} {a b : World} (h : Onl g a b) (os : Array Obj) : Onl g a (Sort.grow b os) :=
  h.trans ⟨rfl, rfl, rfl, by rw [size_grow]; omega, fun k hk _ => by
    show (b.heap ++ os)[k]? = b.heap[k]?
    rw [Array.getElem?_append_left hk]⟩
theorem Onl.sets {g : Nat} {a b : World} (h : Onl g a b) (o : Nat) (vs : List Value) : Onl g a (b.setCells g o vs) := by
  have hkp := World.keptBut_setCells g (may := fun _ => True) vs o b (fun _ _ => trivial)
  have : ∀ (vs : List Value) (o : Nat) (b : World), (b.setCells g o vs).heap.size = b.heap.size ∧ (b.setCells g o vs).tape = b.tape ∧ (b.setCells g o vs).os = b.os ∧ (b.setCells g o vs).output = b.output ∧ ∀ k, k ≠ g → (b.setCells g o vs).heap[k]? = b.heap[k]? := by
    intro vs
    induction vs with
    | nil => intro o b; exact ⟨rfl, rfl, rfl, rfl, fun _ _ => rfl⟩
    | cons v r ih =>
      intro o b
      obtain ⟨i1, i2, i3, i4, i5⟩ := ih (o + 1) (b.setCell ⟨g, o, none⟩ v)
      refine ⟨by rw [World.setCells, i1, World.size_setCell], by rw [World.setCells, i2]; rfl, by rw [World.setCells, i3]; rfl, by rw [World.setCells, i4]; rfl, fun k hk => ?_⟩
      rw [World.setCells, i5 k hk]
      exact Below.heap_setCell b ⟨g, o, none⟩ v k hk
  obtain ⟨i1, i2, i3, i4, i5⟩ := this vs o b
  exact h.trans ⟨i3, i2, i4, by omega, fun k _ hn => i5 k hn⟩
theorem Onl.of_below {g B : Nat} {a b : World} (h : Below B a b) (hB : a.heap.size ≤ B) : Onl g a b := ⟨h.os, h.tape, h.output, h.size, fun k hk _ => h.block k (by omega)⟩
section
variable {α : Type} (enc : α → List Value) (k : Nat)
/-- The row: block g, from o on, holds L. -/
def GW (w : World) (g o : Nat) (L : List α) : Prop := g < w.heap.size ∧ ∀ t, t < L.length * k → w.cell? ⟨g, o + t, none⟩ = (gvals enc L)[t]? ∧ w.frozen? ⟨g, o + t, none⟩ = false
end
section
variable {α : Type} {enc : α → List Value} {k : Nat}
theorem GW.drewN {w : World} {g o : Nat} {L : List α} (h : GW enc k w g o L) (n : Nat) : GW enc k (w.drewN n) g o L := h
theorem GW.drew {w : World} {g o : Nat} {L : List α} (h : GW enc k w g o L) : GW enc k w.drew g o L := h
theorem GW.same {w w' : World} {g o : Nat} {L : List α} (h : GW enc k w g o L) (hs : w'.heap[g]? = w.heap[g]?) (hz : w.heap.size ≤ w'.heap.size) : GW enc k w' g o L :=
  ⟨Nat.lt_of_lt_of_le h.1 hz, fun t ht => ⟨(World.cell?_of_block (a := ⟨g, o + t, none⟩) hs).trans (h.2 t ht).1, (World.frozen?_of_block (a := ⟨g, o + t, none⟩) hs).trans (h.2 t ht).2⟩⟩
theorem GW.grow {w : World} {g o : Nat} {L : List α} (h : GW enc k w g o L) (os : Array Obj) : GW enc k (Sort.grow w os) g o L :=
  h.same (by show (w.heap ++ os)[g]? = w.heap[g]?; rw [Array.getElem?_append_left h.1]) (by rw [size_grow]; omega)
theorem GW.grown {w : World} {g o : Nat} {L : List α} (h : GW enc k w g o L) (n : Nat) (os : Array Obj) : GW enc k (Sort.grow (w.drewN n) os) g o L := (h.drewN n).grow os
theorem GW.cells {w : World} {g o : Nat} {L : List α} (hk : ∀ x, (enc x).length = k) (h : GW enc k w g o L) {i : Nat} {x : α} (hx : L[i]? = some x) :
    ∀ c v, (enc x)[c]? = some v → w.cell? ((⟨g, o + i * k, none⟩ : Addr).add c) = some v := fun c v hv => by
  obtain ⟨hi, rfl⟩ := List.getElem?_eq_some_iff.1 hx
  have hc : c < k := by have := (List.getElem?_eq_some_iff.1 hv).1; rwa [hk] at this
  have hlt : i * k + c < L.length * k := by
    have := Nat.mul_le_mul_right k (show i + 1 ≤ L.length from hi); rw [Nat.add_mul, Nat.one_mul] at this; omega
  rw [Addr.add_lit, Nat.add_assoc, (h.2 _ hlt).1, gvals_at enc k hk L i hi c hc, hv]
theorem GW.load {P : Program} {w : World} {g o : Nat} {L : List α} (hk : ∀ x, (enc x).length = k) (h : GW enc k w g o L) {i : Nat} {x : α} (hx : L[i]? = some x) :
    Sem.run P (loadCellsFrom ⟨g, o + i * k, none⟩ 0 k #[]) w = .ok (enc x).toArray w := run_loadCellsFrom_list P _ _ _ k (hk x) (h.cells hk hx)
theorem idx_lt {L : List α} {i t : Nat} (hi : i < L.length) (ht : t < k) : i * k + t < L.length * k := by
  have := Nat.mul_le_mul_right k (show i + 1 ≤ L.length from hi); rw [Nat.add_mul, Nat.one_mul] at this; omega
theorem GW.store {P : Program} {w : World} {g o : Nat} {L : List α} (hk : ∀ x, (enc x).length = k) (h1 : ∀ x, ∀ v ∈ enc x, v.oneCell' = true) (h : GW enc k w g o L) {i : Nat} (hi : i < L.length) (x : α) :
    Sem.run P (storeCells ⟨g, o + i * k, none⟩ (enc x) 0) w = .ok () (w.setCells g (o + i * k) (enc x)) := by
  have := run_storeCells_cells (P := P) g (o + i * k) (enc x) 0 w (fun c hc => by
    rw [hk] at hc
    have hlt := idx_lt (k := k) hi hc
    rw [Nat.add_zero, Nat.add_assoc, (h.2 _ hlt).1, List.getElem?_eq_getElem (by rw [gvals_len enc k hk]; exact hlt)]; rfl) (fun c hc => by
    rw [hk] at hc
    rw [Nat.add_zero, Nat.add_assoc]; exact (h.2 _ (idx_lt (k := k) hi hc)).2) (h1 x)
  rwa [Nat.add_zero] at this
theorem sets_size (g : Nat) : ∀ (vs : List Value) (o : Nat) (w : World), (w.setCells g o vs).heap.size = w.heap.size
  | [], _, _ => rfl
  | v :: r, o, w => by rw [World.setCells, sets_size g r, World.size_setCell]
theorem GW.set_ {w : World} {g o : Nat} {L : List α} (hk : ∀ x, (enc x).length = k) (h : GW enc k w g o L) {i : Nat} (hi : i < L.length) (x : α) : GW enc k (w.setCells g (o + i * k) (enc x)) g o (L.set i x) := by
  refine ⟨by rw [sets_size]; exact h.1, fun t ht => ?_⟩
  rw [List.length_set] at ht
  rw [World.frozen?_setCells, gvals_set enc k hk L i hi x t ht]
  refine ⟨?_, (h.2 t ht).2⟩
  by_cases hin : i * k ≤ t ∧ t < i * k + k
  · rw [if_pos hin]
    have := World.cell?_setCells_in g (enc x) (o + i * k) w (fun j hj => by
      rw [hk] at hj
      have hlt := idx_lt (k := k) hi hj
      rw [Nat.add_assoc, (h.2 _ hlt).1, List.getElem?_eq_getElem (by rw [gvals_len enc k hk]; exact hlt)]; rfl) (t - i * k) (by rw [hk]; omega)
    rw [show o + i * k + (t - i * k) = o + t by omega] at this
    rw [this, List.getElem?_eq_getElem (by rw [hk]; omega)]
  · rw [if_neg hin, World.cell?_setCells_out g (enc x) (o + i * k) w ⟨g, o + t, none⟩ (fun _ _ => by
      rw [hk]
      show o + t < o + i * k ∨ o + i * k + k ≤ o + t
      omega)]
    exact (h.2 t ht).1
end
end Go.Proofs.Ytpfhmpblcmednaa
