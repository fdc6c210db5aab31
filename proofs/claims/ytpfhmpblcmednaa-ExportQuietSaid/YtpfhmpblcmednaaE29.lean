/- Texts put together: Cm. -/
import Derived.Test.YtpfhmpblcmednaaE28
import Derived.Test.YtpfhmpblcmednaaE05
namespace Go.Proofs.Ytpfhmpblcmednaa
set_option linter.unusedVariables false
open Go.RowKit
/-- A machine's cells. -/
def arrF (F : Nat → Value) : Array Value := Array.ofFn (n := 261) (fun i => F i.val)
theorem arrF_size (F : Nat → Value) : (arrF F).size = 261 := by simp [arrF]
theorem arrF_at (F : Nat → Value) {i : Nat} (h : i < 261) : (arrF F)[i]? = some (F i) := by simp [arrF, h]
theorem arrF_set (F G : Nat → Value) (i : Nat) (u : Value) (h : ∀ j, j < 261 → G j = if j = i then u else F j) : (arrF F).setIfInBounds i u = arrF G := by
  apply Array.ext
  · simp [arrF]
  · intro j h1 h2
    have hj : j < 261 := by simpa [arrF] using h2
    rw [Array.getElem_setIfInBounds]
    · simp only [arrF, Array.getElem_ofFn, h j hj]
      by_cases e : j = i
      · simp [e]
      · simp [e, Ne.symm e]
    · simpa [arrF] using hj
def mF (d st made n : Int) (k : Nat) (j : Nat) : Value :=
  if j = 0 then .int .u32 d else if j = 1 then .int .i32 st else if j = 2 then .int .u32 0 else if j < 259 then .int .u32 (if j - 3 < k then (tab (j - 3) : Nat) else 0 : Int) else if j = 259 then .int .i64 made else .int .i64 n
section
variable {w : World} {g : Nat} {d st made n : Int} {k : Nat}
end
/-- Nothing that was is another, but block g. -/
structure Only (g : Nat) (w w' : World) : Prop where
  os : w'.os = w.os
  tape : w'.tape = w.tape
  output : w'.output = w.output
  size : w.heap.size ≤ w'.heap.size
  block : ∀ k, k < w.heap.size → k ≠ g → w'.heap[k]? = w.heap[k]?
theorem Only.refl (g : Nat) (w : World) : Only g w w := ⟨rfl, rfl, rfl, Nat.le_refl _, fun _ _ _ => rfl⟩
theorem Only.trans {g : Nat} {a b c : World} (h : Only g a b) (k : Only g b c) : Only g a c :=
  ⟨k.os.trans h.os, k.tape.trans h.tape, k.output.trans h.output, Nat.le_trans h.size k.size, fun j hj hn => (k.block j (Nat.lt_of_lt_of_le hj h.size) hn).trans (h.block j hj hn)⟩
theorem Only.set {g : Nat} {a b : World} (h : Only g a b) (i : Nat) (u : Value) : Only g a (b.setCell ⟨g, i, none⟩ u) :=
  h.trans ⟨rfl, rfl, rfl, by simp [World.setCell], fun k _ hn => Below.heap_setCell b ⟨g, i, none⟩ u k hn⟩
theorem Only.drew {g : Nat} {a b : World} (h : Only g a b) : Only g a b.drew := ⟨h.os, h.tape, h.output, h.size, h.block⟩
theorem Only.drewN {g : Nat} {a b : World} (h : Only g a b) (n : Nat) : Only g a (b.drewN n) := ⟨h.os, h.tape, h.output, h.size, h.block⟩
theorem Only.alloc {g : Nat} {a b : World} (h : Only g a b) (o : Obj) : Only g a (b.alloc o) :=
  h.trans ⟨rfl, rfl, rfl, by simp, fun k hk _ => Below.heap_alloc b o k hk⟩
theorem Only.of_below {g B : Nat} {a b : World} (h : Below B a b) (hB : a.heap.size ≤ B) : Only g a b := ⟨h.os, h.tape, h.output, h.size, fun k hk _ => h.block k (by omega)⟩
theorem Only.below {g B : Nat} {a b c : World} (h : Below B a b) (o : Only g b c) (hg : B ≤ g) (hB : B ≤ b.heap.size) : Below B a c :=
  h.trans ⟨o.os, o.tape, o.output, o.size, fun k hk => o.block k (by omega) (by omega)⟩
theorem Only.cell {g : Nat} {a b : World} (h : Only g a b) {p : Addr} {v : Value} (hc : a.cell? p = some v) (hn : p.block ≠ g) : b.cell? p = some v :=
  (World.cell?_of_block (h.block p.block (lt_of_cell hc) hn)).trans hc
end Go.Proofs.Ytpfhmpblcmednaa
