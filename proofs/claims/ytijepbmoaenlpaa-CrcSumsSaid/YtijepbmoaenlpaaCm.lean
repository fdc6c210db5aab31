import Derived.Test.YtijepbmoaenlpaaCs
import Derived.Test.YtijepbmoaenlpaaSh
namespace Go.Proofs.Ytijepbmoaenlpaa
set_option linter.unusedVariables false
open Go.RowKit
/-- A machine's cells. -/
def arrF (F : Nat → Value) : Array Value := Array.ofFn (n := 261) (fun i => F i.val)
theorem arrF_size (F : Nat → Value) : (arrF F).size = 261 := by simp [arrF]
theorem arrF_at (F : Nat → Value) {i : Nat} (h : i < 261) : (arrF F)[i]? = some (F i) := by simp [arrF, h]
theorem arrF_set (F G : Nat → Value) (i : Nat) (u : Value) (h : ∀ j, j < 261 → G j = if j = i then u else F j) : (arrF F).setIfInBounds i u = arrF G := by
  apply Array.ext
  · simp [arrF]
  · intro j h1 h2
    have hj : j < 261 := by simpa [arrF] using h2
    rw [Array.getElem_setIfInBounds]
    · simp only [arrF, Array.getElem_ofFn, h j hj]
      by_cases e : j = i
      · simp [e]
      · simp [e, Ne.symm e]
    · simpa [arrF] using hj
def mF (d st made n : Int) (k : Nat) (j : Nat) : Value :=
  if j = 0 then .int .u32 d else if j = 1 then .int .i32 st else if j = 2 then .int .u32 0 else if j < 259 then .int .u32 (if j - 3 < k then (tab (j - 3) : Nat) else 0 : Int) else if j = 259 then .int .i64 made else .int .i64 n
def Mc (w : World) (g : Nat) (d st made n : Int) (k : Nat) : Prop := Blk w g 77 (arrF (mF d st made n k))
section
variable {w : World} {g : Nat} {d st made n : Int} {k : Nat}
theorem Mc.c0 (h : Mc w g d st made n k) : w.cell? ⟨g, 0, none⟩ = some (.int .u32 d) := by rw [Blk.cell h, arrF_at _ (by omega)]; rfl
theorem Mc.c1 (h : Mc w g d st made n k) : w.cell? ⟨g, 1, none⟩ = some (.int .i32 st) := by rw [Blk.cell h, arrF_at _ (by omega)]; rfl
theorem Mc.cm (h : Mc w g d st made n k) : w.cell? ⟨g, 259, none⟩ = some (.int .i64 made) := by rw [Blk.cell h, arrF_at _ (by omega)]; rfl
theorem Mc.cn (h : Mc w g d st made n k) : w.cell? ⟨g, 260, none⟩ = some (.int .i64 n) := by rw [Blk.cell h, arrF_at _ (by omega)]; rfl
theorem Mc.ct (h : Mc w g d st made n k) {j : Nat} (hj : j < 256) : w.cell? ⟨g, 3 + j, none⟩ = some (.int .u32 (if j < k then (tab j : Nat) else 0 : Int)) := by
  rw [Blk.cell h, arrF_at _ (by omega)]
  simp only [mF]
  rw [if_neg (by omega), if_neg (by omega), if_neg (by omega), if_pos (by omega), show 3 + j - 3 = j from by omega]
theorem Mc.free (h : Mc w g d st made n k) (i : Nat) : w.frozen? ⟨g, i, none⟩ = false := Blk.frozen h i
theorem Mc.set0 (h : Mc w g d st made n k) (x : Int) : Mc (w.setCell ⟨g, 0, none⟩ (.int .u32 x)) g x st made n k := by
  have := Blk.set_ h 0 (.int .u32 x)
  rwa [arrF_set _ (mF x st made n k) 0 _ (fun j _ => by unfold mF; split <;> simp_all)] at this
theorem Mc.set1 (h : Mc w g d st made n k) (x : Int) : Mc (w.setCell ⟨g, 1, none⟩ (.int .i32 x)) g d x made n k := by
  have := Blk.set_ h 1 (.int .i32 x)
  rwa [arrF_set _ (mF d x made n k) 1 _ (fun j _ => by unfold mF; split <;> (try split) <;> simp_all)] at this
theorem Mc.setm (h : Mc w g d st made n k) (x : Int) : Mc (w.setCell ⟨g, 259, none⟩ (.int .i64 x)) g d st x n k := by
  have := Blk.set_ h 259 (.int .i64 x)
  rwa [arrF_set _ (mF d st x n k) 259 _ (fun j _ => by unfold mF; (repeat' split) <;> first | rfl | omega)] at this
theorem Mc.setn (h : Mc w g d st made n k) (x : Int) : Mc (w.setCell ⟨g, 260, none⟩ (.int .i64 x)) g d st made x k := by
  have := Blk.set_ h 260 (.int .i64 x)
  rwa [arrF_set _ (mF d st made x k) 260 _ (fun j _ => by unfold mF; (repeat' split) <;> first | rfl | omega)] at this
theorem Mc.sett (h : Mc w g d st made n k) (hk : k < 256) : Mc (w.setCell ⟨g, 3 + k, none⟩ (.int .u32 (tab k : Nat))) g d st made n (k + 1) := by
  have := Blk.set_ h (3 + k) (.int .u32 (tab k : Nat))
  rwa [arrF_set _ (mF d st made n (k + 1)) (3 + k) _ (fun j _ => by
    unfold mF
    by_cases e : j = 3 + k
    · subst e; rw [if_neg (by omega), if_neg (by omega), if_neg (by omega), if_pos (by omega), if_pos (by omega), if_pos rfl, show 3 + k - 3 = k from by omega]
    · rw [if_neg e]
      (repeat' split) <;> first | rfl | omega)] at this
theorem Mc.drew (h : Mc w g d st made n k) : Mc w.drew g d st made n k := h
theorem Mc.drewN (h : Mc w g d st made n k) (m : Nat) : Mc (w.drewN m) g d st made n k := h
theorem Mc.lt (h : Mc w g d st made n k) : g < w.heap.size := Blk.lt h
theorem Mc.below {w' : World} {B : Nat} (h : Mc w g d st made n k) (hb : Below B w w') (hg : g < B) : Mc w' g d st made n k := Blk.below h hb hg
end
/-- Nothing that was is another, but block g. -/
structure Only (g : Nat) (w w' : World) : Prop where
  os : w'.os = w.os
  tape : w'.tape = w.tape
  output : w'.output = w.output
  size : w.heap.size ≤ w'.heap.size
  block : ∀ k, k < w.heap.size → k ≠ g → w'.heap[k]? = w.heap[k]?
theorem Only.refl (g : Nat) (w : World) : Only g w w := ⟨rfl, rfl, rfl, Nat.le_refl _, fun _ _ _ => rfl⟩
theorem Only.trans {g : Nat} {a b c : World} (h : Only g a b) (k : Only g b c) : Only g a c :=
  ⟨k.os.trans h.os, k.tape.trans h.tape, k.output.trans h.output, Nat.le_trans h.size k.size, fun j hj hn => (k.block j (Nat.lt_of_lt_of_le hj h.size) hn).trans (h.block j hj hn)⟩
theorem Only.set {g : Nat} {a b : World} (h : Only g a b) (i : Nat) (u : Value) : Only g a (b.setCell ⟨g, i, none⟩ u) :=
  h.trans ⟨rfl, rfl, rfl, by simp [World.setCell], fun k _ hn => Below.heap_setCell b ⟨g, i, none⟩ u k hn⟩
theorem Only.drew {g : Nat} {a b : World} (h : Only g a b) : Only g a b.drew := ⟨h.os, h.tape, h.output, h.size, h.block⟩
theorem Only.drewN {g : Nat} {a b : World} (h : Only g a b) (n : Nat) : Only g a (b.drewN n) := ⟨h.os, h.tape, h.output, h.size, h.block⟩
theorem Only.alloc {g : Nat} {a b : World} (h : Only g a b) (o : Obj) : Only g a (b.alloc o) :=
  h.trans ⟨rfl, rfl, rfl, by simp, fun k hk _ => Below.heap_alloc b o k hk⟩
theorem Only.of_below {g B : Nat} {a b : World} (h : Below B a b) (hB : a.heap.size ≤ B) : Only g a b := ⟨h.os, h.tape, h.output, h.size, fun k hk _ => h.block k (by omega)⟩
theorem Only.below {g B : Nat} {a b c : World} (h : Below B a b) (o : Only g b c) (hg : B ≤ g) (hB : B ≤ b.heap.size) : Below B a c :=
  h.trans ⟨o.os, o.tape, o.output, o.size, fun k hk => o.block k (by omega) (by omega)⟩
theorem Only.cell {g : Nat} {a b : World} (h : Only g a b) {p : Addr} {v : Value} (hc : a.cell? p = some v) (hn : p.block ≠ g) : b.cell? p = some v :=
  (World.cell?_of_block (h.block p.block (lt_of_cell hc) hn)).trans hc
theorem zeroCells_eq : Try.zeroCells77 = arrF (mF 0 0 0 0 0) := by kernel_rfl
theorem cnew_any (w : World) :
    Calls Try.prog 16 #[] w fun e w' => e = .returned (.pointer (some ⟨w.heap.size, 0, none⟩)) ∧ Mc w' w.heap.size 0 0 0 0 0 ∧ Below w.heap.size w w' := by
  go_enter Try.func16, Try.ntmps16
  go_wp2
  go_ret
  refine ⟨rfl, ?_, (Below.refl _ _).alloc (Nat.le_refl _) _⟩
  rw [zeroCells_eq]
  exact Blk.new _ _ _
end Go.Proofs.Ytijepbmoaenlpaa
