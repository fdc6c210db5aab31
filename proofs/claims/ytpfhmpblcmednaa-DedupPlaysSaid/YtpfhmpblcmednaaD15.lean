/- Texts put together: Ev. -/
import Derived.Test.YtpfhmpblcmednaaD03
import Derived.Test.YtpfhmpblcmednaaD10
import Derived.Test.YtpfhmpblcmednaaD14
import Derived.Handy
import Derived.Deep.Cut
namespace Go.Proofs.Ytpfhmpblcmednaa
set_option linter.unusedVariables false
set_option linter.unusedSimpArgs false
open Go.RowKit Go.Joins

theorem enew (w : World) (o : Obj) : Below w.heap.size w (w.alloc o) := (Below.refl _ _).alloc (Nat.le_refl _) _
theorem estep {a b c : World} (h : Below a.heap.size a b) (k : Below b.heap.size b c) : Below a.heap.size a c := h.trans (k.mono h.size)
theorem enot (x : Bool) (w : World) : (Op.unary .not (.bool x)).run Try.prog w = .ok (.bool (!x)) w := rfl
/-- A block of cells. -/
def Bk (w : World) (g : Nat) (t : TypeId) (cs : Array Value) : Prop := w.heap[g]? = some (.cells cs t (0, 0))
section
variable {w w' : World} {g : Nat} {t : TypeId} {cs : Array Value}
theorem Bk.lt (h : Bk w g t cs) : g < w.heap.size := by
  rcases Nat.lt_or_ge g w.heap.size with hlt | hge
  · exact hlt
  · unfold Bk at h; rw [Array.getElem?_eq_none hge] at h; cases h
theorem Bk.cell (h : Bk w g t cs) (i : Nat) : w.cell? ⟨g, i, none⟩ = cs[i]? := cell_of_row w g i cs t (0, 0) h
theorem Bk.frozen (h : Bk w g t cs) (i : Nat) : w.frozen? ⟨g, i, none⟩ = false := by
  unfold Bk at h
  simp [World.frozen?, h]
theorem Bk.new (w : World) (t : TypeId) (cs : Array Value) : Bk (w.alloc (.cells cs t)) w.heap.size t cs := heap_alloc_new w _
theorem Bk.drew (h : Bk w g t cs) : Bk w.drew g t cs := h
theorem Bk.alloc (h : Bk w g t cs) (o : Obj) : Bk (w.alloc o) g t cs := (Below.heap_alloc w o g h.lt).trans h
theorem Bk.set_ (h : Bk w g t cs) (i : Nat) (u : Value) : Bk (w.setCell ⟨g, i, none⟩ u) g t (cs.setIfInBounds i u) := by
  unfold Bk at h ⊢
  simp [World.setCell, Array.getElem?_modify, h]
theorem Bk.below {B : Nat} (h : Bk w g t cs) (hb : Below B w w') (hg : g < B) : Bk w' g t cs := (hb.block g hg).trans h
theorem Bk.up (h : Bk w g t cs) (hb : Below w.heap.size w w') : Bk w' g t cs := h.below hb h.lt
end
/-- A slice of headers, as a value that can be read. -/
def HV (w : World) (x : Value) (L : List Hd) : Prop := ∃ A c, x = .slice A L.length c ∧ HReads w (· < w.heap.size) A L
theorem HV.up {w w' : World} {x : Value} {L : List Hd} (h : HV w x L) (hb : Below w.heap.size w w') : HV w' x L := by
  obtain ⟨A, c, e, h1⟩ := h
  exact ⟨A, c, e, h1.later' hb⟩
/-- The cells of a slice of predicates, in a block that N allows. -/
def PX (w : World) (N : Nat → Prop) (A : Option Addr) (L : List Pd) : Prop :=
  ∀ k (h : k < L.length), ∃ b o, A = some ⟨b, o, none⟩ ∧ N b ∧ w.cell? ⟨b, o + k * 3, none⟩ = some (.int .i64 L[k].k) ∧ w.cell? ⟨b, o + k * 3 + 1, none⟩ = some (.string (bs L[k].n)) ∧ w.cell? ⟨b, o + k * 3 + 2, none⟩ = some (.string (bs L[k].v))
theorem PX.imp {w : World} {N M : Nat → Prop} {A : Option Addr} {L : List Pd} (h : PX w N A L) (hn : ∀ b, N b → M b) : PX w M A L := by
  intro k hk
  obtain ⟨b, o, e, h1, h2⟩ := h k hk
  exact ⟨b, o, e, hn _ h1, h2⟩
theorem PX.same {w w' : World} {N : Nat → Prop} {A : Option Addr} {L : List Pd} (h : PX w N A L) (hs : ∀ b, N b → w'.heap[b]? = w.heap[b]?) : PX w' N A L := by
  intro k hk
  obtain ⟨b, o, e, h1, c0, c1, c2⟩ := h k hk
  have hx : ∀ i, w'.cell? ⟨b, i, none⟩ = w.cell? ⟨b, i, none⟩ := fun i => World.cell?_of_block (hs b h1)
  exact ⟨b, o, e, h1, (hx _).trans c0, (hx _).trans c1, (hx _).trans c2⟩
theorem PX.up {w w' : World} {A : Option Addr} {L : List Pd} (h : PX w (· < w.heap.size) A L) (hb : Below w.heap.size w w') : PX w' (· < w'.heap.size) A L :=
  (h.same fun b hB => hb.block b hB).imp fun b hB => Nat.lt_of_lt_of_le hB hb.size
theorem PX.nil (w : World) (N : Nat → Prop) (A : Option Addr) : PX w N A [] := fun k hk => absurd hk (by simp)
/-- A slice of predicates, as a value that can be read. -/
def PV (w : World) (N : Nat → Prop) (x : Value) (L : List Pd) : Prop := ∃ A c, x = .slice A L.length c ∧ PX w N A L ∧ (A = none → c = 0) ∧ L.length ≤ c ∧ L.length ≤ 9223372036854775807
theorem PV.imp {w : World} {N M : Nat → Prop} {x : Value} {L : List Pd} (h : PV w N x L) (hn : ∀ b, N b → M b) : PV w M x L := by
  obtain ⟨A, c, e, h1, h2⟩ := h
  exact ⟨A, c, e, h1.imp hn, h2⟩
theorem PV.same {w w' : World} {N : Nat → Prop} {x : Value} {L : List Pd} (h : PV w N x L) (hs : ∀ b, N b → w'.heap[b]? = w.heap[b]?) : PV w' N x L := by
  obtain ⟨A, c, e, h1, h2⟩ := h
  exact ⟨A, c, e, h1.same hs, h2⟩
theorem PV.up {w w' : World} {x : Value} {L : List Pd} (h : PV w (· < w.heap.size) x L) (hb : Below w.heap.size w w') : PV w' (· < w'.heap.size) x L := by
  obtain ⟨A, c, e, h1, h2⟩ := h
  exact ⟨A, c, e, h1.up hb, h2⟩
theorem PV.nil (w : World) (N : Nat → Prop) : PV w N (.slice none 0 0) [] := ⟨none, 0, rfl, PX.nil _ _ _, fun _ => rfl, Nat.le_refl _, by simp⟩
end Go.Proofs.Ytpfhmpblcmednaa
