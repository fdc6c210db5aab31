/- Slices of texts in blocks that a predicate allows; texts as rows of one cell. -/
import Derived.Test.YtldilhbomilcpaaSy
namespace Go.Proofs.Ytldilhbomilcpaa
set_option linter.unusedVariables false
set_option linter.unusedSimpArgs false
open Go.RowKit Go.Joins

/-- The blocks that M allows, of those that are. -/
def In (M : Nat → Prop) (w : World) : Nat → Prop := fun b => b < w.heap.size ∧ M b
/-- A slice of texts that can be read, in blocks that M allows. -/
def TM (w : World) (M : Nat → Prop) (y : Value) (l : List (List UInt8)) : Prop := TX w (In M w) y l
theorem STexts.same {w w' : World} {N : Nat → Prop} {A : Option Addr} {L : List (List UInt8)} (h : STexts w N A L) (hs : ∀ b, N b → w'.heap[b]? = w.heap[b]?) : STexts w' N A L := by
  intro k hk
  obtain ⟨ad, e, h1, h2⟩ := h k hk
  refine ⟨ad, e, h1, (World.cell?_of_block ?_).trans h2⟩
  rw [add_block]
  exact hs _ h1
theorem TX.same {w w' : World} {N : Nat → Prop} {y : Value} {l : List (List UInt8)} (h : TX w N y l) (hs : ∀ b, N b → w'.heap[b]? = w.heap[b]?) : TX w' N y l := by
  obtain ⟨A, c, e, h1, h2⟩ := h
  exact ⟨A, c, e, h1.same hs, h2⟩
theorem TX.imp {w : World} {N M : Nat → Prop} {y : Value} {l : List (List UInt8)} (h : TX w N y l) (hs : ∀ b, N b → M b) : TX w M y l := by
  obtain ⟨A, c, e, h1, h2⟩ := h
  exact ⟨A, c, e, h1.imp hs, h2⟩
section
variable {w w' : World} {M : Nat → Prop} {y : Value} {l : List (List UInt8)} {g : Nat}
theorem TM.up (h : TM w M y l) (hb : Below w.heap.size w w') : TM w' M y l :=
  (TX.same h fun b hB => hb.block b hB.1).imp fun b hB => ⟨Nat.lt_of_lt_of_le hB.1 hb.size, hB.2⟩
theorem TM.only (h : TM w M y l) (ho : Onl g w w') (hg : ¬ M g) : TM w' M y l :=
  (TX.same h fun b hB => ho.block b hB.1 (fun e => hg (e ▸ hB.2))).imp fun b hB => ⟨Nat.lt_of_lt_of_le hB.1 ho.size, hB.2⟩
theorem TM.tx (h : TM w M y l) : TX w (· < w.heap.size) y l := TX.imp h fun b hB => hB.1
theorem TM.imp {M2 : Nat → Prop} (h : TM w M y l) (hm : ∀ b, b < w.heap.size → M b → M2 b) : TM w M2 y l := TX.imp h fun b hB => ⟨hB.1, hm b hB.1 hB.2⟩
theorem TM.of_tx (h : TX w (· < w.heap.size) y l) (hb : Below w.heap.size w w') (hM : ∀ b, b < w.heap.size → M b) : TM w' M y l :=
  (TX.same h fun b hB => hb.block b hB).imp fun b hB => ⟨Nat.lt_of_lt_of_le hB hb.size, hM b hB⟩
end
theorem Bk.only {w w' : World} {g g2 : Nat} {t : TypeId} {cs : Array Value} (k : Bk w g t cs) (ho : Onl g2 w w') (hn : g ≠ g2) : Bk w' g t cs := (ho.block g k.lt hn).trans k
def encS1 (s : List UInt8) : List Value := [.string (bs s)]
theorem encS1_len (s : List UInt8) : (encS1 s).length = 1 := rfl
theorem rowS1 : RowT Try.prog encS1 1 26 9 (.string ByteArray.empty) 16 where
  ht := Try.underlying26
  inf := by kernel_rfl
  hzs := rfl
  k0 := by decide
  hk := fun _ => rfl
  h1 := fun x u hu => by
    simp [encS1] at hu
    subst hu; rfl
  hb := by decide
theorem gx_of_stx {w : World} {N : Nat → Prop} {A : Option Addr} {L : List (List UInt8)} (h : STexts w N A L) : GX encS1 1 w N A L := by
  intro i hi
  obtain ⟨ad, e, h1, h2⟩ := h i hi
  obtain ⟨ad0, e0, -, h20⟩ := h 0 (by omega)
  obtain rfl : ad = ad0 := by rw [e] at e0; injection e0
  have hp2 := plain_of_cell h20
  simp only [Addr.add, if_true] at hp2
  refine ⟨ad.block, ad.off, by rw [e]; exact congrArg some hp2, h1, fun j hj => ?_⟩
  obtain rfl : j = 0 := by omega
  rw [hp2, Addr.add_lit] at h2
  rw [show ad.off + (i * 1 + 0) = ad.off + i by omega, h2]
  rfl
theorem stx_of_gx {w : World} {N : Nat → Prop} {A : Option Addr} {L : List (List UInt8)} (h : GX encS1 1 w N A L) : STexts w N A L := by
  intro i hi
  obtain ⟨b, o, e, h1, h2⟩ := h i hi
  refine ⟨⟨b, o, none⟩, e, h1, ?_⟩
  have := h2 0 (by omega)
  rw [show i * 1 + 0 = i by omega] at this
  rw [Addr.add_lit, this]
  rfl
end Go.Proofs.Ytldilhbomilcpaa
