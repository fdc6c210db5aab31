/- wheel: a wheel's cells. -/
import Derived.Test.YtldilhbomilcpaaJn
import Derived.Test.YtldilhbomilcpaaYw
import Derived.Test.YtldilhbomilcpaaGb
namespace Go.Proofs.Ytldilhbomilcpaa
set_option linter.unusedVariables false
set_option linter.unusedSimpArgs false
open Go.RowKit Go.Joins

def encWi (n : Int) : List Value := [.int .i64 n]
theorem encWi_len (n : Int) : (encWi n).length = 1 := rfl
theorem rowWi : RowT Try.prog encWi 1 46 3 (.int .i64 0) 8 where
  ht := Try.underlying46
  inf := by kernel_rfl
  hzs := rfl
  k0 := by decide
  hk := encWi_len
  h1 := fun x u hu => by
    simp [encWi] at hu
    subst hu; rfl
  hb := by decide
def encDu (d : Int × Int) : List Value := [.int .i64 d.1, .int .i64 d.2]
theorem encDu_len (d : Int × Int) : (encDu d).length = 2 := rfl
theorem rowDu : RowT Try.prog encDu 2 41 76 (.agg #[.int .i64 0, .int .i64 0]) 16 where
  ht := Try.underlying41
  inf := by kernel_rfl
  hzs := rfl
  k0 := by decide
  hk := encDu_len
  h1 := fun x u hu => by
    simp [encDu] at hu
    rcases hu with rfl | rfl <;> rfl
  hb := by decide
def arrW (F : Nat → Value) : Array Value := Array.ofFn (n := 52) (fun i => F i.val)
theorem arrW_at (F : Nat → Value) {i : Nat} (h : i < 52) : (arrW F)[i]? = some (F i) := by simp [arrW, h]
theorem arrW_set (F G : Nat → Value) (i : Nat) (u : Value) (h : ∀ j, j < 52 → G j = if j = i then u else F j) : (arrW F).setIfInBounds i u = arrW G := by
  apply Array.ext
  · simp [arrW]
  · intro j h1 h2
    have hj : j < 52 := by simpa [arrW] using h2
    rw [Array.getElem_setIfInBounds]
    · simp only [arrW, Array.getElem_ofFn, h j hj]
      by_cases e : j = i
      · simp [e]
      · simp [e, Ne.symm e]
    · simpa [arrW] using hj
/-- A wheel's cells: fifty slots, the time, how many are on it. -/
def wF (f : Nat → Value) (now : Int) (n : Nat) (j : Nat) : Value := if j < 50 then f j else if j = 50 then .int .i64 now else .int .i64 (n : Int)
def WlB (w : World) (g : Nat) (f : Nat → Value) (now : Int) (n : Nat) : Prop := Bk w g 74 (arrW (wF f now n))
def updW (f : Nat → Value) (k : Nat) (x : Value) : Nat → Value := fun j => if j = k then x else f j
section
variable {w w' : World} {g n : Nat} {f : Nat → Value} {now : Int}
theorem WlB.slot (h : WlB w g f now n) {i : Nat} (hi : i < 50) : w.cell? ⟨g, i, none⟩ = some (f i) := by
  rw [Bk.cell h, arrW_at _ (by omega)]; unfold wF; rw [if_pos hi]
theorem WlB.cnow (h : WlB w g f now n) : w.cell? ⟨g, 50, none⟩ = some (.int .i64 now) := by rw [Bk.cell h, arrW_at _ (by omega)]; rfl
theorem WlB.csize (h : WlB w g f now n) : w.cell? ⟨g, 51, none⟩ = some (.int .i64 (n : Int)) := by rw [Bk.cell h, arrW_at _ (by omega)]; rfl
theorem WlB.froz (h : WlB w g f now n) (i : Nat) : w.frozen? ⟨g, i, none⟩ = false := Bk.frozen h i
theorem WlB.setnow (h : WlB w g f now n) (x : Int) : WlB (w.setCell ⟨g, 50, none⟩ (.int .i64 x)) g f x n := by
  have := Bk.set_ h 50 (.int .i64 x)
  rwa [arrW_set _ (wF f x n) 50 _ (fun j _ => by unfold wF; (repeat' split) <;> first | rfl | omega)] at this
theorem WlB.setsize (h : WlB w g f now n) (m : Nat) : WlB (w.setCell ⟨g, 51, none⟩ (.int .i64 (m : Int))) g f now m := by
  have := Bk.set_ h 51 (.int .i64 (m : Int))
  rwa [arrW_set _ (wF f now m) 51 _ (fun j hj => by unfold wF; (repeat' split) <;> first | rfl | omega)] at this
theorem WlB.setslot (h : WlB w g f now n) {i : Nat} (hi : i < 50) (u : Value) : WlB (w.setCell ⟨g, i, none⟩ u) g (updW f i u) now n := by
  have := Bk.set_ h i u
  rwa [arrW_set _ (wF (updW f i u) now n) i _ (fun j hj => by unfold wF updW; (repeat' split) <;> first | rfl | omega)] at this
end
theorem GB.sameb {α : Type} {enc : α → List Value} {k : Nat} {e : TypeId} {w w' : World} {b : Nat} {v : Value} {L : List α} (h : GB enc k e w b v L) (hs : ∀ r, v.ownBlock = some r → w'.heap[r]? = w.heap[r]?) : GB enc k e w' b v L := by
  refine ⟨h.1, ?_⟩
  rcases h.2 with h2 | ⟨g, cap', cur, e1, e2, e3, e4⟩
  · exact Or.inl h2
  · exact Or.inr ⟨g, cap', cur, e1, e2, (hs g (by rw [e1]; rfl)).trans e3, e4⟩
theorem GB.own_lt {α : Type} {enc : α → List Value} {k : Nat} {e : TypeId} {w : World} {b : Nat} {v : Value} {L : List α} (h : GB enc k e w b v L) {r : Nat} (hr : v.ownBlock = some r) : r < w.heap.size ∧ b ≤ r := by
  have := World.ownsRow.lt h r hr
  omega
/-- A wheel x in block g: S has its blocks, from B on. -/
structure WlF (S : Nat → Prop) (B : Nat) (w : World) (g : Nat) (x : Whl) (f : Nat → Value) : Prop where
  sg : S g
  sub : ∀ b, S b → b < w.heap.size ∧ B ≤ b
  ok : WhOk x
  pos : 0 ≤ x.now
  blk : WlB w g f x.now x.all.length
  row : ∀ i, i < 50 → GB encWi 1 3 w B (f i) (slotL x i)
  own : ∀ i b, i < 50 → (f i).ownBlock = some b → S b ∧ b ≠ g
  apart : ∀ i j b, i < 50 → j < 50 → i ≠ j → (f i).ownBlock = some b → (f j).ownBlock ≠ some b
def WlH (S : Nat → Prop) (B : Nat) (w : World) (g : Nat) (x : Whl) : Prop := ∃ f, WlF S B w g x f
section
variable {S T : Nat → Prop} {w w' : World} {g B : Nat} {x : Whl} {f : Nat → Value}
theorem WlF.up (h : WlF S B w g x f) (hb : Below w.heap.size w w') : WlF S B w' g x f :=
  ⟨h.sg, fun b hs => ⟨Nat.lt_of_lt_of_le (h.sub b hs).1 hb.size, (h.sub b hs).2⟩, h.ok, h.pos, Bk.up h.blk hb, fun i hi => GB.below (h.row i hi) hb, h.own, h.apart⟩
theorem WlF.onS (h : WlF S B w g x f) (ho : OnS T w w') (hd : ∀ b, S b → ¬ T b) : WlF S B w' g x f :=
  ⟨h.sg, fun b hs => ⟨Nat.lt_of_lt_of_le (h.sub b hs).1 ho.size, (h.sub b hs).2⟩, h.ok, h.pos, Bk.onS h.blk ho (hd g h.sg), fun i hi => (h.row i hi).sameb fun r hr => ho.block r (h.sub r (h.own i r hi hr).1).1 (hd r (h.own i r hi hr).1), h.own, h.apart⟩
theorem WlH.up (h : WlH S B w g x) (hb : Below w.heap.size w w') : WlH S B w' g x := h.imp fun f hf => hf.up hb
theorem WlH.onS (h : WlH S B w g x) (ho : OnS T w w') (hd : ∀ b, S b → ¬ T b) : WlH S B w' g x := h.imp fun f hf => hf.onS ho hd
theorem WlH.ok (h : WlH S B w g x) : WhOk x ∧ 0 ≤ x.now := by obtain ⟨f, hf⟩ := h; exact ⟨hf.ok, hf.pos⟩
theorem WlH.sub (h : WlH S B w g x) : ∀ b, S b → b < w.heap.size ∧ B ≤ b := by obtain ⟨f, hf⟩ := h; exact hf.sub
/-- S, and what is new since w. -/
def Grw (S : Nat → Prop) (w w' : World) : Nat → Prop := fun b => S b ∨ (w.heap.size ≤ b ∧ b < w'.heap.size)
/-- Behind a Set that is taken. -/
theorem WlF.set {id t : Int} (h : WlF S B w g x f) (h1 : 1 ≤ t ∧ t ≤ 50) (h2 : x.all.length < 32) {at_ : Nat} (hat : wix (x.now + t) = at_) {wA w7 : World} (hz : Below w.heap.size w wA) {b7 m c : Nat}
    (hF : GB encWi 1 3 w7 B (.slice (some ⟨b7, 0, none⟩) m c) (slotL x at_ ++ [id])) (hg : wA.grownBy w7 (f at_).ownBlock) (hl : (f at_).ownBlock = some b7 ∨ b7 = wA.heap.size) :
    WlF (Grw S w w7) B ((w7.setCell ⟨g, at_, none⟩ (.slice (some ⟨b7, 0, none⟩) m c)).setCell ⟨g, 51, none⟩ (.int .i64 ((x.all.length + 1 : Nat) : Int))) g (whSet x id t).1 (updW f at_ (.slice (some ⟨b7, 0, none⟩) m c)) ∧
    OnS S w ((w7.setCell ⟨g, at_, none⟩ (.slice (some ⟨b7, 0, none⟩) m c)).setCell ⟨g, 51, none⟩ (.int .i64 ((x.all.length + 1 : Nat) : Int))) := by
  have hat50 : at_ < 50 := by rw [← hat]; exact wix_lt _
  have hA := h.up hz
  have hgb : (f at_).ownBlock ≠ some g := fun e => (h.own at_ g hat50 e).2 rfl
  have hgl := (h.sub g h.sg).1
  have hsz := hz.size
  have hsz7 := hg.size
  have h7g : Bk w7 g 74 (arrW (wF f x.now x.all.length)) := (hg.block g (by omega) (fun e => hgb e.symm)).trans hA.blk
  have hB := (h.sub g h.sg).2
  have hb7 : b7 ≠ g := by
    rcases hl with hl | hl
    · exact (h.own at_ b7 hat50 hl).2
    · omega
  have hb7l := (GB.own_lt hF (r := b7) rfl)
  have hxn : (whSet x id t).1 = ⟨x.now, x.all ++ [(id, x.now + t)]⟩ := by unfold whSet; rw [if_neg (by omega), if_neg (by omega)]
  have hset : ∀ (i : Nat) (u : Value) (r : Nat), r ≠ g → (w7.setCell ⟨g, i, none⟩ u).heap[r]? = w7.heap[r]? := fun i u r hr => Below.heap_setCell w7 ⟨g, i, none⟩ u r hr
  have hset2 : ∀ (i j : Nat) (u v : Value) (r : Nat), r ≠ g → ((w7.setCell ⟨g, i, none⟩ u).setCell ⟨g, j, none⟩ v).heap[r]? = w7.heap[r]? := fun i j u v r hr => (Below.heap_setCell _ ⟨g, j, none⟩ v r hr).trans (hset i u r hr)
  have hnewS : ∀ b, (f at_).ownBlock = some b ∨ b = wA.heap.size → b < w7.heap.size → Grw S w w7 b := fun b hb hlt => by
    rcases hb with hb | hb
    · exact Or.inl (h.own at_ b hat50 hb).1
    · exact Or.inr ⟨by omega, hlt⟩
  refine ⟨⟨Or.inl h.sg, ?_, h.ok.set id t, by rw [hxn]; exact h.pos, ?_, ?_, ?_, ?_⟩, ?_⟩
  · intro b hb
    rw [World.size_setCell, World.size_setCell]
    rcases hb with hb | hb
    · exact ⟨by have := (h.sub b hb).1; omega, (h.sub b hb).2⟩
    · exact ⟨hb.2, by omega⟩
  · have hblk : WlB w7 g f x.now x.all.length := h7g
    have := (hblk.setslot hat50 (.slice (some ⟨b7, 0, none⟩) m c)).setsize (x.all.length + 1)
    rw [hxn]
    simp only [List.length_append, List.length_singleton]
    exact this
  · intro i hi
    rw [slotL_set h1 h2 i, hat]
    unfold updW
    by_cases e : i = at_
    · rw [if_pos e, if_pos e, e]
      refine hF.sameb fun r hr => hset2 _ _ _ _ r ?_
      have : r = b7 := by injection hr with hr; exact hr.symm
      rw [this]; exact hb7
    · rw [if_neg e, if_neg e]
      refine (hA.row i hi).sameb fun r hr => ?_
      rw [hset2 _ _ _ _ r (h.own i r hi hr).2]
      exact hg.block r (hA.sub r (h.own i r hi hr).1).1 fun e2 => h.apart at_ i r hat50 hi (Ne.symm e) e2.symm hr
  · intro i b hi hb
    unfold updW at hb
    by_cases e : i = at_
    · rw [if_pos e] at hb
      have : b = b7 := by injection hb with hb; exact hb.symm
      subst this
      exact ⟨hnewS b hl hb7l.1, hb7⟩
    · rw [if_neg e] at hb
      exact ⟨Or.inl (h.own i b hi hb).1, (h.own i b hi hb).2⟩
  · intro i j b hi hj hij hb
    unfold updW at hb ⊢
    by_cases e : i = at_
    · rw [if_pos e] at hb
      have : b = b7 := by injection hb with hb; exact hb.symm
      subst this
      rw [if_neg (fun e2 => hij (e.trans e2.symm))]
      intro h3
      rcases hl with hl | hl
      · exact h.apart at_ j b hat50 hj (fun e2 => hij (e.trans e2)) hl h3
      · have := (h.sub b (h.own j b hj h3).1).1
        omega
    · rw [if_neg e] at hb
      by_cases e2 : j = at_
      · rw [if_pos e2]
        intro h3
        have : b = b7 := by injection h3 with h3; exact h3.symm
        subst this
        rcases hl with hl | hl
        · exact h.apart at_ i b hat50 hi (Ne.symm e) hl hb
        · have := (h.sub b (h.own i b hi hb).1).1
          omega
      · rw [if_neg e2]
        exact h.apart i j b hi hj hij hb
  · have o1 : OnS S w w7 := (OnS.below hz).trans (OnS.grown hg fun b hb => (h.own at_ b hat50 hb).1)
    exact (o1.cell g at_ _ h.sg).cell g 51 _ h.sg
/-- Behind a Step. -/
theorem WlF.step (h : WlF S B w g x f) {wA : World} (hz : Below w.heap.size w wA) {at_ : Nat} (hat : wix (x.now + 1) = at_) {k : Nat} (hk : (whStep x).all.length = k) :
    WlF S B (((wA.setCell ⟨g, 50, none⟩ (.int .i64 (x.now + 1))).setCell ⟨g, at_, none⟩ (.slice none 0 0)).setCell ⟨g, 51, none⟩ (.int .i64 (k : Int))) g (whStep x) (updW f at_ (.slice none 0 0)) ∧
    OnS (fun b => b = g) w (((wA.setCell ⟨g, 50, none⟩ (.int .i64 (x.now + 1))).setCell ⟨g, at_, none⟩ (.slice none 0 0)).setCell ⟨g, 51, none⟩ (.int .i64 (k : Int))) := by
  have hat50 : at_ < 50 := by rw [← hat]; exact wix_lt _
  have hA := h.up hz
  have hsz := hz.size
  have ho : OnS (fun b => b = g) wA (((wA.setCell ⟨g, 50, none⟩ (.int .i64 (x.now + 1))).setCell ⟨g, at_, none⟩ (.slice none 0 0)).setCell ⟨g, 51, none⟩ (.int .i64 (k : Int))) := (((OnS.refl (fun b => b = g) wA).cell g 50 _ rfl).cell g at_ _ rfl).cell g 51 _ rfl
  refine ⟨⟨h.sg, ?_, h.ok.step, by have := h.pos; show 0 ≤ x.now + 1; omega, ?_, ?_, ?_, ?_⟩, (OnS.below hz).trans ho⟩
  · intro b hb
    rw [World.size_setCell, World.size_setCell, World.size_setCell]
    exact hA.sub b hb
  · have := ((hA.blk.setnow (x.now + 1)).setslot hat50 (.slice none 0 0)).setsize k
    rw [hk]
    exact this
  · intro i hi
    rw [slotL_step h.ok i, hat]
    unfold updW
    by_cases e : i = at_
    · rw [if_pos e, if_pos e]; exact GB.nil _ _
    · rw [if_neg e, if_neg e]
      exact (hA.row i hi).sameb fun r hr => ho.block r (hA.sub r (h.own i r hi hr).1).1 (h.own i r hi hr).2
  · intro i b hi hb
    unfold updW at hb
    by_cases e : i = at_
    · rw [if_pos e] at hb; cases hb
    · rw [if_neg e] at hb; exact h.own i b hi hb
  · intro i j b hi hj hij hb
    unfold updW at hb ⊢
    by_cases e : i = at_
    · rw [if_pos e] at hb; cases hb
    · rw [if_neg e] at hb
      by_cases e2 : j = at_
      · rw [if_pos e2]; intro h3; cases h3
      · rw [if_neg e2]; exact h.apart i j b hi hj hij hb
end
end Go.Proofs.Ytldilhbomilcpaa
