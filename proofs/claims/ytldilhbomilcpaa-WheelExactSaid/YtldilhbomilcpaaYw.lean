/- What is changed in some blocks alone; a region that draws over a world that has all that another one has. -/
import Derived.Test.YtldilhbomilcpaaYt
import Derived.BigQuiet
namespace Go.Proofs.Ytldilhbomilcpaa
set_option linter.unusedVariables false
set_option linter.unusedSimpArgs false
open Go.RowKit Go.Joins

/-- Nothing that was is another, but the blocks of S. -/
structure OnS (S : Nat → Prop) (w w' : World) : Prop where
  os : w'.os = w.os
  tape : w'.tape = w.tape
  output : w'.output = w.output
  size : w.heap.size ≤ w'.heap.size
  block : ∀ k, k < w.heap.size → ¬ S k → w'.heap[k]? = w.heap[k]?
section
variable {S T : Nat → Prop} {a b c w w' : World} {M : Nat → Prop} {y : Value} {l : List (List UInt8)} {g B : Nat}
theorem OnS.refl (S : Nat → Prop) (w : World) : OnS S w w := ⟨rfl, rfl, rfl, Nat.le_refl _, fun _ _ _ => rfl⟩
theorem OnS.trans (h : OnS S a b) (k : OnS S b c) : OnS S a c :=
  ⟨k.os.trans h.os, k.tape.trans h.tape, k.output.trans h.output, Nat.le_trans h.size k.size, fun j hj hn => (k.block j (Nat.lt_of_lt_of_le hj h.size) hn).trans (h.block j hj hn)⟩
theorem OnS.below (h : Below w.heap.size w w') : OnS S w w' := ⟨h.os, h.tape, h.output, h.size, fun k hk _ => h.block k hk⟩
theorem OnS.up (h : OnS S a b) (k : Below b.heap.size b c) : OnS S a c := h.trans (OnS.below k)
theorem OnS.imp (h : OnS S w w') (hs : ∀ b, b < w.heap.size → S b → T b) : OnS T w w' := ⟨h.os, h.tape, h.output, h.size, fun k hk hn => h.block k hk fun e => hn (hs k hk e)⟩
theorem OnS.grown {row : Option Nat} (hg : w.grownBy w' row) (hs : ∀ b, row = some b → S b) : OnS S w w' :=
  ⟨hg.os, hg.tape, hg.output, hg.size, fun k hk hn => hg.block k hk fun e => hn (hs k e.symm)⟩
theorem OnS.cell (h : OnS S a b) (g i : Nat) (u : Value) (hg : S g) : OnS S a (b.setCell ⟨g, i, none⟩ u) :=
  h.trans ⟨rfl, rfl, rfl, by simp [World.setCell], fun k _ hn => Below.heap_setCell b ⟨g, i, none⟩ u k fun e => hn (e ▸ hg)⟩
theorem OnS.drew (h : OnS S a b) : OnS S a b.drew := ⟨h.os, h.tape, h.output, h.size, h.block⟩
theorem OnS.to_below (h : Below B a b) (o : OnS S b c) (hS : ∀ k, k < b.heap.size → S k → B ≤ k) (hB : B ≤ b.heap.size) : Below B a c :=
  h.trans ⟨o.os, o.tape, o.output, o.size, fun k hk => o.block k (by omega) fun e => by have := hS k (by omega) e; omega⟩
theorem TM.onS (h : TM w M y l) (ho : OnS S w w') (hg : ∀ b, M b → ¬ S b) : TM w' M y l :=
  (TX.same h fun b hB => ho.block b hB.1 (hg b hB.2)).imp fun b hB => ⟨Nat.lt_of_lt_of_le hB.1 ho.size, hB.2⟩
theorem Bk.onS {t : TypeId} {cs : Array Value} (k : Bk w g t cs) (ho : OnS S w w') (hn : ¬ S g) : Bk w' g t cs := (ho.block g k.lt hn).trans k
theorem GX.onS {α : Type} {enc : α → List Value} {k : Nat} {A : Option Addr} {L : List α} (h : GX enc k w (In M w) A L) (ho : OnS S w w') (hg : ∀ b, M b → ¬ S b) : GX enc k w' (In M w') A L :=
  (h.same fun b hB => ho.block b hB.1 (hg b hB.2)).imp fun b hB => ⟨Nat.lt_of_lt_of_le hB.1 ho.size, hB.2⟩
theorem GX.inup {α : Type} {enc : α → List Value} {k : Nat} {A : Option Addr} {L : List α} (h : GX enc k w (In M w) A L) (ho : Below w.heap.size w w') : GX enc k w' (In M w') A L :=
  (h.same fun b hB => ho.block b hB.1).imp fun b hB => ⟨Nat.lt_of_lt_of_le hB.1 ho.size, hB.2⟩
end
/-- A world that has all that v has, and may have more. -/
structure BwS (v : World) where
  w : World
  h : Below v.heap.size v w
instance BwS.instNonempty (v : World) : Nonempty (BwS v) := ⟨⟨v, Below.refl _ _⟩⟩
theorem wp_region_bws {P : Program} {id : Nat} {Q : Exit → Act → World → Prop} {a : Act} {w : World} {l : List Oper} (hm : P.follows .mixedOrders = true) (hB : Region.lexB .any l.toArray = true) (h : wpQuiet P l.toArray (fun w' => ∃ p : BwS w, w' = p.w) (fun a' => ∀ w', (∃ p : BwS w, w' = p.w) → Q .normal a' w') l a) : (Code.region id l.toArray true).wp P Q a w :=
  wp_region_quiet (C := fun w' => ∃ p : BwS w, w' = p.w) hm hB ⟨⟨_, (Below.refl _ _).drew⟩, rfl⟩ (by simpa using h)
theorem calls_bws {P : Program} {f : FuncId} {args : Array Value} {v0 : World} {p : BwS v0} {v : Value} (h : Calls P f args p.w fun e w' => e = .returned v ∧ Below p.w.heap.size p.w w') : Calls P f args p.w fun e w'' => e = .returned v ∧ ∃ q : BwS v0, w'' = q.w :=
  h.mono fun _ _ ⟨he, hb⟩ => ⟨he, ⟨_, p.h.trans (hb.mono p.h.size)⟩, rfl⟩
theorem BwS.cell {v : World} {a : Addr} {x : Value} (h : v.cell? a = some x) (p : BwS v) : p.w.cell? a = some x :=
  (p.h.cell (lt_of_cell h)).trans h
end Go.Proofs.Ytldilhbomilcpaa
