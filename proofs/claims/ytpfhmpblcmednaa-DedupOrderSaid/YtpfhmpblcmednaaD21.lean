/- Texts put together: Sy Yt Yw. -/
import Derived.Test.YtpfhmpblcmednaaD20
import Derived.Test.YtpfhmpblcmednaaD15
import Derived.Tactics2
import Derived.Laws.Pointers
import Derived.Laws.LoneSync
import Derived.WalkSmall
import Derived.BigQuiet
namespace Go.Proofs.Ytpfhmpblcmednaa
set_option linter.unusedVariables false
open Go.RowKit

theorem aload_any (a : Addr) (d : Int) (w : World) (h : w.cell? a = some (.int .i64 d)) :
    Calls Try.prog 100 #[.pointer (some a)] w fun e w' => e = .returned (.int .i64 d) ∧ w = w' := by
  have hl := run_call_load (P := Try.prog) Try.func133 (by kernel_rfl) (by kernel_rfl) (by kernel_rfl) .i64 (by kernel_rfl) h
  go_enter Try.func100, Try.ntmps100
  go_wp2
  go_ret
  exact ⟨rfl, rfl⟩
theorem aadd_any (a : Addr) (d y : Int) (w : World) (h : w.cell? a = some (.int .i64 d)) (hz : w.frozen? a = false) (h1 : -9223372036854775808 ≤ d + y) (h2 : d + y ≤ 9223372036854775807) :
    Calls Try.prog 98 #[.pointer (some a), .int .i64 y] w fun e w' => e = .returned (.int .i64 (d + y)) ∧ w' = w.setCell a (.int .i64 (d + y)) := by
  have hadd := run_call_add (P := Try.prog) Try.func131 (by kernel_rfl) (by kernel_rfl) (by kernel_rfl) .i64 (by kernel_rfl) (y := y) (s := d + y) h hz (by simp [go_sem]; exact IntWalk.i64_in _ (by omega))
  go_enter Try.func98, Try.ntmps98
  go_wp2
  go_ret
  exact ⟨rfl, rfl⟩
theorem ncount_any (a : Addr) (x : Int) (w : World) (h : w.cell? a = some (.int .i64 x)) (h1 : -9223372036854775808 ≤ x) (h2 : x ≤ 9223372036854775807) :
    Calls Try.prog 60 #[.pointer (some a)] w fun e w' => e = .returned (.int .i64 x) ∧ w = w' := by
  have H := hid h
  clear h
  go_enter Try.func60, Try.ntmps60
  go_wp2_with fail
  refine (aload_any _ x _ H.out).mono ?_
  rintro e w' ⟨rfl, rfl⟩
  go_wp2
  go_ret
  exact ⟨rfl, rfl⟩
set_option maxRecDepth 100000 in
/-- '(*count.Count).Add', the sum at most MaxCount. -/
theorem nadd_any (a : Addr) (x n : Nat) (w : World) (h : w.cell? a = some (.int .i64 (x : Int))) (hz : w.frozen? a = false) (hx : x + n ≤ 1099511627776) :
    Calls Try.prog 57 #[.pointer (some a), .int .i64 (n : Int)] w fun e w' => e = .returned (.tuple #[]) ∧ w' = w.setCell a (.int .i64 ((x + n : Nat) : Int)) := by
  have H := hid (And.intro h hz)
  have hmin : min (n : Int) 1099511627776 = (n : Int) := by omega
  have hgt : decide ((1099511627776 : Int) < (x : Int) + (n : Int)) = false := decide_eq_false (by omega)
  clear h hz
  go_enter Try.func57, Try.ntmps57
  go_wp2_with fail
  refine (aadd_any a x n w H.out.1 H.out.2 (by omega) (by omega)).mono ?_
  rintro e w' ⟨rfl, rfl⟩
  go_wp2_with fail
  go_end0
  exact ⟨rfl, rfl⟩
theorem astore_any (a : Addr) (x : Value) (y : Int) (w : World) (hc : w.cell? a = some x) (hz : w.frozen? a = false) :
    Calls Try.prog 99 #[.pointer (some a), .int .i64 y] w fun e w' => e = .returned (.tuple #[]) ∧ w' = w.setCell a (.int .i64 y) := by
  have hst := run_call_store (P := Try.prog) Try.func132 (by kernel_rfl) (by kernel_rfl) (by kernel_rfl) (by kernel_rfl) (k := .i64) (y := y) hc hz
  go_enter Try.func99, Try.ntmps99
  go_wp2
  go_end0
  exact ⟨rfl, rfl⟩
theorem Onl.set {g : Nat} {a b : World} (h : Onl g a b) (i : Nat) (u : Value) : Onl g a (b.setCell ⟨g, i, none⟩ u) :=
  h.trans ⟨rfl, rfl, rfl, by simp [World.setCell], fun k _ hn => Below.heap_setCell b ⟨g, i, none⟩ u k hn⟩
theorem Onl.alloc {g : Nat} {a b : World} (h : Onl g a b) (o : Obj) : Onl g a (b.alloc o) :=
  h.trans ⟨rfl, rfl, rfl, by simp, fun k hk _ => Below.heap_alloc b o k hk⟩
theorem Onl.below {g B : Nat} {a b c : World} (h : Below B a b) (o : Onl g b c) (hg : B ≤ g) (hB : B ≤ b.heap.size) : Below B a c :=
  h.trans ⟨o.os, o.tape, o.output, o.size, fun k hk => o.block k (by omega) (by omega)⟩
theorem Onl.up {g : Nat} {a b c : World} (h : Onl g a b) (k : Below b.heap.size b c) : Onl g a c := h.trans (Onl.of_below k (Nat.le_refl _))
end Go.Proofs.Ytpfhmpblcmednaa
namespace Go.Proofs.Ytpfhmpblcmednaa
set_option linter.unusedVariables false
set_option linter.unusedSimpArgs false
open Go.RowKit Go.Joins

/-- The blocks that M allows, of those that are. -/
def In (M : Nat → Prop) (w : World) : Nat → Prop := fun b => b < w.heap.size ∧ M b
/-- A slice of texts that can be read, in blocks that M allows. -/
def TM (w : World) (M : Nat → Prop) (y : Value) (l : List (List UInt8)) : Prop := TX w (In M w) y l
theorem STexts.same {w w' : World} {N : Nat → Prop} {A : Option Addr} {L : List (List UInt8)} (h : STexts w N A L) (hs : ∀ b, N b → w'.heap[b]? = w.heap[b]?) : STexts w' N A L := by
  intro k hk
  obtain ⟨ad, e, h1, h2⟩ := h k hk
  refine ⟨ad, e, h1, (World.cell?_of_block ?_).trans h2⟩
  rw [add_block]
  exact hs _ h1
theorem TX.same {w w' : World} {N : Nat → Prop} {y : Value} {l : List (List UInt8)} (h : TX w N y l) (hs : ∀ b, N b → w'.heap[b]? = w.heap[b]?) : TX w' N y l := by
  obtain ⟨A, c, e, h1, h2⟩ := h
  exact ⟨A, c, e, h1.same hs, h2⟩
theorem TX.imp {w : World} {N M : Nat → Prop} {y : Value} {l : List (List UInt8)} (h : TX w N y l) (hs : ∀ b, N b → M b) : TX w M y l := by
  obtain ⟨A, c, e, h1, h2⟩ := h
  exact ⟨A, c, e, h1.imp hs, h2⟩
section
variable {w w' : World} {M : Nat → Prop} {y : Value} {l : List (List UInt8)} {g : Nat}
theorem TM.up (h : TM w M y l) (hb : Below w.heap.size w w') : TM w' M y l :=
  (TX.same h fun b hB => hb.block b hB.1).imp fun b hB => ⟨Nat.lt_of_lt_of_le hB.1 hb.size, hB.2⟩
theorem TM.only (h : TM w M y l) (ho : Onl g w w') (hg : ¬ M g) : TM w' M y l :=
  (TX.same h fun b hB => ho.block b hB.1 (fun e => hg (e ▸ hB.2))).imp fun b hB => ⟨Nat.lt_of_lt_of_le hB.1 ho.size, hB.2⟩
theorem TM.tx (h : TM w M y l) : TX w (· < w.heap.size) y l := TX.imp h fun b hB => hB.1
theorem TM.imp {M2 : Nat → Prop} (h : TM w M y l) (hm : ∀ b, b < w.heap.size → M b → M2 b) : TM w M2 y l := TX.imp h fun b hB => ⟨hB.1, hm b hB.1 hB.2⟩
theorem TM.of_tx (h : TX w (· < w.heap.size) y l) (hb : Below w.heap.size w w') (hM : ∀ b, b < w.heap.size → M b) : TM w' M y l :=
  (TX.same h fun b hB => hb.block b hB).imp fun b hB => ⟨Nat.lt_of_lt_of_le hB hb.size, hM b hB⟩
end
theorem Bk.only {w w' : World} {g g2 : Nat} {t : TypeId} {cs : Array Value} (k : Bk w g t cs) (ho : Onl g2 w w') (hn : g ≠ g2) : Bk w' g t cs := (ho.block g k.lt hn).trans k
def encS1 (s : List UInt8) : List Value := [.string (bs s)]
theorem encS1_len (s : List UInt8) : (encS1 s).length = 1 := rfl
theorem rowS1 : RowT Try.prog encS1 1 41 9 (.string ByteArray.empty) 16 where
  ht := Try.underlying41
  inf := by kernel_rfl
  hzs := rfl
  k0 := by decide
  hk := fun _ => rfl
  h1 := fun x u hu => by
    simp [encS1] at hu
    subst hu; rfl
  hb := by decide
theorem gx_of_stx {w : World} {N : Nat → Prop} {A : Option Addr} {L : List (List UInt8)} (h : STexts w N A L) : GX encS1 1 w N A L := by
  intro i hi
  obtain ⟨ad, e, h1, h2⟩ := h i hi
  obtain ⟨ad0, e0, -, h20⟩ := h 0 (by omega)
  obtain rfl : ad = ad0 := by rw [e] at e0; injection e0
  have hp2 := plain_of_cell h20
  simp only [Addr.add, if_true] at hp2
  refine ⟨ad.block, ad.off, by rw [e]; exact congrArg some hp2, h1, fun j hj => ?_⟩
  obtain rfl : j = 0 := by omega
  rw [hp2, Addr.add_lit] at h2
  rw [show ad.off + (i * 1 + 0) = ad.off + i by omega, h2]
  rfl
theorem stx_of_gx {w : World} {N : Nat → Prop} {A : Option Addr} {L : List (List UInt8)} (h : GX encS1 1 w N A L) : STexts w N A L := by
  intro i hi
  obtain ⟨b, o, e, h1, h2⟩ := h i hi
  refine ⟨⟨b, o, none⟩, e, h1, ?_⟩
  have := h2 0 (by omega)
  rw [show i * 1 + 0 = i by omega] at this
  rw [Addr.add_lit, this]
  rfl
end Go.Proofs.Ytpfhmpblcmednaa
namespace Go.Proofs.Ytpfhmpblcmednaa
set_option linter.unusedVariables false
set_option linter.unusedSimpArgs false
open Go.RowKit Go.Joins

/-- Nothing that was is another, but the blocks of S. -/
structure OnS (S : Nat → Prop) (w w' : World) : Prop where
  os : w'.os = w.os
  tape : w'.tape = w.tape
  output : w'.output = w.output
  size : w.heap.size ≤ w'.heap.size
  block : ∀ k, k < w.heap.size → ¬ S k → w'.heap[k]? = w.heap[k]?
section
variable {S T : Nat → Prop} {a b c w w' : World} {M : Nat → Prop} {y : Value} {l : List (List UInt8)} {g B : Nat}
theorem OnS.refl (S : Nat → Prop) (w : World) : OnS S w w := ⟨rfl, rfl, rfl, Nat.le_refl _, fun _ _ _ => rfl⟩
theorem OnS.trans (h : OnS S a b) (k : OnS S b c) : OnS S a c :=
  ⟨k.os.trans h.os, k.tape.trans h.tape, k.output.trans h.output, Nat.le_trans h.size k.size, fun j hj hn => (k.block j (Nat.lt_of_lt_of_le hj h.size) hn).trans (h.block j hj hn)⟩
theorem OnS.below (h : Below w.heap.size w w') : OnS S w w' := ⟨h.os, h.tape, h.output, h.size, fun k hk _ => h.block k hk⟩
theorem OnS.up (h : OnS S a b) (k : Below b.heap.size b c) : OnS S a c := h.trans (OnS.below k)
theorem OnS.imp (h : OnS S w w') (hs : ∀ b, b < w.heap.size → S b → T b) : OnS T w w' := ⟨h.os, h.tape, h.output, h.size, fun k hk hn => h.block k hk fun e => hn (hs k hk e)⟩
theorem OnS.grown {row : Option Nat} (hg : w.grownBy w' row) (hs : ∀ b, row = some b → S b) : OnS S w w' :=
  ⟨hg.os, hg.tape, hg.output, hg.size, fun k hk hn => hg.block k hk fun e => hn (hs k e.symm)⟩
theorem OnS.cell (h : OnS S a b) (g i : Nat) (u : Value) (hg : S g) : OnS S a (b.setCell ⟨g, i, none⟩ u) :=
  h.trans ⟨rfl, rfl, rfl, by simp [World.setCell], fun k _ hn => Below.heap_setCell b ⟨g, i, none⟩ u k fun e => hn (e ▸ hg)⟩
theorem OnS.drew (h : OnS S a b) : OnS S a b.drew := ⟨h.os, h.tape, h.output, h.size, h.block⟩
theorem OnS.to_below (h : Below B a b) (o : OnS S b c) (hS : ∀ k, k < b.heap.size → S k → B ≤ k) (hB : B ≤ b.heap.size) : Below B a c :=
  h.trans ⟨o.os, o.tape, o.output, o.size, fun k hk => o.block k (by omega) fun e => by have := hS k (by omega) e; omega⟩
theorem TM.onS (h : TM w M y l) (ho : OnS S w w') (hg : ∀ b, M b → ¬ S b) : TM w' M y l :=
  (TX.same h fun b hB => ho.block b hB.1 (hg b hB.2)).imp fun b hB => ⟨Nat.lt_of_lt_of_le hB.1 ho.size, hB.2⟩
theorem Bk.onS {t : TypeId} {cs : Array Value} (k : Bk w g t cs) (ho : OnS S w w') (hn : ¬ S g) : Bk w' g t cs := (ho.block g k.lt hn).trans k
theorem GX.onS {α : Type} {enc : α → List Value} {k : Nat} {A : Option Addr} {L : List α} (h : GX enc k w (In M w) A L) (ho : OnS S w w') (hg : ∀ b, M b → ¬ S b) : GX enc k w' (In M w') A L :=
  (h.same fun b hB => ho.block b hB.1 (hg b hB.2)).imp fun b hB => ⟨Nat.lt_of_lt_of_le hB.1 ho.size, hB.2⟩
theorem GX.inup {α : Type} {enc : α → List Value} {k : Nat} {A : Option Addr} {L : List α} (h : GX enc k w (In M w) A L) (ho : Below w.heap.size w w') : GX enc k w' (In M w') A L :=
  (h.same fun b hB => ho.block b hB.1).imp fun b hB => ⟨Nat.lt_of_lt_of_le hB.1 ho.size, hB.2⟩
end
/-- A world that has all that v has, and may have more. -/
structure BwS (v : World) where
  w : World
  h : Below v.heap.size v w
instance BwS.instNonempty (v : World) : Nonempty (BwS v) := ⟨⟨v, Below.refl _ _⟩⟩
theorem wp_region_bws {P : Program} {id : Nat} {Q : Exit → Act → World → Prop} {a : Act} {w : World} {l : List Oper} (hm : P.follows .mixedOrders = true) (hB : Region.lexB .any l.toArray = true) (h : wpQuiet P l.toArray (fun w' => ∃ p : BwS w, w' = p.w) (fun a' => ∀ w', (∃ p : BwS w, w' = p.w) → Q .normal a' w') l a) : (Code.region id l.toArray true).wp P Q a w :=
  wp_region_quiet (C := fun w' => ∃ p : BwS w, w' = p.w) hm hB ⟨⟨_, (Below.refl _ _).drew⟩, rfl⟩ (by simpa using h)
theorem calls_bws {P : Program} {f : FuncId} {args : Array Value} {v0 : World} {p : BwS v0} {v : Value} (h : Calls P f args p.w fun e w' => e = .returned v ∧ Below p.w.heap.size p.w w') : Calls P f args p.w fun e w'' => e = .returned v ∧ ∃ q : BwS v0, w'' = q.w :=
  h.mono fun _ _ ⟨he, hb⟩ => ⟨he, ⟨_, p.h.trans (hb.mono p.h.size)⟩, rfl⟩
theorem BwS.cell {v : World} {a : Addr} {x : Value} (h : v.cell? a = some x) (p : BwS v) : p.w.cell? a = some x :=
  (p.h.cell (lt_of_cell h)).trans h
end Go.Proofs.Ytpfhmpblcmednaa
