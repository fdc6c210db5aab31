/- wheel: what WheelPlays' loop knows. -/
import Derived.Test.YtldilhbomilcpaaJz
namespace Go.Proofs.Ytldilhbomilcpaa
set_option linter.unusedVariables false
set_option linter.unusedSimpArgs false
open Go.RowKit Go.Joins

/-- The program's wheel x, the definition's y in a variable. -/
structure WpL (w wr : World) (S : Nat → Prop) (g bx : Nat) (x y : Whl) (A : Option Addr) (cap : Nat) : Prop where
  a : WlH S w.heap.size wr g x
  hx : BWh wr bx y.now (.slice A y.all.length cap)
  gx : GX encDu 2 wr (In (fun b => ¬ S b ∧ b ≠ bx) wr) A y.all
  nil : A = none → cap = 0
  bel : Below w.heap.size w wr
  ap : ¬ S bx ∧ w.heap.size ≤ bx
/-- The blocks of the definition's list. -/
def Nn (S : Nat → Prop) (bx : Nat) (wr : World) : Nat → Prop := In (fun b => ¬ S b ∧ b ≠ bx) wr
section
variable {w wr w2 w6 : World} {S : Nat → Prop} {g bx : Nat} {x y z : Whl} {A A' : Option Addr} {cap cap' : Nat}
theorem WpL.up (h : WpL w wr S g bx x y A cap) (hb : Below wr.heap.size wr w2) : WpL w w2 S g bx x y A cap :=
  ⟨h.a.up hb, h.hx.up hb, h.gx.inup hb, h.nil, estep h.bel hb, h.ap⟩
theorem WpL.put (h : WpL w wr S g bx x y A cap) (hb : Below wr.heap.size wr w6) (hg : GX encDu 2 w6 (fun b => Nn S bx wr b ∨ (wr.heap.size ≤ b ∧ b < w6.heap.size)) A' z.all) (hn : A' = none → cap' = 0) :
    WpL w ((w6.setCell ⟨bx, 0, none⟩ (.int .i64 z.now)).setCell ⟨bx, 1, none⟩ (.slice A' z.all.length cap')) S g bx x z A' cap' := by
  have h1 := h.up hb
  have hbl := Bk.lt h.hx
  have hsz := hb.size
  have ho : OnS (fun b => b = bx) w6 ((w6.setCell ⟨bx, 0, none⟩ (.int .i64 z.now)).setCell ⟨bx, 1, none⟩ (.slice A' z.all.length cap')) := ((OnS.refl (fun b => b = bx) w6).cell bx 0 _ rfl).cell bx 1 _ rfl
  refine ⟨h1.a.onS ho (fun b hb' e => h.ap.1 (e ▸ hb')), h1.hx.set2 _ _, ?_, hn, OnS.to_below h1.bel ho (fun k _ hk => by rw [hk]; exact h.ap.2) h1.bel.size, h.ap⟩
  have hg2 : GX encDu 2 w6 (In (fun b => ¬ S b ∧ b ≠ bx) w6) A' z.all := hg.imp fun b hb' => by
    rcases hb' with hb' | hb'
    · exact ⟨Nat.lt_of_lt_of_le hb'.1 hsz, hb'.2⟩
    · exact ⟨hb'.2, fun hs => by have := h.a.wsub b hs; omega, by omega⟩
  exact hg2.onS ho fun b hb' => hb'.2
theorem WpL.wstep (h : WpL w wr S g bx x y A cap) (hW : WlH S w.heap.size w2 g z) (ho : OnS (fun b => b = g) wr w2) : WpL w w2 S g bx z y A cap :=
  ⟨hW, Bk.onS h.hx ho (fun e => h.ap.1 (e ▸ WlH.sg h.a)), h.gx.onS ho (fun b hb e => hb.1 (e ▸ WlH.sg h.a)), h.nil, WlH.low1 h.a h.bel ho, h.ap⟩
theorem WpL.wset (h : WpL w wr S g bx x y A cap) (hW : WlH (Grw S wr w2) w.heap.size w2 g z) (ho : OnS S wr w2) : WpL w w2 (Grw S wr w2) g bx z y A cap := by
  have hbl := Bk.lt h.hx
  refine ⟨hW, Bk.onS h.hx ho h.ap.1, ?_, h.nil, WlH.low h.a h.bel ho, fun hs => ?_, h.ap.2⟩
  · exact (h.gx.same fun b hb => ho.block b hb.1 hb.2.1).imp fun b hb => ⟨Nat.lt_of_lt_of_le hb.1 ho.size, fun hs => by
      rcases hs with hs | hs
      · exact hb.2.1 hs
      · have := hb.1
        omega, hb.2.2⟩
  · rcases hs with hs | hs
    · exact h.ap.1 hs
    · omega
end
theorem keepWa {v w' : World} {bx b i k : Nat} {now : Int} {s : Value} {p q : Value} (hx : BWh v bx now s) (c0 : v.cell? ⟨b, i, none⟩ = some p) (c1 : v.cell? ⟨b, k, none⟩ = some q) (hz : Below v.heap.size v w') :
    w'.cell? ⟨bx, 0, none⟩ = some (.int .i64 now) ∧ w'.cell? ⟨bx, 1, none⟩ = some s ∧ w'.cell? ⟨b, i, none⟩ = some p ∧ w'.cell? ⟨b, k, none⟩ = some q ∧ Below v.heap.size v w' :=
  ⟨(hx.up hz).cells.1, (hx.up hz).cells.2, (hz.cell (lt_of_cell c0)).trans c0, (hz.cell (lt_of_cell c1)).trans c1, hz⟩
theorem keepWb {v w' : World} {bx : Nat} {now : Int} {s : Value} (hx : BWh v bx now s) (hz : Below v.heap.size v w') : w'.cell? ⟨bx, 0, none⟩ = some (.int .i64 now) ∧ w'.cell? ⟨bx, 1, none⟩ = some s ∧ Below v.heap.size v w' := ⟨(hx.up hz).cells.1, (hx.up hz).cells.2, hz⟩
theorem below_put2 {v w4 : World} (hz : Below v.heap.size v w4) (g : Nat) (hg : v.heap.size ≤ g) (a b : Value) : Below v.heap.size v ((w4.setCell ⟨g, 0, none⟩ a).setCell ⟨g, 1, none⟩ b) := (hz.setCell hg _).setCell hg _
/-- What a new variable of the definition's wheel holds. -/
def NwH (wz wx : World) (N : Nat → Prop) (yb : Nat) (x : Whl) (A : Option Addr) (n c : Nat) : Prop := BWh wx yb x.now (.slice A n c) ∧ GX encDu 2 wx (fun b => N b ∨ (wz.heap.size ≤ b ∧ b < wx.heap.size)) A x.all ∧ (A = none → c = 0) ∧ n = x.all.length ∧ wz.heap.size ≤ yb ∧ Below wz.heap.size wz wx
theorem nwA {N : Nat → Prop} {wz w4 : World} {x : Whl} {A : Option Addr} {c : Nat} (hz : Below wz.heap.size wz w4) (hN : ∀ b, N b → b < wz.heap.size) (hg : GX encDu 2 w4 (fun b => N b ∨ (wz.heap.size ≤ b ∧ b < w4.heap.size)) A x.all) (hn : A = none → c = 0) : NwH wz (w4.alloc (.cells #[.int .i64 x.now, .slice A x.all.length c] 43)) N w4.heap.size x A x.all.length c := by
  have hb := enew w4 (.cells #[.int .i64 x.now, .slice A x.all.length c] 43)
  refine ⟨BWh.new _ _ _, ?_, hn, rfl, hz.size, estep hz hb⟩
  have hlt : ∀ b, (N b ∨ (wz.heap.size ≤ b ∧ b < w4.heap.size)) → b < w4.heap.size := fun b hb' => by
    rcases hb' with hb' | hb'
    · exact Nat.lt_of_lt_of_le (hN b hb') hz.size
    · exact hb'.2
  exact (hg.same fun b hb' => hb.block b (hlt b hb')).imp fun b hb' => hb'.imp id fun h2 => ⟨h2.1, Nat.lt_of_lt_of_le h2.2 hb.size⟩
theorem nwB {N : Nat → Prop} {wz w4 : World} {x : Whl} {A : Option Addr} {c : Nat} (hz : Below wz.heap.size wz w4) (hN : ∀ b, N b → b < wz.heap.size) (k : BWh w4 wz.heap.size 0 (.slice none 0 0)) (hg : GX encDu 2 w4 (fun b => N b ∨ (wz.heap.size + 1 ≤ b ∧ b < w4.heap.size)) A x.all) (hn : A = none → c = 0) : NwH wz ((w4.setCell ⟨wz.heap.size, 0, none⟩ (.int .i64 x.now)).setCell ⟨wz.heap.size, 1, none⟩ (.slice A x.all.length c)) N wz.heap.size x A x.all.length c := by
  refine ⟨k.set2 _ _, ?_, hn, rfl, Nat.le_refl _, below_put2 hz _ (Nat.le_refl _) _ _⟩
  have hne : ∀ b, (N b ∨ (wz.heap.size + 1 ≤ b ∧ b < w4.heap.size)) → b ≠ wz.heap.size := fun b hb' => by
    rcases hb' with hb' | hb'
    · have := hN b hb'
      omega
    · omega
  exact (hg.same fun b hb' => (Below.heap_setCell _ ⟨wz.heap.size, 1, none⟩ _ b (hne b hb')).trans (Below.heap_setCell w4 ⟨wz.heap.size, 0, none⟩ _ b (hne b hb'))).imp fun b hb' => hb'.imp id fun h2 => ⟨by omega, by rw [World.size_setCell, World.size_setCell]; exact h2.2⟩
theorem wlall_lit (S : Nat → Prop) (B g : Nat) (x : Whl) (w : World) (h : WlH S B w g x) (hnow : x.now ≤ 1000000) {SO : List (Int × Int)} (hs : whSorted x = SO) {s : Nat} (hl : SO.length = s) :
    Calls Try.prog 28 #[.pointer (some ⟨g, 0, none⟩)] w fun e w' => ∃ A c, e = .returned (.slice A s c) ∧ GX encDu 2 w' (· < w'.heap.size) A SO ∧ Below w.heap.size w w' := by
  subst hs hl
  refine (wlall_any S B g x w h hnow).mono ?_
  rintro e w' ⟨v, rfl, hv, hb⟩
  obtain ⟨A, c, rfl, hgx, -⟩ := GB.reads encDu_len hv
  exact ⟨A, c, rfl, hgx.imp fun b hb => hb.2, hb⟩
theorem rsorted_lit (x : Whl) (A : Option Addr) (cap : Nat) (w : World) (hR : GX encDu 2 w (· < w.heap.size) A x.all) (h0 : 0 ≤ x.now) (hnow : x.now ≤ 1000000) (hl : x.all.length ≤ 32) {n : Nat} (hn : x.all.length = n) {now : Int} (hw : x.now = now) {SO : List (Int × Int)} (hs : whSorted x = SO) {s : Nat} (hsl : SO.length = s) :
    Calls Try.prog 29 #[.agg #[.int .i64 now, .slice A n cap]] w fun e w' => ∃ A c, e = .returned (.slice A s c) ∧ GX encDu 2 w' (· < w'.heap.size) A SO ∧ Below w.heap.size w w' := by
  subst hs hsl hw
  refine (rsorted_any x A cap w hR h0 hnow hl hn).mono ?_
  rintro e w' ⟨v, rfl, hv, hb⟩
  obtain ⟨A, c, rfl, hgx, -⟩ := GB.reads encDu_len hv
  exact ⟨A, c, rfl, hgx.imp fun b hb => hb.2, hb⟩
theorem whSorted_len (x : Whl) (h : x.all.length ≤ 32) : (whSorted x).length ≤ 1600 := by
  unfold whSorted
  exact flat_len _ 32 (fun i => Nat.le_trans (List.length_filter_le _ _) h) 50
theorem rwset_lit (N : Nat → Prop) (x : Whl) (A : Option Addr) (cap : Nat) (id t : Int) (w : World) (hR : GX encDu 2 w N A x.all) (hN : ∀ b, N b → b < w.heap.size) (hA : A = none → cap = 0) (h0 : 0 ≤ x.now) (hnow : x.now ≤ 1000000) (hl : x.all.length ≤ 1000000) {n : Nat} (hn : x.all.length = n) {nw : Int} (hnw : x.now = nw) {z : Int} (H : Hid ((whSet x id t).2 = z)) {x2 : Whl} (hx2 : (whSet x id t).1 = x2) {n2 : Nat} (hn2 : x2.all.length = n2) {nw2 : Int} (hnw2 : x2.now = nw2) :
    Calls Try.prog 23 #[.agg #[.int .i64 nw, .slice A n cap], .int .i64 id, .int .i64 t] w fun e w' => ∃ A2 c2, e = .returned (.tuple #[.agg #[.int .i64 nw2, .slice A2 n2 c2], .int .i64 z]) ∧ GX encDu 2 w' (fun b => N b ∨ (w.heap.size ≤ b ∧ b < w'.heap.size)) A2 x2.all ∧ (A2 = none → c2 = 0) ∧ Below w.heap.size w w' := by
  subst hx2 hn2 hnw2 hnw
  exact rwset_any N x A cap id t w hR hN hA h0 hnow hl hn H
theorem nwA2 {N : Nat → Prop} {wz w4 : World} {x : Whl} {A : Option Addr} {c : Nat} (hz : Below wz.heap.size wz w4) (hN : ∀ b, N b → b < wz.heap.size) (hg : GX encDu 2 w4 (fun b => N b ∨ (wz.heap.size ≤ b ∧ b < w4.heap.size)) A x.all) (hn : A = none → c = 0) {n : Nat} (hl : x.all.length = n) {nw : Int} (hw : x.now = nw) : NwH wz (w4.alloc (.cells #[.int .i64 nw, .slice A n c] 43)) N w4.heap.size x A n c := by
  subst hl hw
  exact nwA hz hN hg hn
theorem nwB2 {N : Nat → Prop} {wz w4 : World} {x : Whl} {A : Option Addr} {c : Nat} (hz : Below wz.heap.size wz w4) (hN : ∀ b, N b → b < wz.heap.size) (k : BWh w4 wz.heap.size 0 (.slice none 0 0)) (hg : GX encDu 2 w4 (fun b => N b ∨ (wz.heap.size + 1 ≤ b ∧ b < w4.heap.size)) A x.all) (hn : A = none → c = 0) {n : Nat} (hl : x.all.length = n) {nw : Int} (hw : x.now = nw) : NwH wz ((w4.setCell ⟨wz.heap.size, 0, none⟩ (.int .i64 nw)).setCell ⟨wz.heap.size, 1, none⟩ (.slice A n c)) N wz.heap.size x A n c := by
  subst hl hw
  exact nwB hz hN k hg hn
theorem nwA3 {N : Nat → Prop} {wz w4 : World} {x : Whl} {A : Option Addr} {c : Nat} (hz : Below wz.heap.size wz w4) (hN : ∀ b, N b → b < wz.heap.size) (hg : GX encDu 2 w4 (fun b => N b ∨ (wz.drew.heap.size ≤ b ∧ b < w4.heap.size)) A x.all) (hn : A = none → c = 0) {n : Nat} (hl : x.all.length = n) {nw : Int} (hw : x.now = nw) : NwH wz (w4.alloc (.cells #[.int .i64 nw, .slice A n c] 43)) N w4.heap.size x A n c := nwA2 hz hN hg hn hl hw
theorem nwB3 {N : Nat → Prop} {wz w4 : World} {x : Whl} {A : Option Addr} {c : Nat} (hz : Below wz.heap.size wz w4) (hN : ∀ b, N b → b < wz.heap.size) (k : BWh w4 wz.heap.size 0 (.slice none 0 0)) (hg : GX encDu 2 w4 (fun b => N b ∨ ((wz.alloc (.cells #[.int .i64 0, .slice none 0 0] 43)).drew.heap.size ≤ b ∧ b < w4.heap.size)) A x.all) (hn : A = none → c = 0) {n : Nat} (hl : x.all.length = n) {nw : Int} (hw : x.now = nw) : NwH wz ((w4.setCell ⟨wz.heap.size, 0, none⟩ (.int .i64 nw)).setCell ⟨wz.heap.size, 1, none⟩ (.slice A n c)) N wz.heap.size x A n c := by
  have e : (wz.alloc (.cells #[.int .i64 0, .slice none 0 0] 43)).drew.heap.size = wz.heap.size + 1 := World.size_alloc wz (.cells #[.int .i64 0, .slice none 0 0] 43)
  rw [e] at hg
  exact nwB2 hz hN k hg hn hl hw
end Go.Proofs.Ytldilhbomilcpaa
