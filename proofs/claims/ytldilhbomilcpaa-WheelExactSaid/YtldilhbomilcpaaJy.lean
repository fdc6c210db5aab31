/- wheel: moves as arguments; what stands on two wheels. -/
import Derived.Test.YtldilhbomilcpaaJx
import Derived.Test.YtldilhbomilcpaaSh
namespace Go.Proofs.Ytldilhbomilcpaa
set_option linter.unusedVariables false
set_option linter.unusedSimpArgs false
open Go.RowKit Go.ChangeShapes Go.WideShapes Go.Deep Go.Joins

/-- The types of a move, as the program has them. -/
structure MvT (P : Program) (t i : TypeId) (f0 f1 : Field) : Prop where
  ht : P.underlying t = some (.struct #[f0, f1])
  hi : P.underlying i = some (.int .i64)
  ci : P.cellsOf i = 1
  ct : P.cellsOf t = 2
  ty : f0.type = i ∧ f1.type = i
  off : f0.offset = 0 ∧ f1.offset = 1
/-- A slice of moves, as a value. -/
def MvV (w : World) (N : Nat → Prop) (v : Value) (L : List (Int × Int)) : Prop := ∃ A c, v = .slice A L.length c ∧ GX encDu 2 w N A L ∧ L.length ≤ maxLen
section
variable {H : Type} {enc : TypeId × Value → H} {P : Program} {w : World} {base : Nat}
theorem mv_of {t i : TypeId} {f0 f1 : Field} (T : MvT P t i f0 f1) {sp : Nat → Bool} {hd : Bool} {fuel : Nat} {cs : List Value} {x : DataW H × List MemPlace}
    (h : DataW.trod enc P w base sp hd fuel t cs = some x) : ∃ p : Int × Int, cs = [.int .i64 p.1, .int .i64 p.2] := by
  obtain ⟨xs, n, _, hx, hl, hlen, hgg⟩ := DataW.trod_struct T.ht h
  rw [T.ct] at hl
  obtain ⟨t0, t1⟩ := T.ty
  obtain ⟨o0, o1⟩ := T.off
  match cs, hl, xs, hlen with
  | [c0, c1], _, [y0, y1], _ =>
    have h0 := hgg 0 f0 rfl
    have h1 := hgg 1 f1 rfl
    rw [t0, o0, T.ci] at h0
    rw [t1, o1, T.ci] at h1
    obtain ⟨a, ea, _, _⟩ := DataW.trod_int T.hi h0
    obtain ⟨b, eb, _, _⟩ := DataW.trod_int T.hi h1
    have ea2 : c0 = .int .i64 a := by simpa using ea
    have eb2 : c1 = .int .i64 b := by simpa using eb
    exact ⟨(a, b), by rw [ea2, eb2]⟩
theorem open_MVS {ts t i : TypeId} {f0 f1 : Field} (T : MvT P t i f0 f1) (hts : P.underlying ts = some (.slice t)) {A0 : Option Addr} {n0 c0 : Nat} {d : DataW H} {p : List MemPlace} (h : DataW.Trod enc P w base (fun _ => true) true ts (.slice A0 n0 c0) d p) :
    ∃ L : List (Int × Int), MvV w (· < w.heap.size) (.slice A0 n0 c0) L := by
  obtain ⟨fuel, hf⟩ := h
  rcases open_slice hts hf with ⟨h0, _⟩ | ⟨a, len, cap, m, n, D, Pl, hcs, _, hl, hm, hmm, hx0, hx⟩
  · have e' : Value.slice A0 n0 c0 = .slice none 0 0 := by simpa [Value.cells] using h0
    rw [e']
    exact ⟨[], none, 0, rfl, GX.nil _ _ _, by simp⟩
  · simp only [if_true] at hmm
    subst hmm
    have each : ∀ i, i < len → ∃ s : Int × Int, ∃ cs', w.cells? base (a.add (i * 2)) 2 = some cs' ∧ cs' = [.int .i64 s.1, .int .i64 s.2] := fun i hi => by
      obtain ⟨cs', h1, h2⟩ := hx i (by omega)
      rw [T.ct] at h1
      obtain ⟨s, hc⟩ := mv_of T h2
      exact ⟨s, cs', h1, hc⟩
    haveI : Inhabited (Int × Int) := ⟨(0, 0)⟩
    obtain ⟨F, hF⟩ := choose_lt each
    have hlen : ((List.range len).map F).length = len := by simp
    have e' : Value.slice A0 n0 c0 = .slice (some a) len m := by simpa [Value.cells] using hcs
    rw [e']
    refine ⟨(List.range len).map F, some a, m, by rw [hlen], fun k hk => ?_, by rw [hlen]; omega⟩
    rw [hlen] at hk
    obtain ⟨cs', h1, h2⟩ := hF k hk
    obtain ⟨_, hl', hcell⟩ := World.cells?_some h1
    obtain ⟨cs0, y1, y2⟩ := hF 0 (by omega)
    obtain ⟨_, _, ycell⟩ := World.cells?_some y1
    have hc00 := ycell 0 (by omega)
    rw [y2] at hc00
    have hpl := plain_of_cell hc00
    simp only [Nat.zero_mul, Addr.add, if_true] at hpl
    have hat : ∀ j, j < 2 → w.cell? ⟨a.block, a.off + (k * 2 + j), none⟩ = cs'[j]? := fun j hj => by
      have := hcell j hj
      rw [hpl, add_add, Addr.add_lit] at this
      exact this
    rw [h2] at hat
    have hlt : a.block < w.heap.size := lt_of_cell (a := ⟨a.block, a.off + (k * 2 + 0), none⟩) (hat 0 (by omega))
    simp only [List.getElem_map, List.getElem_range]
    exact ⟨a.block, a.off, by rw [← hpl], hlt, fun j hj => hat j hj⟩
end
/-- Two wheels. -/
structure WlT (w wr : World) (S T : Nat → Prop) (g g2 : Nat) (x y : Whl) : Prop where
  a : WlH S w.heap.size wr g x
  b : WlH T w.heap.size wr g2 y
  apart : ∀ b, S b → ¬ T b
  bel : Below w.heap.size w wr
section
variable {w wr w2 : World} {S T : Nat → Prop} {g g2 : Nat} {x y x' y' : Whl}
theorem WlH.sg (h : WlH S w.heap.size wr g x) : S g := by obtain ⟨f, hf⟩ := h; exact hf.sg
theorem WlT.up (h : WlT w wr S T g g2 x y) (hb : Below wr.heap.size wr w2) : WlT w w2 S T g g2 x y := ⟨h.a.up hb, h.b.up hb, h.apart, estep h.bel hb⟩
theorem WlT.set1 (h : WlT w wr S T g g2 x y) (hW : WlH (Grw S wr w2) w.heap.size w2 g x') (ho : OnS S wr w2) : WlT w w2 (Grw S wr w2) T g g2 x' y :=
  ⟨hW, h.b.onS ho (fun b hb hs => h.apart b hs hb), fun b hb ht => by
    rcases hb with hb | hb
    · exact h.apart b hb ht
    · have := h.b.wsub b ht
      omega, WlH.low h.a h.bel ho⟩
theorem WlT.set2 (h : WlT w wr S T g g2 x y) (hW : WlH (Grw T wr w2) w.heap.size w2 g2 y') (ho : OnS T wr w2) : WlT w w2 S (Grw T wr w2) g g2 x y' :=
  ⟨h.a.onS ho (fun b hb => h.apart b hb), hW, fun b hb ht => by
    rcases ht with ht | ht
    · exact h.apart b hb ht
    · have := h.a.wsub b hb
      omega, WlH.low h.b h.bel ho⟩
theorem WlT.step1 (h : WlT w wr S T g g2 x y) (hW : WlH S w.heap.size w2 g x') (ho : OnS (fun b => b = g) wr w2) : WlT w w2 S T g g2 x' y :=
  ⟨hW, h.b.onS ho (fun b hb hs => h.apart g (WlH.sg h.a) (hs ▸ hb)), h.apart, WlH.low1 h.a h.bel ho⟩
theorem WlT.step2 (h : WlT w wr S T g g2 x y) (hW : WlH T w.heap.size w2 g2 y') (ho : OnS (fun b => b = g2) wr w2) : WlT w w2 S T g g2 x y' :=
  ⟨h.a.onS ho (fun b hb hs => h.apart b hb (hs ▸ WlH.sg h.b)), hW, h.apart, WlH.low1 h.b h.bel ho⟩
end
end Go.Proofs.Ytldilhbomilcpaa
