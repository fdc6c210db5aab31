/- Arguments that are batches: opened. -/
import Derived.Test.YtgpioafkahoahaaSm
import Derived.Test.YtgpioafkahoahaaBa
namespace Go.Proofs.Ytgpioafkahoahaa
set_option linter.unusedVariables false
open Go.RowKit Go.ChangeShapes Go.WideShapes Go.Deep Go.Joins
section
variable {H : Type} {enc : TypeId × Value → H} {P : Program} {w : World} {base : Nat}

instance : Inhabited Sp := ⟨sp0⟩
/-- A slice of spans, as a value that can be read. -/
def SV (w : World) (v : Value) (L : List Sp) : Prop := ∃ A c, v = .slice A L.length c ∧ SR w (· < w.heap.size) A L ∧ L.length ≤ 9223372036854775807
theorem SV.up {w w' : World} {v : Value} {L : List Sp} (h : SV w v L) (hb : Below w.heap.size w w') : SV w' v L := by
  obtain ⟨A, c, e, h1, h2⟩ := h
  exact ⟨A, c, e, h1.up hb, h2⟩
theorem spans_of {ts t tr q i u bo : TypeId} {f0 f1 f2 f3 f4 f5 f6 f7 f8 f9 g0 g1 : Field} (T : SpT P t tr q i u bo f0 f1 f2 f3 f4 f5 f6 f7 f8 f9 g0 g1) (hts : P.underlying ts = some (.slice t)) {fuel : Nat} {cs : List Value} {x : DataW H × List MemPlace}
    (h : DataW.trod enc P w base (fun _ => true) true fuel ts cs = some x) (hz : Sized P ts x.1) :
    ∃ (v : Value) (L : List Sp), cs = [v] ∧ SV w v L ∧ ∀ s ∈ L, okSp s := by
  rcases open_slice hts h with ⟨h0, _⟩ | ⟨a, len, cap, m, n, D, Pl, hcs, _, hl, hm, hmm, hx0, hx⟩
  · exact ⟨.slice none 0 0, [], h0, ⟨none, 0, rfl, SR.nil _ _, by simp⟩, by simp⟩
  · simp only [if_true] at hmm
    subst hmm
    rw [hx0] at hz
    have each : ∀ i, i < len → ∃ s : Sp, okSp s ∧ ∃ cs', w.cells? base (a.add (i * 11)) 11 = some cs' ∧ cs' = [.int .u64 (s.hi : Int), .int .u64 (s.lo : Int), .int .u64 (s.id : Int), .int .u64 (s.up : Int), .string (bs s.name), .int .i64 s.status, .int .i64 s.seq, .int .i64 s.kids, .bool s.shade, .int .i64 s.start, .int .i64 s.fin] := fun i hi => by
      obtain ⟨cs', h1, h2⟩ := hx i (by omega)
      rw [T.ct] at h1
      obtain ⟨s, hs, hc⟩ := span_of T h2 (hz.elem hts (d := D i) (List.mem_map.2 ⟨i, List.mem_range.2 hi, rfl⟩))
      exact ⟨s, hs, cs', h1, hc⟩
    obtain ⟨F, hF⟩ := choose_lt each
    have hlen : ((List.range len).map F).length = len := by simp
    refine ⟨.slice (some a) len m, (List.range len).map F, hcs, ⟨some a, m, by rw [hlen], fun k hk => ?_, by rw [hlen]; unfold maxLen at hm; omega⟩, fun s hs => ?_⟩
    · rw [hlen] at hk
      obtain ⟨_, cs', h1, h2⟩ := hF k hk
      obtain ⟨_, hl', hcell⟩ := World.cells?_some h1
      have hz0 := hF 0 (by omega)
      obtain ⟨_, cs0, y1, y2⟩ := hz0
      obtain ⟨_, _, ycell⟩ := World.cells?_some y1
      have hc00 := ycell 0 (by omega)
      rw [y2] at hc00
      have hpl := plain_of_cell hc00
      simp only [Nat.zero_mul, Addr.add, if_true] at hpl
      have hat : ∀ j, j < 11 → w.cell? ⟨a.block, a.off + (k * 11 + j), none⟩ = cs'[j]? := fun j hj => by
        have := hcell j hj
        rw [hpl, add_add, Addr.add_lit] at this
        exact this
      rw [h2] at hat
      have hlt : a.block < w.heap.size := lt_of_cell (a := ⟨a.block, a.off + (k * 11 + 0), none⟩) (hat 0 (by omega))
      simp only [List.getElem_map, List.getElem_range]
      refine ⟨a.block, a.off, by rw [← hpl], hlt, ?_, ?_, ?_, ?_, ?_, ?_, ?_, ?_, ?_, ?_, ?_⟩
      · exact hat 0 (by omega)
      · rw [Nat.add_assoc]; exact hat 1 (by omega)
      · rw [Nat.add_assoc]; exact hat 2 (by omega)
      · rw [Nat.add_assoc]; exact hat 3 (by omega)
      · rw [Nat.add_assoc]; exact hat 4 (by omega)
      · rw [Nat.add_assoc]; exact hat 5 (by omega)
      · rw [Nat.add_assoc]; exact hat 6 (by omega)
      · rw [Nat.add_assoc]; exact hat 7 (by omega)
      · rw [Nat.add_assoc]; exact hat 8 (by omega)
      · rw [Nat.add_assoc]; exact hat 9 (by omega)
      · rw [Nat.add_assoc]; exact hat 10 (by omega)
    · obtain ⟨i, hi, rfl⟩ := List.mem_map.1 hs
      exact (hF i (List.mem_range.1 hi)).1
theorem open_BT {r : Reach} {b0 : Nat} {bt ts t tr q i u bo : TypeId} {f0 f1 f2 f3 f4 f5 f6 f7 f8 f9 g0 g1 k0 k1 k2 : Field} (T : SpT P t tr q i u bo f0 f1 f2 f3 f4 f5 f6 f7 f8 f9 g0 g1) (hts : P.underlying ts = some (.slice t)) (hbt : P.underlying bt = some (.struct #[k0, k1, k2]))
    (hone : oneCellFields P #[k0, k1, k2] = true) (hC : P.cellsOf bt = 3) (hk : k0.type = i ∧ k1.type = i ∧ k2.type = ts) {v : Value} {d : DataW H} {p : List MemPlace}
    (hz : Sized P bt d) (hv : Value.okWide P w r b0 bt v) (h : DataW.Trod enc P w base (fun _ => true) true bt v d p) :
    ∃ (n m : Int) (x : Value) (L : List Sp), v = .agg #[.int .i64 n, .int .i64 m, x] ∧ SV w x L ∧ ∀ s ∈ L, okSp s := by
  obtain ⟨v0, v1, v2, y0, y1, y2, nn, rfl, rfl, _, h0, h1, h2⟩ := open_agg3 hbt hone hC hv h
  obtain ⟨e0, e1, e2⟩ := hk
  have z2 := sized_part hz hbt (j := 2) (f := k2) (d := y2.1) rfl rfl
  rw [e0] at h0
  rw [e1] at h1
  rw [e2] at h2 z2
  obtain ⟨a, ea, _, _⟩ := DataW.trod_int T.hi h0
  obtain ⟨b, eb, _, _⟩ := DataW.trod_int T.hi h1
  obtain ⟨x, L, ex, hx, hL⟩ := spans_of T hts h2 z2
  simp only [List.cons.injEq, and_true] at ea eb ex
  exact ⟨a, b, x, L, by rw [ea, eb, ex], hx, hL⟩
end
end Go.Proofs.Ytgpioafkahoahaa
