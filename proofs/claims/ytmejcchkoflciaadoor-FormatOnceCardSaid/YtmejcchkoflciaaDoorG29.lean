/- Texts put together: Eo. -/
import Derived.Test.YtmejcchkoflciaaDoorG28
import Derived.Test.YtmejcchkoflciaaDoorG16
namespace Go.Proofs.YtmejcchkoflciaaDoor
set_option linter.unusedVariables false
open Go.RowKit Go.ChangeShapes Go.WideShapes Go.Deep Go.Joins
section
variable {H : Type} {enc : TypeId × Value → H} {P : Program} {w : World} {base : Nat}

theorem esized_part {t : TypeId} {fs : Array Field} {ds : List (DataW H)} (h : Sized P t (.agg ds)) (hu : P.underlying t = some (.struct fs)) {j : Nat} {f : Field} {d : DataW H} (hf : fs.toList[j]? = some f) (hd : ds[j]? = some d) : Sized P f.type d := fun n hn => h n (by
  simp only [DataW.weights, hu]
  exact DataW.weights_mem_each (by rw [List.getElem?_map, hf]; rfl) hd n hn)
theorem earray5 {α : Type} {cs : Array α} (h : cs.size = 5) : ∃ c0 c1 c2 c3 c4, cs = #[c0, c1, c2, c3, c4] := by
  obtain ⟨l⟩ := cs
  match l, h with
  | [c0, c1, c2, c3, c4], _ => exact ⟨c0, c1, c2, c3, c4, rfl⟩
theorem eagg5 {spare : Nat → Bool} {held : Bool} {r : Reach} {b0 : Nat} {t : TypeId} {f0 f1 f2 f3 f4 : Field} {v : Value} {d : DataW H} {p : List MemPlace} (hs : P.underlying t = some (.struct #[f0, f1, f2, f3, f4])) (hone : oneCellFields P #[f0, f1, f2, f3, f4] = true) (hC : P.cellsOf t = 5)
    (hv : Value.okWide P w r b0 t v) (h : DataW.Trod enc P w base spare held t v d p) :
    ∃ (v0 v1 v2 v3 v4 : Value) (y0 y1 y2 y3 y4 : DataW H × List MemPlace) (n : Nat), v = .agg #[v0, v1, v2, v3, v4] ∧ d = .agg [y0.1, y1.1, y2.1, y3.1, y4.1] ∧
      DataW.trod enc P w base spare held n f0.type [v0] = some y0 ∧ DataW.trod enc P w base spare held n f1.type [v1] = some y1 ∧ DataW.trod enc P w base spare held n f2.type [v2] = some y2 ∧ DataW.trod enc P w base spare held n f3.type [v3] = some y3 ∧ DataW.trod enc P w base spare held n f4.type [v4] = some y4 := by
  obtain ⟨cs, rfl, hsz⟩ := okWide_struct hs hv
  obtain ⟨c0, c1, c2, c3, c4, rfl⟩ := earray5 (hsz.trans hC)
  obtain ⟨fuel, hf⟩ := h
  obtain ⟨xs, n, _, hx, hl, hlen, hg⟩ := DataW.trod_struct hs hf
  obtain ⟨o0, k0⟩ := hone_of hone 0 f0 rfl
  obtain ⟨o1, k1⟩ := hone_of hone 1 f1 rfl
  obtain ⟨o2, k2⟩ := hone_of hone 2 f2 rfl
  obtain ⟨o3, k3⟩ := hone_of hone 3 f3 rfl
  obtain ⟨o4, k4⟩ := hone_of hone 4 f4 rfl
  match xs, hlen with
  | [y0, y1, y2, y3, y4], _ =>
    simp only [Prod.mk.injEq] at hx
    have h0 := hg 0 f0 rfl
    have h1 := hg 1 f1 rfl
    have h2 := hg 2 f2 rfl
    have h3 := hg 3 f3 rfl
    have h4 := hg 4 f4 rfl
    exact ⟨c0, c1, c2, c3, c4, y0, y1, y2, y3, y4, n, rfl, hx.1, by simpa [Value.cells, o0, k0] using h0, by simpa [Value.cells, o1, k1] using h1, by simpa [Value.cells, o2, k2] using h2, by simpa [Value.cells, o3, k3] using h3, by simpa [Value.cells, o4, k4] using h4⟩
theorem open_QV {r : Reach} {b0 : Nat} {t q l e : TypeId} {f0 f1 f2 f3 f4 g0 g1 : Field} {v : Value} {d : DataW H} {p : List MemPlace} (hs : P.underlying t = some (.struct #[f0, f1, f2, f3, f4])) (hq : P.underlying q = some .string) (hl : P.underlying l = some (.slice e)) (he : P.underlying e = some (.struct #[g0, g1]))
    (hone : oneCellFields P #[f0, f1, f2, f3, f4] = true) (hC : P.cellsOf t = 5) (ce : P.cellsOf e = 2) (cq : P.cellsOf q = 1) (hg : g0.offset = 0 ∧ g1.offset = 1 ∧ g0.type = q ∧ g1.type = q) (hf : f0.type = q ∧ f1.type = q ∧ f2.type = q ∧ f3.type = l ∧ f4.type = q)
    (hz : Sized P t d) (hv : Value.okWide P w r b0 t v) (h : DataW.Trod enc P w base (fun _ => true) true t v d p) :
    ∃ (m h p : List UInt8) (x : Value) (L : List Hd) (b : List UInt8), v = .agg #[.string (bs m), .string (bs h), .string (bs p), x, .string (bs b)] ∧ HV w x L ∧ L.length ≤ 9223372036854775807 ∧ (∀ h ∈ L, h.1.length ≤ 140737488351232 ∧ h.2.length ≤ 140737488351232) ∧
      m.length ≤ 140737488351232 ∧ h.length ≤ 140737488351232 ∧ p.length ≤ 140737488351232 ∧ b.length ≤ 140737488351232 := by
  obtain ⟨v0, v1, v2, v3, v4, y0, y1, y2, y3, y4, n, rfl, rfl, h0, h1, h2, h3, h4⟩ := eagg5 hs hone hC hv h
  obtain ⟨e0, e1, e2, e3, e4⟩ := hf
  have z0 := esized_part hz hs (j := 0) rfl rfl
  have z1 := esized_part hz hs (j := 1) rfl rfl
  have z2 := esized_part hz hs (j := 2) rfl rfl
  have z3 := esized_part hz hs (j := 3) rfl rfl
  have z4 := esized_part hz hs (j := 4) rfl rfl
  rw [e0] at h0
  rw [e1] at h1
  rw [e2] at h2
  rw [e3] at h3 z3
  rw [e4] at h4
  obtain ⟨m, rfl, a0⟩ := str_of hq h0
  obtain ⟨hh, rfl, a1⟩ := str_of hq h1
  obtain ⟨pp, rfl, a2⟩ := str_of hq h2
  obtain ⟨b, rfl, a4⟩ := str_of hq h4
  obtain ⟨A', l', c', hc⟩ := slice_form hl h3
  simp only [List.cons.injEq, and_true] at hc
  subst hc
  obtain ⟨L, A, cap, e1', hR, _, hlc, hcm, hB⟩ := open_HX (p := y3.2) hl he hq ce cq hg z3 ⟨n, h3⟩
  rw [a0] at z0
  rw [a1] at z1
  rw [a2] at z2
  rw [a4] at z4
  exact ⟨m, hh, pp, _, L, b, rfl, ⟨A, cap, e1', hR⟩, by unfold maxLen at hcm; omega, hB, z0.str, z1.str, z2.str, z4.str⟩
/-- The types of a predicate, as the program has them. -/
structure PdT (P : Program) (t i u : TypeId) (f0 f1 f2 : Field) : Prop where
  ht : P.underlying t = some (.struct #[f0, f1, f2])
  hi : P.underlying i = some (.int .i64)
  hu : P.underlying u = some .string
  ci : P.cellsOf i = 1
  cu : P.cellsOf u = 1
  ct : P.cellsOf t = 3
  ty : f0.type = i ∧ f1.type = u ∧ f2.type = u
  off : f0.offset = 0 ∧ f1.offset = 1 ∧ f2.offset = 2
def okPd (e : Pd) : Prop := e.n.length ≤ 140737488351232 ∧ e.v.length ≤ 140737488351232
theorem pd_of {t i u : TypeId} {f0 f1 f2 : Field} (T : PdT P t i u f0 f1 f2) {sp : Nat → Bool} {hd : Bool} {fuel : Nat} {cs : List Value} {x : DataW H × List MemPlace}
    (h : DataW.trod enc P w base sp hd fuel t cs = some x) (hz : Sized P t x.1) : ∃ e : Pd, okPd e ∧ cs = [.int .i64 e.k, .string (bs e.n), .string (bs e.v)] := by
  obtain ⟨xs, n, _, hx, hl, hlen, hgg⟩ := DataW.trod_struct T.ht h
  rw [T.ct] at hl
  obtain ⟨t0, t1, t2⟩ := T.ty
  obtain ⟨o0, o1, o2⟩ := T.off
  match cs, hl, xs, hlen with
  | [c0, c1, c2], _, [y0, y1, y2], _ =>
    have h0 := hgg 0 f0 rfl
    have h1 := hgg 1 f1 rfl
    have h2 := hgg 2 f2 rfl
    rw [t0, o0, T.ci] at h0
    rw [t1, o1, T.cu] at h1
    rw [t2, o2, T.cu] at h2
    obtain ⟨a, ea, _, _⟩ := DataW.trod_int T.hi h0
    obtain ⟨n1, en, an⟩ := str_of T.hu h1
    obtain ⟨v1, ev, av⟩ := str_of T.hu h2
    rw [hx] at hz
    have z1 := esized_part hz T.ht (j := 1) (f := f1) (d := y1.1) rfl rfl
    have z2 := esized_part hz T.ht (j := 2) (f := f2) (d := y2.1) rfl rfl
    rw [an] at z1
    rw [av] at z2
    have ea2 : c0 = .int .i64 a := by simpa using ea
    exact ⟨⟨a, n1, v1⟩, ⟨z1.str, z2.str⟩, by rw [ea2, en, ev]⟩
theorem open_PD {r : Reach} {b0 : Nat} {t i u : TypeId} {f0 f1 f2 : Field} (T : PdT P t i u f0 f1 f2) {v : Value} {d : DataW H} {p : List MemPlace} (hz : Sized P t d) (hv : Value.okWide P w r b0 t v) (h : DataW.Trod enc P w base (fun _ => true) true t v d p) :
    ∃ e : Pd, v = .agg #[.int .i64 e.k, .string (bs e.n), .string (bs e.v)] ∧ okPd e := by
  obtain ⟨cs, rfl, _⟩ := okWide_struct T.ht hv
  obtain ⟨fuel, hf⟩ := h
  obtain ⟨e, he, hc⟩ := pd_of T (x := (d, p)) hf hz
  refine ⟨e, ?_, he⟩
  have : cs = #[.int .i64 e.k, .string (bs e.n), .string (bs e.v)] := by
    apply Array.toList_inj.1
    simpa [Value.cells] using hc
  rw [this]
theorem preds_of {ts t i u : TypeId} {f0 f1 f2 : Field} (T : PdT P t i u f0 f1 f2) (hts : P.underlying ts = some (.slice t)) {fuel : Nat} {cs : List Value} {x : DataW H × List MemPlace}
    (h : DataW.trod enc P w base (fun _ => true) true fuel ts cs = some x) (hz : Sized P ts x.1) :
    ∃ (v : Value) (L : List Pd), cs = [v] ∧ PV w (· < w.heap.size) v L ∧ ∀ e ∈ L, okPd e := by
  rcases open_slice hts h with ⟨h0, _⟩ | ⟨a, len, cap, m, n, D, Pl, hcs, _, hl, hm, hmm, hx0, hx⟩
  · exact ⟨.slice none 0 0, [], h0, PV.nil _ _, by simp⟩
  · simp only [if_true] at hmm
    subst hmm
    rw [hx0] at hz
    have each : ∀ i, i < len → ∃ s : Pd, okPd s ∧ ∃ cs', w.cells? base (a.add (i * 3)) 3 = some cs' ∧ cs' = [.int .i64 s.k, .string (bs s.n), .string (bs s.v)] := fun i hi => by
      obtain ⟨cs', h1, h2⟩ := hx i (by omega)
      rw [T.ct] at h1
      obtain ⟨s, hs, hc⟩ := pd_of T h2 (hz.elem hts (d := D i) (List.mem_map.2 ⟨i, List.mem_range.2 hi, rfl⟩))
      exact ⟨s, hs, cs', h1, hc⟩
    haveI : Inhabited Pd := ⟨⟨0, [], []⟩⟩
    obtain ⟨F, hF⟩ := choose_lt each
    have hlen : ((List.range len).map F).length = len := by simp
    refine ⟨.slice (some a) len m, (List.range len).map F, hcs, ⟨some a, m, by rw [hlen], (fun k hk => ?_), (fun h => by cases h), by rw [hlen]; exact hl, by rw [hlen]; unfold maxLen at hm; omega⟩, fun s hs => ?_⟩
    · rw [hlen] at hk
      obtain ⟨_, cs', h1, h2⟩ := hF k hk
      obtain ⟨_, hl', hcell⟩ := World.cells?_some h1
      have hz0 := hF 0 (by omega)
      obtain ⟨_, cs0, y1, y2⟩ := hz0
      obtain ⟨_, _, ycell⟩ := World.cells?_some y1
      have hc00 := ycell 0 (by omega)
      rw [y2] at hc00
      have hpl := plain_of_cell hc00
      simp only [Nat.zero_mul, Addr.add, if_true] at hpl
      have hat : ∀ j, j < 3 → w.cell? ⟨a.block, a.off + (k * 3 + j), none⟩ = cs'[j]? := fun j hj => by
        have := hcell j hj
        rw [hpl, add_add, Addr.add_lit] at this
        exact this
      rw [h2] at hat
      have hlt : a.block < w.heap.size := lt_of_cell (a := ⟨a.block, a.off + (k * 3 + 0), none⟩) (hat 0 (by omega))
      simp only [List.getElem_map, List.getElem_range]
      refine ⟨a.block, a.off, by rw [← hpl], hlt, ?_, ?_, ?_⟩
      · exact hat 0 (by omega)
      · rw [Nat.add_assoc]; exact hat 1 (by omega)
      · rw [Nat.add_assoc]; exact hat 2 (by omega)
    · obtain ⟨i, hi, rfl⟩ := List.mem_map.1 hs
      exact (hF i (List.mem_range.1 hi)).1
theorem open_PS {r : Reach} {b0 : Nat} {ts t i u : TypeId} {f0 f1 f2 : Field} (T : PdT P t i u f0 f1 f2) (hts : P.underlying ts = some (.slice t)) {v : Value} {d : DataW H} {p : List MemPlace} (hz : Sized P ts d) (hv : Value.okWide P w r b0 ts v) (h : DataW.Trod enc P w base (fun _ => true) true ts v d p) :
    ∃ L : List Pd, PV w (· < w.heap.size) v L ∧ smallP L := by
  obtain ⟨A, n, c, rfl⟩ := okWide_slice hts hv
  obtain ⟨fuel, hf⟩ := h
  obtain ⟨v', L, e, h1, h2⟩ := preds_of T hts (x := (d, p)) hf hz
  have e' : Value.slice A n c = v' := by simpa [Value.cells] using e
  rw [e']
  exact ⟨L, h1, h2⟩
end
end Go.Proofs.YtmejcchkoflciaaDoor
