/- Texts put together: Rv Qc Ki Wo. -/
import Derived.Test.YtelglcakekgdeaaGreatDoorG29
import Derived.Test.YtelglcakekgdeaaGreatDoorG18
namespace Go.Proofs.YtelglcakekgdeaaGreatDoor
set_option linter.unusedVariables false
open Go.RowKit Go.ChangeShapes Go.WideShapes Go.Deep Go.Joins
section
variable {H : Type} {enc : TypeId × Value → H} {P : Program} {w : World} {base : Nat}

/-- The types of a rule, as the program has them. -/
structure RuT (P : Program) (t l q i u : TypeId) (f0 f1 f2 f3 f4 f5 f6 f7 f8 f9 g0 g1 g2 : Field) : Prop where
  ht : P.underlying t = some (.struct #[f0, f1, f2, f3, f4, f5, f6, f7, f8, f9])
  hl : P.underlying l = some (.slice q)
  pd : PdT P q i u g0 g1 g2
  ct : P.cellsOf t = 10
  cl : P.cellsOf l = 1
  ty : f0.type = i ∧ f1.type = l ∧ f2.type = u ∧ f3.type = i ∧ f4.type = i ∧ f5.type = i ∧ f6.type = i ∧ f7.type = i ∧ f8.type = u ∧ f9.type = i
  off : f0.offset = 0 ∧ f1.offset = 1 ∧ f2.offset = 2 ∧ f3.offset = 3 ∧ f4.offset = 4 ∧ f5.offset = 5 ∧ f6.offset = 6 ∧ f7.offset = 7 ∧ f8.offset = 8 ∧ f9.offset = 9
theorem ru_of {t l q i u : TypeId} {f0 f1 f2 f3 f4 f5 f6 f7 f8 f9 g0 g1 g2 : Field} (T : RuT P t l q i u f0 f1 f2 f3 f4 f5 f6 f7 f8 f9 g0 g1 g2) {fuel : Nat} {cs : List Value} {x : DataW H × List MemPlace}
    (h : DataW.trod enc P w base (fun _ => true) true fuel t cs = some x) (hz : Sized P t x.1) : ∃ (y : Value) (s : Rs), okRs s ∧ PV w (· < w.heap.size) y s.ps ∧ cs = [.int .i64 s.rank, y, .string (bs s.tg), .int .i64 s.ap, .int .i64 s.st, .int .i64 s.dp, .int .i64 s.dt, .int .i64 s.mp, .string (bs s.mi), .int .i64 s.sm] := by
  obtain ⟨xs, n, _, hx, hl, hlen, hgg⟩ := DataW.trod_struct T.ht h
  rw [T.ct] at hl
  obtain ⟨t0, t1, t2, t3, t4, t5, t6, t7, t8, t9⟩ := T.ty
  obtain ⟨o0, o1, o2, o3, o4, o5, o6, o7, o8, o9⟩ := T.off
  match cs, hl, xs, hlen with
  | [c0, c1, c2, c3, c4, c5, c6, c7, c8, c9], _, [y0, y1, y2, y3, y4, y5, y6, y7, y8, y9], _ =>
    have h0 := hgg 0 f0 rfl
    have h1 := hgg 1 f1 rfl
    have h2 := hgg 2 f2 rfl
    have h3 := hgg 3 f3 rfl
    have h4 := hgg 4 f4 rfl
    have h5 := hgg 5 f5 rfl
    have h6 := hgg 6 f6 rfl
    have h7 := hgg 7 f7 rfl
    have h8 := hgg 8 f8 rfl
    have h9 := hgg 9 f9 rfl
    rw [t0, o0, T.pd.ci] at h0
    rw [t1, o1, T.cl] at h1
    rw [t2, o2, T.pd.cu] at h2
    rw [t3, o3, T.pd.ci] at h3
    rw [t4, o4, T.pd.ci] at h4
    rw [t5, o5, T.pd.ci] at h5
    rw [t6, o6, T.pd.ci] at h6
    rw [t7, o7, T.pd.ci] at h7
    rw [t8, o8, T.pd.cu] at h8
    rw [t9, o9, T.pd.ci] at h9
    obtain ⟨a0, ea0, _, _⟩ := DataW.trod_int T.pd.hi h0
    obtain ⟨a3, ea3, _, _⟩ := DataW.trod_int T.pd.hi h3
    obtain ⟨a4, ea4, _, _⟩ := DataW.trod_int T.pd.hi h4
    obtain ⟨a5, ea5, _, _⟩ := DataW.trod_int T.pd.hi h5
    obtain ⟨a6, ea6, _, _⟩ := DataW.trod_int T.pd.hi h6
    obtain ⟨a7, ea7, _, _⟩ := DataW.trod_int T.pd.hi h7
    obtain ⟨a9, ea9, _, _⟩ := DataW.trod_int T.pd.hi h9
    rw [hx] at hz
    obtain ⟨y, L, ey, hy, hL⟩ := preds_of T.pd T.hl h1 (by have := esized_part hz T.ht (j := 1) (f := f1) (d := y1.1) rfl rfl; rw [t1] at this; exact this)
    obtain ⟨n2, en2, an2⟩ := str_of T.pd.hu h2
    have z2 := esized_part hz T.ht (j := 2) (f := f2) (d := y2.1) rfl rfl
    rw [an2] at z2
    obtain ⟨n8, en8, an8⟩ := str_of T.pd.hu h8
    have z8 := esized_part hz T.ht (j := 8) (f := f8) (d := y8.1) rfl rfl
    rw [an8] at z8
    have ec0 : c0 = .int .i64 a0 := by simpa using ea0
    have ec3 : c3 = .int .i64 a3 := by simpa using ea3
    have ec4 : c4 = .int .i64 a4 := by simpa using ea4
    have ec5 : c5 = .int .i64 a5 := by simpa using ea5
    have ec6 : c6 = .int .i64 a6 := by simpa using ea6
    have ec7 : c7 = .int .i64 a7 := by simpa using ea7
    have ec9 : c9 = .int .i64 a9 := by simpa using ea9
    have ec1 : c1 = y := by simpa using ey
    exact ⟨y, ⟨a0, L, n2, a3, a4, a5, a6, a7, n8, a9⟩, ⟨hL, z2.str, z8.str, by obtain ⟨_, _, _, _, _, _, h9⟩ := hy; exact h9⟩, hy, by rw [ec0, ec1, en2, ec3, ec4, ec5, ec6, ec7, en8, ec9]⟩
theorem open_RU {r : Reach} {b0 : Nat} {t l q i u : TypeId} {f0 f1 f2 f3 f4 f5 f6 f7 f8 f9 g0 g1 g2 : Field} (T : RuT P t l q i u f0 f1 f2 f3 f4 f5 f6 f7 f8 f9 g0 g1 g2) {v : Value} {d : DataW H} {p : List MemPlace} (hz : Sized P t d) (hv : Value.okWide P w r b0 t v) (h : DataW.Trod enc P w base (fun _ => true) true t v d p) :
    ∃ (y : Value) (s : Rs), v = .agg #[.int .i64 s.rank, y, .string (bs s.tg), .int .i64 s.ap, .int .i64 s.st, .int .i64 s.dp, .int .i64 s.dt, .int .i64 s.mp, .string (bs s.mi), .int .i64 s.sm] ∧ PV w (· < w.heap.size) y s.ps ∧ okRs s := by
  obtain ⟨cs, rfl, _⟩ := okWide_struct T.ht hv
  obtain ⟨fuel, hf⟩ := h
  obtain ⟨y, s, hs, hy, hc⟩ := ru_of T (x := (d, p)) hf hz
  refine ⟨y, s, ?_, hy, hs⟩
  have : cs = #[.int .i64 s.rank, y, .string (bs s.tg), .int .i64 s.ap, .int .i64 s.st, .int .i64 s.dp, .int .i64 s.dt, .int .i64 s.mp, .string (bs s.mi), .int .i64 s.sm] := by
    apply Array.toList_inj.1
    simpa [Value.cells] using hc
  rw [this]
end
end Go.Proofs.YtelglcakekgdeaaGreatDoor
namespace Go.Proofs.YtelglcakekgdeaaGreatDoor
set_option linter.unusedVariables false
open Go.RowKit Go.ChangeShapes Go.WideShapes Go.Deep Go.Joins
section
variable {H : Type} {enc : TypeId × Value → H} {P : Program} {w : World} {base : Nat}

theorem rv_one {t l q i u : TypeId} {f0 f1 f2 f3 f4 f5 f6 f7 f8 f9 g0 g1 g2 : Field} (T : RuT P t l q i u f0 f1 f2 f3 f4 f5 f6 f7 f8 f9 g0 g1 g2) {fuel : Nat} {cs : List Value} {x : DataW H × List MemPlace}
    (h : DataW.trod enc P w base (fun _ => true) true fuel t cs = some x) (hz : Sized P t x.1) : ∃ r : Ru, (okRs r.sem ∧ PV w (· < w.heap.size) r.x r.ps) ∧ cs = encR r := by
  obtain ⟨y, s, hs, hy, hc⟩ := ru_of T h hz
  obtain ⟨A, c, e, h1⟩ := hy
  exact ⟨⟨s.rank, A, s.ps.length, c, s.ps, s.tg, s.ap, s.st, s.dp, s.dt, s.mp, s.mi, s.sm⟩, ⟨hs, ⟨A, c, rfl, h1⟩⟩, by rw [hc, e]; rfl⟩
theorem rv_nil (w : World) : RV w (.slice none 0 0) [] := ⟨none, 0, rfl, GX.nil _ _ _, fun u hu => (by cases hu), fun _ => rfl, Nat.le_refl _, by simp⟩
theorem rules_of {ts t l q i u : TypeId} {f0 f1 f2 f3 f4 f5 f6 f7 f8 f9 g0 g1 g2 : Field} (T : RuT P t l q i u f0 f1 f2 f3 f4 f5 f6 f7 f8 f9 g0 g1 g2) (hts : P.underlying ts = some (.slice t)) {fuel : Nat} {cs : List Value} {x : DataW H × List MemPlace}
    (h : DataW.trod enc P w base (fun _ => true) true fuel ts cs = some x) (hz : Sized P ts x.1) :
    ∃ (v : Value) (U : List Ru), cs = [v] ∧ RV w v U ∧ ∀ u ∈ U, okRs u.sem := by
  rcases open_slice hts h with ⟨h0, _⟩ | ⟨a, len, cap, m, n, D, Pl, hcs, _, hl, hm, hmm, hx0, hx⟩
  · exact ⟨.slice none 0 0, [], h0, rv_nil w, by simp⟩
  · simp only [if_true] at hmm
    subst hmm
    rw [hx0] at hz
    have each : ∀ i, i < len → ∃ s : Ru, (okRs s.sem ∧ PV w (· < w.heap.size) s.x s.ps) ∧ ∃ cs', w.cells? base (a.add (i * 10)) 10 = some cs' ∧ cs' = encR s := fun i hi => by
      obtain ⟨cs', h1, h2⟩ := hx i (by omega)
      rw [T.ct] at h1
      obtain ⟨s, hs, hc⟩ := rv_one T h2 (hz.elem hts (d := D i) (List.mem_map.2 ⟨i, List.mem_range.2 hi, rfl⟩))
      exact ⟨s, hs, cs', h1, hc⟩
    haveI : Inhabited Ru := ⟨⟨0, none, 0, 0, [], [], 0, 0, 0, 0, 0, [], 0⟩⟩
    obtain ⟨F, hF⟩ := choose_lt each
    have hlen : ((List.range len).map F).length = len := by simp
    refine ⟨.slice (some a) len m, (List.range len).map F, hcs, ⟨some a, m, by rw [hlen], (fun k hk => ?_), (fun s hs => ?_), (fun h => by cases h), by rw [hlen]; exact hl, by rw [hlen]; unfold maxLen at hm; omega⟩, fun s hs => ?_⟩
    · rw [hlen] at hk
      obtain ⟨_, cs', h1, h2⟩ := hF k hk
      obtain ⟨_, hl', hcell⟩ := World.cells?_some h1
      have hz0 := hF 0 (by omega)
      obtain ⟨_, cs0, y1, y2⟩ := hz0
      obtain ⟨_, _, ycell⟩ := World.cells?_some y1
      have hc00 := ycell 0 (by omega)
      rw [y2] at hc00
      have hpl := plain_of_cell hc00
      simp only [Nat.zero_mul, Addr.add, if_true] at hpl
      have hat : ∀ j, j < 10 → w.cell? ⟨a.block, a.off + (k * 10 + j), none⟩ = cs'[j]? := fun j hj => by
        have := hcell j hj
        rw [hpl, add_add, Addr.add_lit] at this
        exact this
      rw [h2] at hat
      have hlt : a.block < w.heap.size := lt_of_cell (a := ⟨a.block, a.off + (k * 10 + 0), none⟩) (hat 0 (by omega))
      simp only [List.getElem_map, List.getElem_range]
      exact ⟨a.block, a.off, by rw [← hpl], hlt, hat⟩
    · obtain ⟨i, hi, rfl⟩ := List.mem_map.1 hs
      exact (hF i (List.mem_range.1 hi)).1.2
    · obtain ⟨i, hi, rfl⟩ := List.mem_map.1 hs
      exact (hF i (List.mem_range.1 hi)).1.1
theorem open_RS {r : Reach} {b0 : Nat} {ts t l q i u : TypeId} {f0 f1 f2 f3 f4 f5 f6 f7 f8 f9 g0 g1 g2 : Field} (T : RuT P t l q i u f0 f1 f2 f3 f4 f5 f6 f7 f8 f9 g0 g1 g2) (hts : P.underlying ts = some (.slice t)) {v : Value} {d : DataW H} {p : List MemPlace} (hz : Sized P ts d) (hv : Value.okWide P w r b0 ts v) (h : DataW.Trod enc P w base (fun _ => true) true ts v d p) :
    ∃ U : List Ru, RV w v U ∧ ∀ u ∈ U, okRs u.sem := by
  obtain ⟨A, n, c, rfl⟩ := okWide_slice hts hv
  obtain ⟨fuel, hf⟩ := h
  obtain ⟨v', U, e, h1, h2⟩ := rules_of T hts (x := (d, p)) hf hz
  have e' : Value.slice A n c = v' := by simpa [Value.cells] using e
  rw [e']
  exact ⟨U, h1, h2⟩
end
end Go.Proofs.YtelglcakekgdeaaGreatDoor
namespace Go.Proofs.YtelglcakekgdeaaGreatDoor
set_option linter.unusedVariables false
open Go.RowKit Go.ChangeShapes Go.WideShapes Go.Deep Go.Joins
section
variable {H : Type} {enc : TypeId × Value → H} {P : Program} {w : World} {base : Nat}

theorem open_CF {r : Reach} {b0 : Nat} {ct ts t l q i u : TypeId} {f0 f1 f2 f3 f4 f5 f6 f7 f8 f9 g0 g1 g2 k0 k1 : Field} (T : RuT P t l q i u f0 f1 f2 f3 f4 f5 f6 f7 f8 f9 g0 g1 g2) (hts : P.underlying ts = some (.slice t)) (hct : P.underlying ct = some (.struct #[k0, k1]))
    (hone : oneCellFields P #[k0, k1] = true) (hC : P.cellsOf ct = 2) (hk : k0.type = ts ∧ k1.type = u) {v : Value} {d : DataW H} {p : List MemPlace}
    (hz : Sized P ct d) (hv : Value.okWide P w r b0 ct v) (h : DataW.Trod enc P w base (fun _ => true) true ct v d p) :
    ∃ (y : Value) (f : List UInt8) (U : List Ru), v = .agg #[y, .string (bs f)] ∧ RV w y U ∧ (∀ x ∈ U, okRs x.sem) ∧ f.length ≤ 140737488351232 := by
  obtain ⟨v0, v1, y0, y1, nn, rfl, rfl, _, h0, h1⟩ := open_agg2 hct hone hC hv h
  obtain ⟨e0, e1⟩ := hk
  have z0 := esized_part hz hct (j := 0) (f := k0) (d := y0.1) rfl rfl
  have z1 := esized_part hz hct (j := 1) (f := k1) (d := y1.1) rfl rfl
  rw [e0] at h0 z0
  rw [e1] at h1
  obtain ⟨y, U, ey, hy, hU⟩ := rules_of T hts h0 z0
  obtain ⟨n, en, an⟩ := str_of T.pd.hu h1
  rw [an] at z1
  simp only [List.cons.injEq, and_true] at ey en
  exact ⟨y, n, U, by rw [ey, en], hy, hU, z1.str⟩
theorem open_TBL {r : Reach} {b0 : Nat} {ct ts t l q i u : TypeId} {f0 f1 f2 f3 f4 f5 f6 f7 f8 f9 g0 g1 g2 k0 k1 k2 : Field} (T : RuT P t l q i u f0 f1 f2 f3 f4 f5 f6 f7 f8 f9 g0 g1 g2) (hts : P.underlying ts = some (.slice t)) (hct : P.underlying ct = some (.struct #[k0, k1, k2]))
    (hone : oneCellFields P #[k0, k1, k2] = true) (hC : P.cellsOf ct = 3) (hk : k0.type = i ∧ k1.type = ts ∧ k2.type = u) {v : Value} {d : DataW H} {p : List MemPlace}
    (hz : Sized P ct d) (hv : Value.okWide P w r b0 ct v) (h : DataW.Trod enc P w base (fun _ => true) true ct v d p) :
    ∃ (n : Int) (y : Value) (f : List UInt8) (U : List Ru), v = .agg #[.int .i64 n, y, .string (bs f)] ∧ RV w y U ∧ (∀ x ∈ U, okRs x.sem) ∧ f.length ≤ 140737488351232 := by
  obtain ⟨v0, v1, v2, y0, y1, y2, nn, rfl, rfl, _, h0, h1, h2⟩ := open_agg3 hct hone hC hv h
  obtain ⟨e0, e1, e2⟩ := hk
  have z1 := esized_part hz hct (j := 1) (f := k1) (d := y1.1) rfl rfl
  have z2 := esized_part hz hct (j := 2) (f := k2) (d := y2.1) rfl rfl
  rw [e0] at h0
  rw [e1] at h1 z1
  rw [e2] at h2
  obtain ⟨a, ea, _, _⟩ := DataW.trod_int T.pd.hi h0
  obtain ⟨y, U, ey, hy, hU⟩ := rules_of T hts h1 z1
  obtain ⟨n, en, an⟩ := str_of T.pd.hu h2
  rw [an] at z2
  simp only [List.cons.injEq, and_true] at ea ey en
  exact ⟨a, y, n, U, by rw [ea, ey, en], hy, hU, z2.str⟩
end
end Go.Proofs.YtelglcakekgdeaaGreatDoor
namespace Go.Proofs.YtelglcakekgdeaaGreatDoor
set_option linter.unusedVariables false
open Go.RowKit Go.ChangeShapes Go.WideShapes Go.Deep Go.Joins
/-- A table's cells, with its rules. -/
structure Tu where
  v : Int
  ya : Option Addr
  yn : Nat
  yc : Nat
  f : List UInt8
  U : List Ru
def Tu.y (t : Tu) : Value := .slice t.ya t.yn t.yc
def encT (t : Tu) : List Value := [.int .i64 t.v, .slice t.ya t.yn t.yc, .string (bs t.f)]
theorem encT_len (t : Tu) : (encT t).length = 3 := rfl
theorem encT_one (t : Tu) : ∀ v ∈ encT t, v.oneCell' = true := fun v hv => by
  simp only [encT, List.mem_cons, List.mem_nil_iff, or_false] at hv
  rcases hv with rfl | rfl | rfl <;> rfl
def okTu (t : Tu) : Prop := (∀ u ∈ t.U, okRs u.sem) ∧ t.f.length ≤ 140737488351232
/-- A slice of tables, as a value that can be read. -/
def TS (w : World) (x : Value) (L : List Tu) : Prop := ∃ A c, x = .slice A L.length c ∧ GX encT 3 w (· < w.heap.size) A L ∧ (∀ t ∈ L, RV w t.y t.U) ∧ L.length ≤ 9223372036854775807
theorem TS.up {w w' : World} {x : Value} {L : List Tu} (h : TS w x L) (hb : Below w.heap.size w w') : TS w' x L := by
  obtain ⟨A, c, e, h1, h2, h3⟩ := h
  exact ⟨A, c, e, h1.up hb, fun t ht => (h2 t ht).up hb, h3⟩
theorem tu_cell {w : World} {N : Nat → Prop} {b o : Nat} {L : List Tu} {i : Nat} {t : Tu} (h : GX encT 3 w N (some ⟨b, o, none⟩) L) (hi : L[i]? = some t) : w.cell? ⟨b, o + i * 3, none⟩ = some (.int .i64 t.v) ∧ w.cell? ⟨b, o + i * 3 + 1, none⟩ = some (.slice t.ya t.yn t.yc) ∧ w.cell? ⟨b, o + i * 3 + 2, none⟩ = some (.string (bs t.f)) := by
  obtain ⟨hl, rfl⟩ := List.getElem?_eq_some_iff.1 hi
  obtain ⟨b', o', e, -, h2⟩ := h i hl
  injection e with e
  injection e with e1 e2
  subst e1 e2
  exact ⟨h2 0 (by omega), h2 1 (by omega), h2 2 (by omega)⟩
section
variable {H : Type} {enc : TypeId × Value → H} {P : Program} {w : World} {base : Nat}
/-- The types of a table, as the program has them. -/
structure TbT (P : Program) (b ts t l q i u : TypeId) (f0 f1 f2 f3 f4 f5 f6 f7 f8 f9 g0 g1 g2 k0 k1 k2 : Field) : Prop where
  ru : RuT P t l q i u f0 f1 f2 f3 f4 f5 f6 f7 f8 f9 g0 g1 g2
  hts : P.underlying ts = some (.slice t)
  hb : P.underlying b = some (.struct #[k0, k1, k2])
  cb : P.cellsOf b = 3
  cts : P.cellsOf ts = 1
  ty : k0.type = i ∧ k1.type = ts ∧ k2.type = u
  off : k0.offset = 0 ∧ k1.offset = 1 ∧ k2.offset = 2
theorem tu_of {b ts t l q i u : TypeId} {f0 f1 f2 f3 f4 f5 f6 f7 f8 f9 g0 g1 g2 k0 k1 k2 : Field} (T : TbT P b ts t l q i u f0 f1 f2 f3 f4 f5 f6 f7 f8 f9 g0 g1 g2 k0 k1 k2) {fuel : Nat} {cs : List Value} {x : DataW H × List MemPlace}
    (h : DataW.trod enc P w base (fun _ => true) true fuel b cs = some x) (hz : Sized P b x.1) : ∃ s : Tu, (okTu s ∧ RV w s.y s.U) ∧ cs = encT s := by
  obtain ⟨xs, n, _, hx, hl, hlen, hgg⟩ := DataW.trod_struct T.hb h
  rw [T.cb] at hl
  obtain ⟨t0, t1, t2⟩ := T.ty
  obtain ⟨o0, o1, o2⟩ := T.off
  match cs, hl, xs, hlen with
  | [c0, c1, c2], _, [y0, y1, y2], _ =>
    have h0 := hgg 0 k0 rfl
    have h1 := hgg 1 k1 rfl
    have h2 := hgg 2 k2 rfl
    rw [t0, o0, T.ru.pd.ci] at h0
    rw [t1, o1, T.cts] at h1
    rw [t2, o2, T.ru.pd.cu] at h2
    obtain ⟨a0, ea0, _, _⟩ := DataW.trod_int T.ru.pd.hi h0
    rw [hx] at hz
    obtain ⟨y, U, ey, hy, hU⟩ := rules_of T.ru T.hts h1 (by have := esized_part hz T.hb (j := 1) (f := k1) (d := y1.1) rfl rfl; rw [t1] at this; exact this)
    obtain ⟨n2, en2, an2⟩ := str_of T.ru.pd.hu h2
    have z2 := esized_part hz T.hb (j := 2) (f := k2) (d := y2.1) rfl rfl
    rw [an2] at z2
    obtain ⟨A, c, e, h3⟩ := hy
    have ec0 : c0 = .int .i64 a0 := by simpa using ea0
    have ec1 : c1 = y := by simpa using ey
    exact ⟨⟨a0, A, U.length, c, n2, U⟩, ⟨⟨hU, z2.str⟩, ⟨A, c, rfl, h3⟩⟩, by rw [ec0, ec1, en2, e]; rfl⟩
theorem ts_nil (w : World) : TS w (.slice none 0 0) [] := ⟨none, 0, rfl, GX.nil _ _ _, fun u hu => (by cases hu), by simp⟩
theorem tables_of {tbs b ts t l q i u : TypeId} {f0 f1 f2 f3 f4 f5 f6 f7 f8 f9 g0 g1 g2 k0 k1 k2 : Field} (T : TbT P b ts t l q i u f0 f1 f2 f3 f4 f5 f6 f7 f8 f9 g0 g1 g2 k0 k1 k2) (hts : P.underlying tbs = some (.slice b)) {fuel : Nat} {cs : List Value} {x : DataW H × List MemPlace}
    (h : DataW.trod enc P w base (fun _ => true) true fuel tbs cs = some x) (hz : Sized P tbs x.1) :
    ∃ (v : Value) (U : List Tu), cs = [v] ∧ TS w v U ∧ ∀ u ∈ U, okTu u := by
  rcases open_slice hts h with ⟨h0, _⟩ | ⟨a, len, cap, m, n, D, Pl, hcs, _, hl, hm, hmm, hx0, hx⟩
  · exact ⟨.slice none 0 0, [], h0, ts_nil w, by simp⟩
  · simp only [if_true] at hmm
    subst hmm
    rw [hx0] at hz
    have each : ∀ i, i < len → ∃ s : Tu, (okTu s ∧ RV w s.y s.U) ∧ ∃ cs', w.cells? base (a.add (i * 3)) 3 = some cs' ∧ cs' = encT s := fun i hi => by
      obtain ⟨cs', h1, h2⟩ := hx i (by omega)
      rw [T.cb] at h1
      obtain ⟨s, hs, hc⟩ := tu_of T h2 (hz.elem hts (d := D i) (List.mem_map.2 ⟨i, List.mem_range.2 hi, rfl⟩))
      exact ⟨s, hs, cs', h1, hc⟩
    haveI : Inhabited Tu := ⟨⟨0, none, 0, 0, [], []⟩⟩
    obtain ⟨F, hF⟩ := choose_lt each
    have hlen : ((List.range len).map F).length = len := by simp
    refine ⟨.slice (some a) len m, (List.range len).map F, hcs, ⟨some a, m, by rw [hlen], (fun k hk => ?_), (fun s hs => ?_), by rw [hlen]; unfold maxLen at hm; omega⟩, fun s hs => ?_⟩
    · rw [hlen] at hk
      obtain ⟨_, cs', h1, h2⟩ := hF k hk
      obtain ⟨_, hl', hcell⟩ := World.cells?_some h1
      have hz0 := hF 0 (by omega)
      obtain ⟨_, cs0, y1, y2⟩ := hz0
      obtain ⟨_, _, ycell⟩ := World.cells?_some y1
      have hc00 := ycell 0 (by omega)
      rw [y2] at hc00
      have hpl := plain_of_cell hc00
      simp only [Nat.zero_mul, Addr.add, if_true] at hpl
      have hat : ∀ j, j < 3 → w.cell? ⟨a.block, a.off + (k * 3 + j), none⟩ = cs'[j]? := fun j hj => by
        have := hcell j hj
        rw [hpl, add_add, Addr.add_lit] at this
        exact this
      rw [h2] at hat
      have hlt : a.block < w.heap.size := lt_of_cell (a := ⟨a.block, a.off + (k * 3 + 0), none⟩) (hat 0 (by omega))
      simp only [List.getElem_map, List.getElem_range]
      exact ⟨a.block, a.off, by rw [← hpl], hlt, hat⟩
    · obtain ⟨i, hi, rfl⟩ := List.mem_map.1 hs
      exact (hF i (List.mem_range.1 hi)).1.2
    · obtain ⟨i, hi, rfl⟩ := List.mem_map.1 hs
      exact (hF i (List.mem_range.1 hi)).1.1
theorem open_TS {r : Reach} {b0 : Nat} {tbs b ts t l q i u : TypeId} {f0 f1 f2 f3 f4 f5 f6 f7 f8 f9 g0 g1 g2 k0 k1 k2 : Field} (T : TbT P b ts t l q i u f0 f1 f2 f3 f4 f5 f6 f7 f8 f9 g0 g1 g2 k0 k1 k2) (hts : P.underlying tbs = some (.slice b)) {v : Value} {d : DataW H} {p : List MemPlace} (hz : Sized P tbs d) (hv : Value.okWide P w r b0 tbs v) (h : DataW.Trod enc P w base (fun _ => true) true tbs v d p) :
    ∃ L : List Tu, TS w v L ∧ ∀ t ∈ L, okTu t := by
  obtain ⟨A, n, c, rfl⟩ := okWide_slice hts hv
  obtain ⟨fuel, hf⟩ := h
  obtain ⟨v', U, e, h1, h2⟩ := tables_of T hts (x := (d, p)) hf hz
  have e' : Value.slice A n c = v' := by simpa [Value.cells] using e
  rw [e']
  exact ⟨U, h1, h2⟩
end
end Go.Proofs.YtelglcakekgdeaaGreatDoor
