/- TableFirst: the walk. -/
import Derived.Test.YtingjembjpckcaaG22
import Derived.Test.YtingjembjpckcaaG19
import Derived.Test.YtingjembjpckcaaG20
namespace Go.Proofs.Ytingjembjpckcaa
set_option linter.unusedVariables false
open Go.RowKit Go.ChangeShapes Go.WideShapes Go.Deep Go.Joins
section
variable {H : Type} {enc : TypeId × Value → H} {P : Program} {w : World} {base : Nat}

/-- The types of a rule, as the program has them. -/
structure RuT (P : Program) (t l q i u : TypeId) (f0 f1 f2 f3 f4 f5 f6 f7 f8 f9 g0 g1 g2 : Field) : Prop where
  ht : P.underlying t = some (.struct #[f0, f1, f2, f3, f4, f5, f6, f7, f8, f9])
  hl : P.underlying l = some (.slice q)
  pd : PdT P q i u g0 g1 g2
  ct : P.cellsOf t = 10
  cl : P.cellsOf l = 1
  ty : f0.type = i ∧ f1.type = l ∧ f2.type = u ∧ f3.type = i ∧ f4.type = i ∧ f5.type = i ∧ f6.type = i ∧ f7.type = i ∧ f8.type = u ∧ f9.type = i
  off : f0.offset = 0 ∧ f1.offset = 1 ∧ f2.offset = 2 ∧ f3.offset = 3 ∧ f4.offset = 4 ∧ f5.offset = 5 ∧ f6.offset = 6 ∧ f7.offset = 7 ∧ f8.offset = 8 ∧ f9.offset = 9
theorem ru_of {t l q i u : TypeId} {f0 f1 f2 f3 f4 f5 f6 f7 f8 f9 g0 g1 g2 : Field} (T : RuT P t l q i u f0 f1 f2 f3 f4 f5 f6 f7 f8 f9 g0 g1 g2) {fuel : Nat} {cs : List Value} {x : DataW H × List MemPlace}
    (h : DataW.trod enc P w base (fun _ => true) true fuel t cs = some x) (hz : Sized P t x.1) : ∃ (y : Value) (s : Rs), okRs s ∧ PV w (· < w.heap.size) y s.ps ∧ cs = [.int .i64 s.rank, y, .string (bs s.tg), .int .i64 s.ap, .int .i64 s.st, .int .i64 s.dp, .int .i64 s.dt, .int .i64 s.mp, .string (bs s.mi), .int .i64 s.sm] := by
  obtain ⟨xs, n, _, hx, hl, hlen, hgg⟩ := DataW.trod_struct T.ht h
  rw [T.ct] at hl
  obtain ⟨t0, t1, t2, t3, t4, t5, t6, t7, t8, t9⟩ := T.ty
  obtain ⟨o0, o1, o2, o3, o4, o5, o6, o7, o8, o9⟩ := T.off
  match cs, hl, xs, hlen with
  | [c0, c1, c2, c3, c4, c5, c6, c7, c8, c9], _, [y0, y1, y2, y3, y4, y5, y6, y7, y8, y9], _ =>
    have h0 := hgg 0 f0 rfl
    have h1 := hgg 1 f1 rfl
    have h2 := hgg 2 f2 rfl
    have h3 := hgg 3 f3 rfl
    have h4 := hgg 4 f4 rfl
    have h5 := hgg 5 f5 rfl
    have h6 := hgg 6 f6 rfl
    have h7 := hgg 7 f7 rfl
    have h8 := hgg 8 f8 rfl
    have h9 := hgg 9 f9 rfl
    rw [t0, o0, T.pd.ci] at h0
    rw [t1, o1, T.cl] at h1
    rw [t2, o2, T.pd.cu] at h2
    rw [t3, o3, T.pd.ci] at h3
    rw [t4, o4, T.pd.ci] at h4
    rw [t5, o5, T.pd.ci] at h5
    rw [t6, o6, T.pd.ci] at h6
    rw [t7, o7, T.pd.ci] at h7
    rw [t8, o8, T.pd.cu] at h8
    rw [t9, o9, T.pd.ci] at h9
    obtain ⟨a0, ea0, _, _⟩ := DataW.trod_int T.pd.hi h0
    obtain ⟨a3, ea3, _, _⟩ := DataW.trod_int T.pd.hi h3
    obtain ⟨a4, ea4, _, _⟩ := DataW.trod_int T.pd.hi h4
    obtain ⟨a5, ea5, _, _⟩ := DataW.trod_int T.pd.hi h5
    obtain ⟨a6, ea6, _, _⟩ := DataW.trod_int T.pd.hi h6
    obtain ⟨a7, ea7, _, _⟩ := DataW.trod_int T.pd.hi h7
    obtain ⟨a9, ea9, _, _⟩ := DataW.trod_int T.pd.hi h9
    rw [hx] at hz
    obtain ⟨y, L, ey, hy, hL⟩ := preds_of T.pd T.hl h1 (by have := esized_part hz T.ht (j := 1) (f := f1) (d := y1.1) rfl rfl; rw [t1] at this; exact this)
    obtain ⟨n2, en2, an2⟩ := str_of T.pd.hu h2
    have z2 := esized_part hz T.ht (j := 2) (f := f2) (d := y2.1) rfl rfl
    rw [an2] at z2
    obtain ⟨n8, en8, an8⟩ := str_of T.pd.hu h8
    have z8 := esized_part hz T.ht (j := 8) (f := f8) (d := y8.1) rfl rfl
    rw [an8] at z8
    have ec0 : c0 = .int .i64 a0 := by simpa using ea0
    have ec3 : c3 = .int .i64 a3 := by simpa using ea3
    have ec4 : c4 = .int .i64 a4 := by simpa using ea4
    have ec5 : c5 = .int .i64 a5 := by simpa using ea5
    have ec6 : c6 = .int .i64 a6 := by simpa using ea6
    have ec7 : c7 = .int .i64 a7 := by simpa using ea7
    have ec9 : c9 = .int .i64 a9 := by simpa using ea9
    have ec1 : c1 = y := by simpa using ey
    exact ⟨y, ⟨a0, L, n2, a3, a4, a5, a6, a7, n8, a9⟩, ⟨hL, z2.str, z8.str, by obtain ⟨_, _, _, _, _, _, h9⟩ := hy; exact h9⟩, hy, by rw [ec0, ec1, en2, ec3, ec4, ec5, ec6, ec7, en8, ec9]⟩
theorem open_RU {r : Reach} {b0 : Nat} {t l q i u : TypeId} {f0 f1 f2 f3 f4 f5 f6 f7 f8 f9 g0 g1 g2 : Field} (T : RuT P t l q i u f0 f1 f2 f3 f4 f5 f6 f7 f8 f9 g0 g1 g2) {v : Value} {d : DataW H} {p : List MemPlace} (hz : Sized P t d) (hv : Value.okWide P w r b0 t v) (h : DataW.Trod enc P w base (fun _ => true) true t v d p) :
    ∃ (y : Value) (s : Rs), v = .agg #[.int .i64 s.rank, y, .string (bs s.tg), .int .i64 s.ap, .int .i64 s.st, .int .i64 s.dp, .int .i64 s.dt, .int .i64 s.mp, .string (bs s.mi), .int .i64 s.sm] ∧ PV w (· < w.heap.size) y s.ps ∧ okRs s := by
  obtain ⟨cs, rfl, _⟩ := okWide_struct T.ht hv
  obtain ⟨fuel, hf⟩ := h
  obtain ⟨y, s, hs, hy, hc⟩ := ru_of T (x := (d, p)) hf hz
  refine ⟨y, s, ?_, hy, hs⟩
  have : cs = #[.int .i64 s.rank, y, .string (bs s.tg), .int .i64 s.ap, .int .i64 s.st, .int .i64 s.dp, .int .i64 s.dt, .int .i64 s.mp, .string (bs s.mi), .int .i64 s.sm] := by
    apply Array.toList_inj.1
    simpa [Value.cells] using hc
  rw [this]
end
end Go.Proofs.Ytingjembjpckcaa
namespace Go.Proofs.Ytingjembjpckcaa
set_option linter.unusedVariables false
open Go.RowKit Go.ChangeShapes Go.WideShapes Go.Deep Go.Joins
section
variable {H : Type} {enc : TypeId × Value → H} {P : Program} {w : World} {base : Nat}

theorem rv_one {t l q i u : TypeId} {f0 f1 f2 f3 f4 f5 f6 f7 f8 f9 g0 g1 g2 : Field} (T : RuT P t l q i u f0 f1 f2 f3 f4 f5 f6 f7 f8 f9 g0 g1 g2) {fuel : Nat} {cs : List Value} {x : DataW H × List MemPlace}
    (h : DataW.trod enc P w base (fun _ => true) true fuel t cs = some x) (hz : Sized P t x.1) : ∃ r : Ru, (okRs r.sem ∧ PV w (· < w.heap.size) r.x r.ps) ∧ cs = encR r := by
  obtain ⟨y, s, hs, hy, hc⟩ := ru_of T h hz
  obtain ⟨A, c, e, h1⟩ := hy
  exact ⟨⟨s.rank, A, s.ps.length, c, s.ps, s.tg, s.ap, s.st, s.dp, s.dt, s.mp, s.mi, s.sm⟩, ⟨hs, ⟨A, c, rfl, h1⟩⟩, by rw [hc, e]; rfl⟩
theorem rv_nil (w : World) : RV w (.slice none 0 0) [] := ⟨none, 0, rfl, GX.nil _ _ _, fun u hu => (by cases hu), fun _ => rfl, Nat.le_refl _, by simp⟩
theorem rules_of {ts t l q i u : TypeId} {f0 f1 f2 f3 f4 f5 f6 f7 f8 f9 g0 g1 g2 : Field} (T : RuT P t l q i u f0 f1 f2 f3 f4 f5 f6 f7 f8 f9 g0 g1 g2) (hts : P.underlying ts = some (.slice t)) {fuel : Nat} {cs : List Value} {x : DataW H × List MemPlace}
    (h : DataW.trod enc P w base (fun _ => true) true fuel ts cs = some x) (hz : Sized P ts x.1) :
    ∃ (v : Value) (U : List Ru), cs = [v] ∧ RV w v U ∧ ∀ u ∈ U, okRs u.sem := by
  rcases open_slice hts h with ⟨h0, _⟩ | ⟨a, len, cap, m, n, D, Pl, hcs, _, hl, hm, hmm, hx0, hx⟩
  · exact ⟨.slice none 0 0, [], h0, rv_nil w, by simp⟩
  · simp only [if_true] at hmm
    subst hmm
    rw [hx0] at hz
    have each : ∀ i, i < len → ∃ s : Ru, (okRs s.sem ∧ PV w (· < w.heap.size) s.x s.ps) ∧ ∃ cs', w.cells? base (a.add (i * 10)) 10 = some cs' ∧ cs' = encR s := fun i hi => by
      obtain ⟨cs', h1, h2⟩ := hx i (by omega)
      rw [T.ct] at h1
      obtain ⟨s, hs, hc⟩ := rv_one T h2 (hz.elem hts (d := D i) (List.mem_map.2 ⟨i, List.mem_range.2 hi, rfl⟩))
      exact ⟨s, hs, cs', h1, hc⟩
    haveI : Inhabited Ru := ⟨⟨0, none, 0, 0, [], [], 0, 0, 0, 0, 0, [], 0⟩⟩
    obtain ⟨F, hF⟩ := choose_lt each
    have hlen : ((List.range len).map F).length = len := by simp
    refine ⟨.slice (some a) len m, (List.range len).map F, hcs, ⟨some a, m, by rw [hlen], (fun k hk => ?_), (fun s hs => ?_), (fun h => by cases h), by rw [hlen]; exact hl, by rw [hlen]; unfold maxLen at hm; omega⟩, fun s hs => ?_⟩
    · rw [hlen] at hk
      obtain ⟨_, cs', h1, h2⟩ := hF k hk
      obtain ⟨_, hl', hcell⟩ := World.cells?_some h1
      have hz0 := hF 0 (by omega)
      obtain ⟨_, cs0, y1, y2⟩ := hz0
      obtain ⟨_, _, ycell⟩ := World.cells?_some y1
      have hc00 := ycell 0 (by omega)
      rw [y2] at hc00
      have hpl := plain_of_cell hc00
      simp only [Nat.zero_mul, Addr.add, if_true] at hpl
      have hat : ∀ j, j < 10 → w.cell? ⟨a.block, a.off + (k * 10 + j), none⟩ = cs'[j]? := fun j hj => by
        have := hcell j hj
        rw [hpl, add_add, Addr.add_lit] at this
        exact this
      rw [h2] at hat
      have hlt : a.block < w.heap.size := lt_of_cell (a := ⟨a.block, a.off + (k * 10 + 0), none⟩) (hat 0 (by omega))
      simp only [List.getElem_map, List.getElem_range]
      exact ⟨a.block, a.off, by rw [← hpl], hlt, hat⟩
    · obtain ⟨i, hi, rfl⟩ := List.mem_map.1 hs
      exact (hF i (List.mem_range.1 hi)).1.2
    · obtain ⟨i, hi, rfl⟩ := List.mem_map.1 hs
      exact (hF i (List.mem_range.1 hi)).1.1
theorem open_RS {r : Reach} {b0 : Nat} {ts t l q i u : TypeId} {f0 f1 f2 f3 f4 f5 f6 f7 f8 f9 g0 g1 g2 : Field} (T : RuT P t l q i u f0 f1 f2 f3 f4 f5 f6 f7 f8 f9 g0 g1 g2) (hts : P.underlying ts = some (.slice t)) {v : Value} {d : DataW H} {p : List MemPlace} (hz : Sized P ts d) (hv : Value.okWide P w r b0 ts v) (h : DataW.Trod enc P w base (fun _ => true) true ts v d p) :
    ∃ U : List Ru, RV w v U ∧ ∀ u ∈ U, okRs u.sem := by
  obtain ⟨A, n, c, rfl⟩ := okWide_slice hts hv
  obtain ⟨fuel, hf⟩ := h
  obtain ⟨v', U, e, h1, h2⟩ := rules_of T hts (x := (d, p)) hf hz
  have e' : Value.slice A n c = v' := by simpa [Value.cells] using e
  rw [e']
  exact ⟨U, h1, h2⟩
end
end Go.Proofs.Ytingjembjpckcaa
namespace Go.Proofs.Ytingjembjpckcaa
set_option linter.unusedVariables false
open Go.RowKit Go.ChangeShapes Go.WideShapes Go.Deep Go.Joins
section
variable {H : Type} {enc : TypeId × Value → H} {P : Program} {w : World} {base : Nat}

theorem open_CF {r : Reach} {b0 : Nat} {ct ts t l q i u : TypeId} {f0 f1 f2 f3 f4 f5 f6 f7 f8 f9 g0 g1 g2 k0 k1 : Field} (T : RuT P t l q i u f0 f1 f2 f3 f4 f5 f6 f7 f8 f9 g0 g1 g2) (hts : P.underlying ts = some (.slice t)) (hct : P.underlying ct = some (.struct #[k0, k1]))
    (hone : oneCellFields P #[k0, k1] = true) (hC : P.cellsOf ct = 2) (hk : k0.type = ts ∧ k1.type = u) {v : Value} {d : DataW H} {p : List MemPlace}
    (hz : Sized P ct d) (hv : Value.okWide P w r b0 ct v) (h : DataW.Trod enc P w base (fun _ => true) true ct v d p) :
    ∃ (y : Value) (f : List UInt8) (U : List Ru), v = .agg #[y, .string (bs f)] ∧ RV w y U ∧ (∀ x ∈ U, okRs x.sem) ∧ f.length ≤ 140737488351232 := by
  obtain ⟨v0, v1, y0, y1, nn, rfl, rfl, _, h0, h1⟩ := open_agg2 hct hone hC hv h
  obtain ⟨e0, e1⟩ := hk
  have z0 := esized_part hz hct (j := 0) (f := k0) (d := y0.1) rfl rfl
  have z1 := esized_part hz hct (j := 1) (f := k1) (d := y1.1) rfl rfl
  rw [e0] at h0 z0
  rw [e1] at h1
  obtain ⟨y, U, ey, hy, hU⟩ := rules_of T hts h0 z0
  obtain ⟨n, en, an⟩ := str_of T.pd.hu h1
  rw [an] at z1
  simp only [List.cons.injEq, and_true] at ey en
  exact ⟨y, n, U, by rw [ey, en], hy, hU, z1.str⟩
theorem open_TBL {r : Reach} {b0 : Nat} {ct ts t l q i u : TypeId} {f0 f1 f2 f3 f4 f5 f6 f7 f8 f9 g0 g1 g2 k0 k1 k2 : Field} (T : RuT P t l q i u f0 f1 f2 f3 f4 f5 f6 f7 f8 f9 g0 g1 g2) (hts : P.underlying ts = some (.slice t)) (hct : P.underlying ct = some (.struct #[k0, k1, k2]))
    (hone : oneCellFields P #[k0, k1, k2] = true) (hC : P.cellsOf ct = 3) (hk : k0.type = i ∧ k1.type = ts ∧ k2.type = u) {v : Value} {d : DataW H} {p : List MemPlace}
    (hz : Sized P ct d) (hv : Value.okWide P w r b0 ct v) (h : DataW.Trod enc P w base (fun _ => true) true ct v d p) :
    ∃ (n : Int) (y : Value) (f : List UInt8) (U : List Ru), v = .agg #[.int .i64 n, y, .string (bs f)] ∧ RV w y U ∧ (∀ x ∈ U, okRs x.sem) ∧ f.length ≤ 140737488351232 := by
  obtain ⟨v0, v1, v2, y0, y1, y2, nn, rfl, rfl, _, h0, h1, h2⟩ := open_agg3 hct hone hC hv h
  obtain ⟨e0, e1, e2⟩ := hk
  have z1 := esized_part hz hct (j := 1) (f := k1) (d := y1.1) rfl rfl
  have z2 := esized_part hz hct (j := 2) (f := k2) (d := y2.1) rfl rfl
  rw [e0] at h0
  rw [e1] at h1 z1
  rw [e2] at h2
  obtain ⟨a, ea, _, _⟩ := DataW.trod_int T.pd.hi h0
  obtain ⟨y, U, ey, hy, hU⟩ := rules_of T hts h1 z1
  obtain ⟨n, en, an⟩ := str_of T.pd.hu h2
  rw [an] at z2
  simp only [List.cons.injEq, and_true] at ea ey en
  exact ⟨a, y, n, U, by rw [ea, ey, en], hy, hU, z2.str⟩
end
end Go.Proofs.Ytingjembjpckcaa
namespace Go.Proofs.Ytingjembjpckcaa
set_option linter.unusedVariables false
set_option linter.unusedSimpArgs false
open Go.RowKit Go.Joins

def fewC (f : List UInt8) (U : List Rs) : Bool := decide (f.length ≤ 400) && fewRu U
def namesB (l : List (List UInt8)) : Bool := (l.take 21).all (fun n => decide (n.length ≤ 400)) && decide (l.length ≤ 20)
theorem rufew_rv (y : Value) (U : List Ru) (w : World) (h : RV w y U) (hs : ∀ u ∈ U, okRs u.sem) {z : Bool} (H : Hid (fewRu (U.map Ru.sem) = z)) :
    Calls Try.prog 22 #[y] w fun e w' => e = .returned (.bool z) ∧ Below w.heap.size w w' := by
  obtain ⟨A, c, rfl, hgx, hrp, -, -, hl9⟩ := h
  exact rufew_any A c U w hgx hrp hs hl9 H
set_option maxRecDepth 100000 in
set_option maxHeartbeats 4000000 in
theorem cfew_any (y : Value) (f : List UInt8) (U : List Ru) (w : World) (hy : RV w y U) (hs : ∀ u ∈ U, okRs u.sem) (hf : f.length ≤ 140737488351232) {z : Bool} (H : Hid (fewC f (U.map Ru.sem) = z)) :
    Calls Try.prog 6 #[.agg #[y, .string (bs f)]] w fun e w' => e = .returned (.bool z) ∧ Below w.heap.size w w' := by
  have hb1 := enew w (.cells #[y, .string (bs f)] 24)
  have hk0 := BF.new w y f
  have HY := hid (hy.up hb1)
  have HB := hid hb1
  have HS := hid hs
  have HF := hid (show z = (decide (f.length ≤ 400) && fewRu (U.map Ru.sem)) from H.out.symm)
  clear hy hb1 hs H
  by_cases h4 : f.length ≤ 400
  · have d1 : decide ((f.length : Int) ≤ 400) = true := decide_eq_true (by omega)
    have HFW := hid (show fewRu (U.map Ru.sem) = z by rw [HF.out, decide_eq_true h4]; rfl)
    have HC := hid (fun (w2 : World) (h : RV w2 y U) => rufew_rv y U w2 h HS.out HFW)
    clear h4
    go_enter Try.func6, Try.ntmps6
    go_upto_region 1 with (fail)
    generalize w.alloc (.cells #[y, .string (bs f)] 24) = v0 at *
    obtain ⟨k0, k1⟩ := hk0.cells
    go_wp2_with fail
    refine (HC.out _ HY.out).mono ?_
    rintro e w1 ⟨rfl, hb2⟩
    go_wp2_with fail
    go_returns
    exact ⟨rfl, estep HB.out hb2⟩
  · have d1 : decide ((f.length : Int) ≤ 400) = false := decide_eq_false (by omega)
    have HZ := hid (show z = false by rw [HF.out, decide_eq_false h4]; rfl)
    clear h4
    go_enter Try.func6, Try.ntmps6
    go_upto_region 1 with (fail)
    generalize w.alloc (.cells #[y, .string (bs f)] 24) = v0 at *
    obtain ⟨k0, k1⟩ := hk0.cells
    go_wp2_with fail
    go_returns
    exact ⟨by rw [HZ.out]; rfl, HB.out⟩
set_option maxRecDepth 100000 in
set_option maxHeartbeats 4000000 in
theorem tfew_any (v : Int) (y : Value) (f : List UInt8) (U : List Ru) (w : World) (hy : RV w y U) (hs : ∀ u ∈ U, okRs u.sem) (hf : f.length ≤ 140737488351232) {z : Bool} (H : Hid (fewC f (U.map Ru.sem) = z)) :
    Calls Try.prog 14 #[.agg #[.int .i64 v, y, .string (bs f)]] w fun e w' => e = .returned (.bool z) ∧ Below w.heap.size w w' := by
  have hb1 := enew w (.cells #[.int .i64 v, y, .string (bs f)] 30)
  have hk0 := BT.new w v y f
  have HY := hid (hy.up hb1)
  have HB := hid hb1
  have HS := hid hs
  have HF := hid (show z = (decide (f.length ≤ 400) && fewRu (U.map Ru.sem)) from H.out.symm)
  clear hy hb1 hs H
  by_cases h4 : f.length ≤ 400
  · have d1 : decide ((f.length : Int) ≤ 400) = true := decide_eq_true (by omega)
    have HFW := hid (show fewRu (U.map Ru.sem) = z by rw [HF.out, decide_eq_true h4]; rfl)
    have HC := hid (fun (w2 : World) (h : RV w2 y U) => rufew_rv y U w2 h HS.out HFW)
    clear h4
    go_enter Try.func14, Try.ntmps14
    go_upto_region 1 with (fail)
    generalize w.alloc (.cells #[.int .i64 v, y, .string (bs f)] 30) = v0 at *
    obtain ⟨k0, k1, k2⟩ := hk0.cells
    go_wp2_with fail
    refine (HC.out _ HY.out).mono ?_
    rintro e w1 ⟨rfl, hb2⟩
    go_wp2_with fail
    go_returns
    exact ⟨rfl, estep HB.out hb2⟩
  · have d1 : decide ((f.length : Int) ≤ 400) = false := decide_eq_false (by omega)
    have HZ := hid (show z = false by rw [HF.out, decide_eq_false h4]; rfl)
    clear h4
    go_enter Try.func14, Try.ntmps14
    go_upto_region 1 with (fail)
    generalize w.alloc (.cells #[.int .i64 v, y, .string (bs f)] 30) = v0 at *
    obtain ⟨k0, k1, k2⟩ := hk0.cells
    go_wp2_with fail
    go_returns
    exact ⟨by rw [HZ.out]; rfl, HB.out⟩
theorem namesB_no {l : List (List UInt8)} {k : Nat} (hk : k < l.length) (h20 : k ≤ 20) (h : ¬ l[k].length ≤ 400) : namesB l = false := by
  have : (l.take 21).all (fun n => decide (n.length ≤ 400)) = false := by
    rw [List.all_eq_false]
    refine ⟨l[k], ?_, by simpa using h⟩
    have h1 : (l.take 21)[k]? = some l[k] := by rw [List.getElem?_take_of_lt (by omega), List.getElem?_eq_getElem hk]
    exact List.mem_of_getElem? h1
  rw [namesB, this]; rfl
theorem all_take_up {l : List (List UInt8)} {k : Nat} (hk : k < l.length) (h : (l.take k).all (fun n => decide (n.length ≤ 400)) = true) (hh : l[k].length ≤ 400) : (l.take (k + 1)).all (fun n => decide (n.length ≤ 400)) = true := by
  rw [List.take_succ_eq_append_getElem hk, List.all_append, h]
  simp [hh]
theorem stx_drewN {w : World} {A : Option Addr} {l : List (List UInt8)} (h : STexts w (· < w.heap.size) A l) (n : Nat) : STexts (w.drewN n) (· < (w.drewN n).heap.size) A l := stx_up h (below_drewN (Below.refl _ _) _)
set_option maxRecDepth 100000 in
set_option maxHeartbeats 4000000 in
theorem lnames_any (A : Option Addr) (c : Nat) (l : List (List UInt8)) (w : World) (hn : STexts w (· < w.heap.size) A l) (hl9 : l.length ≤ 9223372036854775807) {z : Bool} (H : Hid (namesB l = z)) :
    Calls Try.prog 7 #[.slice A l.length c] w fun e w' => e = .returned (.bool z) ∧ Below w.heap.size w w' := by
  have HN := hid hn
  clear hn
  go_enter Try.func7, Try.ntmps7
  go_wp2_with fail
  go_loopg [3] 21 (fun g1 vi wr => ∃ k : Nat, vi = .int .i64 k ∧ k ≤ l.length ∧ k ≤ 21 ∧ 21 - k ≤ g1 ∧ Hid ((l.take k).all (fun n => decide (n.length ≤ 400)) = true ∧ Below w.heap.size w wr))
  case atStart => exact ⟨0, rfl, by omega, by omega, by omega, hid ⟨by simp, Below.refl _ _⟩⟩
  case round =>
    obtain ⟨k, rfl, hk, hk21, hgk, HW⟩ := hrel
    by_cases hlt : k < l.length
    · have hki : decide ((k : Int) < ((l.length : Nat) : Int)) = true := by simp; omega
      have hk0 : (0 : Int) ≤ (k : Int) := by omega
      have hk1 : (k : Int) < (l.length : Int) := by omega
      by_cases h20 : k ≤ 20
      · have hk2 : decide ((k : Int) ≤ 20) = true := decide_eq_true (by omega)
        obtain ⟨ad, rfl, hB, hc⟩ := (stx_up HN.out HW.out.2) k hlt
        have HNO := hid (namesB_no (l := l) hlt h20)
        have HUP := hid (all_take_up hlt HW.out.1)
        generalize l[k] = s at *
        by_cases h4 : s.length ≤ 400
        · have d4 : decide ((400 : Int) < (s.length : Int)) = false := decide_eq_false (by omega)
          go_wp2_with fail
          go_roundg (21 - (k + 1))
          case measure => omega
          case rel => exact ⟨k + 1, by go_num, by omega, by omega, by omega, hid ⟨HUP.out h4, HW.out.2⟩⟩
        · have d4 : decide ((400 : Int) < (s.length : Int)) = true := decide_eq_true (by omega)
          have HZ := hid (show z = false by rw [← H.out]; exact HNO.out h4)
          go_wp2_with fail
          go_returns
          exact ⟨by rw [HZ.out]; rfl, HW.out.2⟩
      · have hk2 : decide ((k : Int) ≤ 20) = false := decide_eq_false (by omega)
        have d20 : decide ((l.length : Int) ≤ 20) = false := decide_eq_false (by omega)
        have HZ := hid (show z = false by rw [← H.out, namesB, decide_eq_false (show ¬ l.length ≤ 20 by omega), Bool.and_false])
        go_wp2_with fail
        go_returns
        exact ⟨by rw [HZ.out]; rfl, HW.out.2⟩
    · obtain rfl : k = l.length := by omega
      have hki : decide (((l.length : Nat) : Int) < ((l.length : Nat) : Int)) = false := by simp
      obtain ⟨zz, hz⟩ : ∃ b, decide ((l.length : Int) ≤ 20) = b := ⟨_, rfl⟩
      have HZ := hid (show z = zz by
        have h1 := HW.out.1
        rw [List.take_length] at h1
        rw [← H.out, namesB, List.take_of_length_le hk21, h1, ← hz, Bool.true_and]
        rw [Bool.eq_iff_iff, decide_eq_true_eq, decide_eq_true_eq]
        omega)
      have HZZ := hid hz
      clear hz
      go_wp2_with fail
      go_returns
      exact ⟨by rw [HZ.out, ← HZZ.out]; first | rfl | simp, HW.out.2⟩
end Go.Proofs.Ytingjembjpckcaa
namespace Go.Proofs.Ytingjembjpckcaa
set_option linter.unusedVariables false
set_option linter.unusedSimpArgs false
open Go.RowKit Go.Joins

def k14a : Ru := ⟨1, none, 0, 0, [], [97], 0, 0, 0, 0, 0, [], 0⟩
def k14b (g : Nat) : Ru := ⟨2, some ⟨g, 0, none⟩, 1, 1, [⟨2, [], [120]⟩], [98], 0, 0, 0, 0, 0, [], 0⟩
def k14U (g : Nat) : List Ru := [k14a, k14b g]
def k14C (g : Nat) : Array Value := #[.int .i64 1, .slice none 0 0, .string (bs [97]), .int .i64 0, .int .i64 0, .int .i64 0, .int .i64 0, .int .i64 0, .string (bs []), .int .i64 0, .int .i64 2, .slice (some ⟨g, 0, none⟩) 1 1, .string (bs [98]), .int .i64 0, .int .i64 0, .int .i64 0, .int .i64 0, .int .i64 0, .string (bs []), .int .i64 0]
theorem k14_row (g i j : Nat) (hi : i < 2) (hj : j < 10) : (k14C g)[i * 10 + j]? = (encR ((k14U g)[i]'hi))[j]? := by
  match i, hi, j, hj with
  | 0, _, 0, _ => rfl
  | 0, _, 1, _ => rfl
  | 0, _, 2, _ => rfl
  | 0, _, 3, _ => rfl
  | 0, _, 4, _ => rfl
  | 0, _, 5, _ => rfl
  | 0, _, 6, _ => rfl
  | 0, _, 7, _ => rfl
  | 0, _, 8, _ => rfl
  | 0, _, 9, _ => rfl
  | 1, _, 0, _ => rfl
  | 1, _, 1, _ => rfl
  | 1, _, 2, _ => rfl
  | 1, _, 3, _ => rfl
  | 1, _, 4, _ => rfl
  | 1, _, 5, _ => rfl
  | 1, _, 6, _ => rfl
  | 1, _, 7, _ => rfl
  | 1, _, 8, _ => rfl
  | 1, _, 9, _ => rfl
theorem k14_rv (w : World) (g gp : Nat) (h : Bk w g 49 (k14C gp)) (hp : Bk w gp 53 #[.int .i64 2, .string (bs []), .string (bs [120])]) (hg : g < w.heap.size) (hgp : gp < w.heap.size) : RV w (.slice (some ⟨g, 0, none⟩) 2 2) (k14U gp) := by
  refine ⟨some ⟨g, 0, none⟩, 2, rfl, fun i hi => ⟨g, 0, rfl, hg, fun j hj => ?_⟩, fun u hu => ?_, by simp, by simp [k14U], by simp [k14U]⟩
  · rw [Nat.zero_add, Bk.cell h]
    exact k14_row gp i j hi hj
  · simp only [k14U, List.mem_cons, List.mem_nil_iff, or_false] at hu
    rcases hu with rfl | rfl
    · exact PV.nil _ _
    · refine ⟨some ⟨gp, 0, none⟩, 1, rfl, fun k hk => ?_, by simp, by simp [k14b], by simp [k14b]⟩
      match k, hk with
      | 0, _ => exact ⟨gp, 0, rfl, hgp, Bk.cell hp 0, Bk.cell hp 1, Bk.cell hp 2⟩
theorem k14_ok (g : Nat) : ∀ u ∈ k14U g, okRs u.sem := fun u hu => by
  simp only [k14U, List.mem_cons, List.mem_nil_iff, or_false] at hu
  rcases hu with rfl | rfl <;> exact ⟨by simp [smallP, k14a, k14b, Ru.sem], by simp [k14a, k14b, Ru.sem], by simp [k14a, k14b, Ru.sem], by simp [k14a, k14b, Ru.sem]⟩
theorem k14_comp (g : Nat) : compT 7 [] ((k14U g).map Ru.sem) [[97], [98]] = (0, (7, [], [(k14b 0).sem, k14a.sem])) := by
  show compT 7 [] [k14a.sem, (k14b 0).sem] [[97], [98]] = _
  decide +kernel
theorem k14_chk (g : Nat) : chkC (chkR · [[97]]) [] ((k14U g).map Ru.sem) = 7 := by
  show chkC (chkR · [[97]]) [] [k14a.sem, (k14b 0).sem] = 7
  decide +kernel
theorem k14_whole1 : wholeB 7 [] [(k14b 0).sem, k14a.sem] [[97], [98]] = true := by decide +kernel
theorem k14_whole2 : wholeB 7 [] [(k14b 0).sem, k14a.sem] [[97]] = false := by decide +kernel
theorem tx_one (w : World) (t : TypeId) (a : List UInt8) (h : a.length ≤ 1000) : TX (w.alloc (.cells #[.string (bs a)] t)) (· < (w.alloc (.cells #[.string (bs a)] t)).heap.size) (.slice (some ⟨w.heap.size, 0, none⟩) 1 1) [a] := by
  refine ⟨some ⟨w.heap.size, 0, none⟩, 1, rfl, fun k hk => ?_, by simp [maxLen], by simp [maxLen]; omega⟩
  match k, hk with
  | 0, _ => exact ⟨_, rfl, by simp, Bk.cell (Bk.new w t #[.string (bs a)]) 0⟩
theorem tx_two (w : World) (t : TypeId) (a b : List UInt8) (h : a.length ≤ 1000 ∧ b.length ≤ 1000) : TX (w.alloc (.cells #[.string (bs a), .string (bs b)] t)) (· < (w.alloc (.cells #[.string (bs a), .string (bs b)] t)).heap.size) (.slice (some ⟨w.heap.size, 0, none⟩) 2 2) [a, b] := by
  refine ⟨some ⟨w.heap.size, 0, none⟩, 2, rfl, fun k hk => ?_, by simp [maxLen], by simp [maxLen]; omega⟩
  match k, hk with
  | 0, _ => exact ⟨_, rfl, by simp, Bk.cell (Bk.new w t #[.string (bs a), .string (bs b)]) 0⟩
  | 1, _ => exact ⟨_, rfl, by simp, Bk.cell (Bk.new w t #[.string (bs a), .string (bs b)]) 1⟩
theorem hv_none (w : World) : HV w (.slice none 0 0) [] := ⟨none, 0, rfl, fun k hk => absurd hk (by simp)⟩
theorem two_of {V : List Ru} {a b : Rs} (h : V.map Ru.sem = [a, b]) : ∃ x y, V = [x, y] ∧ x.sem = a ∧ y.sem = b := by
  match V, h with
  | [x, y], h => simp at h; exact ⟨x, y, rfl, h.1, h.2⟩
  | [], h => simp at h
  | [_], h => simp at h
  | _ :: _ :: _ :: _, h => simp at h
set_option maxRecDepth 100000 in
set_option maxHeartbeats 16000000 in
theorem known14_any (w : World) : Calls Try.prog 8 #[] w fun e w' => e = .returned (.bool true) ∧ Below w.heap.size w w' := by
  have hnot := enot
  have c0 : (ByteArray.mk #[]) = bs [] := rfl
  have c1 : (ByteArray.mk #[97]) = bs [97] := rfl
  have c2 : (ByteArray.mk #[98]) = bs [98] := rfl
  have c4 : (ByteArray.mk #[120]) = bs [120] := rfl
  have hb0 := enew w (.cells #[.int .i64 2, .string (bs []), .string (bs [120])] 53)
  have hp0 := Bk.new w 53 #[.int .i64 2, .string (bs []), .string (bs [120])]
  have hb1 := enew (w.alloc (.cells #[.int .i64 2, .string (bs []), .string (bs [120])] 53)) (.cells #[.int .i64 1, .slice none 0 0, .string (bs [97]), .int .i64 0, .int .i64 0, .int .i64 0, .int .i64 0, .int .i64 0, .string (bs []), .int .i64 0, .int .i64 2, .slice (some ⟨w.heap.size, 0, none⟩) 1 1, .string (bs [98]), .int .i64 0, .int .i64 0, .int .i64 0, .int .i64 0, .int .i64 0, .string (bs []), .int .i64 0] 49)
  have hk1 := Bk.new (w.alloc (.cells #[.int .i64 2, .string (bs []), .string (bs [120])] 53)) 49 #[.int .i64 1, .slice none 0 0, .string (bs [97]), .int .i64 0, .int .i64 0, .int .i64 0, .int .i64 0, .int .i64 0, .string (bs []), .int .i64 0, .int .i64 2, .slice (some ⟨w.heap.size, 0, none⟩) 1 1, .string (bs [98]), .int .i64 0, .int .i64 0, .int .i64 0, .int .i64 0, .int .i64 0, .string (bs []), .int .i64 0]
  rw [World.size_alloc] at hk1
  generalize hv0 : (w.alloc (.cells #[.int .i64 2, .string (bs []), .string (bs [120])] 53)).alloc (.cells #[.int .i64 1, .slice none 0 0, .string (bs [97]), .int .i64 0, .int .i64 0, .int .i64 0, .int .i64 0, .int .i64 0, .string (bs []), .int .i64 0, .int .i64 2, .slice (some ⟨w.heap.size, 0, none⟩) 1 1, .string (bs [98]), .int .i64 0, .int .i64 0, .int .i64 0, .int .i64 0, .int .i64 0, .string (bs []), .int .i64 0] 49) = v0 at *
  have hp1 := hp0.up hb1
  have hv := k14_rv v0 _ _ hk1 hp1 (Bk.lt hk1) (Bk.lt hp1)
  have hB := hid (estep hb0 hb1)
  have hs0 : v0.heap.size = w.heap.size + 1 + 1 := by rw [← hv0]; simp
  have hbc := enew v0 (.cells #[.slice (some ⟨w.heap.size + 1, 0, none⟩) 2 2, .string (bs [])] 24)
  have hkc := BF.new v0 (.slice (some ⟨w.heap.size + 1, 0, none⟩) 2 2) []
  rw [hs0] at hkc
  have HV0 := hid (hv.up hbc)
  have HB0 := hid (estep hB.out hbc)
  clear hb0 hp0 hb1 hk1 hp1 hv hbc hs0
  subst hv0
  go_enter Try.func8, Try.ntmps8
  go_upto_region 2 with (fail)
  generalize ((w.alloc (.cells #[.int .i64 2, .string (bs []), .string (bs [120])] 53)).alloc (.cells #[.int .i64 1, .slice none 0 0, .string (bs [97]), .int .i64 0, .int .i64 0, .int .i64 0, .int .i64 0, .int .i64 0, .string (bs []), .int .i64 0, .int .i64 2, .slice (some ⟨w.heap.size, 0, none⟩) 1 1, .string (bs [98]), .int .i64 0, .int .i64 0, .int .i64 0, .int .i64 0, .int .i64 0, .string (bs []), .int .i64 0] 49)).alloc (.cells #[.slice (some ⟨w.heap.size + 1, 0, none⟩) 2 2, .string (bs [])] 24) = v1 at *
  obtain ⟨q0, q1⟩ := hkc.cells
  have hbn := enew v1 (.cells #[.string (bs [97]), .string (bs [98])] 9)
  have htx := tx_two v1 9 [97] [98] (by simp)
  have HCM := hid (tcompile_any _ [] (k14U w.heap.size) 7 _ [[97], [98]] _ (HV0.out.up hbn) (k14_ok _) (by simp) htx (hid (k14_comp _)))
  have HBN := hid hbn
  have HKC := hid hkc
  clear hbn htx hkc
  go_wp2_with fail
  refine HCM.out.mono ?_
  rintro e w1 ⟨⟨t, rfl, y', V, rfl, hrv, hvm⟩, hb2⟩
  obtain ⟨x1, x2, rfl, e1, e2⟩ := two_of hvm
  obtain ⟨A', c', e', hX, hrp, -⟩ := id hrv
  have e'' : y' = .slice A' 2 c' := e'
  subst e''
  clear e' q0 q1 HCM
  simp only at hvm
  have HB1 := hid (estep HBN.out hb2)
  have hbt := enew w1 (.cells #[.int .i64 7, .slice A' 2 c', .string (bs [])] 30)
  have ht2 := BT.new w1 7 (.slice A' 2 c') []
  have HRV := hid (hrv.up hbt)
  have HB2 := hid (estep HB1.out hbt)
  have hX2 := hX.up hbt
  obtain ⟨bb, oo, rfl, -⟩ := hX2.some_of (i := 0) (by simp)
  have HX := hid hX2
  have HVM := hid hvm
  have HE1 := hid e1
  have HE2 := hid e2
  clear hb2 hrv hvm hX hX2 hrp hbt e1 e2
  go_upto_region 3 with (fail)
  generalize w1.alloc (.cells #[.int .i64 7, .slice (some ⟨bb, oo, none⟩) 2 c', .string (bs [])] 30) = v2 at *
  have HT := hid ht2
  have HL1 : Hid (∀ (w2 : World), Below v2.heap.size v2 w2 → Calls Try.prog 18 #[.agg #[.int .i64 7, .slice (some ⟨bb, oo, none⟩) 2 c', .string (bs [])], .agg #[.string (bs []), .string (bs [120]), .string (bs []), .slice none 0 0, .string (bs [])]] w2 fun e w' => e = .returned (.int .i64 0) ∧ Below w2.heap.size w2 w') := hid fun w2 h2 => lookup_any 7 _ [] [x1, x2] [] [120] [] [] (.slice none 0 0) [] w2 (HRV.out.up h2) (hv_none _) (by simp) (hid (lkI_hit (k := 0) (u := x1) rfl (fun j x hj => by omega) (by rw [show x1.ps = [⟨2, [], [120]⟩] from congrArg Rs.ps HE1.out]; decide +kernel)))
  have HL2 : Hid (∀ (w2 : World), Below v2.heap.size v2 w2 → Calls Try.prog 18 #[.agg #[.int .i64 7, .slice (some ⟨bb, oo, none⟩) 2 c', .string (bs [])], .agg #[.string (bs []), .string (bs []), .string (bs []), .slice none 0 0, .string (bs [])]] w2 fun e w' => e = .returned (.int .i64 1) ∧ Below w2.heap.size w2 w') := hid fun w2 h2 => lookup_any 7 _ [] [x1, x2] [] [] [] [] (.slice none 0 0) [] w2 (HRV.out.up h2) (hv_none _) (by simp) (hid (lkI_hit (k := 1) (u := x2) rfl (fun j x hj hx => by
    obtain rfl : j = 0 := by omega
    cases hx
    rw [show x1.ps = [⟨2, [], [120]⟩] from congrArg Rs.ps HE1.out]; decide +kernel) (by rw [show x2.ps = [] from congrArg Rs.ps HE2.out]; decide +kernel)))
  have HL3 : Hid (∀ (w2 : World), Calls Try.prog 18 #[.agg #[.int .i64 0, .slice none 0 0, .string (bs [])], .agg #[.string (bs []), .string (bs []), .string (bs []), .slice none 0 0, .string (bs [])]] w2 fun e w' => e = .returned (.int .i64 (-1)) ∧ Below w2.heap.size w2 w') := hid fun w2 => lookup_any 0 _ [] [] [] [] [] [] (.slice none 0 0) [] w2 (rv_none _) (hv_none _) (by simp) (hid rfl)
  have HW1 : Hid (∀ (w2 : World) (ny : Value), Below v2.heap.size v2 w2 → TX w2 (· < w2.heap.size) ny [[97], [98]] → Calls Try.prog 16 #[.agg #[.int .i64 7, .slice (some ⟨bb, oo, none⟩) 2 c', .string (bs [])], ny] w2 fun e w' => e = .returned (.bool true) ∧ Below w2.heap.size w2 w') := hid fun w2 ny h2 hn => whole_any 7 _ [] [x1, x2] ny [[97], [98]] w2 (HRV.out.up h2) (okRs_ord (U := k14U 0) (HVM.out.trans (by decide +kernel)) (k14_ok 0)) (by simp) hn (hid (by rw [HVM.out]; exact k14_whole1))
  have HW2 : Hid (∀ (w2 : World) (ny : Value), Below v2.heap.size v2 w2 → TX w2 (· < w2.heap.size) ny [[97]] → Calls Try.prog 16 #[.agg #[.int .i64 7, .slice (some ⟨bb, oo, none⟩) 2 c', .string (bs [])], ny] w2 fun e w' => e = .returned (.bool false) ∧ Below w2.heap.size w2 w') := hid fun w2 ny h2 hn => whole_any 7 _ [] [x1, x2] ny [[97]] w2 (HRV.out.up h2) (okRs_ord (U := k14U 0) (HVM.out.trans (by decide +kernel)) (k14_ok 0)) (by simp) hn (hid (by rw [HVM.out]; exact k14_whole2))
  have HCK : Hid (∀ (w2 : World) (ny : Value), Below v1.heap.size v1 w2 → TX w2 (· < w2.heap.size) ny [[97]] → Calls Try.prog 11 #[.agg #[.slice (some ⟨w.heap.size + 1, 0, none⟩) 2 2, .string (bs [])], ny] w2 fun e w' => e = .returned (.int .i64 7) ∧ Below w2.heap.size w2 w') := hid fun w2 ny h2 hn => tcheck_any _ [] (k14U w.heap.size) ny [[97]] w2 (HV0.out.up h2) (k14_ok _) (by simp) hn (hid (k14_chk _))
  obtain ⟨-, -, t9, -⟩ := rank_cell HX.out (i := 0) rfl
  rw [show x1.tg = [98] from congrArg Rs.tg HE1.out] at t9
  obtain ⟨t0, t1, t2⟩ := ht2.cells
  clear ht2 HRV HVM HE1 HE2
  go_wp2_with fail
  refine (HL1.out _ (Below.refl _ _)).mono ?_
  rintro e w3 ⟨rfl, hb3⟩
  have HB3 := hid hb3
  clear t0 t1 t2 t9 hb3
  obtain ⟨t0, t1, t2⟩ := (HT.out.up HB3.out).cells
  go_wp2_with fail
  refine (HL2.out _ HB3.out).mono ?_
  rintro e w4 ⟨rfl, hb4⟩
  have HB4 := hid (estep HB3.out hb4)
  clear t0 t1 t2 hb4
  go_wp2_with fail
  refine (HL3.out _).mono ?_
  rintro e w5 ⟨rfl, hb5⟩
  have HB5 := hid (estep HB4.out hb5)
  clear hb5
  obtain ⟨t0, t1, t2⟩ := (HT.out.up HB5.out).cells
  have hbn := enew w5 (.cells #[.string (bs [97]), .string (bs [98])] 9)
  have HC5 := hid (HW1.out _ _ (estep HB5.out hbn) (tx_two w5 9 [97] [98] (by simp)))
  have HB6 := hid (estep HB5.out hbn)
  clear hbn
  go_wp2_with fail
  refine HC5.out.mono ?_
  rintro e w6 ⟨rfl, hb6⟩
  have HB7 := hid (estep HB6.out hb6)
  clear hb6 t0 t1 t2
  obtain ⟨t0, t1, t2⟩ := (HT.out.up HB7.out).cells
  have hbn := enew w6 (.cells #[.string (bs [97])] 9)
  have HC6 := hid (HW2.out _ _ (estep HB7.out hbn) (tx_one w6 9 [97] (by simp)))
  have HB8 := hid (estep HB7.out hbn)
  clear hbn
  go_wp2_with fail
  refine HC6.out.mono ?_
  rintro e w7 ⟨rfl, hb7⟩
  have HB9 := hid (estep HB2.out (estep HB8.out hb7))
  clear hb7 t0 t1 t2
  obtain ⟨q0, q1⟩ := (HKC.out.up HB9.out).cells
  have hbn := enew w7 (.cells #[.string (bs [97])] 9)
  have HC7 := hid (HCK.out _ _ (estep HB9.out hbn) (tx_one w7 9 [97] (by simp)))
  have HBA := hid (estep HB9.out hbn)
  clear hbn
  go_wp2_with fail
  refine HC7.out.mono ?_
  rintro e w8 ⟨rfl, hb8⟩
  go_wp2_with fail
  go_returns
  exact ⟨rfl, estep HB0.out (estep HBA.out hb8)⟩
end Go.Proofs.Ytingjembjpckcaa
namespace Go.Proofs.Ytingjembjpckcaa
set_option linter.unusedVariables false
set_option linter.unusedSimpArgs false
open Go.RowKit Go.Joins

theorem lnames_tx (ny : Value) (l : List (List UInt8)) (w : World) (hn : TX w (· < w.heap.size) ny l) {z : Bool} (H : Hid (namesB l = z)) :
    Calls Try.prog 7 #[ny] w fun e w' => e = .returned (.bool z) ∧ Below w.heap.size w w' := by
  obtain ⟨A, c, rfl, h1, h2, -⟩ := hn
  exact lnames_any A c l w h1 (maxLen_le h2) H
theorem rtsame_tv (v : Int) (f : List UInt8) (y1 y2 : Value) (U V : List Ru) (w : World) (he : U.map Ru.sem = V.map Ru.sem) (h1 : RV w y1 U) (h2 : RV w y2 V) (hl : U.length ≤ 1000000) :
    Calls Try.prog 13 #[.agg #[.int .i64 v, y1, .string (bs f)], .agg #[.int .i64 v, y2, .string (bs f)]] w fun e w' => e = .returned (.bool true) ∧ Below w.heap.size w w' :=
  rtsame_with v f y1 y2 true w fun w2 hb => rsame_rv y1 y2 U V w2 he (h1.up hb) (h2.up hb) hl
theorem fewC_len {f : List UInt8} {U : List Ru} (h : fewC f (U.map Ru.sem) = true) : U.length ≤ 40 := by
  rw [fewC, Bool.and_eq_true] at h
  simpa using fewRu_len h.2
theorem compT_len {v : Int} {f : List UInt8} {U : List Rs} {l : List (List UInt8)} {z : Int} {T : Tt} (h : compT v f U l = (z, T)) (hU : U.length ≤ 40) : T.2.2.length ≤ 40 := by
  by_cases hz : z = 0
  · subst hz
    rw [(compT_ok h).1]
    show (ordB rkS U).length ≤ 40
    rw [ordB_length]; exact hU
  · rw [compT_no h hz]; simp [noT]
set_option maxRecDepth 100000 in
set_option maxHeartbeats 16000000 in
theorem tableCompiles_walk (y : Value) (f : List UInt8) (U : List Ru) (m : ∀ u ∈ U, okRs u.sem) (hf : f.length ≤ 140737488351232) (v : Int) (hv : -9223372036854775808 ≤ v ∧ v ≤ 9223372036854775807) (ny : Value) (l : List (List UInt8)) (w : World) (hy : RV w y U) (hn : TX w (· < w.heap.size) ny l) :
    Calls Try.prog 3 #[.agg #[y, .string (bs f)], .int .i64 v, ny] w fun e w' => e = .returned (.bool true) ∧ Below w.heap.size w w' := by
  have hnot := enot
  clear hv
  have hb0 := enew w (.cells #[y, .string (bs f)] 24)
  have hk0 := BF.new w y f
  have H0 := hid (And.intro (hy.up hb0) (And.intro (tx_up hn hb0) hb0))
  obtain ⟨zf, hzf⟩ : ∃ z, fewC f (U.map Ru.sem) = z := ⟨_, rfl⟩
  obtain ⟨zn, hzn⟩ : ∃ z, namesB l = z := ⟨_, rfl⟩
  obtain ⟨zc, T, hzc⟩ : ∃ z T, compT v f (U.map Ru.sem) l = (z, T) := ⟨_, _, rfl⟩
  obtain ⟨zk, hzk⟩ : ∃ z, chkC (chkR · l) f (U.map Ru.sem) = z := ⟨_, rfl⟩
  have HZ := hid (And.intro hzf (And.intro hzn (And.intro hzc hzk)))
  have HF := hid (fun w2 (h1 : RV w2 y U) => cfew_any y f U w2 h1 m hf (hid hzf))
  have HN := hid (fun w2 (h1 : TX w2 (· < w2.heap.size) ny l) => lnames_tx ny l w2 h1 (hid hzn))
  have HC := hid (fun w2 (h1 : RV w2 y U) (h2 : TX w2 (· < w2.heap.size) ny l) => tcompile_any y f U v ny l w2 h1 m hf h2 (hid hzc))
  have HRC := hid (fun w2 (h1 : RV w2 y U) (h2 : TX w2 (· < w2.heap.size) ny l) => rtcompile_any y f U v ny l w2 h1 m hf h2 (hid hzc))
  have HK := hid (fun w2 (h1 : RV w2 y U) (h2 : TX w2 (· < w2.heap.size) ny l) => tcheck_any y f U ny l w2 h1 m hf h2 (hid hzk))
  have HRK := hid (fun w2 (h1 : RV w2 y U) (h2 : TX w2 (· < w2.heap.size) ny l) => rtcheck_any y f U ny l w2 h1 m hf h2 (hid hzk))
  clear hzf hzn hzc hzk hy hn m hf hb0
  go_enter Try.func3, Try.ntmps3
  go_upto_region 1 with (fail)
  generalize w.alloc (.cells #[y, .string (bs f)] 24) = v0 at *
  obtain ⟨k0, k1⟩ := hk0.cells
  go_wp2_with fail
  refine (HF.out _ H0.out.1).mono ?_
  rintro e w1 ⟨rfl, hb1⟩
  clear k0 k1
  have H1 := hid (And.intro (H0.out.1.up hb1) (And.intro (tx_up H0.out.2.1 hb1) hb1))
  clear hb1
  cases zf
  · go_wp2_with fail
    refine (known14_any _).mono ?_
    rintro e w2 ⟨rfl, hb2⟩
    go_wp2_with fail
    go_returns
    exact ⟨rfl, estep H0.out.2.2 (estep H1.out.2.2 hb2)⟩
  go_wp2_with fail
  refine (HN.out _ H1.out.2.1).mono ?_
  rintro e w2 ⟨rfl, hb2⟩
  have H2 := hid (And.intro (H1.out.1.up hb2) (And.intro (tx_up H1.out.2.1 hb2) (estep H1.out.2.2 hb2)))
  clear hb2
  cases zn
  · go_wp2_with fail
    refine (known14_any _).mono ?_
    rintro e w3 ⟨rfl, hb3⟩
    go_wp2_with fail
    go_returns
    exact ⟨rfl, estep H0.out.2.2 (estep H2.out.2.2 hb3)⟩
  have HLU := hid (fewC_len HZ.out.1)
  have HLT := hid (compT_len HZ.out.2.2.1 (by rw [List.length_map]; exact HLU.out))
  obtain ⟨T1, T2, T3⟩ := T
  obtain ⟨k0, k1⟩ := (hk0.up H2.out.2.2).cells
  go_wp2_with fail
  refine (HC.out _ H2.out.1 H2.out.2.1).mono ?_
  rintro e w3 ⟨⟨t, rfl, y1, V1, rfl, hrv1, hvm1⟩, hb3⟩
  obtain ⟨A1, c1, rfl, -⟩ := id hrv1
  clear k0 k1
  simp only at hvm1
  have hbt := enew w3 (.cells #[.int .i64 T1, .slice A1 V1.length c1, .string (bs T2)] 30)
  have ht1 := BT.new w3 T1 (.slice A1 V1.length c1) T2
  have H3 := hid (And.intro (H2.out.1.up (estep hb3 hbt)) (And.intro (tx_up H2.out.2.1 (estep hb3 hbt)) (And.intro (estep H2.out.2.2 (estep hb3 hbt)) (And.intro (hrv1.up hbt) hvm1))))
  clear hrv1 hvm1 hb3 hbt
  generalize hn1 : V1.length = n1 at *
  have HN1 := hid hn1
  clear hn1
  go_upto_region 4 with (fail)
  generalize w3.alloc (.cells #[.int .i64 T1, .slice A1 n1 c1, .string (bs T2)] 30) = v3 at *
  obtain ⟨k0, k1⟩ := (hk0.up H3.out.2.2.1).cells
  go_wp2_with fail
  refine (HRC.out _ H3.out.1 H3.out.2.1).mono ?_
  rintro e w4 ⟨⟨t, rfl, y2, V2, rfl, hrv2, hvm2⟩, hb4⟩
  obtain ⟨A2, c2, rfl, -⟩ := id hrv2
  clear k0 k1
  simp only at hvm2
  have hbt := enew w4 (.cells #[.int .i64 T1, .slice A2 V2.length c2, .string (bs T2)] 30)
  have ht2 := BT.new w4 T1 (.slice A2 V2.length c2) T2
  have ht1b := ht1.up (estep hb4 hbt)
  have H4 := hid (And.intro (H3.out.1.up (estep hb4 hbt)) (And.intro (tx_up H3.out.2.1 (estep hb4 hbt)) (And.intro (estep H3.out.2.2.1 (estep hb4 hbt)) (And.intro (H3.out.2.2.2.1.up (estep hb4 hbt)) (And.intro (hrv2.up hbt) hvm2)))))
  clear hrv2 hvm2 hb4 hbt ht1
  generalize hn2 : V2.length = n2 at *
  have HN2 := hid hn2
  clear hn2
  go_upto_region 5 with (fail)
  generalize w4.alloc (.cells #[.int .i64 T1, .slice A2 n2 c2, .string (bs T2)] 30) = v4 at *
  have HS := hid (fun (w5 : World) (hb : Below v4.heap.size v4 w5) => rtsame_tv T1 T2 (.slice A1 n1 c1) (.slice A2 n2 c2) V1 V2 w5 (H3.out.2.2.2.2.trans H4.out.2.2.2.2.2.symm) (H4.out.2.2.2.1.up hb) (H4.out.2.2.2.2.1.up hb) (by
    have h1 := congrArg List.length H3.out.2.2.2.2
    rw [List.length_map] at h1
    have h2 : T3.length ≤ 40 := HLT.out
    omega))
  have HK5 := hid (fun (w5 : World) (hb : Below v4.heap.size v4 w5) => HK.out w5 (H4.out.1.up hb) (tx_up H4.out.2.1 hb))
  have HRK5 := hid (fun (w5 : World) (hb : Below v4.heap.size v4 w5) => HRK.out w5 (H4.out.1.up hb) (tx_up H4.out.2.1 hb))
  obtain ⟨k0, k1⟩ := (hk0.up H4.out.2.2.1).cells
  obtain ⟨a0, a1, a2⟩ := ht1b.cells
  obtain ⟨b0, b1, b2⟩ := ht2.cells
  have K0 := BW.cell k0
  have K1 := BW.cell k1
  have A0 := BW.cell a0
  have A1' := BW.cell a1
  have A2' := BW.cell a2
  have B0 := BW.cell b0
  have B1 := BW.cell b1
  have B2 := BW.cell b2
  clear k0 k1 a0 a1 a2 b0 b1 b2 ht1b ht2
  refine wp_region_bw (by kernel_rfl) (by kernel_rfl) ?_
  repeat (go_big_quiet_step ((first
    | (go_at_call 11; exact calls_bw (HK5.out _ (BW.h _)))
    | (go_at_call 12; exact calls_bw (HRK5.out _ (BW.h _)))
    | (go_at_call 13; exact calls_bw (HS.out _ (BW.h _)))
    | (go_at_call 8; exact calls_bw (known14_any _)))))
  refine wpQuiet_nil ?_
  rintro _ ⟨pq, rfl⟩
  clear K0 K1 A0 A1' A2' B0 B1 B2
  have HB9 := hid (estep H0.out.2.2 (estep H4.out.2.2.1 pq.h))
  go_wp2_with fail
  go_returns
  exact ⟨rfl, HB9.out⟩
set_option maxRecDepth 100000 in
set_option maxHeartbeats 16000000 in
theorem tableLooks_walk (v : Int) (y : Value) (f : List UInt8) (U : List Ru) (m : ∀ u ∈ U, okRs u.sem) (hf : f.length ≤ 140737488351232) (ny : Value) (l : List (List UInt8)) (qm qh qp qb : List UInt8) (x : Value) (L : List Hd) (hL : L.length ≤ 9223372036854775807) (hs : ∀ h ∈ L, h.1.length ≤ 140737488351232 ∧ h.2.length ≤ 140737488351232)
    (s0 : qm.length ≤ 140737488351232) (s1 : qh.length ≤ 140737488351232) (s2 : qp.length ≤ 140737488351232) (s3 : qb.length ≤ 140737488351232) (w : World) (hy : RV w y U) (hn : TX w (· < w.heap.size) ny l) (hx : HV w x L) :
    Calls Try.prog 4 #[.agg #[.int .i64 v, y, .string (bs f)], ny, .agg #[.string (bs qm), .string (bs qh), .string (bs qp), x, .string (bs qb)]] w fun e w' => e = .returned (.bool true) ∧ Below w.heap.size w w' := by
  have hnot := enot
  have hb1 := enew w (.cells #[.int .i64 v, y, .string (bs f)] 30)
  have hb2 := enew (w.alloc (.cells #[.int .i64 v, y, .string (bs f)] 30)) (.cells #[.string (bs qm), .string (bs qh), .string (bs qp), x, .string (bs qb)] 39)
  have hk0 := (BT.new w v y f).up hb2
  have hq0 := BQ.new (w.alloc (.cells #[.int .i64 v, y, .string (bs f)] 30)) qm qh qp x qb
  rw [World.size_alloc] at hq0
  have hb0 := estep hb1 hb2
  have H0 := hid (And.intro (hy.up hb0) (And.intro (tx_up hn hb0) (And.intro (hx.up hb0) hb0)))
  obtain ⟨zf, hzf⟩ : ∃ z, fewC f (U.map Ru.sem) = z := ⟨_, rfl⟩
  obtain ⟨zn, hzn⟩ : ∃ z, namesB l = z := ⟨_, rfl⟩
  obtain ⟨zq, hzq⟩ : ∃ z, fewR qm qh qp L qb = z := ⟨_, rfl⟩
  obtain ⟨zw, hzw⟩ : ∃ z, wholeB v f (U.map Ru.sem) l = z := ⟨_, rfl⟩
  obtain ⟨zl, hzl⟩ : ∃ z, lkI (fun u => allE u.ps qm qh qp L) U = z := ⟨_, rfl⟩
  have HZ := hid hzq
  have HF := hid (fun w2 (h1 : RV w2 y U) => tfew_any v y f U w2 h1 m hf (hid hzf))
  have HN := hid (fun w2 (h1 : TX w2 (· < w2.heap.size) ny l) => lnames_tx ny l w2 h1 (hid hzn))
  have HQ := hid (fun w2 (h1 : HV w2 x L) => rfew_any qm qh qp qb x L w2 h1 hL hs s0 s1 s2 s3 (hid hzq))
  have HW := hid (fun w2 (h1 : RV w2 y U) (h2 : TX w2 (· < w2.heap.size) ny l) => whole_any v y f U ny l w2 h1 m hf h2 (hid hzw))
  have HRW := hid (fun w2 (h1 : RV w2 y U) (h2 : TX w2 (· < w2.heap.size) ny l) => rwhole_any v y f U ny l w2 h1 m hf h2 (hid hzw))
  have HLK := hid (fun w2 (h1 : RV w2 y U) (h2 : HV w2 x L) (hl : L.length ≤ 1000000) => lookup_any v y f U qm qh qp qb x L w2 h1 h2 hl (hid hzl))
  have HRL := hid (fun w2 (h1 : RV w2 y U) (h2 : HV w2 x L) (hl : L.length ≤ 1000000) => rlookup_any v y f U qm qh qp qb x L w2 h1 (fun u hu => (m u hu).1) s2 h2 hl (hid hzl))
  clear hzf hzn hzw hzl hzq hy hn hx m hf hb0 hb1 hb2 hL hs s0 s1 s2 s3
  go_enter Try.func4, Try.ntmps4
  go_upto_region 1 with (fail)
  generalize (w.alloc (.cells #[.int .i64 v, y, .string (bs f)] 30)).alloc (.cells #[.string (bs qm), .string (bs qh), .string (bs qp), x, .string (bs qb)] 39) = v0 at *
  obtain ⟨k0, k1, k2⟩ := hk0.cells
  go_wp2_with fail
  refine (HF.out _ H0.out.1).mono ?_
  rintro e w1 ⟨rfl, hb1⟩
  clear k0 k1 k2
  have H1 := hid (And.intro (H0.out.1.up hb1) (And.intro (tx_up H0.out.2.1 hb1) (And.intro (H0.out.2.2.1.up hb1) hb1)))
  clear hb1
  cases zf
  · go_wp2_with fail
    refine (known14_any _).mono ?_
    rintro e w2 ⟨rfl, hb2⟩
    go_wp2_with fail
    go_returns
    exact ⟨rfl, estep H0.out.2.2.2 (estep H1.out.2.2.2 hb2)⟩
  go_wp2_with fail
  refine (HN.out _ H1.out.2.1).mono ?_
  rintro e w2 ⟨rfl, hb2⟩
  have H2 := hid (And.intro (H1.out.1.up hb2) (And.intro (tx_up H1.out.2.1 hb2) (And.intro (H1.out.2.2.1.up hb2) (estep H1.out.2.2.2 hb2))))
  clear hb2
  cases zn
  · go_wp2_with fail
    refine (known14_any _).mono ?_
    rintro e w3 ⟨rfl, hb3⟩
    go_wp2_with fail
    go_returns
    exact ⟨rfl, estep H0.out.2.2.2 (estep H2.out.2.2.2 hb3)⟩
  obtain ⟨q0, q1, q2, q3, q4⟩ := (hq0.up H2.out.2.2.2).cells
  go_wp2_with fail
  refine (HQ.out _ H2.out.2.2.1).mono ?_
  rintro e w3 ⟨rfl, hb3⟩
  clear q0 q1 q2 q3 q4
  have H3 := hid (And.intro (H2.out.1.up hb3) (And.intro (tx_up H2.out.2.1 hb3) (And.intro (H2.out.2.2.1.up hb3) (estep H2.out.2.2.2 hb3))))
  clear hb3
  cases zq
  · go_wp2_with fail
    refine (known14_any _).mono ?_
    rintro e w4 ⟨rfl, hb4⟩
    go_wp2_with fail
    go_returns
    exact ⟨rfl, estep H0.out.2.2.2 (estep H3.out.2.2.2 hb4)⟩
  have HLH := hid (fewR_len HZ.out)
  have HW3 := hid (fun (w5 : World) (hb : Below w3.heap.size w3 w5) => HW.out w5 (H3.out.1.up hb) (tx_up H3.out.2.1 hb))
  have HRW3 := hid (fun (w5 : World) (hb : Below w3.heap.size w3 w5) => HRW.out w5 (H3.out.1.up hb) (tx_up H3.out.2.1 hb))
  have HL3 := hid (fun (w5 : World) (hb : Below w3.heap.size w3 w5) => HLK.out w5 (H3.out.1.up hb) (H3.out.2.2.1.up hb) (by have := HLH.out; omega))
  have HRL3 := hid (fun (w5 : World) (hb : Below w3.heap.size w3 w5) => HRL.out w5 (H3.out.1.up hb) (H3.out.2.2.1.up hb) (by have := HLH.out; omega))
  obtain ⟨k0, k1, k2⟩ := (hk0.up H3.out.2.2.2).cells
  obtain ⟨q0, q1, q2, q3, q4⟩ := (hq0.up H3.out.2.2.2).cells
  have K0 := BW.cell k0
  have K1 := BW.cell k1
  have K2 := BW.cell k2
  have Q0 := BW.cell q0
  have Q1 := BW.cell q1
  have Q2 := BW.cell q2
  have Q3 := BW.cell q3
  have Q4 := BW.cell q4
  clear k0 k1 k2 q0 q1 q2 q3 q4 hk0 hq0
  go_upto_region 3 with (fail)
  refine wp_region_bw (by kernel_rfl) (by kernel_rfl) ?_
  repeat (go_big_quiet_step ((first
    | (go_at_call 16; exact calls_bw (HW3.out _ (BW.h _)))
    | (go_at_call 17; exact calls_bw (HRW3.out _ (BW.h _)))
    | (go_at_call 18; exact calls_bw (HL3.out _ (BW.h _)))
    | (go_at_call 19; exact calls_bw (HRL3.out _ (BW.h _)))
    | (go_at_call 8; exact calls_bw (known14_any _)))))
  refine wpQuiet_nil ?_
  rintro _ ⟨pq, rfl⟩
  clear K0 K1 K2 Q0 Q1 Q2 Q3 Q4
  have HB9 := hid (estep H0.out.2.2.2 (estep H3.out.2.2.2 pq.h))
  go_wp2_with fail
  go_returns
  exact ⟨rfl, HB9.out⟩
end Go.Proofs.Ytingjembjpckcaa
namespace Go.Proofs.Ytingjembjpckcaa
set_option linter.unusedVariables false
set_option linter.unusedSimpArgs false
open Go.RowKit Go.Joins

theorem ord_ord (L : List Rs) : ordB rkS (ordB rkS L) = ordB rkS L := (ordB_of (key := rkS) (ordB_srt L) (Eqv.refl _)).symm
/-- What is looked up in what is ordered is the rule that First finds in what stood. -/
theorem lk_first (hit : Rs → Bool) {U V : List Ru} (hV : V.map Ru.sem = ordB rkS (U.map Ru.sem)) :
    (lkI (fun u => hit u.sem) V = -1 ∧ fstK (fun u => hit u.sem) U U.length = none) ∨
    ∃ (a k : Nat) (u v : Ru), lkI (fun u => hit u.sem) V = (a : Int) ∧ fstK (fun u => hit u.sem) U U.length = some k ∧ V[a]? = some v ∧ U[k]? = some u ∧ v.sem = u.sem := by
  have hE : Eqv rkS (U.map Ru.sem) (V.map Ru.sem) := by rw [hV]; exact (ordB_eqv (key := rkS) _).symm
  have hS : Srt rkS (V.map Ru.sem) := by rw [hV]; exact ordB_srt _
  by_cases h : V.findIdx (fun u => hit u.sem) < V.length
  · right
    have hh : hit (V[V.findIdx (fun u => hit u.sem)]).sem = true := List.findIdx_getElem (p := fun u : Ru => hit u.sem) (w := h)
    have hn : ∀ (j : Nat) (x : Ru), j < V.findIdx (fun u => hit u.sem) → V[j]? = some x → hit x.sem = false := fun j x hj hx => by
      obtain ⟨hj', rfl⟩ := List.getElem?_eq_some_iff.1 hx
      have := List.not_of_lt_findIdx hj
      simpa using this
    have hv : V[V.findIdx (fun u => hit u.sem)]? = some V[V.findIdx (fun u => hit u.sem)] := List.getElem?_eq_getElem h
    obtain ⟨k, u, h1, h2, h3⟩ := fst_stood (hit := hit) hE hS (f := V.findIdx (fun u => hit u.sem)) (sem_of hv) hh (fun j t hj ht => by
      rw [List.getElem?_map] at ht
      obtain ⟨x, hx, rfl⟩ := Option.map_eq_some_iff.1 ht
      exact hn j x hj hx)
    exact ⟨_, k, u, _, by rw [lkI, if_pos h], h1, hv, h2, h3.symm⟩
  · left
    refine ⟨by rw [lkI, if_neg h], fst_none (T := V.map Ru.sem) (fun s hs => hE.mem hs) fun j s hj hs => ?_⟩
    rw [List.getElem?_map] at hs
    obtain ⟨x, hx, rfl⟩ := Option.map_eq_some_iff.1 hs
    have hm := List.findIdx_eq_length.1 (Nat.le_antisymm List.findIdx_le_length (Nat.le_of_not_lt h))
    simpa using hm x (List.mem_of_getElem? hx)
theorem compT_again {f : List UInt8} {U : List Rs} {l : List (List UInt8)} {v : Int} {T : Tt} (h : compT v f U l = (0, T)) : compT v f (ordB rkS U) l = (0, (v, f, ordB rkS U)) := by
  obtain ⟨-, h1, h2⟩ := compT_ok h
  have h3 := chkC_ord h2
  rw [compT, if_neg (by rw [h1]; simp), if_neg (by rw [h3]; simp), ord_ord]
theorem whole_again {f : List UInt8} {U : List Rs} {l : List (List UInt8)} {v : Int} {T : Tt} (h : compT v f U l = (0, T)) : wholeB v f (ordB rkS U) l = true := by
  rw [wholeB, compT_again h, ord_ord]
  simp
theorem whole_no {f : List UInt8} {U : List Rs} {l : List (List UInt8)} {v z : Int} {T : Tt} (h : compT v f U l = (z, T)) (hz : z ≠ 0) : wholeB v f U l = false := by
  rw [wholeB, h, decide_eq_false hz]; rfl
set_option maxRecDepth 100000 in
set_option maxHeartbeats 32000000 in
theorem tableFirst_walk (y : Value) (f : List UInt8) (U : List Ru) (m : ∀ u ∈ U, okRs u.sem) (hf : f.length ≤ 140737488351232) (ny : Value) (l : List (List UInt8)) (qm qh qp qb : List UInt8) (x : Value) (L : List Hd) (hL : L.length ≤ 9223372036854775807) (hs : ∀ h ∈ L, h.1.length ≤ 140737488351232 ∧ h.2.length ≤ 140737488351232)
    (s0 : qm.length ≤ 140737488351232) (s1 : qh.length ≤ 140737488351232) (s2 : qp.length ≤ 140737488351232) (s3 : qb.length ≤ 140737488351232) (w : World) (hy : RV w y U) (hn : TX w (· < w.heap.size) ny l) (hx : HV w x L) :
    Calls Try.prog 5 #[.agg #[y, .string (bs f)], ny, .agg #[.string (bs qm), .string (bs qh), .string (bs qp), x, .string (bs qb)]] w fun e w' => e = .returned (.bool true) ∧ Below w.heap.size w w' := by
  have hnot := enot
  obtain ⟨YA, YC, ey, -⟩ := id hy
  subst ey
  have hb1 := enew w (.cells #[.slice YA U.length YC, .string (bs f)] 24)
  have hb2 := enew (w.alloc (.cells #[.slice YA U.length YC, .string (bs f)] 24)) (.cells #[.string (bs qm), .string (bs qh), .string (bs qp), x, .string (bs qb)] 39)
  have hk0 := (BF.new w (.slice YA U.length YC) f).up hb2
  have hq0 := BQ.new (w.alloc (.cells #[.slice YA U.length YC, .string (bs f)] 24)) qm qh qp x qb
  rw [World.size_alloc] at hq0
  have hb0 := estep hb1 hb2
  have H0 := hid (And.intro (hy.up hb0) (And.intro (tx_up hn hb0) (And.intro (hx.up hb0) hb0)))
  obtain ⟨zf, hzf⟩ : ∃ z, fewC f (U.map Ru.sem) = z := ⟨_, rfl⟩
  obtain ⟨zn, hzn⟩ : ∃ z, namesB l = z := ⟨_, rfl⟩
  obtain ⟨zq, hzq⟩ : ∃ z, fewR qm qh qp L qb = z := ⟨_, rfl⟩
  obtain ⟨zc, T, hzc⟩ : ∃ z T, compT 1 f (U.map Ru.sem) l = (z, T) := ⟨_, _, rfl⟩
  have HZ := hid (And.intro hzq (And.intro hzf hzc))
  have HF := hid (fun w2 (h1 : RV w2 (.slice YA U.length YC) U) => cfew_any (.slice YA U.length YC) f U w2 h1 m hf (hid hzf))
  have HN := hid (fun w2 (h1 : TX w2 (· < w2.heap.size) ny l) => lnames_tx ny l w2 h1 (hid hzn))
  have HQ := hid (fun w2 (h1 : HV w2 x L) => rfew_any qm qh qp qb x L w2 h1 hL hs s0 s1 s2 s3 (hid hzq))
  have HC := hid (fun w2 (h1 : RV w2 (.slice YA U.length YC) U) (h2 : TX w2 (· < w2.heap.size) ny l) => tcompile_any (.slice YA U.length YC) f U 1 ny l w2 h1 m hf h2 (hid hzc))
  have HW := hid (fun w2 (h1 : RV w2 (.slice YA U.length YC) U) (h2 : TX w2 (· < w2.heap.size) ny l) (h : zc ≠ 0) => whole_any 1 (.slice YA U.length YC) f U ny l w2 h1 m hf h2 (hid (whole_no hzc h)))
  have HM := hid (And.intro m (And.intro hf s2))
  clear hzf hzn hzq hzc hy hn hx m hf hb0 hb1 hb2 hL hs s0 s1 s2 s3
  generalize hnU : U.length = n at *
  have HNU := hid hnU
  clear hnU
  go_enter Try.func5, Try.ntmps5
  go_upto_region 1 with (fail)
  generalize (w.alloc (.cells #[.slice YA n YC, .string (bs f)] 24)).alloc (.cells #[.string (bs qm), .string (bs qh), .string (bs qp), x, .string (bs qb)] 39) = v0 at *
  obtain ⟨k0, k1⟩ := hk0.cells
  go_wp2_with fail
  refine (HF.out _ H0.out.1).mono ?_
  rintro e w1 ⟨rfl, hb1⟩
  clear k0 k1
  have H1 := hid (And.intro (H0.out.1.up hb1) (And.intro (tx_up H0.out.2.1 hb1) (And.intro (H0.out.2.2.1.up hb1) hb1)))
  clear hb1
  cases zf
  · go_wp2_with fail
    refine (known14_any _).mono ?_
    rintro e w2 ⟨rfl, hb2⟩
    go_wp2_with fail
    go_returns
    exact ⟨rfl, estep H0.out.2.2.2 (estep H1.out.2.2.2 hb2)⟩
  go_wp2_with fail
  refine (HN.out _ H1.out.2.1).mono ?_
  rintro e w2 ⟨rfl, hb2⟩
  have H2 := hid (And.intro (H1.out.1.up hb2) (And.intro (tx_up H1.out.2.1 hb2) (And.intro (H1.out.2.2.1.up hb2) (estep H1.out.2.2.2 hb2))))
  clear hb2
  cases zn
  · go_wp2_with fail
    refine (known14_any _).mono ?_
    rintro e w3 ⟨rfl, hb3⟩
    go_wp2_with fail
    go_returns
    exact ⟨rfl, estep H0.out.2.2.2 (estep H2.out.2.2.2 hb3)⟩
  obtain ⟨q0, q1, q2, q3, q4⟩ := (hq0.up H2.out.2.2.2).cells
  go_wp2_with fail
  refine (HQ.out _ H2.out.2.2.1).mono ?_
  rintro e w3 ⟨rfl, hb3⟩
  clear q0 q1 q2 q3 q4
  have H3 := hid (And.intro (H2.out.1.up hb3) (And.intro (tx_up H2.out.2.1 hb3) (And.intro (H2.out.2.2.1.up hb3) (estep H2.out.2.2.2 hb3))))
  clear hb3
  cases zq
  · go_wp2_with fail
    refine (known14_any _).mono ?_
    rintro e w4 ⟨rfl, hb4⟩
    go_wp2_with fail
    go_returns
    exact ⟨rfl, estep H0.out.2.2.2 (estep H3.out.2.2.2 hb4)⟩
  have HLH := hid (fewR_len HZ.out.1)
  have HLU := hid (fewC_len HZ.out.2.1)
  obtain ⟨T1, T2, T3⟩ := T
  obtain ⟨k0, k1⟩ := (hk0.up H3.out.2.2.2).cells
  go_wp2_with fail
  refine (HC.out _ H3.out.1 H3.out.2.1).mono ?_
  rintro e w4 ⟨⟨t, rfl, y1, V, rfl, hrv1, hvm1⟩, hb4⟩
  obtain ⟨A1, c1, rfl, -⟩ := id hrv1
  clear k0 k1
  simp only at hvm1
  have hbt := enew w4 (.cells #[.int .i64 T1, .slice A1 V.length c1, .string (bs T2)] 30)
  have ht1 := BT.new w4 T1 (.slice A1 V.length c1) T2
  have hb5 := estep hb4 hbt
  have H4 := hid (And.intro (H3.out.1.up hb5) (And.intro (tx_up H3.out.2.1 hb5) (And.intro (H3.out.2.2.1.up hb5) (And.intro (estep H3.out.2.2.2 hb5) (And.intro (hrv1.up hbt) hvm1)))))
  clear hrv1 hvm1 hb4 hbt hb5
  generalize hn1 : V.length = n1 at *
  have HN1 := hid hn1
  clear hn1
  go_upto_region 4 with (fail)
  generalize w4.alloc (.cells #[.int .i64 T1, .slice A1 n1 c1, .string (bs T2)] 30) = v4 at *
  by_cases hz : zc = 0
  rotate_left
  · have d1 : decide (zc = 0) = false := decide_eq_false hz
    have d2 : (zc != 0) = true := by simpa using hz
    have d3 : (!decide (zc = 0)) = true := by rw [d1]; rfl
    have HWX := hid (HW.out v4 H4.out.1 H4.out.2.1 hz)
    obtain ⟨k0, k1⟩ := (hk0.up H4.out.2.2.2.1).cells
    clear hz
    go_wp2_with fail
    refine HWX.out.mono ?_
    rintro e w5 ⟨rfl, hb5⟩
    go_wp2_with fail
    refine (known14_any _).mono ?_
    rintro e w6 ⟨rfl, hb6⟩
    go_wp2_with fail
    go_returns
    exact ⟨rfl, estep H0.out.2.2.2 (estep H4.out.2.2.2.1 (estep hb5 hb6))⟩
  subst hz
  obtain ⟨e1, -, -⟩ := compT_ok HZ.out.2.2
  obtain ⟨rfl, e2⟩ := Prod.mk.inj e1
  obtain ⟨rfl, rfl⟩ := Prod.mk.inj e2
  have HVM := hid H4.out.2.2.2.2.2
  have HOV := hid (okRs_ord HVM.out HM.out.1)
  have hca : compT 1 T2 (V.map Ru.sem) l = (0, (1, T2, ordB rkS (U.map Ru.sem))) := by rw [HVM.out]; exact compT_again HZ.out.2.2
  have hwa : wholeB 1 T2 (V.map Ru.sem) l = true := by rw [HVM.out]; exact whole_again HZ.out.2.2
  have HC4 := hid (tcompile_any (.slice A1 n1 c1) T2 V 1 ny l v4 H4.out.2.2.2.2.1 HOV.out HM.out.2.1 H4.out.2.1 (hid hca))
  have HW4 := hid (fun (w5 : World) (hb : Below v4.heap.size v4 w5) => whole_any 1 (.slice A1 n1 c1) T2 V ny l w5 (H4.out.2.2.2.2.1.up hb) HOV.out HM.out.2.1 (tx_up H4.out.2.1 hb) (hid hwa))
  clear hca hwa
  obtain ⟨t0, t1, t2⟩ := ht1.cells
  go_wp2_with fail
  refine HC4.out.mono ?_
  rintro e w5 ⟨⟨t, rfl, y2, V2, rfl, hrv2, hvm2⟩, hb5⟩
  obtain ⟨A2, c2, rfl, -⟩ := id hrv2
  clear t0 t1 t2
  simp only at hvm2
  have hbt := enew w5 (.cells #[.int .i64 1, .slice A2 V2.length c2, .string (bs T2)] 30)
  have ht2 := BT.new w5 1 (.slice A2 V2.length c2) T2
  have hb6 := estep hb5 hbt
  have H5 := hid (And.intro (H4.out.1.up hb6) (And.intro (H4.out.2.2.1.up hb6) (And.intro (estep H4.out.2.2.2.1 hb6) (And.intro (H4.out.2.2.2.2.1.up hb6) (And.intro (hrv2.up hbt) (And.intro hvm2 hb6))))))
  clear hrv2 hvm2 hb5 hbt hb6
  generalize hn2 : V2.length = n2 at *
  have HN2 := hid hn2
  clear hn2
  go_upto_region 7 with (fail)
  generalize w5.alloc (.cells #[.int .i64 1, .slice A2 n2 c2, .string (bs T2)] 30) = v5 at *
  obtain ⟨t0, t1, t2⟩ := (ht1.up H5.out.2.2.2.2.2.2).cells
  have HS5 := hid (fun (w6 : World) (hb : Below v5.heap.size v5 w6) => rtsame_tv 1 T2 (.slice A1 n1 c1) (.slice A2 n2 c2) V V2 w6 (HVM.out.trans H5.out.2.2.2.2.2.1.symm) (H5.out.2.2.2.1.up hb) (H5.out.2.2.2.2.1.up hb) (by
    have h1 := ord_len HVM.out
    have h2 : U.length ≤ 40 := HLU.out
    omega))
  go_wp2_with fail
  refine (HW4.out _ H5.out.2.2.2.2.2.2).mono ?_
  rintro e w6 ⟨rfl, hb6⟩
  have HB6 := hid hb6
  clear hb6 t0 t1 t2
  obtain ⟨t0, t1, t2⟩ := (ht1.up (estep H5.out.2.2.2.2.2.2 HB6.out)).cells
  obtain ⟨d0, d1, d2⟩ := (ht2.up HB6.out).cells
  go_wp2_with fail
  refine (HS5.out _ HB6.out).mono ?_
  rintro e w7 ⟨rfl, hb7⟩
  have HB7 := hid (estep HB6.out hb7)
  clear hb7 t0 t1 t2 d0 d1 d2 HS5 HW4 HC4 ht2
  go_upto_region 9 with (fail)
  have HB57 := hid (estep H5.out.2.2.2.2.2.2 HB7.out)
  have hx7 := H5.out.2.1.up HB7.out
  have HX7 := hid hx7
  have HRU := hid (H5.out.1.up HB7.out)
  have HRVV := hid (H5.out.2.2.2.1.up HB7.out)
  obtain ⟨zl, hzl⟩ : ∃ z, lkI (fun u => allE u.ps qm qh qp L) V = z := ⟨_, rfl⟩
  obtain ⟨qk, hqk⟩ : ∃ z, fstK (fun u => allE u.ps qm qh qp L) U U.length = z := ⟨_, rfl⟩
  have HLF := hid (lk_first (hitR qm qh qp L) HVM.out)
  have HLK := hid (fun (w8 : World) (hb : Below w7.heap.size w7 w8) => lookup_any 1 (.slice A1 n1 c1) T2 V qm qh qp qb x L w8 (HRVV.out.up hb) (HX7.out.up hb) (by have := HLH.out; omega) (hid hzl))
  have HFI := hid (fun (w8 : World) (hb : Below w7.heap.size w7 w8) => rfirst_rv (.slice YA n YC) U qm qh qp qb x L w8 (HRU.out.up hb) (fun u hu => (HM.out.1 u hu).1) HM.out.2.2 (by have : U.length ≤ 40 := HLU.out; omega) (HX7.out.up hb) (by have := HLH.out; omega) (hid hqk))
  have HZL := hid (And.intro hzl hqk)
  clear hzl hqk hx7
  obtain ⟨t0, t1, t2⟩ := (ht1.up HB57.out).cells
  obtain ⟨k0, k1⟩ := (hk0.up (estep H4.out.2.2.2.1 HB57.out)).cells
  obtain ⟨q0, q1, q2, q3, q4⟩ := (hq0.up (estep H4.out.2.2.2.1 HB57.out)).cells
  have T0 := BW.cell t0
  have T1' := BW.cell t1
  have T2' := BW.cell t2
  have K0 := BW.cell k0
  have K1 := BW.cell k1
  have Q0 := BW.cell q0
  have Q1 := BW.cell q1
  have Q2 := BW.cell q2
  have Q3 := BW.cell q3
  have Q4 := BW.cell q4
  clear t0 t1 t2 k0 k1 q0 q1 q2 q3 q4
  obtain ⟨zi, hzi⟩ : ∃ z, fstI qk = z := ⟨_, rfl⟩
  rw [hzi] at HFI
  have HZI := hid hzi
  clear hzi
  refine wp_region_bw (by kernel_rfl) (by kernel_rfl) ?_
  repeat (go_big_quiet_step ((first
    | (go_at_call 18; exact calls_bw (HLK.out _ (BW.h _)))
    | (go_at_call 20; exact calls_bw (HFI.out _ (BW.h _))))))
  refine wpQuiet_nil ?_
  rintro _ ⟨pq, rfl⟩
  clear T0 T1' T2' K0 K1 Q0 Q1 Q2 Q3 Q4
  have HB8 := hid (estep HB57.out pq.h)
  have HP8 := hid pq.h
  generalize pq.w = w8 at *
  rcases HLF.out with ⟨ha, hk⟩ | ⟨a, k, u, v, ha, hk, hv, hu, hsem⟩
  · obtain rfl : zl = -1 := HZL.out.1.symm.trans ha
    obtain rfl : qk = none := HZL.out.2.symm.trans hk
    obtain rfl : zi = -1 := HZI.out.symm
    clear ha hk
    go_wp2_with fail
    refine (known14_any _).mono ?_
    rintro e w9 ⟨rfl, hb9⟩
    go_wp2_with fail
    go_returns
    exact ⟨rfl, estep H0.out.2.2.2 (estep H4.out.2.2.2.1 (estep HB8.out hb9))⟩
  · obtain rfl : zl = (a : Int) := HZL.out.1.symm.trans ha
    obtain rfl : qk = some k := HZL.out.2.symm.trans hk
    obtain rfl : zi = (k : Int) := HZI.out.symm
    have HAV := hid hv
    have HUK := hid hu
    have HSE := hid hsem
    have hal : a < n1 := by have := (List.getElem?_eq_some_iff.1 hv).1; have := HN1.out; omega
    have hkl : k < n := by have := (List.getElem?_eq_some_iff.1 hu).1; have := HNU.out; omega
    have dk0 : decide ((k : Int) < 0) = false := decide_eq_false (by omega)
    have dk0' : ¬ (k : Int) < 0 := by omega
    have da1 : decide ((0 : Int) ≤ (a : Int)) = true := decide_eq_true (by omega)
    have da2 : decide ((a : Int) < (n1 : Int)) = true := decide_eq_true (by omega)
    have da3 : decide (a < n1) = true := decide_eq_true hal
    have da4 : (0 : Int) ≤ (a : Int) := by omega
    have da5 : (a : Int) < (n1 : Int) := by omega
    have dk4 : (0 : Int) ≤ (k : Int) := by omega
    have dk5 : (k : Int) < (n : Int) := by omega
    clear ha hk hv hu hsem hal hkl
    have HRV8 := hid (HRVV.out.up HP8.out)
    have HRU8 := hid (HRU.out.up HP8.out)
    obtain ⟨A9, c9, e9, hgV, hpV, -⟩ := id HRV8.out
    injection e9 with e1 e2 e3
    subst e1 e3
    clear e2
    obtain ⟨A8, c8, e8, hgU, hpU, -⟩ := id HRU8.out
    injection e8 with e1 e2 e3
    subst e1 e3
    clear e2
    have HONE := hid (fun (w9 : World) (hb : Below w8.heap.size w8 w9) => one_any v u w9 HSE.out (UV.up (hpV v (List.mem_of_getElem? HAV.out)) hb) (UV.up (hpU u (List.mem_of_getElem? HUK.out)) hb))
    obtain ⟨bv, ov, rfl, -⟩ := hgV.some_of (i := a) (List.getElem?_eq_some_iff.1 HAV.out).1
    obtain ⟨bu, ou, rfl, -⟩ := hgU.some_of (i := k) (List.getElem?_eq_some_iff.1 HUK.out).1
    obtain ⟨r0, r1, r2, r3, r4, r5, r6, r7, r8, r9⟩ := rank_cell hgV HAV.out
    obtain ⟨d0, d1, d2, d3, d4, d5, d6, d7, d8, d9⟩ := rank_cell hgU HUK.out
    obtain ⟨t0, t1, t2⟩ := (ht1.up HB8.out).cells
    obtain ⟨k0, k1⟩ := (hk0.up (estep H4.out.2.2.2.1 HB8.out)).cells
    have R0 := BW.cell r0
    have R1 := BW.cell r1
    have R2 := BW.cell r2
    have R3 := BW.cell r3
    have R4 := BW.cell r4
    have R5 := BW.cell r5
    have R6 := BW.cell r6
    have R7 := BW.cell r7
    have R8 := BW.cell r8
    have R9 := BW.cell r9
    have D0 := BW.cell d0
    have D1 := BW.cell d1
    have D2 := BW.cell d2
    have D3 := BW.cell d3
    have D4 := BW.cell d4
    have D5 := BW.cell d5
    have D6 := BW.cell d6
    have D7 := BW.cell d7
    have D8 := BW.cell d8
    have D9 := BW.cell d9
    have T0 := BW.cell t0
    have T1' := BW.cell t1
    have T2' := BW.cell t2
    have K0 := BW.cell k0
    have K1 := BW.cell k1
    clear r0 r1 r2 r3 r4 r5 r6 r7 r8 r9 d0 d1 d2 d3 d4 d5 d6 d7 d8 d9 t0 t1 t2 k0 k1 hgV hgU hpV hpU
    go_upto_region 12 with (fail)
    refine wp_region_bw (by kernel_rfl) (by kernel_rfl) ?_
    repeat (go_big_quiet_step ((first
      | (go_at_call 21; exact calls_bw (HONE.out _ (BW.h _)))
      | (go_at_call 8; exact calls_bw (known14_any _)))))
    refine wpQuiet_nil ?_
    rintro _ ⟨pr, rfl⟩
    clear R0 R1 R2 R3 R4 R5 R6 R7 R8 R9 D0 D1 D2 D3 D4 D5 D6 D7 D8 D9 T0 T1' T2' K0 K1
    have HB9 := hid (estep H0.out.2.2.2 (estep H4.out.2.2.2.1 (estep HB8.out pr.h)))
    go_wp2_with fail
    go_returns
    exact ⟨rfl, HB9.out⟩
end Go.Proofs.Ytingjembjpckcaa
