/- Texts put together: Gj. -/
import Derived.Test.YtmejcchkoflciaaDoorG19
import Derived.Test.YtmejcchkoflciaaDoorG29
namespace Go.Proofs.YtmejcchkoflciaaDoor
set_option linter.unusedVariables false
open Go.RowKit Go.ChangeShapes Go.WideShapes Go.Deep Go.Joins

/-- The types of a part, as the program has them. -/
structure PtT (P : Program) (t i u : TypeId) (f0 f1 : Field) : Prop where
  ht : P.underlying t = some (.struct #[f0, f1])
  hi : P.underlying i = some (.int .i64)
  hu : P.underlying u = some .string
  ci : P.cellsOf i = 1
  cu : P.cellsOf u = 1
  ct : P.cellsOf t = 2
  ty : f0.type = i ∧ f1.type = u
  off : f0.offset = 0 ∧ f1.offset = 1
/-- The types of a record. -/
structure RcT (P : Program) (t q i u l e : TypeId) (f0 f1 f2 f3 f4 f5 f6 g0 g1 g2 g3 g4 h0 h1 : Field) : Prop where
  ht : P.underlying t = some (.struct #[f0, f1, f2, f3, f4, f5, f6])
  hq : P.underlying q = some (.struct #[g0, g1, g2, g3, g4])
  hi : P.underlying i = some (.int .i64)
  hu : P.underlying u = some .string
  hl : P.underlying l = some (.slice e)
  he : P.underlying e = some (.struct #[h0, h1])
  ct : P.cellsOf t = 11
  cq : P.cellsOf q = 5
  ci : P.cellsOf i = 1
  cu : P.cellsOf u = 1
  cl : P.cellsOf l = 1
  ce : P.cellsOf e = 2
  ty : f0.type = q ∧ f1.type = u ∧ f2.type = i ∧ f3.type = i ∧ f4.type = u ∧ f5.type = i ∧ f6.type = i
  off : f0.offset = 0 ∧ f1.offset = 5 ∧ f2.offset = 6 ∧ f3.offset = 7 ∧ f4.offset = 8 ∧ f5.offset = 9 ∧ f6.offset = 10
  gty : g0.type = u ∧ g1.type = u ∧ g2.type = u ∧ g3.type = l ∧ g4.type = u
  goff : g0.offset = 0 ∧ g1.offset = 1 ∧ g2.offset = 2 ∧ g3.offset = 3 ∧ g4.offset = 4
  hty : h0.offset = 0 ∧ h1.offset = 1 ∧ h0.type = u ∧ h1.type = u
section
variable {H : Type} {enc : TypeId × Value → H} {P : Program} {w : World} {base : Nat}

theorem in64_of {n : Int} (h : (Lit.int .i64 n).wf = true) : in64 n := by
  have := bounds_i64 h
  unfold in64
  omega
theorem pt_of {t i u : TypeId} {f0 f1 : Field} (T : PtT P t i u f0 f1) {sp : Nat → Bool} {hd : Bool} {fuel : Nat} {cs : List Value} {x : DataW H × List MemPlace}
    (h : DataW.trod enc P w base sp hd fuel t cs = some x) (hz : Sized P t x.1) : ∃ p : Prt, p.2.length ≤ 140737488351232 ∧ cs = [.int .i64 p.1, .string (bs p.2)] := by
  obtain ⟨xs, n, _, hx, hl, hlen, hgg⟩ := DataW.trod_struct T.ht h
  rw [T.ct] at hl
  obtain ⟨t0, t1⟩ := T.ty
  obtain ⟨o0, o1⟩ := T.off
  match cs, hl, xs, hlen with
  | [c0, c1], _, [y0, y1], _ =>
    have h0 := hgg 0 f0 rfl
    have h1 := hgg 1 f1 rfl
    rw [t0, o0, T.ci] at h0
    rw [t1, o1, T.cu] at h1
    obtain ⟨a, ea, _, _⟩ := DataW.trod_int T.hi h0
    obtain ⟨n1, en, an⟩ := str_of T.hu h1
    rw [hx] at hz
    have z1 := esized_part hz T.ht (j := 1) (f := f1) (d := y1.1) rfl rfl
    rw [an] at z1
    have ea2 : c0 = .int .i64 a := by simpa using ea
    exact ⟨(a, n1), z1.str, by rw [ea2, en]⟩
theorem open_PRT {r : Reach} {b0 : Nat} {t i u : TypeId} {f0 f1 : Field} (T : PtT P t i u f0 f1) {v : Value} {d : DataW H} {p : List MemPlace} (hz : Sized P t d) (hv : Value.okWide P w r b0 t v) (h : DataW.Trod enc P w base (fun _ => true) true t v d p) :
    ∃ e : Prt, v = .agg #[.int .i64 e.1, .string (bs e.2)] ∧ e.2.length ≤ 140737488351232 := by
  obtain ⟨cs, rfl, _⟩ := okWide_struct T.ht hv
  obtain ⟨fuel, hf⟩ := h
  obtain ⟨e, he, hc⟩ := pt_of T (x := (d, p)) hf hz
  refine ⟨e, ?_, he⟩
  have : cs = #[.int .i64 e.1, .string (bs e.2)] := by
    apply Array.toList_inj.1
    simpa [Value.cells] using hc
  rw [this]
theorem open_PTS {r : Reach} {b0 : Nat} {ts t i u : TypeId} {f0 f1 : Field} (T : PtT P t i u f0 f1) (hts : P.underlying ts = some (.slice t)) {v : Value} {d : DataW H} {p : List MemPlace} (hz : Sized P ts d) (hv : Value.okWide P w r b0 ts v) (h : DataW.Trod enc P w base (fun _ => true) true ts v d p) :
    ∃ L : List Prt, PtV w v L ∧ wideL L := by
  obtain ⟨A, nn, c, rfl⟩ := okWide_slice hts hv
  obtain ⟨fuel, hf⟩ := h
  rcases open_slice hts hf with ⟨h0, _⟩ | ⟨a, len, cap, m, n, D, Pl, hcs, _, hl, hm, hmm, hx0, hx⟩
  · have e' : Value.slice A nn c = .slice none 0 0 := by simpa [Value.cells] using h0
    rw [e']
    exact ⟨[], ⟨none, 0, rfl, GX.nil _ _ _⟩, by simp, by simp⟩
  · simp only [if_true] at hmm
    subst hmm
    rw [(Prod.mk.inj hx0).1] at hz
    have each : ∀ i, i < len → ∃ s : Prt, s.2.length ≤ 140737488351232 ∧ ∃ cs', w.cells? base (a.add (i * 2)) 2 = some cs' ∧ cs' = [.int .i64 s.1, .string (bs s.2)] := fun i hi => by
      obtain ⟨cs', h1, h2⟩ := hx i (by omega)
      rw [T.ct] at h1
      obtain ⟨s, hs, hc⟩ := pt_of T h2 (hz.elem hts (d := D i) (List.mem_map.2 ⟨i, List.mem_range.2 hi, rfl⟩))
      exact ⟨s, hs, cs', h1, hc⟩
    haveI : Inhabited Prt := ⟨(0, [])⟩
    obtain ⟨F, hF⟩ := choose_lt each
    have hlen : ((List.range len).map F).length = len := by simp
    have e' : Value.slice A nn c = .slice (some a) len m := by simpa [Value.cells] using hcs
    rw [e']
    refine ⟨(List.range len).map F, ⟨some a, m, by rw [hlen], fun k hk => ?_⟩, fun s hs => ?_, by rw [hlen]; unfold maxLen at hm; omega⟩
    · rw [hlen] at hk
      obtain ⟨_, cs', h1, h2⟩ := hF k hk
      obtain ⟨_, hl', hcell⟩ := World.cells?_some h1
      have hz0 := hF 0 (by omega)
      obtain ⟨_, cs0, y1, y2⟩ := hz0
      obtain ⟨_, _, ycell⟩ := World.cells?_some y1
      have hc00 := ycell 0 (by omega)
      rw [y2] at hc00
      have hpl := plain_of_cell hc00
      simp only [Nat.zero_mul, Addr.add, if_true] at hpl
      have hat : ∀ j, j < 2 → w.cell? ⟨a.block, a.off + (k * 2 + j), none⟩ = cs'[j]? := fun j hj => by
        have := hcell j hj
        rw [hpl, add_add, Addr.add_lit] at this
        exact this
      rw [h2] at hat
      have hlt : a.block < w.heap.size := lt_of_cell (a := ⟨a.block, a.off + (k * 2 + 0), none⟩) (hat 0 (by omega))
      simp only [List.getElem_map, List.getElem_range]
      exact ⟨a.block, a.off, by rw [← hpl], hlt, fun j hj => hat j hj⟩
    · obtain ⟨i, hi, rfl⟩ := List.mem_map.1 hs
      exact (hF i (List.mem_range.1 hi)).1
theorem rec_of {t q i u l e : TypeId} {f0 f1 f2 f3 f4 f5 f6 g0 g1 g2 g3 g4 h0 h1 : Field} (T : RcT P t q i u l e f0 f1 f2 f3 f4 f5 f6 g0 g1 g2 g3 g4 h0 h1) {fuel : Nat} {cs : List Value} {x : DataW H × List MemPlace}
    (h : DataW.trod enc P w base (fun _ => true) true fuel t cs = some x) (hz : Sized P t x.1) :
    ∃ (r : Rec) (v : Value), wideR r ∧ HV w v r.L ∧ cs = [.string (bs r.m), .string (bs r.h), .string (bs r.p), v, .string (bs r.b), .string (bs r.tg), .int .i64 r.st, .int .i64 r.ve, .string (bs r.tr), .int .i64 r.sa, .int .i64 r.en] := by
  obtain ⟨xs, n, _, hx, hl, hlen, hgg⟩ := DataW.trod_struct T.ht h
  rw [T.ct] at hl
  obtain ⟨t0, t1, t2, t3, t4, t5, t6⟩ := T.ty
  obtain ⟨o0, o1, o2, o3, o4, o5, o6⟩ := T.off
  obtain ⟨u0, u1, u2, u3, u4⟩ := T.gty
  obtain ⟨v0, v1, v2, v3, v4⟩ := T.goff
  match cs, hl, xs, hlen with
  | [c0, c1, c2, c3, c4, c5, c6, c7, c8, c9, c10], _, [y0, y1, y2, y3, y4, y5, y6], _ =>
    have k0 := hgg 0 f0 rfl
    have k1 := hgg 1 f1 rfl
    have k2 := hgg 2 f2 rfl
    have k3 := hgg 3 f3 rfl
    have k4 := hgg 4 f4 rfl
    have k5 := hgg 5 f5 rfl
    have k6 := hgg 6 f6 rfl
    rw [t0, o0, T.cq] at k0
    rw [t1, o1, T.cu] at k1
    rw [t2, o2, T.ci] at k2
    rw [t3, o3, T.ci] at k3
    rw [t4, o4, T.cu] at k4
    rw [t5, o5, T.ci] at k5
    rw [t6, o6, T.ci] at k6
    obtain ⟨zs, m, _, hzz, _, hlen2, hgz⟩ := DataW.trod_struct T.hq k0
    match zs, hlen2 with
    | [z0, z1, z2, z3, z4], _ =>
      have q0 := hgz 0 g0 rfl
      have q1 := hgz 1 g1 rfl
      have q2 := hgz 2 g2 rfl
      have q3 := hgz 3 g3 rfl
      have q4 := hgz 4 g4 rfl
      rw [u0, v0, T.cu] at q0
      rw [u1, v1, T.cu] at q1
      rw [u2, v2, T.cu] at q2
      rw [u3, v3, T.cl] at q3
      rw [u4, v4, T.cu] at q4
      obtain ⟨s0, m0, e0⟩ := str_of T.hu q0
      obtain ⟨s1, m1, e1⟩ := str_of T.hu q1
      obtain ⟨s2, m2, e2⟩ := str_of T.hu q2
      obtain ⟨s4, m4, e4⟩ := str_of T.hu q4
      obtain ⟨s5, m5, e5⟩ := str_of T.hu k1
      obtain ⟨n6, m6, _, w6⟩ := DataW.trod_int T.hi k2
      obtain ⟨n7, m7, _, w7⟩ := DataW.trod_int T.hi k3
      obtain ⟨s8, m8, e8⟩ := str_of T.hu k4
      obtain ⟨n9, m9, _, w9⟩ := DataW.trod_int T.hi k5
      obtain ⟨n10, m10, _, w10⟩ := DataW.trod_int T.hi k6
      simp at m0 m1 m2 m4 m5 m6 m7 m8 m9 m10
      rw [hx] at hz
      have zq := esized_part hz T.ht (j := 0) (f := f0) (d := y0.1) rfl rfl
      have z5 := esized_part hz T.ht (j := 1) (f := f1) (d := y1.1) rfl rfl
      have z8 := esized_part hz T.ht (j := 4) (f := f4) (d := y4.1) rfl rfl
      rw [e5] at z5
      rw [e8] at z8
      rw [t0, hzz] at zq
      have a0 := esized_part zq T.hq (j := 0) (f := g0) (d := z0.1) rfl rfl
      have a1 := esized_part zq T.hq (j := 1) (f := g1) (d := z1.1) rfl rfl
      have a2 := esized_part zq T.hq (j := 2) (f := g2) (d := z2.1) rfl rfl
      have a3 := esized_part zq T.hq (j := 3) (f := g3) (d := z3.1) rfl rfl
      have a4 := esized_part zq T.hq (j := 4) (f := g4) (d := z4.1) rfl rfl
      rw [e0] at a0
      rw [e1] at a1
      rw [e2] at a2
      rw [u3] at a3
      rw [e4] at a4
      simp at q3
      obtain ⟨A', l', c', hc⟩ := slice_form T.hl q3
      simp only [List.cons.injEq, and_true] at hc
      subst hc
      obtain ⟨L, A, cap, e1', hR, _, hlc, hcm, hB⟩ := open_HX (p := z3.2) T.hl T.he T.hu T.ce T.cu T.hty a3 ⟨_, q3⟩
      refine ⟨⟨s0, s1, s2, L, s4, s5, n6, n7, s8, n9, n10⟩, _, ⟨⟨a0.str, a1.str, a2.str, a4.str⟩, ⟨z5.str, z8.str⟩, hB, by unfold maxLen at hcm; simp only; omega, in64_of w6, in64_of w7, in64_of w9, in64_of w10⟩, ⟨A, cap, e1', hR⟩, ?_⟩
      simp only [m0, m1, m2, m4, m5, m6, m7, m8, m9, m10]
theorem open_RCD {r : Reach} {b0 : Nat} {t q i u l e : TypeId} {f0 f1 f2 f3 f4 f5 f6 g0 g1 g2 g3 g4 h0 h1 : Field} (T : RcT P t q i u l e f0 f1 f2 f3 f4 f5 f6 g0 g1 g2 g3 g4 h0 h1) {v : Value} {d : DataW H} {p : List MemPlace}
    (hz : Sized P t d) (hv : Value.okWide P w r b0 t v) (h : DataW.Trod enc P w base (fun _ => true) true t v d p) :
    ∃ (r : Rec) (x : Value), v = .agg #[.string (bs r.m), .string (bs r.h), .string (bs r.p), x, .string (bs r.b), .string (bs r.tg), .int .i64 r.st, .int .i64 r.ve, .string (bs r.tr), .int .i64 r.sa, .int .i64 r.en] ∧ wideR r ∧ HV w x r.L := by
  obtain ⟨cs, rfl, hsz⟩ := okWide_struct T.ht hv
  obtain ⟨fuel, hff⟩ := h
  obtain ⟨s, x, hw, hx, hc⟩ := rec_of T (x := (d, p)) hff hz
  refine ⟨s, x, ?_, hw, hx⟩
  obtain ⟨l⟩ := cs
  have : (Value.agg ⟨l⟩).cells.toList = l := rfl
  first
    | (rw [show l = _ from hc])
    | (congr 1; exact congrArg List.toArray hc)
end
end Go.Proofs.YtmejcchkoflciaaDoor
