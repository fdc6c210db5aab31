/- Texts put together: Sm. -/
import Derived.Test.YtpfhmpblcmednaaD02
import Derived.Test.YtpfhmpblcmednaaD23
namespace Go.Proofs.Ytpfhmpblcmednaa
set_option linter.unusedVariables false
open Go.RowKit Go.ChangeShapes Go.WideShapes Go.Deep Go.Joins

/-- The types of a span, as the program has them. -/
structure SpT (P : Program) (t tr q i u bo : TypeId) (f0 f1 f2 f3 f4 f5 f6 f7 f8 f9 g0 g1 : Field) : Prop where
  ht : P.underlying t = some (.struct #[f0, f1, f2, f3, f4, f5, f6, f7, f8, f9])
  htr : P.underlying tr = some (.struct #[g0, g1])
  hq : P.underlying q = some (.int .u64)
  hi : P.underlying i = some (.int .i64)
  hu : P.underlying u = some .string
  hb : P.underlying bo = some .bool
  cq : P.cellsOf q = 1
  ci : P.cellsOf i = 1
  cu : P.cellsOf u = 1
  cb : P.cellsOf bo = 1
  ctr : P.cellsOf tr = 2
  ct : P.cellsOf t = 11
  ty : f0.type = tr ∧ f1.type = q ∧ f2.type = q ∧ f3.type = u ∧ f4.type = i ∧ f5.type = i ∧ f6.type = i ∧ f7.type = bo ∧ f8.type = i ∧ f9.type = i
  off : f0.offset = 0 ∧ f1.offset = 2 ∧ f2.offset = 3 ∧ f3.offset = 4 ∧ f4.offset = 5 ∧ f5.offset = 6 ∧ f6.offset = 7 ∧ f7.offset = 8 ∧ f8.offset = 9 ∧ f9.offset = 10
  gty : g0.type = q ∧ g1.type = q
  goff : g0.offset = 0 ∧ g1.offset = 1
section
variable {H : Type} {enc : TypeId × Value → H} {P : Program} {w : World} {base : Nat}

def okSp (s : Sp) : Prop := s.name.length ≤ 140737488351232 ∧ wideS s
theorem sized_part {t : TypeId} {fs : Array Field} {ds : List (DataW H)} (h : Sized P t (.agg ds)) (hu : P.underlying t = some (.struct fs)) {j : Nat} {f : Field} {d : DataW H} (hf : fs.toList[j]? = some f) (hd : ds[j]? = some d) : Sized P f.type d := fun n hn => h n (by
  simp only [DataW.weights, hu]
  exact DataW.weights_mem_each (by rw [List.getElem?_map, hf]; rfl) hd n hn)
theorem span_of {t tr q i u bo : TypeId} {f0 f1 f2 f3 f4 f5 f6 f7 f8 f9 g0 g1 : Field} (T : SpT P t tr q i u bo f0 f1 f2 f3 f4 f5 f6 f7 f8 f9 g0 g1) {sp : Nat → Bool} {hd : Bool} {fuel : Nat} {cs : List Value} {x : DataW H × List MemPlace}
    (h : DataW.trod enc P w base sp hd fuel t cs = some x) (hz : Sized P t x.1) :
    ∃ s : Sp, okSp s ∧ cs = [.int .u64 (s.hi : Int), .int .u64 (s.lo : Int), .int .u64 (s.id : Int), .int .u64 (s.up : Int), .string (bs s.name), .int .i64 s.status, .int .i64 s.seq, .int .i64 s.kids, .bool s.shade, .int .i64 s.start, .int .i64 s.fin] := by
  obtain ⟨xs, n, _, hx, hl, hlen, hgg⟩ := DataW.trod_struct T.ht h
  rw [T.ct] at hl
  obtain ⟨t0, t1, t2, t3, t4, t5, t6, t7, t8, t9⟩ := T.ty
  obtain ⟨o0, o1, o2, o3, o4, o5, o6, o7, o8, o9⟩ := T.off
  match cs, hl, xs, hlen with
  | [c0, c1, c2, c3, c4, c5, c6, c7, c8, c9, c10], _, [y0, y1, y2, y3, y4, y5, y6, y7, y8, y9], _ =>
    have h0 := hgg 0 f0 rfl
    have h1 := hgg 1 f1 rfl
    have h2 := hgg 2 f2 rfl
    have h3 := hgg 3 f3 rfl
    have h4 := hgg 4 f4 rfl
    have h5 := hgg 5 f5 rfl
    have h6 := hgg 6 f6 rfl
    have h7 := hgg 7 f7 rfl
    have h8 := hgg 8 f8 rfl
    have h9 := hgg 9 f9 rfl
    rw [t0, o0, T.ctr] at h0
    rw [t1, o1, T.cq] at h1
    rw [t2, o2, T.cq] at h2
    rw [t3, o3, T.cu] at h3
    rw [t4, o4, T.ci] at h4
    rw [t5, o5, T.ci] at h5
    rw [t6, o6, T.ci] at h6
    rw [t7, o7, T.cb] at h7
    rw [t8, o8, T.ci] at h8
    rw [t9, o9, T.ci] at h9
    obtain ⟨zs, m, _, hzz, _, hlen2, hgz⟩ := DataW.trod_struct T.htr h0
    match zs, hlen2 with
    | [z0, z1], _ =>
      have q0 := hgz 0 g0 rfl
      have q1 := hgz 1 g1 rfl
      rw [T.gty.1, T.goff.1, T.cq] at q0
      rw [T.gty.2, T.goff.2, T.cq] at q1
      obtain ⟨n0, m0, _, w0⟩ := DataW.trod_int T.hq q0
      obtain ⟨n1, m1, _, w1⟩ := DataW.trod_int T.hq q1
      obtain ⟨n2, m2, _, w2⟩ := DataW.trod_int T.hq h1
      obtain ⟨n3, m3, _, w3⟩ := DataW.trod_int T.hq h2
      obtain ⟨s, m4, e4, _⟩ := DataW.trod_string T.hu h3
      obtain ⟨n5, m5, _, _⟩ := DataW.trod_int T.hi h4
      obtain ⟨n6, m6, _, _⟩ := DataW.trod_int T.hi h5
      obtain ⟨n7, m7, _, _⟩ := DataW.trod_int T.hi h6
      obtain ⟨b8, m8, _⟩ := DataW.trod_bool T.hb h7
      obtain ⟨n9, m9, _, _⟩ := DataW.trod_int T.hi h8
      obtain ⟨n10, m10, _, _⟩ := DataW.trod_int T.hi h9
      obtain ⟨a, rfl, ha⟩ := u64_nat w0
      obtain ⟨b, rfl, hb⟩ := u64_nat w1
      obtain ⟨c, rfl, hc⟩ := u64_nat w2
      obtain ⟨d, rfl, hd⟩ := u64_nat w3
      simp at m0 m1 m2 m3 m4 m5 m6 m7 m8 m9 m10
      rw [hx] at hz
      have zn := sized_part hz T.ht (j := 3) (f := f3) (d := y3.1) rfl rfl
      rw [e4] at zn
      refine ⟨⟨a, b, c, d, s.data.toList, n5, n6, n7, b8, n9, n10⟩, ⟨zn.str, ha, hb, hc, hd⟩, ?_⟩
      simp only [m0, m1, m2, m3, m4, m5, m6, m7, m8, m9, m10, ← bs_of]
theorem open_SP {r : Reach} {b0 : Nat} {t tr q i u bo : TypeId} {f0 f1 f2 f3 f4 f5 f6 f7 f8 f9 g0 g1 : Field} (T : SpT P t tr q i u bo f0 f1 f2 f3 f4 f5 f6 f7 f8 f9 g0 g1) {v : Value} {d : DataW H} {p : List MemPlace}
    (hz : Sized P t d) (hv : Value.okWide P w r b0 t v) (h : DataW.Trod enc P w base (fun _ => true) true t v d p) :
    ∃ s : Sp, okSp s ∧ v = .agg #[.int .u64 (s.hi : Int), .int .u64 (s.lo : Int), .int .u64 (s.id : Int), .int .u64 (s.up : Int), .string (bs s.name), .int .i64 s.status, .int .i64 s.seq, .int .i64 s.kids, .bool s.shade, .int .i64 s.start, .int .i64 s.fin] := by
  obtain ⟨cs, rfl, hsz⟩ := okWide_struct T.ht hv
  obtain ⟨fuel, hff⟩ := h
  obtain ⟨s, hs, hc⟩ := span_of T hff hz
  refine ⟨s, hs, ?_⟩
  obtain ⟨l⟩ := cs
  have : (Value.agg ⟨l⟩).cells.toList = l := rfl
  first
    | (rw [show l = _ from hc])
    | (congr 1; exact congrArg List.toArray hc)
end
end Go.Proofs.Ytpfhmpblcmednaa
