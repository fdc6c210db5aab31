/- Arguments that are requests and responses: opened. -/
import Derived.Test.YtpmefaoplgjbdaaDoorMu
namespace Go.Proofs.YtpmefaoplgjbdaaDoor
set_option linter.unusedVariables false
open Go.RowKit Go.ChangeShapes Go.WideShapes Go.Deep Go.Joins
section
variable {H : Type} {enc : TypeId × Value → H} {P : Program} {w : World} {base : Nat}

theorem array5 {α : Type} {cs : Array α} (h : cs.size = 5) : ∃ c0 c1 c2 c3 c4, cs = #[c0, c1, c2, c3, c4] := by
  obtain ⟨l⟩ := cs
  match l, h with
  | [c0, c1, c2, c3, c4], _ => exact ⟨c0, c1, c2, c3, c4, rfl⟩
theorem open_agg5 {spare : Nat → Bool} {held : Bool} {r : Reach} {b0 : Nat} {t : TypeId} {f0 f1 f2 f3 f4 : Field} {v : Value} {d : DataW H} {p : List MemPlace} (hs : P.underlying t = some (.struct #[f0, f1, f2, f3, f4])) (hone : oneCellFields P #[f0, f1, f2, f3, f4] = true) (hC : P.cellsOf t = 5)
    (hv : Value.okWide P w r b0 t v) (h : DataW.Trod enc P w base spare held t v d p) :
    ∃ (v0 v1 v2 v3 v4 : Value) (y0 y1 y2 y3 y4 : DataW H × List MemPlace) (n : Nat), v = .agg #[v0, v1, v2, v3, v4] ∧ d = .agg [y0.1, y1.1, y2.1, y3.1, y4.1] ∧
      DataW.trod enc P w base spare held n f0.type [v0] = some y0 ∧ DataW.trod enc P w base spare held n f1.type [v1] = some y1 ∧ DataW.trod enc P w base spare held n f2.type [v2] = some y2 ∧ DataW.trod enc P w base spare held n f3.type [v3] = some y3 ∧ DataW.trod enc P w base spare held n f4.type [v4] = some y4 := by
  obtain ⟨cs, rfl, hsz⟩ := okWide_struct hs hv
  obtain ⟨c0, c1, c2, c3, c4, rfl⟩ := array5 (hsz.trans hC)
  obtain ⟨fuel, hf⟩ := h
  obtain ⟨xs, n, _, hx, hl, hlen, hg⟩ := DataW.trod_struct hs hf
  obtain ⟨o0, k0⟩ := hone_of hone 0 f0 rfl
  obtain ⟨o1, k1⟩ := hone_of hone 1 f1 rfl
  obtain ⟨o2, k2⟩ := hone_of hone 2 f2 rfl
  obtain ⟨o3, k3⟩ := hone_of hone 3 f3 rfl
  obtain ⟨o4, k4⟩ := hone_of hone 4 f4 rfl
  match xs, hlen with
  | [y0, y1, y2, y3, y4], _ =>
    simp only [Prod.mk.injEq] at hx
    have h0 := hg 0 f0 rfl
    have h1 := hg 1 f1 rfl
    have h2 := hg 2 f2 rfl
    have h3 := hg 3 f3 rfl
    have h4 := hg 4 f4 rfl
    exact ⟨c0, c1, c2, c3, c4, y0, y1, y2, y3, y4, n, rfl, hx.1, by simpa [Value.cells, o0, k0] using h0, by simpa [Value.cells, o1, k1] using h1, by simpa [Value.cells, o2, k2] using h2, by simpa [Value.cells, o3, k3] using h3, by simpa [Value.cells, o4, k4] using h4⟩
theorem Sized.part {t : TypeId} {fs : Array Field} {ds : List (DataW H)} (h : Sized P t (.agg ds)) (hu : P.underlying t = some (.struct fs)) {j : Nat} {f : Field} {d : DataW H} (hf : fs.toList[j]? = some f) (hd : ds[j]? = some d) : Sized P f.type d := fun n hn => h n (by
  simp only [DataW.weights, hu]
  exact DataW.weights_mem_each (by rw [List.getElem?_map, hf]; rfl) hd n hn)
theorem heads_of {t e q : TypeId} {f0 f1 : Field} {n : Nat} {v : Value} {y : DataW H × List MemPlace} (ht : P.underlying t = some (.slice e)) (he : P.underlying e = some (.struct #[f0, f1])) (hq : P.underlying q = some .string)
    (ce : P.cellsOf e = 2) (cq : P.cellsOf q = 1) (hf : f0.offset = 0 ∧ f1.offset = 1 ∧ f0.type = q ∧ f1.type = q) (hz : Sized P t y.1) (h : DataW.trod enc P w base (fun _ => true) true n t [v] = some y) :
    ∃ (A : Option Addr) (cap : Nat) (L : List Hd), v = .slice A L.length cap ∧ HReads w (· < w.heap.size) A L ∧ L.length ≤ 9223372036854775807 ∧ big L := by
  obtain ⟨a, l, c, hc⟩ := slice_form ht h
  simp only [List.cons.injEq, and_true] at hc
  subst hc
  obtain ⟨L, A, cap, e1, hR, _, hlc, hcm, hb⟩ := open_HX (p := y.2) ht he hq ce cq hf hz ⟨n, h⟩
  exact ⟨A, cap, L, e1, hR, by unfold maxLen at hcm; omega, hb⟩
theorem open_RQ {r : Reach} {b0 : Nat} {t q l e : TypeId} {f0 f1 f2 f3 f4 g0 g1 : Field} {v : Value} {d : DataW H} {p : List MemPlace} (hs : P.underlying t = some (.struct #[f0, f1, f2, f3, f4])) (hq : P.underlying q = some .string) (hl : P.underlying l = some (.slice e)) (he : P.underlying e = some (.struct #[g0, g1]))
    (hone : oneCellFields P #[f0, f1, f2, f3, f4] = true) (hC : P.cellsOf t = 5) (ce : P.cellsOf e = 2) (cq : P.cellsOf q = 1) (hg : g0.offset = 0 ∧ g1.offset = 1 ∧ g0.type = q ∧ g1.type = q) (hf : f0.type = q ∧ f1.type = q ∧ f2.type = q ∧ f3.type = l ∧ f4.type = q)
    (hv : Value.okWide P w r b0 t v) (hz : Sized P t d) (h : DataW.Trod enc P w base (fun _ => true) true t v d p) :
    ∃ (m h p : List UInt8) (A : Option Addr) (cap : Nat) (L : List Hd) (b : List UInt8), v = .agg #[.string (bs m), .string (bs h), .string (bs p), .slice A L.length cap, .string (bs b)] ∧ HReads w (· < w.heap.size) A L ∧ L.length ≤ 9223372036854775807 ∧ big L ∧
      m.length ≤ 140737488351232 ∧ h.length ≤ 140737488351232 ∧ p.length ≤ 140737488351232 ∧ b.length ≤ 140737488351232 := by
  obtain ⟨v0, v1, v2, v3, v4, y0, y1, y2, y3, y4, n, rfl, rfl, h0, h1, h2, h3, h4⟩ := open_agg5 hs hone hC hv h
  obtain ⟨e0, e1, e2, e3, e4⟩ := hf
  have z0 := hz.part hs (j := 0) rfl rfl
  have z1 := hz.part hs (j := 1) rfl rfl
  have z2 := hz.part hs (j := 2) rfl rfl
  have z3 := hz.part hs (j := 3) rfl rfl
  have z4 := hz.part hs (j := 4) rfl rfl
  rw [e0] at h0
  rw [e1] at h1
  rw [e2] at h2
  rw [e3] at h3 z3
  rw [e4] at h4
  obtain ⟨m, rfl, a0⟩ := str_of hq h0
  obtain ⟨hh, rfl, a1⟩ := str_of hq h1
  obtain ⟨pp, rfl, a2⟩ := str_of hq h2
  obtain ⟨b, rfl, a4⟩ := str_of hq h4
  obtain ⟨A, cap, L, rfl, hR, hL, hB⟩ := heads_of hl he hq ce cq hg z3 h3
  rw [a0] at z0
  rw [a1] at z1
  rw [a2] at z2
  rw [a4] at z4
  exact ⟨m, hh, pp, A, cap, L, b, rfl, hR, hL, hB, z0.str, z1.str, z2.str, z4.str⟩
theorem open_RP {r : Reach} {b0 : Nat} {t q i l e : TypeId} {f0 f1 f2 g0 g1 : Field} {v : Value} {d : DataW H} {p : List MemPlace} (hs : P.underlying t = some (.struct #[f0, f1, f2])) (hq : P.underlying q = some .string) (hi : P.underlying i = some (.int .i64)) (hl : P.underlying l = some (.slice e)) (he : P.underlying e = some (.struct #[g0, g1]))
    (hone : oneCellFields P #[f0, f1, f2] = true) (hC : P.cellsOf t = 3) (ce : P.cellsOf e = 2) (cq : P.cellsOf q = 1) (hg : g0.offset = 0 ∧ g1.offset = 1 ∧ g0.type = q ∧ g1.type = q) (hf : f0.type = i ∧ f1.type = l ∧ f2.type = q)
    (hv : Value.okWide P w r b0 t v) (hz : Sized P t d) (h : DataW.Trod enc P w base (fun _ => true) true t v d p) :
    ∃ (n : Int) (A : Option Addr) (cap : Nat) (L : List Hd) (b : List UInt8), v = .agg #[.int .i64 n, .slice A L.length cap, .string (bs b)] ∧ HReads w (· < w.heap.size) A L ∧ L.length ≤ 9223372036854775807 ∧ big L ∧ b.length ≤ 140737488351232 := by
  obtain ⟨v0, v1, v2, y0, y1, y2, n, rfl, rfl, _, h0, h1, h2⟩ := open_agg3 hs hone hC hv h
  obtain ⟨e0, e1, e2⟩ := hf
  have z1 := hz.part hs (j := 1) rfl rfl
  have z2 := hz.part hs (j := 2) rfl rfl
  rw [e0] at h0
  rw [e1] at h1 z1
  rw [e2] at h2
  obtain ⟨k, ek, _, _⟩ := DataW.trod_int hi h0
  obtain ⟨b, rfl, a2⟩ := str_of hq h2
  obtain ⟨A, cap, L, rfl, hR, hL, hB⟩ := heads_of hl he hq ce cq hg z1 h1
  rw [a2] at z2
  simp only [List.cons.injEq, and_true] at ek
  exact ⟨k, A, cap, L, b, by rw [ek], hR, hL, hB, z2.str⟩
end
end Go.Proofs.YtpmefaoplgjbdaaDoor
