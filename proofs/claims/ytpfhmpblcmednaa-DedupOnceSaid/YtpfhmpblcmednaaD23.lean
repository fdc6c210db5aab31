/- Texts put together: So. -/
import Derived.Test.YtpfhmpblcmednaaD05
import Derived.Lib.SmallJoins
namespace Go.Proofs.Ytpfhmpblcmednaa
set_option linter.unusedVariables false
open Go.RowKit Go.ChangeShapes Go.WideShapes Go.Deep Go.Joins
section
variable {H : Type} {enc : TypeId × Value → H} {P : Program} {w : World} {base : Nat}

theorem u64_nat {n : Int} (h : (Lit.int .u64 n).wf = true) : ∃ k : Nat, n = (k : Int) ∧ k < 18446744073709551616 := by
  have := bounds_u64 h
  exact ⟨n.toNat, by omega, by omega⟩
theorem open_TR {r : Reach} {b0 : Nat} {t q : TypeId} {f0 f1 : Field} {v : Value} {d : DataW H} {p : List MemPlace} (hs : P.underlying t = some (.struct #[f0, f1])) (hq : P.underlying q = some (.int .u64)) (hone : oneCellFields P #[f0, f1] = true) (hC : P.cellsOf t = 2) (hf : f0.type = q ∧ f1.type = q)
    (hv : Value.okWide P w r b0 t v) (h : DataW.Trod enc P w base (fun _ => true) true t v d p) :
    ∃ a b : Nat, v = .agg #[.int .u64 a, .int .u64 b] ∧ a < 18446744073709551616 ∧ b < 18446744073709551616 := by
  obtain ⟨v0, v1, y0, y1, n, rfl, _, _, h0, h1⟩ := open_agg2 hs hone hC hv h
  rw [hf.1] at h0
  rw [hf.2] at h1
  obtain ⟨n0, e0, _, w0⟩ := DataW.trod_int hq h0
  obtain ⟨n1, e1, _, w1⟩ := DataW.trod_int hq h1
  obtain ⟨a, rfl, ha⟩ := u64_nat w0
  obtain ⟨b, rfl, hb⟩ := u64_nat w1
  simp only [List.cons.injEq, and_true] at e0 e1
  exact ⟨a, b, by rw [e0, e1], ha, hb⟩
theorem okWide_arr {n : Nat} {e : TypeId} {r : Reach} {b0 : Nat} {t : TypeId} {v : Value} (ht : P.underlying t = some (.array n e)) (h : Value.okWide P w r b0 t v) : ∃ cs, v = .agg cs ∧ cs.size = P.cellsOf t := by
  simp only [Value.okWide, ht] at h
  obtain ⟨cs, h1, h2, _⟩ := h
  exact ⟨cs, h1, h2⟩
theorem open_AR2 {r : Reach} {b0 : Nat} {t e : TypeId} {v : Value} {d : DataW H} {p : List MemPlace} (ht : P.underlying t = some (.array 2 e)) (he : P.underlying e = some (.int .i64)) (hce : P.cellsOf e = 1) (hC : P.cellsOf t = 2)
    (hv : Value.okWide P w r b0 t v) (h : DataW.Trod enc P w base (fun _ => true) true t v d p) :
    ∃ a b : Int, v = .agg #[.int .i64 a, .int .i64 b] ∧ (-9223372036854775808 ≤ a ∧ a ≤ 9223372036854775807) ∧ (-9223372036854775808 ≤ b ∧ b ≤ 9223372036854775807) := by
  obtain ⟨cs, rfl, hsz⟩ := okWide_arr ht hv
  obtain ⟨c0, c1, rfl⟩ := array2 (hsz.trans hC)
  obtain ⟨fuel, hf⟩ := h
  obtain ⟨xs, m, _, _, _, hl, hi⟩ := DataW.trod_array ht hf
  have h0 := hi 0 (by omega)
  have h1 := hi 1 (by omega)
  rw [List.getElem?_eq_getElem (by omega)] at h0 h1
  simp only [hce, Value.cells] at h0 h1
  obtain ⟨n0, e0, _, w0⟩ := DataW.trod_int he h0
  obtain ⟨n1, e1, _, w1⟩ := DataW.trod_int he h1
  have e0' : c0 = .int .i64 n0 := by simpa using e0
  have e1' : c1 = .int .i64 n1 := by simpa using e1
  exact ⟨n0, n1, by rw [e0', e1'], bounds_i64 w0, bounds_i64 w1⟩
theorem open_NX0 {t e : TypeId} {A : Option Addr} {n c : Nat} {d : DataW H} {p : List MemPlace} (ht : P.underlying t = some (.slice e)) (he : P.underlying e = some (.int .u64)) (hc : P.cellsOf e = 1) (hb8 : P.bytesOf e = 8) (hz : Sized P t d)
    (h : DataW.Trod enc P w base (fun _ => true) true t (.slice A n c) d p) :
    ∃ L : List Nat, n = L.length ∧ (∀ k (h : k < L.length), ∃ ad, A = some ad ∧ ad.block < w.heap.size ∧ w.cell? (ad.add k) = some (.int .u64 (L[k] : Int))) ∧ L.length ≤ 140737488351232 ∧ ∀ x ∈ L, x < 18446744073709551616 := by
  obtain ⟨fuel, hf⟩ := h
  rcases open_ints ht he hc hf with ⟨h0, _⟩ | ⟨a, len, cap, zs, hcs, _, hl, hm, hss, hd, hcell, hwf⟩
  · have h1 : Value.slice A n c = .slice none 0 0 := by simpa [Value.cells] using h0
    injection h1 with h1 h2 h3
    exact ⟨[], by simpa using h2, fun k hk => absurd hk (by simp), by simp, by simp⟩
  · have h1 : Value.slice A n c = .slice (some a) len cap := by simpa [Value.cells] using hcs
    injection h1 with h1 h2 h3
    subst h1 h2 h3
    have hss : zs.length = c := by simpa using hss
    have hlen : ((zs.take n).map Int.toNat).length = n := by simp; omega
    have hz1 : n ≤ 140737488351232 := by
      have hd := congrArg Prod.fst hd
      simp only at hd
      rw [hd] at hz
      have h8 := hz ((zs.length) * 8) (by simp only [DataW.weights, ht, hb8, List.mem_cons]; left; simp [lits]; omega)
      have hr : reachBytes < 2 ^ 47 := reachBytes_lt
      omega
    refine ⟨(zs.take n).map Int.toNat, hlen.symm, fun k hk => ?_, by rw [hlen]; exact hz1, fun x hx => ?_⟩
    · rw [hlen] at hk
      have hc1 := hcell k (by omega)
      refine ⟨a, rfl, by have := lt_of_cell hc1; rwa [add_block] at this, ?_⟩
      obtain ⟨m, hm1, _⟩ := u64_nat (hwf (zs[k]'(by omega)) (List.getElem_mem _))
      rw [hc1, List.getD_eq_getElem?_getD, List.getElem?_eq_getElem (show k < zs.length from by omega), Option.getD_some, List.getElem_map, List.getElem_take, hm1]
      rfl
    · obtain ⟨z, hz2, rfl⟩ := List.mem_map.1 hx
      obtain ⟨m, rfl, hm2⟩ := u64_nat (hwf z (List.mem_of_mem_take hz2))
      exact hm2
end
end Go.Proofs.Ytpfhmpblcmednaa
