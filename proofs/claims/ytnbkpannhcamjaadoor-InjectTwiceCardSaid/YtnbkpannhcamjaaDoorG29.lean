/- Texts put together: Po. -/
import Derived.ProofKit
import Derived.SizedLaws
import Derived.OpenShut
import Derived.Test.YtnbkpannhcamjaaDoorG28
import Derived.Test.YtnbkpannhcamjaaDoorG25
namespace Go.Proofs.YtnbkpannhcamjaaDoor
set_option linter.unusedVariables false
open Go.RowKit Go.ChangeShapes Go.WideShapes Go.Deep Go.Joins
section
variable {H : Type} {enc : TypeId × Value → H} {P : Program} {w : World} {base : Nat}

theorem array4 {α : Type} {cs : Array α} (h : cs.size = 4) : ∃ c0 c1 c2 c3, cs = #[c0, c1, c2, c3] := by
  obtain ⟨l⟩ := cs
  match l, h with
  | [c0, c1, c2, c3], _ => exact ⟨c0, c1, c2, c3, rfl⟩
theorem open_PR {r : Reach} {b0 : Nat} {t tr q i : TypeId} {f0 f1 f2 g0 g1 : Field} {v : Value} {d : DataW H} {p : List MemPlace} (hs : P.underlying t = some (.struct #[f0, f1, f2])) (htr : P.underlying tr = some (.struct #[g0, g1])) (hq : P.underlying q = some (.int .u64)) (hi : P.underlying i = some (.int .i64))
    (cq : P.cellsOf q = 1) (ci : P.cellsOf i = 1) (ctr : P.cellsOf tr = 2) (ct : P.cellsOf t = 4) (hf : f0.type = tr ∧ f0.offset = 0 ∧ f1.type = q ∧ f1.offset = 2 ∧ f2.type = i ∧ f2.offset = 3) (hg : g0.type = q ∧ g0.offset = 0 ∧ g1.type = q ∧ g1.offset = 1)
    (hv : Value.okWide P w r b0 t v) (h : DataW.Trod enc P w base (fun _ => true) true t v d p) :
    ∃ (a b s : Nat) (f : Int), v = .agg #[.int .u64 a, .int .u64 b, .int .u64 s, .int .i64 f] ∧ a < 18446744073709551616 ∧ b < 18446744073709551616 ∧ s < 18446744073709551616 ∧ -9223372036854775808 ≤ f ∧ f ≤ 9223372036854775807 := by
  obtain ⟨cs, rfl, hsz⟩ := okWide_struct hs hv
  obtain ⟨c0, c1, c2, c3, rfl⟩ := array4 (hsz.trans ct)
  obtain ⟨fuel, hff⟩ := h
  obtain ⟨xs, n, _, hx, hl, hlen, hgg⟩ := DataW.trod_struct hs hff
  obtain ⟨e0, o0, e1, o1, e2, o2⟩ := hf
  obtain ⟨k0, j0, k1, j1⟩ := hg
  match xs, hlen with
  | [y0, y1, y2], _ =>
    have h0 := hgg 0 f0 rfl
    have h1 := hgg 1 f1 rfl
    have h2 := hgg 2 f2 rfl
    rw [e0, o0, ctr] at h0
    rw [e1, o1, cq] at h1
    rw [e2, o2, ci] at h2
    obtain ⟨zs, m, _, hz, _, hlen2, hgz⟩ := DataW.trod_struct htr h0
    match zs, hlen2 with
    | [z0, z1], _ =>
      have q0 := hgz 0 g0 rfl
      have q1 := hgz 1 g1 rfl
      rw [k0, j0, cq] at q0
      rw [k1, j1, cq] at q1
      obtain ⟨n0, m0, _, w0⟩ := DataW.trod_int hq q0
      obtain ⟨n1, m1, _, w1⟩ := DataW.trod_int hq q1
      obtain ⟨n2, m2, _, w2⟩ := DataW.trod_int hq h1
      obtain ⟨n3, m3, _, w3⟩ := DataW.trod_int hi h2
      obtain ⟨a, rfl, ha⟩ := u64_nat w0
      obtain ⟨b, rfl, hb⟩ := u64_nat w1
      obtain ⟨s, rfl, hs⟩ := u64_nat w2
      have hb3 := bounds_i64 w3
      simp [Value.cells] at m0 m1 m2 m3
      exact ⟨a, b, s, n3, by rw [m0, m1, m2, m3], ha, hb, hs, by omega, by omega⟩
end
end Go.Proofs.YtnbkpannhcamjaaDoor
