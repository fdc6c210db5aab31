import Derived.Test.YtnbkpannhcamjaaVc
namespace Go.Proofs.Ytnbkpannhcamjaa
set_option linter.unusedVariables false
open Go Go.RowKit

theorem ofNat_toNat_lt {n : Nat} (h : n < 256) : (UInt8.ofNat n).toNat = n := by rw [UInt8.toNat_ofNat']; omega
theorem vg_vf (b : List UInt8) : ∀ (k i m n : Nat), i + k = 9 → (0 < i → 0 < n) → 128 ^ i * n < 18446744073709551616 → vg i m (vf k n ++ b) = (m + 128 ^ i * n, i + (vf k n).length, 0) := by
  intro k
  induction k with
  | zero =>
    intro i m n hi h0 hn
    obtain rfl : i = 9 := by omega
    have h9 : (128 : Nat) ^ 9 = 9223372036854775808 := by decide
    rw [h9] at hn
    have hn1 : n ≤ 1 := by omega
    have hn0 := h0 (by omega)
    have hc : (UInt8.ofNat n).toNat = n := ofNat_toNat_lt (by omega)
    show vg 9 m (UInt8.ofNat n :: b) = _
    rw [vg_end (by rw [hc]; omega) (by rw [hc]; omega), hc]
    rfl
  | succ k ih =>
    intro i m n hi h0 hn
    by_cases hlt : n < 128
    · have hc : (UInt8.ofNat n).toNat = n := ofNat_toNat_lt (by omega)
      rw [vf_short hlt]
      show vg i m (UInt8.ofNat n :: b) = _
      rw [vg_end (by rw [hc]; omega) (by rw [hc]; omega), hc]
      rfl
    · have hc : (UInt8.ofNat (128 + n % 128)).toNat = 128 + n % 128 := ofNat_toNat_lt (by omega)
      have hp : 128 ^ (i + 1) * (n / 128) ≤ 128 ^ i * n := by
        rw [Nat.pow_succ, Nat.mul_assoc]; exact Nat.mul_le_mul_left _ (Nat.mul_div_le n 128)
      rw [vf_long hlt, List.cons_append, vg_more (by rw [hc]; omega) (by rw [hc]; omega) (by omega), hc, ih (i + 1) _ (n / 128) (by omega) (by omega) (by omega)]
      refine Prod.ext ?_ (Prod.ext ?_ rfl)
      · show m + 128 ^ i * (128 + n % 128 - 128) + 128 ^ (i + 1) * (n / 128) = m + 128 ^ i * n
        rw [Nat.add_sub_cancel_left, Nat.add_assoc, Nat.pow_succ, Nat.mul_assoc, ← Nat.mul_add, Nat.mod_add_div]
      · show i + 1 + (vf k (n / 128)).length = i + (UInt8.ofNat (128 + n % 128) :: vf k (n / 128)).length
        rw [List.length_cons]; omega
theorem vgetS_vput (n : Nat) (a b : List UInt8) (hn : n < 18446744073709551616) : vgetS (a ++ (vput n ++ b)) a.length = (n, ((a.length + (vput n).length : Nat) : Int), 0) := by
  rw [leafR_ok (by simp) (n := n) (s := (vput n).length)]
  rw [List.drop_left, vput, vg_vf b 9 0 0 n rfl (by omega) (by omega)]
  simp
theorem vg_back (l : List UInt8) : ∀ (i m N S : Nat), i ≤ 9 → m < 128 ^ i → vg i m l = (N, S, 0) → N < 18446744073709551616 ∧ ∃ n, N = m + 128 ^ i * n ∧ vf (9 - i) n = l.take (S - i) ∧ (0 < i → 0 < n) := by
  induction l with
  | nil => intro i m N S _ _ h; rw [vg_nil] at h; simp at h
  | cons c r ih =>
    intro i m N S hi hm h
    have hc := c.toNat_lt
    by_cases hA : (i = 9 ∧ 1 < c.toNat) ∨ (0 < i ∧ c.toNat = 0)
    · rw [vg_form hA] at h; simp at h
    · by_cases hC : c.toNat < 128
      · rw [vg_end hA hC] at h
        simp only [Prod.mk.injEq] at h
        obtain ⟨rfl, rfl, _⟩ := h
        refine ⟨?_, c.toNat, rfl, ?_, by omega⟩
        · have := rstep (B := 128 ^ i) (m := m) (c := c.toNat) rfl hm hi hC (by omega)
          have hb := B_bound hi
          by_cases h9 : i = 9
          · subst h9
            have h9 : (128 : Nat) ^ 9 = 9223372036854775808 := by decide
            rw [h9] at hm ⊢
            have : c.toNat ≤ 1 := by omega
            omega
          · have := vg_lt_step hm hC
            have := B_bound (k := i + 1) (by omega)
            omega
        · rw [vf_short hC, show i + 1 - i = 1 from by omega]
          simp
      · have h9 : ¬ i = 9 := by omega
        rw [vg_more hA hC h9] at h
        obtain ⟨hN, n', h1, h2, h3⟩ := ih (i + 1) _ N S (by omega) (vg_lt_step hm (by omega)) h
        have hS : i + 1 < S := by
          have := vg_cases r (i + 1) (m + 128 ^ i * (c.toNat - 128)) (by omega)
          rw [h] at this
          simp at this
          omega
        have h0 := h3 (by omega)
        refine ⟨hN, (c.toNat - 128) + 128 * n', ?_, ?_, by omega⟩
        · rw [h1, Nat.pow_succ, Nat.mul_add, Nat.mul_assoc, Nat.add_assoc]
        · rw [show 9 - i = (9 - (i + 1)) + 1 from by omega, vf_long (by omega), show ((c.toNat - 128) + 128 * n') / 128 = n' from by omega, h2, show 128 + ((c.toNat - 128) + 128 * n') % 128 = c.toNat from by omega, UInt8.ofNat_toNat, show S - i = (S - (i + 1)) + 1 from by omega, List.take_succ_cons]
theorem vgetS_back {l : List UInt8} {n : Nat} {x : Int} (h : vgetS l 0 = (n, x, 0)) : n < 18446744073709551616 ∧ 1 ≤ x ∧ x ≤ l.length ∧ vput n = l.take x.toNat := by
  have hc := vgetS_cases l 0
  rw [h] at hc
  simp at hc
  obtain ⟨N, S, E, hv⟩ : ∃ N S E, vg 0 0 l = (N, S, E) := ⟨_, _, _, rfl⟩
  have h2 := vgetS_in (a := 0) (Nat.zero_le l.length) (n := N) (s := S) (e := E) (by rw [List.drop_zero]; exact hv)
  have e0 : ((0 : Nat) : Int) = 0 := rfl
  rw [e0, h] at h2
  by_cases h0 : E = 0
  · subst h0
    rw [if_pos rfl] at h2
    simp only [Prod.mk.injEq] at h2
    obtain ⟨h3, h4, _⟩ := h2
    obtain ⟨g1, n', g2, g3, _⟩ := vg_back l 0 0 _ _ (by omega) (by omega) hv
    refine ⟨by omega, by omega, by omega, ?_⟩
    have e1 : x.toNat = S := by omega
    have e2 : n = n' := by omega
    rw [e1, vput, e2]
    exact g3
  · rw [if_neg h0] at h2
    simp only [Prod.mk.injEq] at h2
    exact absurd h2.2.2.symm h0
theorem takeS_textS (a b : List UInt8) (hb : b.length < 18446744073709551616) : takeS (a ++ (textS b ++ a)) a.length b.length = (b, ((a.length + (textS b).length : Nat) : Int), 0) := by
  have hg : vgetS (a ++ (textS b ++ a)) a.length = (b.length, ((a.length + (vput b.length).length : Nat) : Int), 0) := by
    rw [textS, List.append_assoc, vgetS_vput _ _ _ hb]
  rw [takeS, hg]
  simp only
  rw [if_neg (by simp), if_neg (by omega), if_neg (by simp [textS]; omega)]
  refine Prod.ext ?_ (Prod.ext ?_ rfl)
  · show List.take b.length (List.drop (((a.length + (vput b.length).length : Nat) : Int)).toNat (a ++ (textS b ++ a))) = b
    rw [Int.toNat_natCast, List.drop_append, List.drop_eq_nil_of_le (by omega), textS, List.nil_append, Nat.add_sub_cancel_left, List.append_assoc, List.drop_left, List.take_left]
  · simp [textS]; omega
end Go.Proofs.Ytnbkpannhcamjaa
