import Derived.Test.YtnbkpannhcamjaaVb
namespace Go.Proofs.Ytnbkpannhcamjaa
set_option linter.unusedVariables false
open Go.RowKit

theorem vgetS_arg {l : List UInt8} {a : Int} (h : a < 0) : vgetS l a = (0, 0, 2) := by rw [vgetS, if_pos h]
theorem vgetS_far {l : List UInt8} {a : Int} (h : ¬ a < 0) (h2 : (l.length : Int) < a) : vgetS l a = (0, 0, 5) := by rw [vgetS, if_neg h, if_pos h2]
theorem vgetS_in {l : List UInt8} {a : Nat} (h : a ≤ l.length) {n s : Nat} {e : Int} (hv : vg 0 0 (l.drop a) = (n, s, e)) : vgetS l a = if e = 0 then (n, ((a + s : Nat) : Int), 0) else (0, 0, e) := by
  rw [vgetS, if_neg (by omega), if_neg (by omega), Int.toNat_natCast, hv]
  simp
theorem vgetS_cases (l : List UInt8) (a : Int) : ((vgetS l a).2.2 = 0 ∧ 0 ≤ a ∧ a < (vgetS l a).2.1 ∧ (vgetS l a).2.1 ≤ l.length ∧ (vgetS l a).2.1 ≤ a + 10) ∨ vgetS l a = (0, 0, 2) ∨ vgetS l a = (0, 0, 3) ∨ vgetS l a = (0, 0, 5) := by
  by_cases h : a < 0
  · exact Or.inr (Or.inl (vgetS_arg h))
  · by_cases h2 : (l.length : Int) < a
    · exact Or.inr (Or.inr (Or.inr (vgetS_far h h2)))
    · obtain ⟨a, rfl⟩ := Int.eq_ofNat_of_zero_le (show 0 ≤ a by omega)
      have hv : vg 0 0 (l.drop a) = ((vg 0 0 (l.drop a)).1, (vg 0 0 (l.drop a)).2.1, (vg 0 0 (l.drop a)).2.2) := rfl
      rw [vgetS_in (by omega) hv]
      rcases vg_cases (l.drop a) 0 0 (by omega) with ⟨g1, g2, g3, g4⟩ | g | g
      · left
        rw [if_pos g1]
        rw [List.length_drop] at g3
        refine ⟨rfl, by omega, ?_, ?_, ?_⟩ <;> simp <;> omega
      · rw [g]; right; right; left; rfl
      · rw [g]; right; right; right; rfl

theorem leafR_err {l : List UInt8} {a : Nat} (h : a ≤ l.length) {e : Int} (hv : vg 0 0 (l.drop a) = (0, 0, e)) (he : e ≠ 0) : vgetS l a = (0, 0, e) := by rw [vgetS_in h hv, if_neg he]
theorem leafR_ok {l : List UInt8} {a : Nat} (h : a ≤ l.length) {n s : Nat} (hv : vg 0 0 (l.drop a) = (n, s, 0)) : vgetS l a = (n, ((a + s : Nat) : Int), 0) := by rw [vgetS_in h hv, if_pos rfl]
theorem ret_ok {X Y : Int} {n s : Nat} (hx : X = n) (hy : Y = s) : Ending.returned (.tuple #[.int .u64 X, .int .i64 Y, .int .i64 0]) = .returned (.tuple #[.int .u64 n, .int .i64 s, .int .i64 0]) := by rw [hx, hy]
theorem B_bound {k : Nat} (h : k ≤ 9) : 128 ^ k ≤ 9223372036854775808 := by
  have h1 : 128 ^ k ≤ 128 ^ 9 := pow_128_le h
  have h2 : (128 : Nat) ^ 9 = 9223372036854775808 := by decide
  omega
theorem rstep {m B c k : Nat} (hB : B = 128 ^ k) (hm : m < 128 ^ k) (hk : k ≤ 9) (hc : c < 128) (hc9 : k = 9 → c ≤ 1) :
    IntKind.u64.wrap ((m : Int) + IntKind.u64.wrap ((B : Int) * (c : Int))) = ((m + 128 ^ k * c : Nat) : Int) := by
  subst hB
  have hb := B_bound hk
  have h1 : 128 ^ k * c ≤ 9223372036854775808 := by
    by_cases h9 : k = 9
    · have := hc9 h9
      have h2 : 128 ^ k * c ≤ 128 ^ k * 1 := Nat.mul_le_mul_left _ this
      omega
    · have h2 : 128 ^ k ≤ 128 ^ 8 := pow_128_le (by omega)
      have h3 : (128 : Nat) ^ 8 = 72057594037927936 := by decide
      have h4 : 128 ^ k * c ≤ 72057594037927936 * 127 := Nat.mul_le_mul (by omega) (by omega)
      omega
  rw [← Int.natCast_mul, wrap_u64_nat _ (by omega), ← Int.natCast_add, wrap_u64_nat _ (by omega)]
theorem rstep0 {m c k : Nat} (hm : m < 128 ^ k) (hk : k ≤ 9) (hc : c = 0) : IntKind.u64.wrap (m : Int) = ((m + 128 ^ k * c : Nat) : Int) := by
  subst hc
  have hb := B_bound hk
  rw [wrap_u64_nat _ (by omega)]; simp
theorem rstep2 {m B c k : Nat} (hB : B = 128 ^ k) (hm : m < 128 ^ k) (hk : k ≤ 8) (hc : 128 ≤ c) (hc2 : c < 256) :
    IntKind.u64.wrap ((m : Int) + IntKind.u64.wrap ((B : Int) * ((c : Int) - 128))) = ((m + 128 ^ k * (c - 128) : Nat) : Int) := by
  rw [← rstep hB hm (by omega) (show c - 128 < 128 by omega) (by omega), show ((c - 128 : Nat) : Int) = (c : Int) - 128 from by omega]
theorem rstepB {B k : Nat} (hB : B = 128 ^ k) (hk : k ≤ 8) : IntKind.u64.wrap ((B : Int) * 128) = ((128 ^ (k + 1) : Nat) : Int) := by
  subst hB
  have hb := B_bound (k := k + 1) (by omega)
  rw [show ((128 ^ k : Nat) : Int) * 128 = ((128 ^ (k + 1) : Nat) : Int) from by rw [Nat.pow_succ]; simp, wrap_u64_nat _ (by omega)]

/-- Text, Take, as the document says. -/
def textS (l : List UInt8) : List UInt8 := vput l.length ++ l
def takeS (l : List UInt8) (a most : Int) : List UInt8 × Int × Int :=
  if (vgetS l a).2.2 ≠ 0 then ([], 0, (vgetS l a).2.2)
  else if most < 0 ∨ most < (vgetS l a).1 then ([], 0, 6)
  else if (l.length : Int) - (vgetS l a).2.1 < (vgetS l a).1 then ([], 0, 5)
  else ((l.drop (vgetS l a).2.1.toNat).take (vgetS l a).1, (vgetS l a).2.1 + (vgetS l a).1, 0)

end Go.Proofs.Ytnbkpannhcamjaa
