/- Plain facts: numbers in groups of seven bits. No program is imported. -/
import Derived.Test.YtnbkpannhcamjaaPlain
namespace Go.Proofs.Ytnbkpannhcamjaa
set_option linter.unusedVariables false
open Go Go.RowKit

/-- A number's form, of at most k + 1 bytes. -/
def vf : Nat → Nat → List UInt8
  | 0, n => [UInt8.ofNat n]
  | k + 1, n => if n < 128 then [UInt8.ofNat n] else UInt8.ofNat (128 + n % 128) :: vf k (n / 128)
def vput (n : Nat) : List UInt8 := vf 9 n
theorem vf_short {k n : Nat} (h : n < 128) : vf k n = [UInt8.ofNat n] := by
  cases k with
  | zero => rfl
  | succ k => rw [vf, if_pos h]
theorem vf_long {k n : Nat} (h : ¬ n < 128) : vf (k + 1) n = UInt8.ofNat (128 + n % 128) :: vf k (n / 128) := by rw [vf, if_neg h]
theorem vf_length_le (k n : Nat) : 1 ≤ (vf k n).length ∧ (vf k n).length ≤ k + 1 := by
  induction k generalizing n with
  | zero => simp [vf]
  | succ k ih =>
    rw [vf]; split
    · simp
    · have := ih (n / 128); rw [List.length_cons]; omega
theorem vput_length_le (n : Nat) : 1 ≤ (vput n).length ∧ (vput n).length ≤ 10 := vf_length_le 9 n
theorem or128_nat (b : Nat) (h : b < 256) : b ||| 128 = 128 + b % 128 := by
  have : ∀ b : Fin 256, b.val ||| 128 = 128 + b.val % 128 := by decide +kernel
  exact this ⟨b, h⟩
theorem or128 (m : Nat) : bits .or .u8 ((m : Int) % 256) 128 = ((128 + m % 128 : Nat) : Int) := by
  rw [show (m : Int) % 256 = ((m % 256 : Nat) : Int) from by omega, show (128 : Int) = ((128 : Nat) : Int) from rfl, u8_or_nat _ _ (by omega) (by omega), or128_nat _ (by omega)]
  congr 1; omega
/-- What stands at a form's place i: the number so far is n. -/
def vg : Nat → Nat → List UInt8 → Nat × Nat × Int
  | _, _, [] => (0, 0, 5)
  | i, n, c :: r =>
    if (i = 9 ∧ 1 < c.toNat) ∨ (0 < i ∧ c.toNat = 0) then (0, 0, 3)
    else if c.toNat < 128 then (n + 128 ^ i * c.toNat, i + 1, 0)
    else if i = 9 then (0, 0, 3) else vg (i + 1) (n + 128 ^ i * (c.toNat - 128)) r
def vgetS (l : List UInt8) (at' : Int) : Nat × Int × Int :=
  if at' < 0 then (0, 0, 2) else if (l.length : Int) < at' then (0, 0, 5)
  else match vg 0 0 (l.drop at'.toNat) with
    | (n, s, e) => if e = 0 then (n, at' + s, 0) else (0, 0, e)
theorem vg_nil (i n : Nat) : vg i n [] = (0, 0, 5) := by rw [vg]
theorem vg_form {i n : Nat} {c : UInt8} {r : List UInt8} (h : (i = 9 ∧ 1 < c.toNat) ∨ (0 < i ∧ c.toNat = 0)) : vg i n (c :: r) = (0, 0, 3) := by rw [vg, if_pos h]
theorem vg_end {i n : Nat} {c : UInt8} {r : List UInt8} (h : ¬ ((i = 9 ∧ 1 < c.toNat) ∨ (0 < i ∧ c.toNat = 0))) (h2 : c.toNat < 128) : vg i n (c :: r) = (n + 128 ^ i * c.toNat, i + 1, 0) := by rw [vg, if_neg h, if_pos h2]
theorem vg_more {i n : Nat} {c : UInt8} {r : List UInt8} (h : ¬ ((i = 9 ∧ 1 < c.toNat) ∨ (0 < i ∧ c.toNat = 0))) (h2 : ¬ c.toNat < 128) (h3 : ¬ i = 9) : vg i n (c :: r) = vg (i + 1) (n + 128 ^ i * (c.toNat - 128)) r := by rw [vg, if_neg h, if_neg h2, if_neg h3]
theorem vg_cases (l : List UInt8) : ∀ i n, i ≤ 9 → ((vg i n l).2.2 = 0 ∧ i < (vg i n l).2.1 ∧ (vg i n l).2.1 ≤ i + l.length ∧ (vg i n l).2.1 ≤ 10) ∨ vg i n l = (0, 0, 3) ∨ vg i n l = (0, 0, 5) := by
  induction l with
  | nil => intro i n _; right; right; exact vg_nil i n
  | cons c r ih =>
    intro i n hi
    by_cases h : (i = 9 ∧ 1 < c.toNat) ∨ (0 < i ∧ c.toNat = 0)
    · right; left; exact vg_form h
    · by_cases h2 : c.toNat < 128
      · left; rw [vg_end h h2]; refine ⟨rfl, ?_, ?_, ?_⟩ <;> simp <;> omega
      · have h3 : ¬ i = 9 := fun h3 => h (Or.inl ⟨h3, by omega⟩)
        rw [vg_more h h2 h3]
        rcases ih (i + 1) (n + 128 ^ i * (c.toNat - 128)) (by omega) with ⟨g1, g2, g3, g4⟩ | g | g
        · left; refine ⟨g1, by omega, by rw [List.length_cons]; omega, g4⟩
        · right; left; exact g
        · right; right; exact g
theorem pow_128 (k : Nat) : (128 : Nat) ^ k = 2 ^ (7 * k) := by rw [Nat.pow_mul]
theorem pow_128_le {i j : Nat} (h : i ≤ j) : 128 ^ i ≤ 128 ^ j := Nat.pow_le_pow_right (by omega) h
/-- A group's bits, put above the ones that are there. -/
theorem shlor7 (n c i : Nat) (hn : n < 128 ^ i) (hi : i ≤ 9) (hc : c < 128) (hc9 : i = 9 → c ≤ 1) :
    bits .or .u64 (n : Int) (IntKind.u64.wrap ((c : Int) * 2 ^ (7 * (i : Int)).toNat)) = ((n + 128 ^ i * c : Nat) : Int) := by
  have e : (7 * (i : Int)).toNat = 7 * i := by omega
  have hb : 128 ^ i * c < 18446744073709551616 := by
    by_cases h9 : i = 9
    · subst h9; have := hc9 rfl; have : (128 : Nat) ^ 9 = 9223372036854775808 := by decide
      rw [this]; omega
    · have h1 : 128 ^ i ≤ 128 ^ 8 := pow_128_le (by omega)
      have h2 : (128 : Nat) ^ 8 = 72057594037927936 := by decide
      have h3 : 128 ^ i * c ≤ 72057594037927936 * 127 := Nat.mul_le_mul (by omega) (by omega)
      omega
  have hn64 : n < 18446744073709551616 := by
    have h1 : 128 ^ i ≤ 128 ^ 9 := pow_128_le hi
    have h2 : (128 : Nat) ^ 9 = 9223372036854775808 := by decide
    omega
  rw [e, show (c : Int) * 2 ^ (7 * i) = ((128 ^ i * c : Nat) : Int) from by rw [pow_128, Int.mul_comm]; simp, wrap_u64_nat _ hb, u64_or_nat _ _ hn64 hb]
  congr 1
  rw [Nat.or_comm, pow_128, Nat.add_comm]
  exact (Nat.two_pow_add_eq_or_of_lt (by rw [← pow_128]; exact hn) c).symm
theorem shlor7' (n c i : Nat) (hn : n < 128 ^ i) (hi : i ≤ 9) (hc : c < 128) (hc9 : i = 9 → c ≤ 1) :
    bits .or .u64 (n : Int) (IntKind.u64.wrap ((c : Int) * 2 ^ (7 * i))) = ((n + 128 ^ i * c : Nat) : Int) := by
  rw [← shlor7 n c i hn hi hc hc9, show (7 * (i : Int)).toNat = 7 * i from by omega]
theorem shlor7s (n c i : Nat) (hn : n < 128 ^ i) (hi : i ≤ 8) (hc : 128 ≤ c) (hc2 : c < 256) :
    bits .or .u64 (n : Int) (IntKind.u64.wrap (((c : Int) - 128) * 2 ^ (7 * i))) = ((n + 128 ^ i * (c - 128) : Nat) : Int) := by
  rw [← shlor7' n (c - 128) i hn (by omega) (by omega) (by omega), show ((c - 128 : Nat) : Int) = (c : Int) - 128 from by omega]
theorem vg_lt_step {n c i : Nat} (hn : n < 128 ^ i) (hc : c < 128) : n + 128 ^ i * c < 128 ^ (i + 1) := by
  have h : 128 ^ i * c ≤ 128 ^ i * 127 := Nat.mul_le_mul_left _ (by omega)
  have e : 128 ^ (i + 1) = 128 ^ i * 127 + 128 ^ i := by rw [Nat.pow_succ]; omega
  omega
theorem vg_drop (l : List UInt8) (k i n : Nat) (h : k < l.length) : vg i n (l.drop k) = vg i n (l[k] :: l.drop (k + 1)) := by rw [List.drop_eq_getElem_cons h]
end Go.Proofs.Ytnbkpannhcamjaa
