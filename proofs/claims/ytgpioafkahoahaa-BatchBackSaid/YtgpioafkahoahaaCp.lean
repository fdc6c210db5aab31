/- Plain facts: the sum of bytes (a register of 32 bits), its table, texts that were sealed. No program is imported. -/
import Derived.Test.YtgpioafkahoahaaPlain
namespace Go.Proofs.Ytgpioafkahoahaa
set_option linter.unusedVariables false

def cP : Nat := 3988292384
/-- One shift of the register. -/
def sA (x : Nat) : Nat := (x / 2) ^^^ (if x % 2 = 1 then 3988292384 else 0)
theorem sA_odd {x : Nat} (h : x % 2 = 1) : sA x = (x / 2) ^^^ 3988292384 := by rw [sA, if_pos h]
theorem sA_even {x : Nat} (h : ¬ x % 2 = 1) : sA x = x / 2 := by rw [sA, if_neg h, Nat.xor_zero]
theorem xor_mod2 (x y : Nat) : (x ^^^ y) % 2 = (x % 2 + y % 2) % 2 := by
  have h := Nat.testBit_xor (x := x) (y := y) (i := 0)
  simp only [Nat.testBit_zero] at h
  rcases Nat.mod_two_eq_zero_or_one x with hx | hx <;> rcases Nat.mod_two_eq_zero_or_one y with hy | hy <;>
    rcases Nat.mod_two_eq_zero_or_one (x ^^^ y) with hz | hz <;> simp [hx, hy, hz] at h ⊢
theorem xor_div2 (x y : Nat) : (x ^^^ y) / 2 = (x / 2) ^^^ (y / 2) := by
  have := Nat.shiftRight_xor_distrib (a := x) (b := y) (i := 1)
  simpa [Nat.shiftRight_eq_div_pow] using this
theorem sA_xor (x y : Nat) : sA (x ^^^ y) = sA x ^^^ sA y := by
  unfold sA
  rw [xor_div2]
  have hm := xor_mod2 x y
  rcases Nat.mod_two_eq_zero_or_one x with hx | hx <;> rcases Nat.mod_two_eq_zero_or_one y with hy | hy <;> rw [hx, hy] at hm <;> simp [hx, hy, hm]
  · rw [Nat.xor_assoc]
  · rw [Nat.xor_assoc, Nat.xor_assoc, Nat.xor_comm (y / 2)]
  · rw [Nat.xor_assoc, Nat.xor_comm 3988292384, Nat.xor_assoc, Nat.xor_self, Nat.xor_zero]
theorem sA_lt {x : Nat} (h : x < 4294967296) : sA x < 4294967296 := by
  unfold sA
  refine Nat.xor_lt_two_pow (n := 32) (by omega) ?_
  split <;> omega
def itA : Nat → Nat → Nat
  | 0, x => x
  | k + 1, x => itA k (sA x)
theorem itA_succ (k x : Nat) : itA (k + 1) x = sA (itA k x) := by
  induction k generalizing x with
  | zero => rfl
  | succ k ih => exact ih (sA x)
theorem itA_xor (k x y : Nat) : itA k (x ^^^ y) = itA k x ^^^ itA k y := by
  induction k generalizing x y with
  | zero => rfl
  | succ k ih => rw [itA, sA_xor, ih]; rfl
theorem itA_lt {k x : Nat} (h : x < 4294967296) : itA k x < 4294967296 := by
  induction k generalizing x with
  | zero => exact h
  | succ k ih => exact ih (sA_lt h)
theorem itA_shift (k y : Nat) : itA k (y * 2 ^ k) = y := by
  induction k generalizing y with
  | zero => simp [itA]
  | succ k ih =>
    rw [itA, sA_even (by rw [Nat.pow_succ, ← Nat.mul_assoc]; omega), Nat.pow_succ, show y * (2 ^ k * 2) / 2 = y * 2 ^ k from by rw [← Nat.mul_assoc, Nat.mul_div_cancel _ (by omega)], ih]
/-- What a byte of a register comes to, behind eight shifts. -/
def tab (b : Nat) : Nat := itA 8 b
theorem tab_lt {b : Nat} (h : b < 256) : tab b < 4294967296 := itA_lt (by omega)
theorem hi_lo (r : Nat) : r = (r / 256 * 256) ^^^ (r % 256) := by
  apply Nat.eq_of_testBit_eq
  intro i
  rw [Nat.testBit_xor, show (256 : Nat) = 2 ^ 8 from rfl, Nat.testBit_mul_two_pow, Nat.testBit_mod_two_pow, Nat.testBit_div_two_pow]
  by_cases h : i < 8
  · simp [h, show ¬ 8 ≤ i from by omega]
  · simp [h, show 8 ≤ i from by omega, show i - 8 + 8 = i from by omega]
theorem it8 (r : Nat) : itA 8 r = (r / 256) ^^^ tab (r % 256) := by
  rw [show itA 8 r = itA 8 ((r / 256 * 256) ^^^ (r % 256)) from by rw [← hi_lo], itA_xor, show r / 256 * 256 = r / 256 * 2 ^ 8 from rfl, itA_shift]
  rfl
/-- The register behind one byte more. -/
def stepC (r b : Nat) : Nat := itA 8 (r ^^^ b)
theorem stepC_eq (r b : Nat) (hb : b < 256) : stepC r b = (r / 256) ^^^ tab ((r % 256) ^^^ b) := by
  rw [stepC, it8]
  have h1 : (r ^^^ b) / 256 = r / 256 := by
    have := Nat.shiftRight_xor_distrib (a := r) (b := b) (i := 8)
    simp only [Nat.shiftRight_eq_div_pow] at this
    rw [show (256 : Nat) = 2 ^ 8 from rfl, this, Nat.div_eq_of_lt (show b < 2 ^ 8 from hb), Nat.xor_zero]
  have h2 : (r ^^^ b) % 256 = (r % 256) ^^^ b := by
    have := Nat.xor_mod_two_pow (a := r) (b := b) (n := 8)
    rw [show (256 : Nat) = 2 ^ 8 from rfl, this, Nat.mod_eq_of_lt (show b < 2 ^ 8 from hb)]
  rw [h1, h2]
theorem stepC_lt {r b : Nat} (hr : r < 4294967296) (hb : b < 256) : stepC r b < 4294967296 :=
  itA_lt (Nat.xor_lt_two_pow (n := 32) (by omega) (by omega))
/-- The document's way: bit by bit. k bits of b are taken in. -/
def refB (r b : Nat) : Nat → Nat
  | 0 => r
  | k + 1 => let q := refB r b k; if q % 2 ≠ (b / 2 ^ k) % 2 then (q / 2) ^^^ 3988292384 else q / 2
theorem refB_lt {r b k : Nat} (h : r < 4294967296) : refB r b k < 4294967296 := by
  induction k with
  | zero => exact h
  | succ k ih =>
    simp only [refB]
    split
    · exact Nat.xor_lt_two_pow (n := 32) (by omega) (by omega)
    · omega
theorem refB_eq (r b k : Nat) : refB r b k = itA k (r ^^^ (b % 2 ^ k)) := by
  induction k with
  | zero => simp [refB, itA, Nat.mod_one]
  | succ k ih =>
    have hs : b % 2 ^ (k + 1) = (b % 2 ^ k) ^^^ (b / 2 ^ k % 2 * 2 ^ k) := by
      apply Nat.eq_of_testBit_eq
      intro i
      rw [Nat.testBit_xor, Nat.testBit_mod_two_pow, Nat.testBit_mod_two_pow, Nat.testBit_mul_two_pow]
      by_cases h : i < k
      · simp [h, show i < k + 1 from by omega, show ¬ k ≤ i from by omega]
      · by_cases h2 : i = k
        · subst h2; simp [Nat.testBit_eq_decide_div_mod_eq]
        · have h3 : i - k ≠ 0 := by omega
          have h4 : (b / 2 ^ k % 2).testBit (i - k) = false := by
            rw [show (2 : Nat) = 2 ^ 1 from rfl, Nat.testBit_mod_two_pow]; simp; omega
          simp [h, show ¬ i < k + 1 from by omega, h4]
    have hx : itA (k + 1) (r ^^^ (b % 2 ^ (k + 1))) = sA (itA k (r ^^^ b % 2 ^ k) ^^^ (b / 2 ^ k % 2)) := by
      rw [itA_succ, hs, ← Nat.xor_assoc, itA_xor, itA_shift]
    rw [hx, ← ih]
    simp only [refB]
    have hm := xor_mod2 (refB r b k) (b / 2 ^ k % 2)
    have hd : (refB r b k ^^^ (b / 2 ^ k % 2)) / 2 = refB r b k / 2 := by
      rw [xor_div2, show b / 2 ^ k % 2 / 2 = 0 from by omega, Nat.xor_zero]
    unfold sA
    rw [hd]
    rcases Nat.mod_two_eq_zero_or_one (refB r b k) with h1 | h1 <;> rcases Nat.mod_two_eq_zero_or_one (b / 2 ^ k) with h2 | h2 <;> rw [h1, h2] at hm <;> simp [h1, h2, hm]
theorem refB_8 (r b : Nat) (hb : b < 256) : refB r b 8 = stepC r b := by
  rw [refB_eq, show b % 2 ^ 8 = b from Nat.mod_eq_of_lt hb]; rfl
/-- The register behind a text, from r on. -/
def regC (r : Nat) (l : List UInt8) : Nat := l.foldl (fun a c => stepC a c.toNat) r
theorem regC_nil (r : Nat) : regC r [] = r := rfl
theorem regC_snoc (r : Nat) (l : List UInt8) (c : UInt8) : regC r (l ++ [c]) = stepC (regC r l) c.toNat := by simp [regC]
theorem regC_append (r : Nat) (a b : List UInt8) : regC r (a ++ b) = regC (regC r a) b := by simp [regC]
theorem regC_cons (r : Nat) (c : UInt8) (b : List UInt8) : regC r (c :: b) = regC (stepC r c.toNat) b := rfl
theorem regC_lt {r : Nat} (l : List UInt8) (h : r < 4294967296) : regC r l < 4294967296 := by
  induction l generalizing r with
  | nil => exact h
  | cons c l ih => exact ih (stepC_lt h (UInt8.toNat_lt c))
def crc0 : Nat := 4294967295
/-- The sum. -/
def crcS (l : List UInt8) : Nat := regC 4294967295 l ^^^ 4294967295
theorem crcS_lt (l : List UInt8) : crcS l < 4294967296 := Nat.xor_lt_two_pow (n := 32) (regC_lt l (by omega)) (by omega)
theorem xor_ones (x : Nat) (h : x < 4294967296) : x ^^^ 4294967295 = 4294967295 - x := by
  apply Nat.eq_of_testBit_eq
  intro i
  rw [Nat.testBit_xor, show 4294967295 - x = 2 ^ 32 - (x + 1) from by omega, show (4294967295 : Nat) = 2 ^ 32 - 1 from rfl, Nat.testBit_two_pow_sub_one, Nat.testBit_two_pow_sub_succ (show x < 2 ^ 32 from h)]
  by_cases hi : i < 32
  · simp [hi]
  · have : x.testBit i = false := Nat.testBit_lt_two_pow (Nat.lt_of_lt_of_le h (Nat.pow_le_pow_right (n := 2) (by omega) (show 32 ≤ i from by omega)))
    simp [hi, this]
/-- A shift loses nothing. -/
theorem sA_zero {x : Nat} (hx : x < 4294967296) (h : sA x = 0) : x = 0 := by
  by_cases h1 : x % 2 = 1
  · rw [sA_odd h1] at h
    have h2 : (x / 2 ^^^ 3988292384).testBit 31 = false := by rw [h]; simp
    rw [Nat.testBit_xor, Nat.testBit_lt_two_pow (show x / 2 < 2 ^ 31 from by omega)] at h2
    exact absurd h2 (by decide)
  · rw [sA_even h1] at h; omega
theorem xor_eq_zero {x y : Nat} (h : x ^^^ y = 0) : x = y := by
  apply Nat.eq_of_testBit_eq
  intro i
  have h2 : (x ^^^ y).testBit i = false := by rw [h]; simp
  rw [Nat.testBit_xor] at h2
  cases hx : x.testBit i <;> cases hy : y.testBit i <;> simp [hx, hy] at h2 ⊢
theorem itA_zero {k x : Nat} (hx : x < 4294967296) (h : itA k x = 0) : x = 0 := by
  induction k generalizing x with
  | zero => exact h
  | succ k ih => exact sA_zero hx (ih (sA_lt hx) h)
theorem stepC_inj {r b r' b' : Nat} (hr : r < 4294967296) (hr' : r' < 4294967296) (hb : b < 256) (hb' : b' < 256) (h : stepC r b = stepC r' b') : r ^^^ b = r' ^^^ b' := by
  apply xor_eq_zero
  have hl : r ^^^ b < 2 ^ 32 := Nat.xor_lt_two_pow (by omega) (by omega)
  have hl' : r' ^^^ b' < 2 ^ 32 := Nat.xor_lt_two_pow (by omega) (by omega)
  refine itA_zero (k := 8) (Nat.xor_lt_two_pow (n := 32) hl hl') ?_
  rw [itA_xor]
  show stepC r b ^^^ stepC r' b' = 0
  rw [h, Nat.xor_self]
theorem xor_cancel_left {a b c : Nat} (h : a ^^^ b = a ^^^ c) : b = c := by
  have := congrArg (a ^^^ ·) h
  simpa [← Nat.xor_assoc] using this
theorem xor_cancel_right {a b c : Nat} (h : b ^^^ a = c ^^^ a) : b = c := by
  rw [Nat.xor_comm b, Nat.xor_comm c] at h; exact xor_cancel_left h
theorem regC_inj {r r' : Nat} (l : List UInt8) (hr : r < 4294967296) (hr' : r' < 4294967296) (h : regC r l = regC r' l) : r = r' := by
  induction l generalizing r r' with
  | nil => exact h
  | cons c l ih =>
    have h1 := ih (stepC_lt hr (UInt8.toNat_lt c)) (stepC_lt hr' (UInt8.toNat_lt c)) h
    exact xor_cancel_right (stepC_inj hr hr' (UInt8.toNat_lt c) (UInt8.toNat_lt c) h1)
theorem regC_set {r : Nat} (l : List UInt8) (i : Nat) (c : UInt8) (hr : r < 4294967296) (hi : i < l.length) (h : regC r (l.set i c) = regC r l) : l[i] = c := by
  induction l generalizing r i with
  | nil => simp at hi
  | cons d l ih =>
    cases i with
    | zero =>
      have h1 := regC_inj l (stepC_lt hr (UInt8.toNat_lt c)) (stepC_lt hr (UInt8.toNat_lt d)) h
      have h2 := xor_cancel_left (stepC_inj hr hr (UInt8.toNat_lt c) (UInt8.toNat_lt d) h1)
      exact (UInt8.toNat_inj.1 h2).symm
    | succ i => exact ih i (stepC_lt hr (UInt8.toNat_lt d)) (by simpa using hi) h
theorem crcS_set (l : List UInt8) (i : Nat) (c : UInt8) (hi : i < l.length) (h : crcS (l.set i c) = crcS l) : l[i] = c :=
  regC_set l i c (by omega) hi (xor_cancel_right h)
/-- Seal, Open. -/
def sealS (l : List UInt8) : List UInt8 := l ++ be 4 (crcS l)
def openS (l : List UInt8) : List UInt8 × Int :=
  if l.length < 4 then ([], 5) else if val (l.drop (l.length - 4)) = crcS (l.take (l.length - 4)) then (l.take (l.length - 4), 0) else ([], 4)
theorem openS_short {l : List UInt8} (h : l.length < 4) : openS l = ([], 5) := by rw [openS, if_pos h]
theorem openS_ok {l : List UInt8} (h : ¬ l.length < 4) (h2 : val (l.drop (l.length - 4)) = crcS (l.take (l.length - 4))) : openS l = (l.take (l.length - 4), 0) := by rw [openS, if_neg h, if_pos h2]
theorem openS_bad {l : List UInt8} (h : ¬ l.length < 4) (h2 : ¬ val (l.drop (l.length - 4)) = crcS (l.take (l.length - 4))) : openS l = ([], 4) := by rw [openS, if_neg h, if_neg h2]
theorem sealS_length (l : List UInt8) : (sealS l).length = l.length + 4 := by simp [sealS, be_length]
theorem val_be4 (n : Nat) (h : n < 4294967296) : val (be 4 n) = n := by rw [val_be, Nat.mod_eq_of_lt (by omega)]
theorem openS_sealS (l : List UInt8) : openS (sealS l) = (l, 0) := by
  have hn : (sealS l).length - 4 = l.length := by rw [sealS_length]; omega
  have ht : (sealS l).take ((sealS l).length - 4) = l := by rw [hn, sealS, List.take_left]
  have hd : (sealS l).drop ((sealS l).length - 4) = be 4 (crcS l) := by rw [hn, sealS, List.drop_left]
  rw [openS_ok (by rw [sealS_length]; omega) (by rw [ht, hd, val_be4 _ (crcS_lt l)]), ht]
theorem val_inj {a b : List UInt8} (hl : a.length = b.length) (h : val a = val b) : a = b := by
  induction a using List.reverseRecOn' generalizing b with
  | nil => exact (List.eq_nil_of_length_eq_zero (by simpa using hl.symm)).symm
  | snoc a c ih =>
    induction b using List.reverseRecOn' with
    | nil => simp at hl
    | snoc b d _ =>
      rw [val_snoc, val_snoc] at h
      have hc := c.toNat_lt
      have hd := d.toNat_lt
      have e1 : c.toNat = d.toNat := by omega
      have e2 : val a = val b := by omega
      rw [UInt8.toNat_inj.1 e1, ih (by simpa using hl) e2]
theorem be_val4 (l : List UInt8) (h : l.length = 4) : be 4 (val l) = l := by
  apply val_inj (by rw [be_length, h])
  have := val_lt l
  rw [h] at this
  exact val_be4 _ this
/-- Where the document asks whether the text is sealed. -/
theorem seal_take_iff (l : List UInt8) (h : ¬ l.length < 4) : sealS (l.take (l.length - 4)) = l ↔ val (l.drop (l.length - 4)) = crcS (l.take (l.length - 4)) := by
  have hd : (l.drop (l.length - 4)).length = 4 := by simp; omega
  constructor
  · intro he
    have : l.take (l.length - 4) ++ be 4 (crcS (l.take (l.length - 4))) = l.take (l.length - 4) ++ l.drop (l.length - 4) := by rw [List.take_append_drop]; exact he
    rw [← List.append_cancel_left this, val_be4 _ (crcS_lt _)]
  · intro he
    rw [sealS, ← he, be_val4 _ hd, List.take_append_drop]
/-- One byte that is another one is told. -/
theorem openS_told (l : List UInt8) (i : Nat) (c : UInt8) (hi : i < (sealS l).length) (hc : (sealS l)[i] ≠ c) : openS ((sealS l).set i c) = ([], 4) := by
  have hlen : ((sealS l).set i c).length = l.length + 4 := by rw [List.length_set, sealS_length]
  refine openS_bad (by omega) ?_
  rw [hlen, show l.length + 4 - 4 = l.length from by omega]
  intro h
  apply hc
  by_cases h2 : i < l.length
  · have hs : (sealS l).set i c = l.set i c ++ be 4 (crcS l) := by rw [sealS, List.set_append_left _ _ h2]
    have ht : ((sealS l).set i c).take l.length = l.set i c := by rw [hs, List.take_append_of_le_length (by simp), List.take_of_length_le (by simp)]
    have hd : ((sealS l).set i c).drop l.length = be 4 (crcS l) := by rw [hs, List.drop_append_of_le_length (by simp), List.drop_eq_nil_of_le (by simp), List.nil_append]
    rw [ht, hd, val_be4 _ (crcS_lt l)] at h
    have := crcS_set l i c h2 h.symm
    rw [← this]
    simp [sealS, List.getElem_append_left, h2]
  · have h3 : i - l.length < 4 := by rw [sealS_length] at hi; omega
    have hs : (sealS l).set i c = l ++ (be 4 (crcS l)).set (i - l.length) c := by rw [sealS, List.set_append_right _ _ (by omega)]
    have ht : ((sealS l).set i c).take l.length = l := by rw [hs, List.take_left]
    have hd : ((sealS l).set i c).drop l.length = (be 4 (crcS l)).set (i - l.length) c := by rw [hs, List.drop_left]
    rw [ht, hd] at h
    have h4 : (be 4 (crcS l)).set (i - l.length) c = be 4 (crcS l) := val_inj (by simp) (by rw [h, val_be4 _ (crcS_lt l)])
    have h5 : ((be 4 (crcS l)).set (i - l.length) c)[i - l.length]'(by simp [be_length]; omega) = c := by simp
    have h6 : (sealS l)[i] = (be 4 (crcS l))[i - l.length]'(by rw [be_length]; omega) := by
      simp only [sealS]; rw [List.getElem_append_right (by omega)]
    rw [h6]
    rw [← h5]
    congr 1
    exact h4.symm
end Go.Proofs.Ytgpioafkahoahaa
