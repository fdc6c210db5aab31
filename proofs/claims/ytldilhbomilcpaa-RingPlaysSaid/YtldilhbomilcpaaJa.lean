/- Plain facts of ring: the last lines. No program is imported. -/
import Derived.Test.YtldilhbomilcpaaPlain
namespace Go.Proofs.Ytldilhbomilcpaa
set_option linter.unusedVariables false
set_option linter.unusedSimpArgs false

/-- For how many lines there is room. -/
def rgRoom (room : Int) : Nat := (max 0 (min room 64)).toNat
/-- A ring: its lines, how many were lost. -/
abbrev Rgs : Type := List (List UInt8) × Nat
/-- A line more. -/
def rgPut (c : Nat) (x : Rgs) (s : List UInt8) : Rgs := if c < x.1.length + 1 then ((x.1 ++ [s]).drop 1, min (x.2 + 1) 1099511627776) else (x.1 ++ [s], x.2)
def rgAll (c : Nat) (x : Rgs) (l : List (List UInt8)) : Rgs := l.foldl (rgPut c) x
theorem rgRoom_le (room : Int) : rgRoom room ≤ 64 ∧ (rgRoom room : Int) = max 0 (min room 64) := by
  unfold rgRoom
  omega
theorem rgAll_append (c : Nat) (x : Rgs) (a b : List (List UInt8)) : rgAll c x (a ++ b) = rgAll c (rgAll c x a) b := List.foldl_append
theorem rgAll_snoc (c : Nat) (x : Rgs) (a : List (List UInt8)) (s : List UInt8) : rgAll c x (a ++ [s]) = rgPut c (rgAll c x a) s := by simp [rgAll]
theorem rgAll_take (c : Nat) (x : Rgs) (l : List (List UInt8)) (k : Nat) (h : k < l.length) : rgAll c x (l.take (k + 1)) = rgPut c (rgAll c x (l.take k)) l[k] := by
  rw [List.take_succ_eq_append_getElem h, rgAll_snoc]
/-- What there is, is the last lines that were put; the others are lost. -/
theorem rgAll_new (c : Nat) : ∀ l : List (List UInt8), l.length ≤ 1099511627776 → rgAll c ([], 0) l = (l.drop (l.length - c), l.length - c) := by
  intro l
  induction l using List.reverseRecOn' with
  | nil => intro _; simp [rgAll]
  | snoc l s ih =>
    intro h
    rw [List.length_append, List.length_singleton] at h
    rw [rgAll_snoc, ih (by omega)]
    unfold rgPut
    simp only [List.length_drop, List.length_append, List.length_singleton]
    by_cases hc : l.length < c
    · rw [if_neg (by omega), show l.length - c = 0 by omega, show l.length + 1 - c = 0 by omega]
      simp
    · rw [if_pos (by omega)]
      have e : l.length + 1 - c = (l.length - c) + 1 := by omega
      refine Prod.ext ?_ (by simp only; omega)
      simp only
      rw [e]
      rcases Nat.eq_zero_or_pos c with h0 | h0
      · subst h0
        simp
      · rw [List.drop_append_of_le_length (by rw [List.length_drop]; omega), List.drop_drop, List.drop_append_of_le_length (by omega)]
theorem rgPut_len {c : Nat} {x : Rgs} (h : x.1.length ≤ c) (s : List UInt8) : (rgPut c x s).1.length ≤ c := by
  unfold rgPut
  split
  · simp only [List.length_drop, List.length_append, List.length_singleton]; omega
  · simp only [List.length_append, List.length_singleton]; omega
theorem rgAll_len {c : Nat} : ∀ (l : List (List UInt8)) {x : Rgs}, x.1.length ≤ c → (rgAll c x l).1.length ≤ c
  | [], _, h => h
  | s :: l, _, h => rgAll_len l (rgPut_len h s)
theorem rgPut_lost {c : Nat} {x : Rgs} (h : x.2 ≤ 1099511627776) (s : List UInt8) : (rgPut c x s).2 ≤ 1099511627776 := by
  unfold rgPut
  split
  · simp only; omega
  · exact h
theorem rgAll_lost {c : Nat} : ∀ (l : List (List UInt8)) {x : Rgs}, x.2 ≤ 1099511627776 → (rgAll c x l).2 ≤ 1099511627776
  | [], _, h => h
  | s :: l, _, h => rgAll_lost l (rgPut_lost h s)
end Go.Proofs.Ytldilhbomilcpaa
