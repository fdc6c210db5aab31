/- Plain facts: numbers of traces and spans, what is drawn. No program is imported. -/
import Derived.Test.YtgpioafkahoahaaPlain
namespace Go.Proofs.Ytgpioafkahoahaa
set_option linter.unusedVariables false

/-- The trace, or the span, of a text. -/
def ofS (l : List UInt8) : Nat × Nat × Int :=
  if l.length ≠ 32 then (0, 0, 3) else if (unhexS (l.take 16)).2 = 0 ∧ (unhexS (l.drop 16)).2 = 0 then (if (unhexS (l.take 16)).1 = 0 ∧ (unhexS (l.drop 16)).1 = 0 then (0, 0, 11) else ((unhexS (l.take 16)).1, (unhexS (l.drop 16)).1, 0)) else (0, 0, 3)
def spanOfS (l : List UInt8) : Nat × Int :=
  if l.length ≠ 16 then (0, 3) else if (unhexS l).2 = 0 then (if (unhexS l).1 = 0 then (0, 11) else ((unhexS l).1, 0)) else (0, 3)
def idText (a b : Nat) : List UInt8 := hx 16 a ++ hx 16 b
theorem hexS16 {n : Nat} (h : n < 18446744073709551616) : hexS n 16 = (hx 16 n, 0) := putX_ok (by omega) (by omega) (Nat.div_eq_of_lt (by show n < 16 ^ 16; omega))
theorem unhexS_fst (l : List UInt8) (h : ¬ (unhexS l).2 = 0) : (unhexS l).1 = 0 := by
  unfold unhexS at h ⊢
  split
  · rfl
  · rename_i hl
    rw [if_neg hl] at h
    split
    · rfl
    · rename_i n hn; rw [hn] at h; simp at h
theorem hx_unhex {n : Nat} (h : n < 18446744073709551616) : unhexS (hx 16 n) = (n, 0) := unhexS_hexS n 16 (by omega) (by omega) (Nat.div_eq_of_lt (by omega))
theorem spanOfS_hx {n : Nat} (h : n < 18446744073709551616) : spanOfS (hx 16 n) = if n = 0 then (0, 11) else (n, 0) := by
  rw [spanOfS, if_neg (by rw [hx_length]; simp), hx_unhex h, if_pos rfl]
theorem ofS_text {a b : Nat} (ha : a < 18446744073709551616) (hb : b < 18446744073709551616) : ofS (idText a b) = if a = 0 ∧ b = 0 then (0, 0, 11) else (a, b, 0) := by
  have h1 : (idText a b).take 16 = hx 16 a := by rw [idText, List.take_append_of_le_length (by rw [hx_length]; omega), List.take_of_length_le (by rw [hx_length]; omega)]
  have h2 : (idText a b).drop 16 = hx 16 b := by rw [idText, List.drop_append, hx_length]; simp [List.drop_of_length_le, hx_length]
  have hl : (idText a b).length = 32 := by rw [idText, List.length_append, hx_length, hx_length]
  rw [ofS, if_neg (by rw [hl]; simp), h1, h2, hx_unhex ha, hx_unhex hb, if_pos ⟨rfl, rfl⟩]
theorem hx_inj {a b : Nat} (ha : a < 18446744073709551616) (hb : b < 18446744073709551616) (h : hx 16 a = hx 16 b) : a = b := by
  have h1 := hx_unhex ha
  rw [h, hx_unhex hb] at h1
  exact (congrArg Prod.fst h1).symm
theorem idText_inj {a b c d : Nat} (ha : a < 18446744073709551616) (hb : b < 18446744073709551616) (hc : c < 18446744073709551616) (hd : d < 18446744073709551616) (h : idText a b = idText c d) : a = c ∧ b = d := by
  obtain ⟨h1, h2⟩ := List.append_inj h (by rw [hx_length, hx_length])
  exact ⟨hx_inj ha hc h1, hx_inj hb hd h2⟩
/-- What is drawn at a place. -/
def atS (L : List Nat) (n : Int) : Nat := if h : 0 ≤ n ∧ n < L.length then L[n.toNat]'(by omega) else 4294967296 + (if 0 > n then 0 else n).toNat
theorem atS_in {L : List Nat} {k : Nat} (h : k < L.length) : atS L (k : Int) = L[k] := by rw [atS, dif_pos (by omega)]; rfl
theorem atS_out {L : List Nat} {n : Int} (h : ¬ (0 ≤ n ∧ n < L.length)) : atS L n = 4294967296 + (if 0 > n then 0 else n).toNat := by rw [atS, dif_neg h]
/-- The first k that are drawn are unlike, none 0. -/
def Apart (L : List Nat) (k : Nat) : Prop := ∀ i, i < k → atS L (i : Int) ≠ 0 ∧ ∀ j, j < i → atS L (j : Int) ≠ atS L (i : Int)
theorem apart_le {L : List Nat} {k m : Nat} (h : Apart L m) (hk : k ≤ m) : Apart L k := fun i hi => h i (by omega)
theorem apart_zero (L : List Nat) : Apart L 0 := fun i hi => absurd hi (by omega)
theorem apart_succ {L : List Nat} {k : Nat} (h : Apart L k) (h0 : atS L (k : Int) ≠ 0) (h1 : ∀ j, j < k → atS L (j : Int) ≠ atS L (k : Int)) : Apart L (k + 1) := fun i hi => by
  by_cases e : i = k
  · subst e; exact ⟨h0, h1⟩
  · exact h i (by omega)
theorem not_apart_zero {L : List Nat} {k m : Nat} (hk : k < m) (h0 : atS L (k : Int) = 0) : ¬ Apart L m := fun h => (h k hk).1 h0
theorem not_apart_two {L : List Nat} {j k m : Nat} (hk : k < m) (hj : j < k) (h0 : atS L (j : Int) = atS L (k : Int)) : ¬ Apart L m := fun h => (h k hk).2 j hj h0
noncomputable def distS (L : List Nat) (n : Int) : Bool := @decide (Apart L (min n 4096).toNat) (Classical.propDecidable _)
theorem distS_true {L : List Nat} {n : Int} (h : Apart L (min n 4096).toNat) : distS L n = true := by unfold distS; exact @decide_eq_true _ (Classical.propDecidable _) h
theorem distS_false {L : List Nat} {n : Int} (h : ¬ Apart L (min n 4096).toNat) : distS L n = false := by unfold distS; exact @decide_eq_false _ (Classical.propDecidable _) h
theorem distS_mono {L : List Nat} {n m : Int} (h : distS L m = true) (hn : n ≤ m) : distS L n = true := by
  refine distS_true (apart_le ?_ (show (min n 4096).toNat ≤ (min m 4096).toNat by omega))
  exact @of_decide_eq_true _ (Classical.propDecidable _) h
end Go.Proofs.Ytgpioafkahoahaa
