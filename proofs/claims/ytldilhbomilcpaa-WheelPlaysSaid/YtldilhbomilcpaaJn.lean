/- wheel: what stands in which slot. -/
import Derived.Test.YtldilhbomilcpaaJb
namespace Go.Proofs.Ytldilhbomilcpaa
set_option linter.unusedVariables false
set_option linter.unusedSimpArgs false

/-- The slot of a time. -/
def wix (t : Int) : Nat := (t % 50).toNat
theorem wix_lt (t : Int) : wix t < 50 := by unfold wix; omega
theorem wix_cast (t : Int) (h : 0 ≤ t) : t.tmod 50 = (wix t : Int) := by
  rw [Int.tmod_eq_emod_of_nonneg h]
  unfold wix
  omega
theorem wix_eq {n a b : Int} (ha : n < a ∧ a ≤ n + 50) (hb : n < b ∧ b ≤ n + 50) : wix a = wix b ↔ a = b := by
  unfold wix
  omega
/-- What stands in a slot. -/
def slotL (x : Whl) (i : Nat) : List Int := (x.all.filter fun d => decide (wix d.2 = i)).map (·.1)
theorem slotL_len (x : Whl) (i : Nat) : (slotL x i).length ≤ x.all.length := by
  unfold slotL
  rw [List.length_map]
  exact List.length_filter_le _ _
theorem slotL_at {x : Whl} (h : WhOk x) (t : Int) (ht : x.now < t ∧ t ≤ x.now + 50) : slotL x (wix t) = (x.all.filter fun d => decide (d.2 = t)).map (·.1) := by
  unfold slotL
  congr 1
  refine List.filter_congr fun d hd => ?_
  rw [Bool.eq_iff_iff, decide_eq_true_eq, decide_eq_true_eq]
  exact wix_eq (h.due d hd) ht
theorem slotL_set {x : Whl} {id t : Int} (h1 : 1 ≤ t ∧ t ≤ 50) (h2 : x.all.length < 32) (i : Nat) : slotL (whSet x id t).1 i = if i = wix (x.now + t) then slotL x i ++ [id] else slotL x i := by
  unfold whSet
  rw [if_neg (by omega), if_neg (by omega)]
  unfold slotL
  simp only [List.filter_append, List.map_append]
  by_cases e : i = wix (x.now + t)
  · rw [if_pos e, List.filter_cons, if_pos (by simp [e])]
    rfl
  · rw [if_neg e, List.filter_cons, if_neg (by simpa using fun h => e h.symm)]
    simp
theorem whDue_slot {x : Whl} (h : WhOk x) : whDue x = slotL x (wix (x.now + 1)) := by
  rw [slotL_at h _ (by omega)]
  unfold whDue
  congr 1
  refine List.filter_congr fun d hd => ?_
  have := h.due d hd
  rw [Bool.eq_iff_iff, decide_eq_true_eq, decide_eq_true_eq]
  omega
theorem slotL_step {x : Whl} (h : WhOk x) (i : Nat) : slotL (whStep x) i = if i = wix (x.now + 1) then [] else slotL x i := by
  unfold slotL whStep
  simp only [List.filter_filter]
  by_cases e : i = wix (x.now + 1)
  · rw [if_pos e]
    have : (x.all.filter fun d => (decide (wix d.2 = i) && !decide (d.2 ≤ x.now + 1))) = [] := by
      rw [List.filter_eq_nil_iff]
      intro d hd
      have h1 := h.due d hd
      have h2 := wix_eq h1 (show x.now < x.now + 1 ∧ x.now + 1 ≤ x.now + 50 by omega)
      simp only [Bool.and_eq_true, decide_eq_true_eq, Bool.not_eq_true', decide_eq_false_iff_not, not_and, Decidable.not_not]
      intro h3
      rw [e, h2] at h3
      omega
    rw [this]; rfl
  · rw [if_neg e]
    congr 1
    refine List.filter_congr fun d hd => ?_
    have h1 := h.due d hd
    have h2 := wix_eq h1 (show x.now < x.now + 1 ∧ x.now + 1 ≤ x.now + 50 by omega)
    rw [Bool.eq_iff_iff]
    simp only [Bool.and_eq_true, decide_eq_true_eq, Bool.not_eq_true', decide_eq_false_iff_not]
    constructor
    · exact fun h3 => h3.1
    · intro h3
      refine ⟨h3, fun h4 => e ?_⟩
      rw [← h3]
      exact h2.2 (by omega)
theorem whStep_len {x : Whl} : (whStep x).all.length + (whDue x).length = x.all.length := by
  unfold whStep whDue
  simp only [List.length_map]
  induction x.all with
  | nil => rfl
  | cons d r ih =>
    rw [List.filter_cons, List.filter_cons]
    by_cases h : d.2 ≤ x.now + 1
    · simp only [h, decide_true, Bool.not_true, if_true]
      rw [if_neg (by simp), List.length_cons, List.length_cons]
      omega
    · simp only [h, decide_false, Bool.not_false, if_true]
      rw [if_neg (by simp), List.length_cons, List.length_cons]
      omega
/-- What is due at a time that comes. -/
def dueAt (x : Whl) (t : Int) : List (Int × Int) := (slotL x (wix t)).map fun id => (id, t)
theorem dueAt_eq {x : Whl} (h : WhOk x) (t : Int) (ht : x.now < t ∧ t ≤ x.now + 50) : dueAt x t = x.all.filter fun d => decide (d.2 = t) := by
  unfold dueAt
  rw [slotL_at h t ht, List.map_map]
  have : ∀ l : List (Int × Int), (∀ d ∈ l, d.2 = t) → l.map ((fun id => (id, t)) ∘ fun x => x.1) = l := by
    intro l hl
    induction l with
    | nil => rfl
    | cons d r ih =>
      rw [List.map_cons, ih fun e he => hl e (by simp [he])]
      obtain ⟨a, b⟩ := d
      have := hl (a, b) (by simp)
      simp only at this
      simp [this]
  exact this _ fun d hd => by simpa using (List.mem_filter.1 hd).2
theorem whSorted_due {x : Whl} (h : WhOk x) : whSorted x = (List.range 50).flatMap fun (i : Nat) => dueAt x (x.now + 1 + (i : Int)) := by
  unfold whSorted
  rw [List.flatMap_def, List.flatMap_def]
  congr 1
  refine List.map_congr_left fun i hi => ?_
  have := List.mem_range.1 hi
  rw [dueAt_eq h _ (by omega)]
theorem range_flat {α : Type} (F : Nat → List α) (k : Nat) : (List.range (k + 1)).flatMap F = (List.range k).flatMap F ++ F k := by
  rw [List.range_succ, List.flatMap_append]
  simp
theorem flat_len {α : Type} (F : Nat → List α) (m : Nat) (hF : ∀ i, (F i).length ≤ m) : ∀ k : Nat, ((List.range k).flatMap F).length ≤ m * k
  | 0 => by simp
  | k + 1 => by
    rw [range_flat, List.length_append, Nat.mul_succ]
    have := flat_len F m hF k
    have := hF k
    omega
end Go.Proofs.Ytldilhbomilcpaa
