/- Plain facts: names, values, lists of headers. No program is imported. -/
import Derived.Test.YtnbkpannhcamjaaPlain
namespace Go.Proofs.Ytnbkpannhcamjaa
set_option linter.unusedVariables false

abbrev Hd : Type := List UInt8 × List UInt8
def inNameB (c : UInt8) : Bool := (decide (97 ≤ c.toNat) && decide (c.toNat ≤ 122)) || (decide (48 ≤ c.toNat) && decide (c.toNat ≤ 57)) || decide (c.toNat = 45)
def inValueB (c : UInt8) : Bool := decide (32 ≤ c.toNat) && decide (c.toNat ≤ 126)
def nameB (l : List UInt8) : Bool := !l.isEmpty && (decide (l.length ≤ 32) && l.all inNameB)
def endsB (l : List UInt8) : Bool := l.isEmpty || (decide ((l.headD 0).toNat ≠ 32) && decide ((l.getLastD 0).toNat ≠ 32))
def valueB (l : List UInt8) : Bool := decide (l.length ≤ 64) && (l.all inValueB && endsB l)
def faultS : List Hd → Int
  | [] => 0
  | h :: r => if nameB h.1 = false then 7 else if valueB h.2 = false then 15 else faultS r
def checkS (L : List Hd) : Int := if 16 < L.length then 8 else faultS L
theorem faultS_drop (L : List Hd) (k : Nat) (h : k < L.length) : faultS (L.drop k) = if nameB L[k].1 = false then 7 else if valueB L[k].2 = false then 15 else faultS (L.drop (k + 1)) := by
  rw [List.drop_eq_getElem_cons h]; rfl
theorem all_take (p : UInt8 → Bool) (l : List UInt8) (k : Nat) (h : k < l.length) : (l.take (k + 1)).all p = ((l.take k).all p && p l[k]) := by
  rw [take_snoc _ _ h, List.all_append]; simp
theorem all_false {p : UInt8 → Bool} {l : List UInt8} {k : Nat} (h : k < l.length) (hp : p l[k] = false) : l.all p = false := by
  rw [List.all_eq_false]; exact ⟨l[k], List.getElem_mem h, by simp [hp]⟩
theorem headD_at {l : List UInt8} (h : 0 < l.length) : l.headD 0 = l[0] := by cases l <;> simp at h ⊢
theorem getLastD_at {l : List UInt8} (h : 0 < l.length) : l.getLastD 0 = l[l.length - 1] := by
  cases l with
  | nil => simp at h
  | cons c r =>
    have h1 : (c :: r).getLastD 0 = (c :: r).getLast (by simp) := rfl
    rw [h1, List.getLast_eq_getElem]
/-- The headers of the names. -/
def memB (names : List (List UInt8)) (v : List UInt8) : Bool := names.contains v
def hasN (names : List (List UInt8)) (h : Hd) : Bool := memB names h.1
def allS (L : List Hd) (n : List UInt8) : List (List UInt8) := (L.filter (hasN [n])).map (·.2)
def getH (L : List Hd) (n : List UInt8) : List UInt8 × Bool := match allS L n with | [] => ([], false) | v :: _ => (v, true)
def addH (L : List Hd) (n v : List UInt8) : List Hd := L ++ [(n, v)]
def withoutH (L : List Hd) (names : List (List UInt8)) : List Hd := L.filter fun h => !hasN names h
def idxH (p : Hd → Bool) (L : List Hd) : Int := if L.findIdx p < L.length then (L.findIdx p : Int) else -1
def setH (L : List Hd) (n v : List UInt8) : List Hd :=
  if L.findIdx (hasN [n]) < L.length then addH (L.take (L.findIdx (hasN [n]))) n v ++ withoutH (L.drop (L.findIdx (hasN [n]) + 1)) [n] else addH L n v
theorem hasN_one (n : List UInt8) (h : Hd) : hasN [n] h = (h.1 == n) := by rw [Bool.eq_iff_iff]; simp [hasN, memB]
theorem filter_take {α : Type} (p : α → Bool) (L : List α) (k : Nat) (h : k < L.length) : (L.take (k + 1)).filter p = (L.take k).filter p ++ if p L[k] then [L[k]] else [] := by
  rw [List.take_succ_eq_append_getElem h, List.filter_append]; cases hp : p L[k] <;> simp [hp]
/-- Where the first one stands, told by a loop. -/
theorem findIdx_hit {α : Type} (p : α → Bool) (L : List α) (k : Nat) (h : k < L.length) (hn : ∀ j (hj : j < L.length), j < k → p L[j] = false) (hp : p L[k] = true) : L.findIdx p = k := by
  rw [List.findIdx_eq h]; exact ⟨hp, fun j hj => by simpa using hn j (by omega) hj⟩
theorem findIdx_miss {α : Type} (p : α → Bool) (L : List α) (hn : ∀ j (hj : j < L.length), p L[j] = false) : L.findIdx p = L.length := by
  rw [List.findIdx_eq_length]; intro x hx
  obtain ⟨j, hj, rfl⟩ := List.getElem_of_mem hx
  exact hn j hj
theorem findIdx_before (p : Hd → Bool) (L : List Hd) (j : Nat) (hj : j < L.length) (h : j < L.findIdx p) : p L[j] = false := by
  have := List.not_of_lt_findIdx h; simpa using this
theorem filter_none {α : Type} (p : α → Bool) (L : List α) (h : ∀ x ∈ L, p x = false) : L.filter p = [] := by
  rw [List.filter_eq_nil_iff]; intro x hx; simp [h x hx]
theorem filter_all {α : Type} (p : α → Bool) (L : List α) (h : ∀ x ∈ L, p x = true) : L.filter p = L := by
  rw [List.filter_eq_self]; exact h
/-- How the list parts at the first one of a name. -/
theorem part (p : Hd → Bool) (L : List Hd) (h : L.findIdx p < L.length) : L = L.take (L.findIdx p) ++ L[L.findIdx p] :: L.drop (L.findIdx p + 1) ∧ (∀ x ∈ L.take (L.findIdx p), p x = false) ∧ p (L[L.findIdx p]) = true := by
  refine ⟨?_, ?_, List.findIdx_getElem (w := h)⟩
  · rw [← List.drop_eq_getElem_cons h, List.take_append_drop]
  · intro x hx
    obtain ⟨j, hj, rfl⟩ := List.getElem_of_mem hx
    rw [List.length_take] at hj
    rw [List.getElem_take]
    exact findIdx_before p L j (by omega) (by omega)
theorem getH_of (L : List Hd) (n : List UInt8) : getH L n = if h : L.findIdx (hasN [n]) < L.length then (L[L.findIdx (hasN [n])].2, true) else ([], false) := by
  by_cases h : L.findIdx (hasN [n]) < L.length
  · rw [dif_pos h]
    obtain ⟨h1, h2, h3⟩ := part (hasN [n]) L h
    have : allS L n = L[L.findIdx (hasN [n])].2 :: allS (L.drop (L.findIdx (hasN [n]) + 1)) n := by
      conv => lhs; rw [h1]
      rw [allS, List.filter_append, filter_none _ _ h2, List.nil_append, List.filter_cons, if_pos h3]; rfl
    rw [getH, this]
  · rw [dif_neg h]
    have : allS L n = [] := by
      rw [allS, filter_none]
      · rfl
      · intro x hx
        obtain ⟨j, hj, rfl⟩ := List.getElem_of_mem hx
        exact findIdx_before _ L j hj (by omega)
    rw [getH, this]
/-- Set as the document's loop has it. -/
def setR (n v : List UInt8) : Bool → List Hd → List Hd
  | met, [] => if met then [] else [(n, v)]
  | met, h :: r => if h.1 ≠ n then h :: setR n v met r else if met then setR n v met r else (n, v) :: setR n v true r
theorem setR_true (n v : List UInt8) (L : List Hd) : setR n v true L = withoutH L [n] := by
  induction L with
  | nil => simp [setR, withoutH]
  | cons h r ih =>
    rw [setR, ih, withoutH, withoutH, List.filter_cons, hasN_one]
    by_cases e : h.1 = n
    · simp [e]
    · simp [e]
theorem setR_false (n v : List UInt8) (L : List Hd) : setR n v false L = setH L n v := by
  induction L with
  | nil => simp [setR, setH, addH]
  | cons h r ih =>
    rw [setR]
    by_cases e : h.1 = n
    · rw [if_neg (by simp [e]), if_neg (by decide), setR_true, setH]
      have : (h :: r).findIdx (hasN [n]) = 0 := by rw [List.findIdx_cons, hasN_one]; simp [e]
      rw [this, if_pos (by simp)]
      simp [addH]
    · rw [if_pos e, ih, setH, setH]
      have hi : (h :: r).findIdx (hasN [n]) = r.findIdx (hasN [n]) + 1 := by
        have e2 : (h.1 == n) = false := by simpa using e
        rw [List.findIdx_cons, hasN_one, e2]; rfl
      rw [hi]
      by_cases hl : r.findIdx (hasN [n]) < r.length
      · rw [if_pos hl, if_pos (show r.findIdx (hasN [n]) + 1 < (h :: r).length from by rw [List.length_cons]; omega)]; simp [addH]
      · rw [if_neg hl, if_neg (show ¬ r.findIdx (hasN [n]) + 1 < (h :: r).length from by rw [List.length_cons]; omega)]; simp [addH]
theorem withoutH_append (a b : List Hd) (names : List (List UInt8)) : withoutH (a ++ b) names = withoutH a names ++ withoutH b names := by simp [withoutH]
theorem allS_append (a b : List Hd) (n : List UInt8) : allS (a ++ b) n = allS a n ++ allS b n := by simp [allS]
theorem allS_withoutH (L : List Hd) (n : List UInt8) : allS (withoutH L [n]) n = [] := by
  rw [allS, withoutH, filter_none]
  · rfl
  · intro x hx
    have := (List.mem_filter.1 hx).2
    simpa using this
theorem withoutH_twice (L : List Hd) (n : List UInt8) : withoutH (withoutH L [n]) [n] = withoutH L [n] := by simp [withoutH]
theorem allS_none (L : List Hd) (n : List UInt8) (h : ∀ x ∈ L, hasN [n] x = false) : allS L n = [] := by rw [allS, filter_none _ _ h]; rfl
theorem withoutH_none (L : List Hd) (n : List UInt8) (h : ∀ x ∈ L, hasN [n] x = false) : withoutH L [n] = L := by
  rw [withoutH, filter_all]; intro x hx; simp [h x hx]
/-- P4.3. -/
theorem setH_facts (L : List Hd) (n v : List UInt8) : allS (setH L n v) n = [v] ∧ withoutH (setH L n v) [n] = withoutH L [n] ∧ (withoutH (setH L n v) [n]).length + 1 = (setH L n v).length ∧ (getH (withoutH (setH L n v) [n]) n).2 = false := by
  have hone : allS [(n, v)] n = [v] := by simp [allS, hasN, memB]
  have hwone : withoutH [(n, v)] [n] = [] := by simp [withoutH, hasN, memB]
  have hget : ∀ M : List Hd, (getH (withoutH M [n]) n).2 = false := fun M => by rw [getH, allS_withoutH]
  by_cases h : L.findIdx (hasN [n]) < L.length
  · obtain ⟨h1, h2, h3⟩ := part (hasN [n]) L h
    have hs : setH L n v = L.take (L.findIdx (hasN [n])) ++ [(n, v)] ++ withoutH (L.drop (L.findIdx (hasN [n]) + 1)) [n] := by rw [setH, if_pos h, addH]
    have hw : withoutH (setH L n v) [n] = L.take (L.findIdx (hasN [n])) ++ withoutH (L.drop (L.findIdx (hasN [n]) + 1)) [n] := by
      rw [hs, withoutH_append, withoutH_append, hwone, withoutH_none _ _ h2, withoutH_twice]; simp
    refine ⟨?_, ?_, ?_, hget _⟩
    · rw [hs, allS_append, allS_append, hone, allS_none _ _ h2, allS_withoutH]; simp
    · rw [hw]
      conv => rhs; rw [h1]
      rw [withoutH_append, withoutH_none _ _ h2]
      congr 1
      conv => rhs; rw [withoutH, List.filter_cons, if_neg (by simp [h3])]
      rfl
    · rw [hw, hs]; simp; omega
  · have hno : ∀ x ∈ L, hasN [n] x = false := by
      intro x hx
      obtain ⟨j, hj, rfl⟩ := List.getElem_of_mem hx
      exact findIdx_before _ L j hj (by omega)
    have hs : setH L n v = L ++ [(n, v)] := by rw [setH, if_neg h, addH]
    have hw : withoutH (setH L n v) [n] = L := by rw [hs, withoutH_append, hwone, withoutH_none _ _ hno]; simp
    refine ⟨?_, ?_, ?_, hget _⟩
    · rw [hs, allS_append, hone, allS_none _ _ hno]; rfl
    · rw [hw, withoutH_none _ _ hno]
    · rw [hw, hs]; simp
end Go.Proofs.Ytnbkpannhcamjaa
