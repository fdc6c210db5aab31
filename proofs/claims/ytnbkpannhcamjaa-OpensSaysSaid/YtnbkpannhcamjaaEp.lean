/- Plain facts: predicates. No program is imported. -/
import Derived.Test.YtnbkpannhcamjaaMp
namespace Go.Proofs.Ytnbkpannhcamjaa
set_option linter.unusedVariables false

/-- A predicate. -/
structure Pd where
  k : Int
  n : List UInt8
  v : List UInt8
  deriving DecidableEq
def cE (k : Int) (n v : List UInt8) : Int :=
  if k = 1 then (if n = [] then (if methodB v = true then 0 else 3) else 2)
  else if k = 2 then (if n = [] then (if nameB v = true then 0 else 7) else 2)
  else if k = 3 then (if n = [] then (if pathB v = true then 0 else 12) else 2)
  else if k = 4 then (if n = [] then (if pathB v = true then 0 else 12) else 2)
  else if k = 5 then (if nameB n = true then (if valueB v = true then 0 else 15) else 7)
  else if k = 6 then (if v = [] then (if nameB n = true then 0 else 7) else 2)
  else 2
def memH (L : List Hd) (n v : List UInt8) : Bool := L.contains (n, v)
def mE (k : Int) (n v m h p : List UInt8) (L : List Hd) : Bool :=
  if k = 1 then m == v else if k = 2 then h == v else if k = 3 then p == v else if k = 4 then List.isPrefixOf v p else if k = 5 then memH L n v else if k = 6 then (getH L n).2 else false
def allE (l : List Pd) (m h p : List UInt8) (L : List Hd) : Bool := l.all fun e => mE e.k e.n e.v m h p L
def fewP (l : List Pd) : Bool := decide (l.length ≤ 20) && l.all fun e => decide (e.n.length + e.v.length ≤ 400)
def smallP (l : List Pd) : Prop := ∀ e ∈ l, e.n.length ≤ 140737488351232 ∧ e.v.length ≤ 140737488351232
theorem smallP.at_ {l : List Pd} (h : smallP l) {k : Nat} (hk : k < l.length) : l[k].n.length ≤ 140737488351232 ∧ l[k].v.length ≤ 140737488351232 := h _ (List.getElem_mem hk)
theorem fewP_len {l : List Pd} (h : fewP l = true) : l.length ≤ 20 := by
  simp [fewP] at h; exact h.1
theorem memH_allS (L : List Hd) (n v : List UInt8) : (allS L n).contains v = memH L n v := by
  rw [Bool.eq_iff_iff, memH, List.contains_iff_mem, List.contains_iff_mem, allS, List.mem_map]
  constructor
  · rintro ⟨⟨a, b⟩, h1, rfl⟩
    have h2 := List.mem_filter.1 h1
    have h3 := h2.2
    rw [hasN_one] at h3
    have : a = n := by simpa using h3
    subst this
    exact h2.1
  · intro h
    exact ⟨(n, v), List.mem_filter.2 ⟨h, by rw [hasN_one]; simp⟩, rfl⟩
theorem getH_allS (L : List Hd) (n : List UInt8) : decide (0 < (allS L n).length) = (getH L n).2 := by
  unfold getH
  cases allS L n with
  | nil => rfl
  | cons a b => simp
theorem prefix_take (v p : List UInt8) (h : v.length ≤ p.length) : (p.take v.length == v) = List.isPrefixOf v p := by
  rw [Bool.eq_iff_iff, beq_iff_eq, List.isPrefixOf_iff_prefix, List.prefix_iff_eq_take]
  exact ⟨fun h => h.symm, fun h => h.symm⟩
theorem prefix_long (v p : List UInt8) (h : p.length < v.length) : List.isPrefixOf v p = false := by
  rw [Bool.eq_false_iff]
  intro h2
  have := (List.isPrefixOf_iff_prefix.1 h2).length_le
  omega
theorem prefix_of_take (p : List UInt8) (k : Nat) : List.isPrefixOf (p.take k) p = true := List.isPrefixOf_iff_prefix.2 (List.take_prefix k p)
theorem fewP_at {l : List Pd} (h : fewP l = true) {k : Nat} (hk : k < l.length) : l[k].n.length + l[k].v.length ≤ 400 := by
  simp [fewP] at h; exact h.2 _ (List.getElem_mem hk)
theorem all_take' {α : Type} (p : α → Bool) (l : List α) (k : Nat) (h : k < l.length) : (l.take (k + 1)).all p = ((l.take k).all p && p l[k]) := by
  rw [List.take_succ_eq_append_getElem h, List.all_append]; simp
theorem all_false' {α : Type} {p : α → Bool} {l : List α} {k : Nat} (h : k < l.length) (hp : p l[k] = false) : l.all p = false := by
  rw [List.all_eq_false]; exact ⟨l[k], List.getElem_mem h, by simp [hp]⟩
theorem allE_snoc (l : List Pd) (e : Pd) (m h p : List UInt8) (L : List Hd) : allE (l ++ [e]) m h p L = (allE l m h p L && mE e.k e.n e.v m h p L) := by
  simp [allE, List.all_append]
end Go.Proofs.Ytnbkpannhcamjaa
