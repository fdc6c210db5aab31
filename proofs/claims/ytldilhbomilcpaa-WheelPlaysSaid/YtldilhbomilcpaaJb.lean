/- Plain facts of wheel: what comes later. No program is imported. -/
import Derived.Test.YtldilhbomilcpaaPlain
namespace Go.Proofs.Ytldilhbomilcpaa
set_option linter.unusedVariables false
set_option linter.unusedSimpArgs false

/-- A wheel: its time, and what is on it (id, when), as it was set. -/
structure Whl where
  now : Int
  all : List (Int × Int)
def whSet (w : Whl) (id t : Int) : Whl × Int := if t < 1 ∨ 50 < t then (w, 12) else if 32 ≤ w.all.length then (w, 8) else (⟨w.now, w.all ++ [(id, w.now + t)]⟩, 0)
def whDue (w : Whl) : List Int := (w.all.filter fun d => decide (d.2 ≤ w.now + 1)).map (·.1)
def whStep (w : Whl) : Whl := ⟨w.now + 1, w.all.filter fun d => !decide (d.2 ≤ w.now + 1)⟩
/-- What is on a wheel, by time. -/
def whSorted (w : Whl) : List (Int × Int) := (List.range 50).flatMap fun (i : Nat) => w.all.filter fun d => decide (d.2 = w.now + 1 + (i : Int))
/-- A move: something is set, or, with no ticks, a step. -/
def whMove (w : Whl) (m : Int × Int) : Whl := if m.2 = 0 then whStep w else (whSet w m.1 m.2).1
def whRun (w : Whl) (l : List (Int × Int)) : Whl := l.foldl whMove w
theorem whRun_take (w : Whl) (l : List (Int × Int)) (k : Nat) (h : k < l.length) : whRun w (l.take (k + 1)) = whMove (whRun w (l.take k)) l[k] := by
  unfold whRun
  rw [List.take_succ_eq_append_getElem h, List.foldl_append]
  rfl
/-- What is due comes within 50 ticks, and is no more than 32. -/
structure WhOk (w : Whl) : Prop where
  few : w.all.length ≤ 32
  due : ∀ d ∈ w.all, w.now < d.2 ∧ d.2 ≤ w.now + 50
theorem WhOk.new (t : Int) : WhOk ⟨t, []⟩ := ⟨by simp, by simp⟩
theorem WhOk.set {w : Whl} (h : WhOk w) (id t : Int) : WhOk (whSet w id t).1 := by
  unfold whSet
  split
  · exact h
  · split
    · exact h
    · refine ⟨by simp only [List.length_append, List.length_singleton]; omega, fun d hd => ?_⟩
      simp only [List.mem_append, List.mem_singleton] at hd
      rcases hd with hd | rfl
      · exact h.due d hd
      · simp only
        omega
theorem WhOk.step {w : Whl} (h : WhOk w) : WhOk (whStep w) := by
  refine ⟨Nat.le_trans (List.length_filter_le _ _) h.few, fun d hd => ?_⟩
  obtain ⟨h1, h2⟩ := List.mem_filter.1 hd
  have h3 := h.due d h1
  simp only [Bool.not_eq_true', decide_eq_false_iff_not] at h2
  simp only [whStep]
  omega
theorem WhOk.move {w : Whl} (h : WhOk w) (m : Int × Int) : WhOk (whMove w m) := by
  unfold whMove
  split
  · exact h.step
  · exact h.set _ _
theorem WhOk.run : ∀ (l : List (Int × Int)) {w : Whl}, WhOk w → WhOk (whRun w l)
  | [], _, h => h
  | m :: l, _, h => WhOk.run l (h.move m)
/-- So many steps on. -/
def whIter : Nat → Whl → Whl
  | 0, w => w
  | k + 1, w => whStep (whIter k w)
theorem whIter_eq (w : Whl) (h : WhOk w) : ∀ k : Nat, whIter k w = ⟨w.now + (k : Int), w.all.filter fun d => decide (w.now + (k : Int) < d.2)⟩
  | 0 => by
    have e : (w.all.filter fun d => decide (w.now + ((0 : Nat) : Int) < d.2)) = w.all := by
      rw [List.filter_eq_self]
      intro d hd
      have := h.due d hd
      simp
      omega
    rw [whIter, e]
    simp
  | k + 1 => by
    rw [whIter, whIter_eq w h k]
    unfold whStep
    simp only [List.filter_filter, Whl.mk.injEq]
    refine ⟨by omega, List.filter_congr fun d hd => ?_⟩
    rw [Bool.eq_iff_iff]
    simp only [Bool.and_eq_true, Bool.not_eq_true', decide_eq_false_iff_not, decide_eq_true_eq]
    omega
/-- What is due at the step after so many. -/
theorem whDue_iter (w : Whl) (h : WhOk w) (k : Nat) : whDue (whIter k w) = (w.all.filter fun d => decide (d.2 = w.now + ((k + 1 : Nat) : Int))).map (·.1) := by
  rw [whIter_eq w h k]
  unfold whDue
  simp only [List.filter_filter]
  congr 1
  refine List.filter_congr fun d hd => ?_
  rw [Bool.eq_iff_iff]
  simp only [Bool.and_eq_true, decide_eq_true_eq]
  omega
/-- What was set, where its id is no other one's, comes just once, just so many steps later. -/
theorem whDue_exact (w : Whl) (h : WhOk w) (id t : Int) (hn : ∀ d ∈ w.all, d.1 ≠ id) (h0 : (whSet w id t).2 = 0) (k : Nat) :
    ((whDue (whIter k (whSet w id t).1)).filter fun x => decide (x = id)).length = if ((k + 1 : Nat) : Int) = t then 1 else 0 := by
  have h1 := h.set id t
  rw [whDue_iter _ h1]
  unfold whSet at h0 ⊢
  split at h0
  · cases h0
  · split at h0
    · cases h0
    · rename_i h2 h3
      rw [if_neg h2, if_neg h3]
      simp only [List.filter_append, List.map_append]
      have e : (((w.all.filter fun d => decide (d.2 = w.now + ((k + 1 : Nat) : Int))).map (·.1)).filter fun x => decide (x = id)) = [] := by
        rw [List.filter_eq_nil_iff]
        intro x hx
        obtain ⟨d, hd, rfl⟩ := List.mem_map.1 hx
        simpa using hn d (List.mem_filter.1 hd).1
      rw [e, List.nil_append]
      by_cases hk : ((k + 1 : Nat) : Int) = t
      · rw [if_pos hk, List.filter_cons, if_pos (by simp; omega)]
        simp
      · rw [if_neg hk, List.filter_cons, if_neg (by simp; omega)]
        simp
theorem whSet_ids (w : Whl) (id t : Int) (Q : Int → Prop) (h : ∀ d ∈ w.all, Q d.1) (hi : Q id) : ∀ d ∈ (whSet w id t).1.all, Q d.1 := by
  unfold whSet
  split
  · exact h
  · split
    · exact h
    · intro d hd
      simp only [List.mem_append, List.mem_singleton] at hd
      rcases hd with hd | rfl
      · exact h d hd
      · exact hi
theorem whStep_ids (w : Whl) (Q : Int → Prop) (h : ∀ d ∈ w.all, Q d.1) : ∀ d ∈ (whStep w).all, Q d.1 := fun d hd => h d (List.mem_filter.1 hd).1
/-- A wheel that stands elsewhere. -/
def whShift (s : Int) (w : Whl) : Whl := ⟨w.now + s, w.all.map fun d => (d.1, d.2 + s)⟩
theorem whShift_set (s : Int) (w : Whl) (id t : Int) : whSet (whShift s w) id t = (whShift s (whSet w id t).1, (whSet w id t).2) := by
  unfold whSet whShift
  simp only [List.length_map]
  split
  · rfl
  · split
    · rfl
    · simp only [List.map_append, List.map_cons, List.map_nil, Prod.mk.injEq, and_true, Whl.mk.injEq, true_and]
      congr 3
      omega
theorem whShift_due (s : Int) (w : Whl) : whDue (whShift s w) = whDue w := by
  unfold whDue whShift
  simp only [List.filter_map, List.map_map]
  congr 1
  refine List.filter_congr fun d _ => ?_
  rw [Bool.eq_iff_iff]
  simp only [Function.comp_apply, decide_eq_true_eq]
  omega
theorem whShift_step (s : Int) (w : Whl) : whStep (whShift s w) = whShift s (whStep w) := by
  unfold whStep whShift
  simp only [List.filter_map, Whl.mk.injEq]
  refine ⟨by omega, ?_⟩
  congr 1
  refine List.filter_congr fun d _ => ?_
  rw [Bool.eq_iff_iff]
  simp only [Function.comp_apply, Bool.not_eq_true', decide_eq_false_iff_not]
  omega
theorem whShift_move (s : Int) (w : Whl) (m : Int × Int) : whMove (whShift s w) m = whShift s (whMove w m) := by
  unfold whMove
  split
  · exact whShift_step s w
  · rw [whShift_set]
theorem whShift_run (s : Int) : ∀ (l : List (Int × Int)) (w : Whl), whRun (whShift s w) l = whShift s (whRun w l)
  | [], _ => rfl
  | m :: l, w => by
    show whRun (whMove (whShift s w) m) l = whShift s (whRun (whMove w m) l)
    rw [whShift_move]
    exact whShift_run s l _
/-- A wheel on which nothing is, so many steps on. -/
theorem whIter_empty (t : Int) (k : Nat) : whIter k ⟨t, []⟩ = whShift (k : Int) ⟨t, []⟩ := by
  rw [whIter_eq _ (WhOk.new t)]
  rfl
end Go.Proofs.Ytldilhbomilcpaa
