/- Plain facts of opens: spans that are open. No program is imported. -/
import Derived.Test.YtnbkpannhcamjaaSp
namespace Go.Proofs.Ytnbkpannhcamjaa
set_option linter.unusedVariables false
set_option linter.unusedSimpArgs false

/-- A span that is open, under its number. -/
abbrev Opn : Type := Int × Sp
/-- The place of the first one of a number; the length, where there is none. -/
def opAt (l : List Opn) (no : Int) : Nat := l.findIdx fun o => decide (o.1 = no)
def opEnd (s : Sp) (st kd now : Int) : Sp := { s with status := st, kids := kd, fin := max now s.start }
def opStart (l : List Opn) (no : Int) (s : Sp) : List Opn × Int := if opAt l no < l.length then ([], 10) else if 256 ≤ l.length then ([], 8) else (l ++ [(no, s)], 0)
def opFin (l : List Opn) (no st kd now : Int) : List Opn × Sp × Int := if h : opAt l no < l.length then (l.eraseIdx (opAt l no), opEnd l[opAt l no].2 st kd now, 0) else ([], sp0, 9)
def opFind (l : List Opn) (no : Int) : Sp × Bool := if h : opAt l no < l.length then (l[opAt l no].2, true) else (sp0, false)
theorem opAt_le (l : List Opn) (no : Int) : opAt l no ≤ l.length := List.findIdx_le_length
theorem opAt_is {l : List Opn} {no : Int} (h : opAt l no < l.length) : l[opAt l no].1 = no := by
  have := List.findIdx_getElem (w := h)
  exact of_decide_eq_true this
theorem opAt_not {l : List Opn} {no : Int} {j : Nat} (hj : j < l.length) (h : j < opAt l no) : l[j].1 ≠ no := by
  have := List.not_of_lt_findIdx (p := fun o : Opn => decide (o.1 = no)) (xs := l) h
  simpa using this
/-- Where the place is, told by what is there and ahead. -/
theorem opAt_eq {l : List Opn} {no : Int} {k : Nat} (hk : k < l.length) (h1 : l[k].1 = no) (h2 : ∀ j (hj : j < k), l[j].1 ≠ no) : opAt l no = k := by
  unfold opAt
  rw [List.findIdx_eq hk]
  exact ⟨by simpa using h1, fun j hj => by simpa using h2 j hj⟩
theorem opAt_miss {l : List Opn} {no : Int} (h : ∀ o ∈ l, o.1 ≠ no) : opAt l no = l.length := by
  unfold opAt
  exact List.findIdx_eq_length.2 fun o ho => by simpa using h o ho
theorem opAt_none {l : List Opn} {no : Int} (h : ¬ opAt l no < l.length) : ∀ o ∈ l, o.1 ≠ no := fun o ho => by
  have h1 : opAt l no = l.length := by have := opAt_le l no; omega
  have := List.findIdx_eq_length.1 h1 o ho
  simpa using this
theorem opStart_ok {l : List Opn} {no : Int} {s : Sp} {a : List Opn} (h : opStart l no s = (a, 0)) : ¬ opAt l no < l.length ∧ l.length < 256 ∧ a = l ++ [(no, s)] := by
  unfold opStart at h
  split at h
  · exact absurd (congrArg Prod.snd h) (by simp)
  · split at h
    · exact absurd (congrArg Prod.snd h) (by simp)
    · rename_i h1 h2
      exact ⟨h1, by omega, (congrArg Prod.fst h).symm⟩
theorem opStart_err {l : List Opn} {no : Int} {s : Sp} (h : (opStart l no s).2 ≠ 0) : (opStart l no s).1 = [] := by
  unfold opStart at h ⊢
  split
  · rfl
  · split
    · rfl
    · rename_i h1 h2
      rw [if_neg h1, if_neg h2] at h
      exact absurd rfl h
theorem opAt_put {l : List Opn} {no : Int} {s : Sp} (h : ¬ opAt l no < l.length) : opAt (l ++ [(no, s)]) no = l.length := by
  refine opAt_eq (by simp) (by simp) fun j hj => ?_
  rw [List.getElem_append_left hj]
  exact opAt_none h _ (List.getElem_mem hj)
/-- What was started is found, and finished once. -/
theorem opBack {l : List Opn} {no : Int} {s : Sp} {a : List Opn} (h : opStart l no s = (a, 0)) (st kd now : Int) :
    opFind a no = (s, true) ∧ opFin a no st kd now = (l, opEnd s st kd now, 0) ∧ opFind l no = (sp0, false) ∧ opFin l no st kd now = ([], sp0, 9) := by
  obtain ⟨h1, h2, rfl⟩ := opStart_ok h
  have hp := opAt_put (s := s) h1
  have hlt : opAt (l ++ [(no, s)]) no < (l ++ [(no, s)]).length := by rw [hp]; simp
  have hat : (l ++ [(no, s)])[opAt (l ++ [(no, s)]) no] = (no, s) := by
    have : (l ++ [(no, s)])[opAt (l ++ [(no, s)]) no]? = some (no, s) := by rw [hp]; simp
    exact (List.getElem?_eq_some_iff.1 this).2
  refine ⟨?_, ?_, ?_, ?_⟩
  · unfold opFind
    rw [dif_pos hlt, hat]
  · unfold opFin
    rw [dif_pos hlt, hat, hp, List.eraseIdx_append_of_length_le (Nat.le_refl _)]
    simp
  · unfold opFind
    rw [dif_neg h1]
  · unfold opFin
    rw [dif_neg h1]
/-- Where another one's place is, when one is gone. -/
theorem opAt_erase {l : List Opn} {a b : Int} (hab : a ≠ b) (ha : opAt l a < l.length) (hb : opAt l b < l.length) :
    opAt l a ≠ opAt l b ∧ opAt (l.eraseIdx (opAt l a)) b = if opAt l b < opAt l a then opAt l b else opAt l b - 1 := by
  have ea := opAt_is ha
  have eb := opAt_is hb
  have hne : opAt l a ≠ opAt l b := fun e => hab (by
    have : l[opAt l a].1 = l[opAt l b].1 := by simp only [e]
    rw [← ea, this, eb])
  refine ⟨hne, ?_⟩
  have hl := List.length_eraseIdx_of_lt ha
  split
  · rename_i h
    refine opAt_eq (by rw [hl]; omega) ?_ fun j hj => ?_
    · rw [List.getElem_eraseIdx_of_lt (h' := h)]; exact eb
    · rw [List.getElem_eraseIdx_of_lt (h' := (by omega))]
      exact opAt_not (by omega) hj
  · rename_i h
    refine opAt_eq (by rw [hl]; omega) ?_ fun j hj => ?_
    · rw [List.getElem_eraseIdx_of_ge (h' := (by omega))]
      have e : opAt l b - 1 + 1 = opAt l b := by omega
      simp only [e]
      exact eb
    · by_cases hj2 : j < opAt l a
      · rw [List.getElem_eraseIdx_of_lt (h' := hj2)]
        exact opAt_not (by omega) (by omega)
      · rw [List.getElem_eraseIdx_of_ge (h' := (by omega))]
        exact opAt_not (by omega) (by omega)
theorem erase_swap {α : Type} : ∀ (l : List α) (i j : Nat), i < j → (l.eraseIdx i).eraseIdx (j - 1) = (l.eraseIdx j).eraseIdx i
  | [], _, _, _ => by simp
  | x :: l, 0, j + 1, _ => by simp
  | x :: l, i + 1, j + 1, h => by
    have h1 : i < j := by omega
    rw [List.eraseIdx_cons_succ, List.eraseIdx_cons_succ, show j + 1 - 1 = (j - 1) + 1 by omega, List.eraseIdx_cons_succ, List.eraseIdx_cons_succ, erase_swap l i j h1]
/-- Two spans of unlike numbers end in either order just the same. -/
theorem opApart {l : List Opn} {a b : Int} (hab : a ≠ b) (ha : opAt l a < l.length) (hb : opAt l b < l.length) (st kd now : Int) :
    (opFin (opFin l a st kd now).1 b st kd now) = ((opFin (opFin l b st kd now).1 a st kd now).1, (opFin l b st kd now).2.1, 0) ∧ (opFin (opFin l b st kd now).1 a st kd now).2 = ((opFin l a st kd now).2.1, 0) ∧ (opFin (opFin l a st kd now).1 b st kd now).1.length + 2 = l.length := by
  obtain ⟨hne, e1⟩ := opAt_erase hab ha hb
  obtain ⟨-, e2⟩ := opAt_erase (Ne.symm hab) hb ha
  have la := List.length_eraseIdx_of_lt ha
  have lb := List.length_eraseIdx_of_lt hb
  have fa : (opFin l a st kd now) = (l.eraseIdx (opAt l a), opEnd l[opAt l a].2 st kd now, 0) := by unfold opFin; rw [dif_pos ha]
  have fb : (opFin l b st kd now) = (l.eraseIdx (opAt l b), opEnd l[opAt l b].2 st kd now, 0) := by unfold opFin; rw [dif_pos hb]
  rw [fa, fb]
  simp only
  have hb2 : opAt (l.eraseIdx (opAt l a)) b < (l.eraseIdx (opAt l a)).length := by rw [e1, la]; split <;> omega
  have ha2 : opAt (l.eraseIdx (opAt l b)) a < (l.eraseIdx (opAt l b)).length := by rw [e2, lb]; split <;> omega
  have gb : (l.eraseIdx (opAt l a))[opAt (l.eraseIdx (opAt l a)) b] = l[opAt l b] := by
    by_cases h : opAt l b < opAt l a
    · simp only [e1, if_pos h]
      rw [List.getElem_eraseIdx_of_lt (h' := h)]
    · simp only [e1, if_neg h]
      rw [List.getElem_eraseIdx_of_ge (h' := (by omega))]
      have e : opAt l b - 1 + 1 = opAt l b := by omega
      simp only [e]
  have ga : (l.eraseIdx (opAt l b))[opAt (l.eraseIdx (opAt l b)) a] = l[opAt l a] := by
    by_cases h : opAt l a < opAt l b
    · simp only [e2, if_pos h]
      rw [List.getElem_eraseIdx_of_lt (h' := h)]
    · simp only [e2, if_neg h]
      rw [List.getElem_eraseIdx_of_ge (h' := (by omega))]
      have e : opAt l a - 1 + 1 = opAt l a := by omega
      simp only [e]
  have hsw : (l.eraseIdx (opAt l a)).eraseIdx (opAt (l.eraseIdx (opAt l a)) b) = (l.eraseIdx (opAt l b)).eraseIdx (opAt (l.eraseIdx (opAt l b)) a) := by
    rw [e1, e2]
    by_cases h : opAt l b < opAt l a
    · rw [if_pos h, if_neg (by omega)]
      exact (erase_swap l _ _ h).symm
    · rw [if_neg h, if_pos (by omega)]
      exact erase_swap l _ _ (by omega)
  have f1 : opFin (l.eraseIdx (opAt l a)) b st kd now = ((l.eraseIdx (opAt l a)).eraseIdx (opAt (l.eraseIdx (opAt l a)) b), opEnd l[opAt l b].2 st kd now, 0) := by
    unfold opFin; rw [dif_pos hb2, gb]
  have f2 : opFin (l.eraseIdx (opAt l b)) a st kd now = ((l.eraseIdx (opAt l b)).eraseIdx (opAt (l.eraseIdx (opAt l b)) a), opEnd l[opAt l a].2 st kd now, 0) := by
    unfold opFin; rw [dif_pos ha2, ga]
  rw [f1, f2]
  refine ⟨by rw [hsw], rfl, ?_⟩
  have := List.length_eraseIdx_of_lt hb2
  simp only
  omega
end Go.Proofs.Ytnbkpannhcamjaa
