/- Plain facts of format: a format's parts, and a format of parts. -/
import Derived.Test.YtnbkpannhcamjaaHp
namespace Go.Proofs.Ytnbkpannhcamjaa
set_option linter.unusedVariables false
set_option linter.unusedSimpArgs false
open Go Go.RowKit

/-- A part: its kind, its text. -/
abbrev Prt := Int × List UInt8
/-- The words of the kinds 1 to 8. -/
def wordsF : List (List UInt8) := [[77, 69, 84, 72, 79, 68], [72, 79, 83, 84], [80, 65, 84, 72], [84, 65, 82, 71, 69, 84], [83, 84, 65, 84, 85, 83], [86, 69, 82, 83, 73, 79, 78], [84, 82, 65, 67, 69], [84, 79, 79, 75]]
/-- The name of a header that REQ( .. ) says. -/
def reqF (s : List UInt8) : List UInt8 := (s.drop 4).take (s.length - 5)
def isReq (s : List UInt8) : Bool := decide (5 < s.length) && (decide (s.take 4 = [82, 69, 81, 40]) && (decide (s.getLastD 0 = 41) && nameB (reqF s)))
/-- What stands between two signs. -/
def partF (s : List UInt8) : Option Prt := if wordsF.idxOf s < 8 then some ((wordsF.idxOf s : Int) + 1, []) else if isReq s = true then some (9, reqF s) else none
/-- Parts with a text more. -/
def withPr (l : List Prt) (s : List UInt8) : List Prt := match l.getLast? with | some (k, t) => if k = 0 then l.dropLast ++ [(0, t ++ s)] else l ++ [(0, s)] | none => [(0, s)]
/-- A format's parts, from a place on. -/
def compF : Nat → List UInt8 → Nat → List Prt → List Prt × Nat × Int
  | 0, _, _, acc => (acc, 0, 0)
  | _ + 1, [], _, acc => (acc, 0, 0)
  | n + 1, c :: r, at_, acc =>
    if c.toNat < 32 ∨ 126 < c.toNat then ([], at_, 15)
    else if c.toNat ≠ 37 then compF n r (at_ + 1) (withPr acc [c])
    else if (r.takeWhile (fun d => decide (d.toNat ≠ 37))).length = r.length then ([], at_, 3)
    else if r.takeWhile (fun d => decide (d.toNat ≠ 37)) = [] then compF n (r.drop 1) (at_ + 2) (withPr acc [37])
    else match partF (r.takeWhile (fun d => decide (d.toNat ≠ 37))) with
      | none => ([], at_, 3)
      | some p => compF n (r.drop ((r.takeWhile (fun d => decide (d.toNat ≠ 37))).length + 1)) (at_ + (r.takeWhile (fun d => decide (d.toNat ≠ 37))).length + 2) (acc ++ [p])
/-- A format, compiled. -/
def compileF (s : List UInt8) : List Prt × Nat × Int := if 120 < s.length then ([], 0, 6) else compF s.length s 0 []
/-- A text, each sign doubled. -/
def dblF (s : List UInt8) : List UInt8 := s.flatMap fun c => if c.toNat = 37 then [c, c] else [c]
/-- A part, as a format has it. -/
def wrF (p : Prt) : List UInt8 := if p.1 = 0 then dblF p.2 else if p.1 = 9 then [37, 82, 69, 81, 40] ++ p.2 ++ [41, 37] else [37] ++ (wordsF.getD (p.1 - 1).toNat []) ++ [37]
def okF (p : Prt) : Bool := decide (0 ≤ p.1) && decide (p.1 ≤ 9) && (decide (p.1 = 0) || decide (p.1 = 9) || p.2.isEmpty)
def writeF (l : List Prt) : List UInt8 × Int := if l.all okF = true then (l.flatMap wrF, 0) else ([], 2)
theorem dblF_append (a b : List UInt8) : dblF (a ++ b) = dblF a ++ dblF b := by simp [dblF]
theorem withPr_wr (l : List Prt) (s : List UInt8) : (withPr l s).flatMap wrF = l.flatMap wrF ++ dblF s := by
  unfold withPr
  split
  · rename_i k t h
    split
    · rename_i hk
      subst hk
      have hne : l ≠ [] := by intro e; subst e; simp at h
      have hl : l = l.dropLast ++ [(0, t)] := by
        have := List.dropLast_concat_getLast hne
        rw [List.getLast?_eq_some_getLast hne] at h
        injection h with h
        rw [h] at this
        exact this.symm
      conv => rhs; rw [hl]
      rw [List.flatMap_append, List.flatMap_append]
      simp [wrF, dblF_append]
    · rw [List.flatMap_append]; simp [wrF]
  · rename_i h
    have : l = [] := by simpa using h
    subst this
    simp [wrF]
theorem withPr_ok (l : List Prt) (s : List UInt8) (h : l.all okF = true) : (withPr l s).all okF = true := by
  unfold withPr
  split
  · split
    · rename_i k t hl hk
      rw [List.all_append, Bool.and_eq_true]
      refine ⟨?_, by simp [okF]⟩
      rw [List.all_eq_true] at h ⊢
      exact fun x hx => h x (List.dropLast_subset _ hx)
    · rw [List.all_append, h]; simp [okF]
  · simp [okF]
theorem part_wr {s : List UInt8} {p : Prt} (h : partF s = some p) : wrF p = [37] ++ s ++ [37] ∧ okF p = true := by
  unfold partF at h
  split at h
  · rename_i h8
    injection h with h
    subst h
    have h1 : wordsF[wordsF.idxOf s]? = some s := by
      rw [List.getElem?_eq_getElem (show wordsF.idxOf s < wordsF.length from h8), List.getElem_idxOf]
    have e1 : ((wordsF.idxOf s : Int) + 1 - 1).toNat = wordsF.idxOf s := by omega
    have e2 : ¬ ((wordsF.idxOf s : Int) + 1 = 0) := by omega
    have e3 : ¬ ((wordsF.idxOf s : Int) + 1 = 9) := by omega
    refine ⟨?_, ?_⟩
    · simp only [wrF, if_neg e2, if_neg e3, e1]
      rw [List.getD_eq_getElem?_getD, h1, Option.getD_some]
    · simp only [okF, Bool.and_eq_true, decide_eq_true_eq, Bool.or_eq_true]
      exact ⟨⟨by omega, by omega⟩, Or.inr rfl⟩
  · split at h
    · rename_i hr
      injection h with h
      subst h
      simp only [isReq, Bool.and_eq_true, decide_eq_true_eq] at hr
      obtain ⟨h1, h2, h3, h4⟩ := hr
      refine ⟨?_, by simp [okF]⟩
      have hs : s = s.take 4 ++ (s.drop 4).take (s.length - 5) ++ [s.getLastD 0] := by
        have hne : s ≠ [] := by intro e; subst e; simp at h1
        have a1 : s = s.take 4 ++ s.drop 4 := (List.take_append_drop 4 s).symm
        have a2 : s.drop 4 ≠ [] := by intro e; have := congrArg List.length e; simp at this; omega
        have a3 : s.drop 4 = (s.drop 4).dropLast ++ [(s.drop 4).getLast a2] := (List.dropLast_concat_getLast a2).symm
        have a4 : (s.drop 4).dropLast = (s.drop 4).take (s.length - 5) := by rw [List.dropLast_eq_take, List.length_drop]; congr 1
        have a5 : (s.drop 4).getLast a2 = s.getLastD 0 := by
          rw [List.getLast_drop]
          rw [List.getLastD_eq_getLast?, List.getLast?_eq_some_getLast hne]
          rfl
        rw [a4, a5] at a3
        conv => lhs; rw [a1, a3]
        rw [List.append_assoc]
      rw [h2, h3] at hs
      simp only [wrF, reqF]
      conv => rhs; rw [hs]
      simp
    · cases h
theorem takeW_split {r : List UInt8} (h : (r.takeWhile (fun d => decide (d.toNat ≠ 37))).length ≠ r.length) : r = r.takeWhile (fun d => decide (d.toNat ≠ 37)) ++ [37] ++ r.drop ((r.takeWhile (fun d => decide (d.toNat ≠ 37))).length + 1) := by
  induction r with
  | nil => simp at h
  | cons c r ih =>
    by_cases hc : c.toNat = 37
    · have e : c = 37 := by
        have := congrArg UInt8.ofNat hc
        simpa using this
      subst e
      simp
    · rw [List.takeWhile_cons, if_pos (by simpa using hc)] at h ⊢
      simp only [List.length_cons] at h
      have h2 := ih (by omega)
      simp only [List.cons_append, List.length_cons, List.drop_succ_cons]
      exact congrArg (c :: ·) h2
/-- What was compiled is written as the format that it was compiled of. -/
theorem compF_back : ∀ (n : Nat) (r : List UInt8) (at_ : Nat) (acc l : List Prt) (k : Nat), r.length ≤ n → compF n r at_ acc = (l, k, 0) → acc.all okF = true → l.all okF = true ∧ l.flatMap wrF = acc.flatMap wrF ++ r
  | 0, r, at_, acc, l, k, hn, h, ho => by
    obtain rfl : r = [] := List.eq_nil_of_length_eq_zero (by omega)
    simp only [compF, Prod.mk.injEq] at h
    obtain ⟨rfl, -⟩ := h
    exact ⟨ho, by simp⟩
  | n + 1, [], at_, acc, l, k, hn, h, ho => by
    simp only [compF, Prod.mk.injEq] at h
    obtain ⟨rfl, -⟩ := h
    exact ⟨ho, by simp⟩
  | n + 1, c :: r, at_, acc, l, k, hn, h, ho => by
    simp only [List.length_cons] at hn
    rw [compF] at h
    split at h
    · simp at h
    · split at h
      · rename_i h37
        obtain ⟨a, b⟩ := compF_back n r _ _ l k (by omega) h (withPr_ok _ _ ho)
        refine ⟨a, ?_⟩
        rw [b, withPr_wr]
        simp [dblF, h37]
      · rename_i h37
        have e : c = 37 := by
          have := congrArg UInt8.ofNat (Decidable.not_not.1 h37)
          simpa using this
        subst e
        split at h
        · simp at h
        · rename_i hl
          have hsp := takeW_split hl
          split at h
          · rename_i he
            obtain ⟨a, b⟩ := compF_back n (r.drop 1) _ _ l k (by rw [List.length_drop]; omega) h (withPr_ok _ _ ho)
            refine ⟨a, ?_⟩
            rw [b, withPr_wr]
            rw [he] at hsp
            conv => rhs; rw [hsp]
            simp [dblF]
          · split at h
            · simp at h
            · rename_i p hp
              obtain ⟨w1, w2⟩ := part_wr hp
              obtain ⟨a, b⟩ := compF_back n _ _ _ l k (by rw [List.length_drop]; omega) h (by rw [List.all_append, ho]; simp [w2])
              refine ⟨a, ?_⟩
              rw [b, List.flatMap_append]
              conv => rhs; rw [hsp]
              simp [w1]
theorem compileF_back {s : List UInt8} {l : List Prt} {k : Nat} (h : compileF s = (l, k, 0)) : writeF l = (s, 0) := by
  unfold compileF at h
  split at h
  · simp at h
  · obtain ⟨a, b⟩ := compF_back s.length s 0 [] l k (Nat.le_refl _) h (by simp)
    rw [writeF, if_pos a, b]
    simp
end Go.Proofs.Ytnbkpannhcamjaa
