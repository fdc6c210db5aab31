/- Texts put together: Fr. -/
import Derived.Test.YtmejcchkoflciaaDoorG01
import Derived.Test.YtmejcchkoflciaaDoorG03
import Derived.Lib.ReplaceLaws
import Derived.Lib.CountLaws
namespace Go.Proofs.YtmejcchkoflciaaDoor
set_option linter.unusedVariables false
set_option linter.unusedSimpArgs false
open Go Go.RowKit

theorem cutS_tw : ∀ r : List UInt8, cutS [37] r = (r.takeWhile (fun d => decide (d.toNat ≠ 37)), if (r.takeWhile (fun d => decide (d.toNat ≠ 37))).length = r.length then [] else r.drop ((r.takeWhile (fun d => decide (d.toNat ≠ 37))).length + 1), decide ((r.takeWhile (fun d => decide (d.toNat ≠ 37))).length ≠ r.length))
  | [] => rfl
  | b :: l => by
    by_cases h : b.toNat = 37
    · have e : b = 37 := by
        have := congrArg UInt8.ofNat h
        simpa using this
      subst e
      simp [cutS]
    · have hp : List.isPrefixOf [37] (b :: l) = false := by
        rw [Bool.eq_false_iff]
        intro hp
        rw [List.isPrefixOf_iff_prefix] at hp
        obtain ⟨t, ht⟩ := hp
        simp at ht
        exact h (by rw [← ht.1]; rfl)
      have h2 : decide (b.toNat ≠ 37) = true := by simpa using h
      rw [cutS, if_neg (by rw [hp]; decide), cutS_tw l, List.takeWhile_cons, if_pos h2]
      simp only [List.length_cons, Nat.add_right_cancel_iff, List.drop_succ_cons, ne_eq]
/-- The part that stands for what is between two signs. -/
def toldF (s : List UInt8) : Option Prt := if s = [] then some (0, [37]) else partF s
/-- All parts and one more. -/
def withF (acc : List Prt) (p : Prt) : List Prt := if p.1 = 0 then withPr acc p.2 else acc ++ [p]
/-- What a text that is not empty begins with, what is behind, and the error. -/
def takeF (s : List UInt8) : Prt × List UInt8 × Int :=
  if (s.headD 0).toNat = 37 then
    (if (cutS [37] (s.drop 1)).2.2 = true then
      (match toldF (cutS [37] (s.drop 1)).1 with
       | some p => (p, (cutS [37] (s.drop 1)).2.1, 0)
       | none => ((0, []), [], 3))
     else ((0, []), [], 3))
  else if (s.headD 0).toNat < 32 ∨ 126 < (s.headD 0).toNat then ((0, []), [], 15) else ((0, s.take 1), s.drop 1, 0)
theorem partF_kind {s : List UInt8} {p : Prt} (h : partF s = some p) : p.1 ≠ 0 ∧ p.2.length ≤ s.length ∧ 1 ≤ p.1 ∧ p.1 ≤ 9 := by
  unfold partF at h
  split at h
  · rename_i h8
    injection h with h
    subst h
    exact ⟨by simp only; omega, by simp, by simp only; omega, by simp only; omega⟩
  · split at h
    · injection h with h
      subst h
      refine ⟨by simp, ?_, by simp, by simp⟩
      simp only [reqF, List.length_take, List.length_drop]
      omega
    · cases h
theorem tw_le (r : List UInt8) : (r.takeWhile (fun d => decide (d.toNat ≠ 37))).length ≤ r.length := by
  induction r with
  | nil => simp
  | cons c r ih =>
    rw [List.takeWhile_cons]
    split
    · simpa using ih
    · simp
theorem tw_mem : ∀ {r : List UInt8} {c : UInt8}, c ∈ r.takeWhile (fun d => decide (d.toNat ≠ 37)) → c.toNat ≠ 37
  | [], c, h => by cases h
  | b :: r, c, h => by
    rw [List.takeWhile_cons] at h
    split at h
    · rename_i hb
      rcases List.mem_cons.1 h with rfl | h
      · simpa using hb
      · exact tw_mem h
    · cases h
theorem compF_step (n : Nat) (c : UInt8) (r : List UInt8) (at_ : Nat) (acc : List Prt) :
    compF (n + 1) (c :: r) at_ acc = if (takeF (c :: r)).2.2 = 0 then compF n (takeF (c :: r)).2.1 (at_ + ((c :: r).length - (takeF (c :: r)).2.1.length)) (withF acc (takeF (c :: r)).1) else ([], at_, (takeF (c :: r)).2.2) := by
  rw [compF]
  unfold takeF
  simp only [List.headD_cons, List.drop_succ_cons, List.drop_zero, List.length_cons]
  by_cases h37 : c.toNat = 37
  · rw [if_neg (show ¬ (c.toNat < 32 ∨ 126 < c.toNat) by omega), if_neg (show ¬ c.toNat ≠ 37 by omega), if_pos h37, cutS_tw]
    generalize hk : r.takeWhile (fun d => decide (d.toNat ≠ 37)) = k
    have hkl : k.length ≤ r.length := by rw [← hk]; exact tw_le r
    simp only [ne_eq, decide_eq_true_eq]
    by_cases hl : k.length = r.length
    · rw [if_pos hl, if_neg (show ¬ ¬ k.length = r.length from fun h => h hl)]
      rfl
    · rw [if_neg hl, if_pos hl]
      by_cases he : k = []
      · subst he
        simp only [toldF, if_true, withF, List.length_nil, List.length_drop]
        rw [if_neg (show ¬ (0 = r.length) from fun e => hl (by simpa using e))]
        have hpos : 0 < r.length := by
          have : ([] : List UInt8).length ≠ r.length := hl
          simp only [List.length_nil] at this
          omega
        congr 1
        simp only [List.length_drop]
        omega
      · rw [if_neg he, toldF, if_neg he]
        cases hp : partF k with
        | none => rfl
        | some p =>
          simp only [if_true, withF]
          rw [if_neg (partF_kind hp).1, if_neg hl]
          congr 1
          simp only [List.length_drop]
          omega
  · rw [if_neg h37]
    by_cases hr : c.toNat < 32 ∨ 126 < c.toNat
    · rw [if_pos hr, if_pos hr]
      rfl
    · rw [if_neg hr, if_neg hr, if_pos (show c.toNat ≠ 37 from h37)]
      simp only [if_true, withF, List.take_succ_cons, List.take_zero]
      congr 1
      omega
/-- How many bytes the parts' texts have. -/
def szF (l : List Prt) : Nat := (l.map fun p => p.2.length).sum
theorem szF_append (a b : List Prt) : szF (a ++ b) = szF a + szF b := by simp [szF]
theorem withF_sz (acc : List Prt) (p : Prt) : szF (withF acc p) = szF acc + p.2.length ∧ (withF acc p).length ≤ acc.length + 1 := by
  unfold withF withPr
  split
  · split
    · rename_i k t h
      split
      · rename_i hk
        subst hk
        have hne : acc ≠ [] := by intro e; subst e; simp at h
        have hl : acc = acc.dropLast ++ [(0, t)] := by
          have := List.dropLast_concat_getLast hne
          rw [List.getLast?_eq_some_getLast hne] at h
          injection h with h
          rw [h] at this
          exact this.symm
        refine ⟨?_, by simp only [List.length_append, List.length_dropLast, List.length_singleton]; omega⟩
        conv => rhs; rw [hl]
        simp only [szF_append]
        simp [szF]
        omega
      · exact ⟨by simp [szF], by simp⟩
    · rename_i h
      have : acc = [] := by simpa using h
      subst this
      exact ⟨by simp [szF], by simp⟩
  · exact ⟨by simp [szF], by simp⟩
theorem takeF_ok {s : List UInt8} (hs : s ≠ []) (h : (takeF s).2.2 = 0) : (takeF s).2.1.length < s.length ∧ (takeF s).1.2.length + (takeF s).2.1.length ≤ s.length ∧ okF (takeF s).1 = true := by
  obtain ⟨c, r, rfl⟩ := List.exists_cons_of_ne_nil hs
  unfold takeF at h ⊢
  simp only [List.headD_cons, List.drop_succ_cons, List.drop_zero] at h ⊢
  by_cases h37 : c.toNat = 37
  · rw [if_pos h37] at h ⊢
    rw [cutS_tw] at h ⊢
    generalize hk : r.takeWhile (fun d => decide (d.toNat ≠ 37)) = k at h ⊢
    have hkl : k.length ≤ r.length := by rw [← hk]; exact tw_le r
    simp only [ne_eq, decide_eq_true_eq] at h ⊢
    by_cases hl : k.length = r.length
    · rw [if_neg (show ¬ ¬ k.length = r.length from fun h => h hl)] at h
      cases h
    · rw [if_pos hl] at h ⊢
      cases hp : toldF k with
      | none => rw [hp] at h; cases h
      | some p =>
        simp only [if_neg hl, List.length_drop, List.length_cons]
        unfold toldF at hp
        split at hp
        · injection hp with hp
          subst hp
          rename_i he
          subst he
          have h0 : 0 < r.length := by
            have : ([] : List UInt8).length ≠ r.length := hl
            simp only [List.length_nil] at this
            omega
          simp only [List.length_nil, List.length_singleton]
          exact ⟨by omega, by omega, rfl⟩
        · have h1 := (partF_kind hp).2.1
          exact ⟨by omega, by omega, (part_wr hp).2⟩
  · rw [if_neg h37] at h ⊢
    by_cases hr : c.toNat < 32 ∨ 126 < c.toNat
    · rw [if_pos hr] at h; cases h
    · rw [if_neg hr]
      simp only [List.length_cons, List.take_succ_cons, List.take_zero, List.length_nil]
      exact ⟨by omega, by omega, by simp [okF]⟩
theorem withF_ok {acc : List Prt} {p : Prt} (h : acc.all okF = true) (hp : okF p = true) : (withF acc p).all okF = true := by
  unfold withF
  split
  · exact withPr_ok _ _ h
  · rw [List.all_append, h]; simp [hp]
theorem compF_len : ∀ (n : Nat) (r : List UInt8) (at_ : Nat) (acc : List Prt), szF acc + r.length ≤ 120 → acc.length + r.length ≤ 120 → acc.all okF = true → szF (compF n r at_ acc).1 ≤ 120 ∧ (compF n r at_ acc).1.length ≤ 120 ∧ (compF n r at_ acc).1.all okF = true ∧ ((compF n r at_ acc).2.2 ≠ 0 → (compF n r at_ acc).1 = [])
  | 0, r, at_, acc, h1, h2, h3 => ⟨by simp [compF]; omega, by simp [compF]; omega, by simpa [compF] using h3, by simp [compF]⟩
  | n + 1, [], at_, acc, h1, h2, h3 => ⟨by simp [compF]; simpa using h1, by simp [compF]; simpa using h2, by simpa [compF] using h3, by simp [compF]⟩
  | n + 1, c :: r, at_, acc, h1, h2, h3 => by
    rw [compF_step]
    split
    · rename_i h
      obtain ⟨a, b, d⟩ := takeF_ok (by simp) h
      obtain ⟨e, f⟩ := withF_sz acc (takeF (c :: r)).1
      exact compF_len n _ _ _ (by omega) (by omega) (withF_ok h3 d)
    · rename_i h
      exact ⟨by simp [szF], by simp, by simp, by simp⟩
theorem compileF_len (s : List UInt8) : szF (compileF s).1 ≤ 120 ∧ (compileF s).1.length ≤ 120 ∧ (compileF s).1.all okF = true ∧ ((compileF s).2.2 ≠ 0 → (compileF s).1 = []) := by
  unfold compileF
  split
  · exact ⟨by simp [szF], by simp, by simp, by simp⟩
  · exact compF_len _ _ _ _ (by simp [szF]; omega) (by simp; omega) (by simp)
theorem szF_mem {l : List Prt} {p : Prt} (h : p ∈ l) : p.2.length ≤ szF l := by
  induction l with
  | nil => cases h
  | cons q r ih =>
    have e : szF (q :: r) = q.2.length + szF r := by simp [szF]
    rw [e]
    rcases List.mem_cons.1 h with rfl | h
    · omega
    · have := ih h; omega
/-- What the library's function makes of a text: each sign doubled. -/
theorem replace_dbl : ∀ (n : Nat) (s : List UInt8), s.length ≤ n → Lib.replaceK [37] [37, 37] (Lib.count s [37]) s = dblF s := by
  intro n
  induction n with
  | zero =>
    intro s h
    obtain rfl : s = [] := List.eq_nil_of_length_eq_zero (by omega)
    rfl
  | succ n ih =>
    intro s h
    have hd : ∀ l : List UInt8, (∀ c ∈ l, c ≠ 37) → dblF l = l := by
      intro l hl
      induction l with
      | nil => rfl
      | cons c r ih2 =>
        have h1 : c ≠ 37 := hl c (by simp)
        have h2 : ¬ c.toNat = 37 := fun e => h1 (by
          have := congrArg UInt8.ofNat e
          simpa using this)
        have h3 := ih2 (fun x hx => hl x (by simp [hx]))
        have e : dblF (c :: r) = [c] ++ dblF r := by simp [dblF, h2]
        rw [e, h3]
        rfl
    have hcut := cut_eq (sep := [37]) (by simp) s
    have hge := Lib.index_ge s [37]
    by_cases hm : Lib.index s [37] = -1
    · rw [Lib.count_miss hm, Lib.replaceK]
      refine (hd s fun c hc e => ?_).symm
      subst e
      rw [Lib.cut, hm, if_neg (by omega)] at hcut
      have h2 := congrArg (fun x => x.2.2) hcut
      simp only at h2
      have h3 := cutS_tw s
      rw [← hcut] at h3
      have h4 := congrArg (fun x => x.2.2) h3
      simp only [ne_eq] at h4
      have h5 : (s.takeWhile (fun d => decide (d.toNat ≠ 37))).length = s.length := by
        have := of_decide_eq_false h4.symm
        exact Decidable.not_not.1 this
      have h6 : s.takeWhile (fun d => decide (d.toNat ≠ 37)) = s := by
        have := List.takeWhile_prefix (l := s) (fun d => decide (d.toNat ≠ 37))
        exact this.eq_of_length h5
      rw [← h6] at hc
      exact absurd rfl (tw_mem hc)
    · obtain ⟨i, hi⟩ : ∃ i : Nat, Lib.index s [37] = i := ⟨(Lib.index s [37]).toNat, by omega⟩
      rw [Lib.cut, hi, if_pos (by omega), Int.toNat_natCast] at hcut
      have hroom := Lib.index_room s [37] (by omega)
      rw [hi] at hroom
      have hrl : i + 1 ≤ s.length := by simp only [List.length_singleton] at hroom; omega
      rw [cutS_tw] at hcut
      have h1 := congrArg (fun x => x.1) hcut
      have h2 := congrArg (fun x => x.2.2) hcut
      simp only at h1 h2
      have hlen : (s.takeWhile (fun d => decide (d.toNat ≠ 37))).length ≠ s.length := of_decide_eq_true h2.symm
      have hsp := takeW_split hlen
      have hl : (s.takeWhile (fun d => decide (d.toNat ≠ 37))).length = i := by
        rw [← h1, List.length_take]; omega
      rw [Lib.count_hit (by simp) hi, Nat.add_comm, Lib.replaceK_hit _ _ _ _ i hi, show (i + ([37] : List UInt8).length) = i + 1 from rfl, ih _ (by rw [List.length_drop]; omega)]
      conv => rhs; rw [hsp]
      rw [hl, ← h1, dblF_append, dblF_append, hd (s.take i) (fun c hc e => by
        subst e
        rw [h1] at hc
        exact absurd rfl (tw_mem hc))]
      rfl
theorem replaceAll_dbl (s : List UInt8) : Lib.replaceAll s [37] [37, 37] = dblF s := by
  unfold Lib.replaceAll Lib.replace
  rw [if_neg (by decide)]
  have : Lib.replaceNum s [37] (-1) = Lib.count s [37] := by unfold Lib.replaceNum; rw [if_pos (Or.inl (by omega))]
  rw [this]
  exact replace_dbl s.length s (Nat.le_refl _)
theorem dblF_len (s : List UInt8) : (dblF s).length ≤ 2 * s.length := by
  induction s with
  | nil => simp [dblF]
  | cons c r ih =>
    have e : dblF (c :: r) = (if c.toNat = 37 then [c, c] else [c]) ++ dblF r := by simp [dblF]
    rw [e, List.length_append, List.length_cons]
    split <;> simp <;> omega
end Go.Proofs.YtmejcchkoflciaaDoor
