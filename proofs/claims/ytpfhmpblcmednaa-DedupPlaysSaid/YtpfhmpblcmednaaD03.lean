/- Texts put together: Mp Ep. -/
import Derived.Test.YtpfhmpblcmednaaD01
import Derived.Lib.IndexMore
import Derived.Lib.IndexLaws
namespace Go.Proofs.Ytpfhmpblcmednaa
set_option linter.unusedVariables false

def inB (a b : Nat) (c : UInt8) : Bool := decide (a ≤ c.toNat) && decide (c.toNat ≤ b)
def methodB (l : List UInt8) : Bool := !l.isEmpty && (decide (l.length ≤ 8) && l.all (inB 65 90))
def pathB (l : List UInt8) : Bool := List.isPrefixOf [47] l && (decide (l.length ≤ 64) && l.all (inB 33 126))
def tailChk (L : List Hd) (b : List UInt8) : Int := if checkS L = 0 then (if 200 < b.length then 6 else 0) else checkS L
def chkQ (m h p : List UInt8) (L : List Hd) (b : List UInt8) : Int := if methodB m = true then (if nameB h = true then (if pathB p = true then tailChk L b else 12) else 7) else 3
def chkP (n : Int) (L : List Hd) (b : List UInt8) : Int := if n < 100 ∨ 599 < n then 12 else tailChk L b
def headT (h : Hd) : List UInt8 := h.1 ++ [58, 32] ++ h.2 ++ [10]
def headsT (L : List Hd) : List UInt8 := L.flatMap headT
def tailT (L : List Hd) (b : List UInt8) : List UInt8 := headsT L ++ [10] ++ b
def textQ (m h p : List UInt8) (L : List Hd) (b : List UInt8) : List UInt8 := m ++ [32] ++ h ++ [32] ++ p ++ [10] ++ tailT L b
def textP (d : List UInt8) (L : List Hd) (b : List UInt8) : List UInt8 := d ++ [10] ++ tailT L b
/-- What stands ahead of a mark, and behind it. -/
def cutS (sep : List UInt8) : List UInt8 → List UInt8 × List UInt8 × Bool
  | [] => ([], [], false)
  | b :: l => if sep.isPrefixOf (b :: l) = true then ([], (b :: l).drop sep.length, true) else (b :: (cutS sep l).1, (cutS sep l).2.1, (cutS sep l).2.2)
theorem isPrefixOf_nil' {sep : List UInt8} (h : sep ≠ []) : sep.isPrefixOf [] = false := by cases sep <;> simp_all
theorem cut_eq {sep : List UInt8} (hs : sep ≠ []) (s : List UInt8) : Lib.cut s sep = cutS sep s := by
  induction s with
  | nil =>
    have : Lib.index [] sep = -1 := by cases sep <;> simp_all [Lib.index]
    rw [Lib.cut, this, if_neg (by omega)]; rfl
  | cons b l ih =>
    have hge := Lib.index_ge l sep
    rw [cutS, ← ih]
    by_cases hp : sep.isPrefixOf (b :: l) = true
    · rw [if_pos hp, Lib.cut, Lib.index, if_pos hp]; simp
    · rw [if_neg hp, Lib.cut, Lib.cut, Lib.index, if_neg hp]
      by_cases hm : Lib.index l sep = -1
      · rw [hm]; simp
      · have h0 : 0 ≤ Lib.index l sep := by omega
        have hb : (Lib.index l sep == -1) = false := by simpa using hm
        rw [hb, if_pos h0]
        simp only [Bool.false_eq_true, if_false]
        rw [if_pos (by omega)]
        obtain ⟨k, hk⟩ := Int.eq_ofNat_of_zero_le h0
        rw [hk]
        have e1 : ((k : Int) + 1).toNat = k + 1 := by omega
        rw [e1, Int.toNat_natCast]
        simp [Nat.add_right_comm]
theorem cutS_hit {sep : List UInt8} (hs : sep ≠ []) : ∀ (s : List UInt8) (i : Nat), sep.isPrefixOf (s.drop i) = true → (∀ j, j < i → sep.isPrefixOf (s.drop j) = false) → cutS sep s = (s.take i, s.drop (i + sep.length), true)
  | [], i, hp, _ => by rw [List.drop_nil, isPrefixOf_nil' hs] at hp; cases hp
  | b :: l, 0, hp, _ => by rw [cutS, if_pos (by simpa using hp)]; simp
  | b :: l, i + 1, hp, hn => by
    have h0 := hn 0 (by omega)
    rw [List.drop_zero] at h0
    have ih := cutS_hit hs l i (by simpa using hp) (fun j hj => by have := hn (j + 1) (by omega); simpa using this)
    rw [cutS, if_neg (by rw [h0]; decide), ih]
    simp [Nat.add_right_comm]
theorem cutS_miss {sep : List UInt8} : ∀ (s : List UInt8), (∀ j, j < s.length → sep.isPrefixOf (s.drop j) = false) → cutS sep s = (s, [], false)
  | [], _ => rfl
  | b :: l, hn => by
    have h0 := hn 0 (by simp)
    rw [List.drop_zero] at h0
    have ih := cutS_miss l (fun j hj => by have := hn (j + 1) (by simp; omega); simpa using this)
    rw [cutS, if_neg (by rw [h0]; decide), ih]
/-- Each cut puts together again. -/
theorem cutS_found {sep : List UInt8} (hs : sep ≠ []) : ∀ (s : List UInt8), (cutS sep s).2.2 = true → s = (cutS sep s).1 ++ sep ++ (cutS sep s).2.1
  | [], h => by cases h
  | b :: l, h => by
    rw [cutS] at h ⊢
    by_cases hp : sep.isPrefixOf (b :: l) = true
    · rw [if_pos hp]
      obtain ⟨t, ht⟩ := List.isPrefixOf_iff_prefix.1 hp
      rw [← ht]; simp
    · rw [if_neg hp] at h ⊢
      have ih := cutS_found hs l h
      simp only [List.cons_append]
      rw [← ih]
theorem cutS_lost {sep : List UInt8} : ∀ (s : List UInt8), (cutS sep s).2.2 = false → (cutS sep s).1 = s ∧ (cutS sep s).2.1 = []
  | [], _ => ⟨rfl, rfl⟩
  | b :: l, h => by
    rw [cutS] at h ⊢
    by_cases hp : sep.isPrefixOf (b :: l) = true
    · rw [if_pos hp] at h; cases h
    · rw [if_neg hp] at h ⊢
      obtain ⟨h1, h2⟩ := cutS_lost l h
      exact ⟨by simp [h1], h2⟩
theorem cutS_one {c : UInt8} : ∀ (a b : List UInt8), (∀ x ∈ a, x ≠ c) → cutS [c] (a ++ c :: b) = (a, b, true)
  | [], b, _ => by rw [List.nil_append, cutS, if_pos (by simp)]; simp
  | x :: a, b, h => by
    have ih := cutS_one a b (fun y hy => h y (by simp [hy]))
    have hx : ¬ List.isPrefixOf [c] (x :: (a ++ c :: b)) = true := by simp; exact fun e => h x (by simp) e.symm
    rw [List.cons_append, cutS, if_neg hx, ih]
theorem cutS_two {c d : UInt8} : ∀ (a b : List UInt8), (∀ x ∈ a, x ≠ c) → cutS [c, d] (a ++ c :: d :: b) = (a, b, true)
  | [], b, _ => by rw [List.nil_append, cutS, if_pos (by simp)]; simp
  | x :: a, b, h => by
    have ih := cutS_two (d := d) a b (fun y hy => h y (by simp [hy]))
    have hx : ¬ List.isPrefixOf [c, d] (x :: (a ++ c :: d :: b)) = true := by
      rw [List.isPrefixOf_cons_cons]; simp; intro e; exact absurd e.symm (h x (by simp))
    rw [List.cons_append, cutS, if_neg hx, ih]
/-- Headers, cut off. -/
def rhM : Nat → List Hd → List UInt8 → List Hd × Bool × List UInt8
  | 0, _, _ => ([], false, [])
  | k + 1, acc, s =>
    if (cutS [10] s).1 = [] then (acc, (cutS [10] s).2.2, (cutS [10] s).2.1)
    else if (cutS [58, 32] (cutS [10] s).1).2.2 = false ∨ acc.length = 16 then ([], false, (cutS [10] s).2.1)
    else rhM k (acc ++ [((cutS [58, 32] (cutS [10] s).1).1, (cutS [58, 32] (cutS [10] s).1).2.1)]) (cutS [10] s).2.1
def rhR : Nat → List Hd → List UInt8 → List Hd × List UInt8 × Bool
  | 0, _, _ => ([], [], false)
  | k + 1, acc, s =>
    if (cutS [10] s).2.2 = false then ([], [], false)
    else if (cutS [10] s).1 = [] then (acc, (cutS [10] s).2.1, true)
    else if (cutS [58, 32] (cutS [10] s).1).2.2 = false then ([], [], false)
    else rhR k (acc ++ [((cutS [58, 32] (cutS [10] s).1).1, (cutS [58, 32] (cutS [10] s).1).2.1)]) (cutS [10] s).2.1
def okHd (h : Hd) : Prop := nameB h.1 = true ∧ valueB h.2 = true
theorem faultS_ok : ∀ (L : List Hd), faultS L = 0 → ∀ h ∈ L, okHd h
  | [], _, h, hh => by cases hh
  | x :: r, hf, h, hh => by
    rw [faultS] at hf
    by_cases h1 : nameB x.1 = false
    · rw [if_pos h1] at hf; omega
    · rw [if_neg h1] at hf
      by_cases h2 : valueB x.2 = false
      · rw [if_pos h2] at hf; omega
      · rw [if_neg h2] at hf
        rcases List.mem_cons.1 hh with rfl | hh
        · exact ⟨by simpa using h1, by simpa using h2⟩
        · exact faultS_ok r hf h hh
theorem checkS_ok {L : List Hd} (h : checkS L = 0) : L.length ≤ 16 ∧ ∀ x ∈ L, okHd x := by
  rw [checkS] at h
  by_cases h16 : 16 < L.length
  · rw [if_pos h16] at h; omega
  · rw [if_neg h16] at h; exact ⟨by omega, faultS_ok L h⟩
theorem all_ne {p : UInt8 → Bool} {l : List UInt8} {c : UInt8} (h : l.all p = true) (hc : p c = false) : ∀ x ∈ l, x ≠ c := fun x hx e => by
  have := List.all_eq_true.1 h x hx
  rw [e, hc] at this; cases this
theorem nameB_all {l : List UInt8} (h : nameB l = true) : l ≠ [] ∧ l.all inNameB = true := by
  simp only [nameB, Bool.and_eq_true] at h
  exact ⟨by intro e; rw [e] at h; simp at h, h.2.2⟩
theorem valueB_all {l : List UInt8} (h : valueB l = true) : l.all inValueB = true := by
  simp only [valueB, Bool.and_eq_true] at h; exact h.2.1
theorem line_cut {h : Hd} (r : List UInt8) (hk : okHd h) : cutS [10] (headT h ++ r) = (h.1 ++ [58, 32] ++ h.2, r, true) ∧ cutS [58, 32] (h.1 ++ [58, 32] ++ h.2) = (h.1, h.2, true) ∧ h.1 ++ [58, 32] ++ h.2 ≠ [] := by
  obtain ⟨h1, h2⟩ := hk
  obtain ⟨n0, n1⟩ := nameB_all h1
  have v1 := valueB_all h2
  refine ⟨?_, ?_, by simp⟩
  · have := cutS_one (c := 10) (h.1 ++ [58, 32] ++ h.2) r (fun x hx => by
      rcases List.mem_append.1 hx with hx | hx
      · rcases List.mem_append.1 hx with hx | hx
        · exact all_ne n1 (by decide) x hx
        · rcases (by simpa using hx : x = 58 ∨ x = 32) with rfl | rfl <;> decide
      · exact all_ne v1 (by decide) x hx)
    rw [← this]; simp [headT]
  · have := cutS_two (c := 58) (d := 32) h.1 h.2 (all_ne n1 (by decide))
    rw [← this]; simp
theorem rhM_text (b : List UInt8) : ∀ (L acc : List Hd) (k : Nat), (∀ x ∈ L, okHd x) → acc.length + L.length ≤ 16 → 17 ≤ k + acc.length → rhM k acc (tailT L b) = (acc ++ L, true, b)
  | [], acc, k, _, h16, hk => by
    obtain ⟨k, rfl⟩ : ∃ m, k = m + 1 := ⟨k - 1, by simp at h16; omega⟩
    have hc : cutS [10] (tailT [] b) = ([], b, true) := cutS_one (c := 10) [] b (by simp)
    rw [rhM, hc, if_pos rfl]; simp
  | x :: L, acc, k, hL, h16, hk => by
    rw [List.length_cons] at h16
    obtain ⟨k, rfl⟩ : ∃ m, k = m + 1 := ⟨k - 1, by omega⟩
    have e : tailT (x :: L) b = headT x ++ tailT L b := by simp [tailT, headsT]
    obtain ⟨h1, h2, h3⟩ := line_cut (tailT L b) (hL x (by simp))
    have ih := rhM_text b L (acc ++ [(x.1, x.2)]) k (fun y hy => hL y (by simp [hy])) (by simp; omega) (by simp; omega)
    rw [rhM, e, h1]
    simp only []
    rw [if_neg h3, h2, if_neg (by simp; omega)]
    rw [ih]; simp
theorem rhR_text (b : List UInt8) : ∀ (L acc : List Hd) (k : Nat), (∀ x ∈ L, okHd x) → acc.length + L.length ≤ 16 → 17 ≤ k + acc.length → rhR k acc (tailT L b) = (acc ++ L, b, true)
  | [], acc, k, _, h16, hk => by
    obtain ⟨k, rfl⟩ : ∃ m, k = m + 1 := ⟨k - 1, by simp at h16; omega⟩
    have hc : cutS [10] (tailT [] b) = ([], b, true) := cutS_one (c := 10) [] b (by simp)
    rw [rhR, hc]; simp
  | x :: L, acc, k, hL, h16, hk => by
    rw [List.length_cons] at h16
    obtain ⟨k, rfl⟩ : ∃ m, k = m + 1 := ⟨k - 1, by omega⟩
    have e : tailT (x :: L) b = headT x ++ tailT L b := by simp [tailT, headsT]
    obtain ⟨h1, h2, h3⟩ := line_cut (tailT L b) (hL x (by simp))
    have ih := rhR_text b L (acc ++ [(x.1, x.2)]) k (fun y hy => hL y (by simp [hy])) (by simp; omega) (by simp; omega)
    rw [rhR, e, h1]
    simp only []
    rw [if_neg (by simp), if_neg h3, h2, if_neg (by simp)]
    rw [ih]; simp
theorem cutS_nil (sep : List UInt8) : cutS sep [] = ([], [], false) := rfl
theorem rhM_nil (k : Nat) (acc : List Hd) : (rhM k acc []).2.1 = false := by
  cases k with
  | zero => rfl
  | succ k => rw [rhM, cutS_nil, if_pos rfl]
theorem rhM_back : ∀ (k : Nat) (acc : List Hd) (s : List UInt8) (L : List Hd) (b : List UInt8), rhM k acc s = (L, true, b) → ∃ L', L = acc ++ L' ∧ s = tailT L' b
  | 0, acc, s, L, b, h => by simp [rhM] at h
  | k + 1, acc, s, L, b, h => by
    rw [rhM] at h
    by_cases h0 : (cutS [10] s).1 = []
    · rw [if_pos h0] at h
      simp only [Prod.mk.injEq] at h
      obtain ⟨rfl, h2, rfl⟩ := h
      have := cutS_found (sep := [10]) (by simp) s h2
      rw [h0] at this
      exact ⟨[], by simp, this.trans (by simp [tailT, headsT])⟩
    · rw [if_neg h0] at h
      by_cases h1 : (cutS [58, 32] (cutS [10] s).1).2.2 = false ∨ acc.length = 16
      · rw [if_pos h1] at h; simp at h
      · rw [if_neg h1] at h
        obtain ⟨L', e1, e2⟩ := rhM_back k _ _ L b h
        have hf : (cutS [10] s).2.2 = true := by
          cases hq : (cutS [10] s).2.2 with
          | true => rfl
          | false =>
            have hl := (cutS_lost s hq).2
            rw [hl] at h
            have := rhM_nil k (acc ++ [((cutS [58, 32] (cutS [10] s).1).1, (cutS [58, 32] (cutS [10] s).1).2.1)])
            rw [h] at this; cases this
        have hn : (cutS [58, 32] (cutS [10] s).1).2.2 = true := by
          cases hq : (cutS [58, 32] (cutS [10] s).1).2.2 with
          | true => rfl
          | false => exact absurd (Or.inl hq) h1
        have a1 := cutS_found (sep := [10]) (by simp) s hf
        have a2 := cutS_found (sep := [58, 32]) (by simp) _ hn
        refine ⟨((cutS [58, 32] (cutS [10] s).1).1, (cutS [58, 32] (cutS [10] s).1).2.1) :: L', by rw [e1]; simp, ?_⟩
        have e3 : tailT (((cutS [58, 32] (cutS [10] s).1).1, (cutS [58, 32] (cutS [10] s).1).2.1) :: L') b = headT ((cutS [58, 32] (cutS [10] s).1).1, (cutS [58, 32] (cutS [10] s).1).2.1) ++ tailT L' b := by simp [tailT, headsT]
        rw [e3, ← e2]
        conv => lhs; rw [a1]
        conv => lhs; rw [a2]
        simp [headT]
end Go.Proofs.Ytpfhmpblcmednaa
namespace Go.Proofs.Ytpfhmpblcmednaa
set_option linter.unusedVariables false

/-- A predicate. -/
structure Pd where
  k : Int
  n : List UInt8
  v : List UInt8
  deriving DecidableEq
def cE (k : Int) (n v : List UInt8) : Int :=
  if k = 1 then (if n = [] then (if methodB v = true then 0 else 3) else 2)
  else if k = 2 then (if n = [] then (if nameB v = true then 0 else 7) else 2)
  else if k = 3 then (if n = [] then (if pathB v = true then 0 else 12) else 2)
  else if k = 4 then (if n = [] then (if pathB v = true then 0 else 12) else 2)
  else if k = 5 then (if nameB n = true then (if valueB v = true then 0 else 15) else 7)
  else if k = 6 then (if v = [] then (if nameB n = true then 0 else 7) else 2)
  else 2
def memH (L : List Hd) (n v : List UInt8) : Bool := L.contains (n, v)
def mE (k : Int) (n v m h p : List UInt8) (L : List Hd) : Bool :=
  if k = 1 then m == v else if k = 2 then h == v else if k = 3 then p == v else if k = 4 then List.isPrefixOf v p else if k = 5 then memH L n v else if k = 6 then (getH L n).2 else false
def allE (l : List Pd) (m h p : List UInt8) (L : List Hd) : Bool := l.all fun e => mE e.k e.n e.v m h p L
def fewP (l : List Pd) : Bool := decide (l.length ≤ 20) && l.all fun e => decide (e.n.length + e.v.length ≤ 400)
def smallP (l : List Pd) : Prop := ∀ e ∈ l, e.n.length ≤ 140737488351232 ∧ e.v.length ≤ 140737488351232
theorem smallP.at_ {l : List Pd} (h : smallP l) {k : Nat} (hk : k < l.length) : l[k].n.length ≤ 140737488351232 ∧ l[k].v.length ≤ 140737488351232 := h _ (List.getElem_mem hk)
theorem fewP_len {l : List Pd} (h : fewP l = true) : l.length ≤ 20 := by
  simp [fewP] at h; exact h.1
theorem memH_allS (L : List Hd) (n v : List UInt8) : (allS L n).contains v = memH L n v := by
  rw [Bool.eq_iff_iff, memH, List.contains_iff_mem, List.contains_iff_mem, allS, List.mem_map]
  constructor
  · rintro ⟨⟨a, b⟩, h1, rfl⟩
    have h2 := List.mem_filter.1 h1
    have h3 := h2.2
    rw [hasN_one] at h3
    have : a = n := by simpa using h3
    subst this
    exact h2.1
  · intro h
    exact ⟨(n, v), List.mem_filter.2 ⟨h, by rw [hasN_one]; simp⟩, rfl⟩
theorem getH_allS (L : List Hd) (n : List UInt8) : decide (0 < (allS L n).length) = (getH L n).2 := by
  unfold getH
  cases allS L n with
  | nil => rfl
  | cons a b => simp
theorem prefix_take (v p : List UInt8) (h : v.length ≤ p.length) : (p.take v.length == v) = List.isPrefixOf v p := by
  rw [Bool.eq_iff_iff, beq_iff_eq, List.isPrefixOf_iff_prefix, List.prefix_iff_eq_take]
  exact ⟨fun h => h.symm, fun h => h.symm⟩
theorem prefix_long (v p : List UInt8) (h : p.length < v.length) : List.isPrefixOf v p = false := by
  rw [Bool.eq_false_iff]
  intro h2
  have := (List.isPrefixOf_iff_prefix.1 h2).length_le
  omega
theorem prefix_of_take (p : List UInt8) (k : Nat) : List.isPrefixOf (p.take k) p = true := List.isPrefixOf_iff_prefix.2 (List.take_prefix k p)
theorem fewP_at {l : List Pd} (h : fewP l = true) {k : Nat} (hk : k < l.length) : l[k].n.length + l[k].v.length ≤ 400 := by
  simp [fewP] at h; exact h.2 _ (List.getElem_mem hk)
theorem all_take' {α : Type} (p : α → Bool) (l : List α) (k : Nat) (h : k < l.length) : (l.take (k + 1)).all p = ((l.take k).all p && p l[k]) := by
  rw [List.take_succ_eq_append_getElem h, List.all_append]; simp
theorem all_false' {α : Type} {p : α → Bool} {l : List α} {k : Nat} (h : k < l.length) (hp : p l[k] = false) : l.all p = false := by
  rw [List.all_eq_false]; exact ⟨l[k], List.getElem_mem h, by simp [hp]⟩
theorem allE_snoc (l : List Pd) (e : Pd) (m h p : List UInt8) (L : List Hd) : allE (l ++ [e]) m h p L = (allE l m h p L && mE e.k e.n e.v m h p L) := by
  simp [allE, List.all_append]
end Go.Proofs.Ytpfhmpblcmednaa
