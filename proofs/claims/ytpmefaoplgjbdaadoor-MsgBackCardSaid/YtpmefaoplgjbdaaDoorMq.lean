/- Plain facts: which request, or response, a text is. -/
import Derived.Test.YtpmefaoplgjbdaaDoorMp
import Derived.Lib.AtoiAll
import Derived.Lib.ItoaNum
namespace Go.Proofs.YtpmefaoplgjbdaaDoor
set_option linter.unusedVariables false
set_option linter.unusedSimpArgs false

abbrev Qt : Type := List UInt8 × List UInt8 × List UInt8 × List Hd × List UInt8
def chk5 (q : Qt) : Int := chkQ q.1 q.2.1 q.2.2.1 q.2.2.2.1 q.2.2.2.2
def text5 (q : Qt) : List UInt8 := textQ q.1 q.2.1 q.2.2.1 q.2.2.2.1 q.2.2.2.2
def noQ : Qt := ([], [], [], [], [])
/-- The pieces of a text, and whether all its marks are there. -/
def partsM (s : List UInt8) : Qt × Bool :=
  let c1 := cutS [32] s
  let c2 := cutS [32] c1.2.1
  let c3 := cutS [10] c2.2.1
  let r := rhM 17 [] c3.2.1
  ((c1.1, c2.1, c3.1, r.1, r.2.2), r.2.1)
def readQ (s : List UInt8) : Qt × Int := if (partsM s).2 = true ∧ chk5 (partsM s).1 = 0 then ((partsM s).1, 0) else (noQ, 3)
theorem chk5_ok {q : Qt} (h : chk5 q = 0) : methodB q.1 = true ∧ nameB q.2.1 = true ∧ pathB q.2.2.1 = true ∧ checkS q.2.2.2.1 = 0 ∧ q.2.2.2.2.length ≤ 200 := by
  unfold chk5 chkQ at h
  split at h
  · split at h
    · split at h
      · unfold tailChk at h
        split at h
        · split at h
          · omega
          · rename_i a b c d e; exact ⟨a, b, c, d, by omega⟩
        · rename_i a b c d; exact absurd h d
      · omega
    · omega
  · omega
theorem methodB_all {l : List UInt8} (h : methodB l = true) : l.all (inB 65 90) = true := by
  simp only [methodB, Bool.and_eq_true] at h; exact h.2.2
theorem pathB_all {l : List UInt8} (h : pathB l = true) : l.all (inB 33 126) = true := by
  simp only [pathB, Bool.and_eq_true] at h; exact h.2.2
theorem partsM_text (q : Qt) (h : chk5 q = 0) : partsM (text5 q) = (q, true) := by
  obtain ⟨m, hh, p, L, b⟩ := q
  obtain ⟨h1, h2, h3, h4, h5⟩ := chk5_ok h
  have a1 := methodB_all h1
  have a2 := (nameB_all h2).2
  have a3 := pathB_all h3
  obtain ⟨l1, l2⟩ := checkS_ok h4
  simp only at a1 a2 a3 l1 l2
  have e1 : cutS [32] (text5 (m, hh, p, L, b)) = (m, hh ++ 32 :: (p ++ 10 :: tailT L b), true) := by
    rw [← cutS_one (c := 32) m _ (all_ne a1 (by decide))]; simp [text5, textQ]
  have e2 : cutS [32] (hh ++ 32 :: (p ++ 10 :: tailT L b)) = (hh, p ++ 10 :: tailT L b, true) := cutS_one (c := 32) hh _ (all_ne a2 (by decide))
  have e3 : cutS [10] (p ++ 10 :: tailT L b) = (p, tailT L b, true) := cutS_one (c := 10) p _ (all_ne a3 (by decide))
  have e4 := rhM_text b L [] 17 l2 (by simpa using l1) (by simp)
  simp only [partsM, e1, e2, e3, e4, List.nil_append]
theorem readQ_text (q : Qt) (h : chk5 q = 0) : readQ (text5 q) = (q, 0) := by
  rw [readQ, partsM_text q h, if_pos ⟨rfl, h⟩]
theorem cut_back {sep s : List UInt8} (hs : sep ≠ []) (h : (cutS sep s).2.1 ≠ [] ∨ (cutS sep s).2.2 = true) : s = (cutS sep s).1 ++ sep ++ (cutS sep s).2.1 := by
  refine cutS_found hs s ?_
  cases hq : (cutS sep s).2.2 with
  | true => rfl
  | false =>
    rcases h with h | h
    · exact absurd (cutS_lost s hq).2 h
    · rw [hq] at h; cases h
theorem partsM_back (s : List UInt8) (h : (partsM s).2 = true) : text5 (partsM s).1 = s := by
  have h0 : (rhM 17 [] (cutS [10] (cutS [32] (cutS [32] s).2.1).2.1).2.1).2.1 = true := h
  obtain ⟨L, b, hr⟩ : ∃ L b, rhM 17 [] (cutS [10] (cutS [32] (cutS [32] s).2.1).2.1).2.1 = (L, true, b) := ⟨_, _, by rw [← h0]⟩
  obtain ⟨L', e1, e2⟩ := rhM_back _ _ _ _ _ hr
  rw [List.nil_append] at e1
  subst e1
  have n3 : (cutS [10] (cutS [32] (cutS [32] s).2.1).2.1).2.1 ≠ [] := by rw [e2]; simp [tailT]
  have b3 := cut_back (sep := [10]) (by simp) (Or.inl n3)
  have n2 : (cutS [32] (cutS [32] s).2.1).2.1 ≠ [] := by rw [b3]; simp
  have b2 := cut_back (sep := [32]) (by simp) (Or.inl n2)
  have n1 : (cutS [32] s).2.1 ≠ [] := by rw [b2]; simp
  have b1 := cut_back (sep := [32]) (by simp) (Or.inl n1)
  have hp : partsM s = (((cutS [32] s).1, (cutS [32] (cutS [32] s).2.1).1, (cutS [10] (cutS [32] (cutS [32] s).2.1).2.1).1, L, b), true) := by simp only [partsM, hr]
  rw [hp]
  show textQ _ _ _ _ _ = s
  conv => rhs; rw [b1, b2, b3, e2]
  simp [textQ]
theorem readQ_back (s : List UInt8) (h : (readQ s).2 = 0) : chk5 (readQ s).1 = 0 ∧ text5 (readQ s).1 = s := by
  unfold readQ at h ⊢
  split at h
  · rename_i hc; rw [if_pos hc]; exact ⟨hc.2, partsM_back s hc.1⟩
  · simp at h
/-- The plain way: cut as the document's own text does. -/
def cutR (sep s : List UInt8) : List UInt8 × List UInt8 × Bool := if (cutS sep s).2.2 = true then cutS sep s else ([], [], false)
def partsR (s : List UInt8) : Qt × Bool :=
  let l := cutR [10] s
  let c1 := cutR [32] l.1
  let c2 := cutR [32] c1.2.1
  let r := rhR 17 [] l.2.1
  ((c1.1, c2.1, c2.2.1, r.1, r.2.1), r.2.2)
theorem cutR_of {sep s a b : List UInt8} (h : cutS sep s = (a, b, true)) : cutR sep s = (a, b, true) := by rw [cutR, h, if_pos rfl]
theorem partsR_text (q : Qt) (h : chk5 q = 0) : partsR (text5 q) = (q, true) := by
  obtain ⟨m, hh, p, L, b⟩ := q
  obtain ⟨h1, h2, h3, h4, h5⟩ := chk5_ok h
  have a1 := methodB_all h1
  have a2 := (nameB_all h2).2
  have a3 := pathB_all h3
  obtain ⟨l1, l2⟩ := checkS_ok h4
  simp only at a1 a2 a3 l1 l2
  have e1 : cutS [10] (text5 (m, hh, p, L, b)) = (m ++ 32 :: (hh ++ 32 :: p), tailT L b, true) := by
    rw [← cutS_one (c := 10) (m ++ 32 :: (hh ++ 32 :: p)) _ (fun x hx => ?_)]
    · simp [text5, textQ]
    · rcases List.mem_append.1 hx with hx | hx
      · exact all_ne a1 (by decide) x hx
      · rcases List.mem_cons.1 hx with rfl | hx
        · decide
        · rcases List.mem_append.1 hx with hx | hx
          · exact all_ne a2 (by decide) x hx
          · rcases List.mem_cons.1 hx with rfl | hx
            · decide
            · exact all_ne a3 (by decide) x hx
  have e2 : cutS [32] (m ++ 32 :: (hh ++ 32 :: p)) = (m, hh ++ 32 :: p, true) := cutS_one (c := 32) m _ (all_ne a1 (by decide))
  have e3 : cutS [32] (hh ++ 32 :: p) = (hh, p, true) := cutS_one (c := 32) hh _ (all_ne a2 (by decide))
  have e4 := rhR_text b L [] 17 l2 (by simpa using l1) (by simp)
  simp only [partsR, cutR_of e1, cutR_of e2, cutR_of e3, e4, List.nil_append]
theorem readR_eq (s : List UInt8) : (if (partsR s).2 = true ∧ chk5 (partsR s).1 = 0 ∧ text5 (partsR s).1 = s then ((partsR s).1, (0 : Int)) else (noQ, 3)) = readQ s := by
  by_cases h : (partsM s).2 = true ∧ chk5 (partsM s).1 = 0
  · have ht := partsM_back s h.1
    have hr := partsR_text _ h.2
    rw [ht] at hr
    rw [readQ, if_pos h, hr, if_pos ⟨rfl, h.2, ht⟩]
  · rw [readQ, if_neg h, if_neg]
    rintro ⟨h1, h2, h3⟩
    have := partsM_text _ h2
    rw [h3] at this
    exact h (by rw [this]; exact ⟨rfl, h2⟩)
/-- A status in three digits. -/
def d3 (n : Nat) : List UInt8 := [UInt8.ofNat (48 + n / 100), UInt8.ofNat (48 + n / 10 % 10), UInt8.ofNat (48 + n % 10)]
def stOf : List UInt8 → Option Nat
  | [x, y, z] => if 49 ≤ x.toNat ∧ x.toNat ≤ 53 ∧ 48 ≤ y.toNat ∧ y.toNat ≤ 57 ∧ 48 ≤ z.toNat ∧ z.toNat ≤ 57 then some (100 * (x.toNat - 48) + 10 * (y.toNat - 48) + (z.toNat - 48)) else none
  | _ => none
def nR (l : List UInt8) : Int := (l.take 3).foldl (fun n c => 10 * n + (c.toNat : Int) - 48) 0
theorem d3_facts : ∀ k : Fin 500, stOf (d3 (100 + k.val)) = some (100 + k.val) ∧ Lib.atoiAll (d3 (100 + k.val)) = .ok ((100 + k.val : Nat) : Int) ∧ nR (d3 (100 + k.val)) = ((100 + k.val : Nat) : Int) ∧ (d3 (100 + k.val)).all (fun c => c != 10) = true := by decide +kernel
theorem stOf_d3 {n : Nat} (h1 : 100 ≤ n) (h2 : n ≤ 599) : stOf (d3 n) = some n ∧ Lib.atoiAll (d3 n) = .ok (n : Int) ∧ nR (d3 n) = (n : Int) ∧ ∀ c ∈ d3 n, c ≠ 10 := by
  obtain ⟨k, rfl⟩ : ∃ k, n = 100 + k := ⟨n - 100, by omega⟩
  obtain ⟨a, b, c, d⟩ := d3_facts ⟨k, by omega⟩
  exact ⟨a, b, c, fun x hx => by have := List.all_eq_true.1 d x hx; simpa using this⟩
theorem stOf_back {d : List UInt8} {n : Nat} (h : stOf d = some n) : d = d3 n ∧ 100 ≤ n ∧ n ≤ 599 := by
  match d, h with
  | [x, y, z], h =>
    rw [stOf] at h
    split at h
    · rename_i hc
      simp only [Option.some.injEq] at h
      have hx := x.toNat_lt
      refine ⟨?_, by omega, by omega⟩
      rw [d3, ← h, show 48 + (100 * (x.toNat - 48) + 10 * (y.toNat - 48) + (z.toNat - 48)) / 100 = x.toNat from by omega, show 48 + (100 * (x.toNat - 48) + 10 * (y.toNat - 48) + (z.toNat - 48)) / 10 % 10 = y.toNat from by omega,
        show 48 + (100 * (x.toNat - 48) + 10 * (y.toNat - 48) + (z.toNat - 48)) % 10 = z.toNat from by omega]
      simp
    · cases h
theorem itoa_d3 {n : Nat} (h1 : 100 ≤ n) (h2 : n ≤ 599) : Lib.itoa (n : Int) = d3 n := by
  rw [Lib.itoa, if_neg (by omega), Int.toNat_natCast, Lib.decDigits, dif_neg (by omega), Lib.decDigits, dif_neg (by omega), Lib.decDigits, dif_pos (by omega), Nat.div_div_eq_div_mul]
  rfl
abbrev Pt : Type := Int × List Hd × List UInt8
def noP : Pt := (0, [], [])
def text3 (d : List UInt8) (L : List Hd) (b : List UInt8) : List UInt8 := d ++ [10] ++ tailT L b
/-- The response of a text. -/
def readP (s : List UInt8) : Pt × Int :=
  match stOf (cutS [10] s).1 with
  | some n => if (rhM 17 [] (cutS [10] s).2.1).2.1 = true ∧ tailChk (rhM 17 [] (cutS [10] s).2.1).1 (rhM 17 [] (cutS [10] s).2.1).2.2 = 0 then (((n : Int), (rhM 17 [] (cutS [10] s).2.1).1, (rhM 17 [] (cutS [10] s).2.1).2.2), 0) else (noP, 3)
  | none => (noP, 3)
theorem tailChk_ok {L : List Hd} {b : List UInt8} (h : tailChk L b = 0) : checkS L = 0 ∧ b.length ≤ 200 := by
  unfold tailChk at h
  split at h
  · split at h
    · omega
    · rename_i a c; exact ⟨a, by omega⟩
  · rename_i a; exact absurd h a
theorem chkP_ok {n : Int} {L : List Hd} {b : List UInt8} (h : chkP n L b = 0) : 100 ≤ n ∧ n ≤ 599 ∧ tailChk L b = 0 := by
  unfold chkP at h
  split at h
  · omega
  · rename_i a; exact ⟨by omega, by omega, h⟩
theorem readP_text (n : Nat) (L : List Hd) (b : List UInt8) (h1 : 100 ≤ n) (h2 : n ≤ 599) (h : tailChk L b = 0) : readP (text3 (d3 n) L b) = (((n : Int), L, b), 0) := by
  obtain ⟨s1, s2, s3, s4⟩ := stOf_d3 h1 h2
  obtain ⟨c1, c2⟩ := tailChk_ok h
  obtain ⟨l1, l2⟩ := checkS_ok c1
  have e1 : cutS [10] (text3 (d3 n) L b) = (d3 n, tailT L b, true) := by
    rw [← cutS_one (c := 10) (d3 n) _ s4]; simp [text3]
  have e4 := rhM_text b L [] 17 l2 (by simpa using l1) (by simp)
  rw [readP, e1]
  simp only [s1, e4, List.nil_append]
  rw [if_pos ⟨trivial, h⟩]
theorem readP_back (s : List UInt8) (h : (readP s).2 = 0) : ∃ (n : Nat) (L : List Hd) (b : List UInt8), 100 ≤ n ∧ n ≤ 599 ∧ tailChk L b = 0 ∧ readP s = (((n : Int), L, b), 0) ∧ text3 (d3 n) L b = s := by
  unfold readP at h ⊢
  cases hs : stOf (cutS [10] s).1 with
  | none => rw [hs] at h; simp at h
  | some n =>
    rw [hs] at h
    simp only at h ⊢
    split at h
    · rename_i hc
      rw [if_pos hc]
      obtain ⟨e1, e2, e3⟩ := stOf_back hs
      obtain ⟨L, b, hr⟩ : ∃ L b, rhM 17 [] (cutS [10] s).2.1 = (L, true, b) := ⟨_, _, by rw [← hc.1]⟩
      obtain ⟨L', f1, f2⟩ := rhM_back _ _ _ _ _ hr
      rw [List.nil_append] at f1
      subst f1
      rw [hr] at hc ⊢
      refine ⟨n, L, b, e2, e3, hc.2, rfl, ?_⟩
      have n3 : (cutS [10] s).2.1 ≠ [] := by rw [f2]; simp [tailT]
      have b3 := cut_back (sep := [10]) (by simp) (Or.inl n3)
      rw [e1, f2] at b3
      exact b3.symm
    · simp at h
theorem readPR_eq (s : List UInt8) : (if (rhR 17 [] (cutR [10] s).2.1).2.2 = true ∧ chkP (nR (cutR [10] s).1) (rhR 17 [] (cutR [10] s).2.1).1 (rhR 17 [] (cutR [10] s).2.1).2.1 = 0 ∧ text3 (d3 (nR (cutR [10] s).1).toNat) (rhR 17 [] (cutR [10] s).2.1).1 (rhR 17 [] (cutR [10] s).2.1).2.1 = s
    then ((nR (cutR [10] s).1, (rhR 17 [] (cutR [10] s).2.1).1, (rhR 17 [] (cutR [10] s).2.1).2.1), (0 : Int)) else (noP, 3)) = readP s := by
  have both : ∀ (n : Nat) (L : List Hd) (b : List UInt8), 100 ≤ n → n ≤ 599 → tailChk L b = 0 → text3 (d3 n) L b = s → cutR [10] s = (d3 n, tailT L b, true) ∧ rhR 17 [] (tailT L b) = (L, b, true) ∧ nR (d3 n) = n := fun n L b h1 h2 h e => by
    obtain ⟨s1, s2, s3, s4⟩ := stOf_d3 h1 h2
    obtain ⟨c1, c2⟩ := tailChk_ok h
    obtain ⟨l1, l2⟩ := checkS_ok c1
    have e1 : cutS [10] (text3 (d3 n) L b) = (d3 n, tailT L b, true) := by
      rw [← cutS_one (c := 10) (d3 n) _ s4]; simp [text3]
    have e4 := rhR_text b L [] 17 l2 (by simpa using l1) (by simp)
    rw [e] at e1
    exact ⟨cutR_of e1, by simpa using e4, s3⟩
  rcases (show (readP s).2 = 0 ∨ readP s = (noP, 3) from by
    unfold readP
    split
    · split
      · exact Or.inl rfl
      · exact Or.inr rfl
    · exact Or.inr rfl) with h | h
  · obtain ⟨n, L, b, h1, h2, h3, h4, h5⟩ := readP_back s h
    obtain ⟨a1, a2, a3⟩ := both n L b h1 h2 h3 h5
    rw [a1]
    simp only [a2, a3]
    rw [if_pos ⟨trivial, by rw [chkP, if_neg (by omega)]; exact h3, by rw [Int.toNat_natCast]; exact h5⟩, h4]
  · rw [h, if_neg]
    rintro ⟨q1, q2, q3⟩
    obtain ⟨c1, c2, c3⟩ := chkP_ok q2
    obtain ⟨n, hn⟩ := Int.eq_ofNat_of_zero_le (show 0 ≤ nR (cutR [10] s).1 by omega)
    rw [hn] at q3 c1 c2
    rw [Int.toNat_natCast] at q3
    have := readP_text n _ _ (by omega) (by omega) c3
    rw [q3, h] at this
    simp at this
end Go.Proofs.YtpmefaoplgjbdaaDoor
