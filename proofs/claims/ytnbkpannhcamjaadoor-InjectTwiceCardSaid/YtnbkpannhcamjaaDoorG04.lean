/- Texts put together: Tp Ab. -/
import Derived.Test.YtnbkpannhcamjaaDoorG03
import Derived.Lib.SlTrimSet
import Derived.Lib.Join
import Derived.Test.YtnbkpannhcamjaaDoorG01
namespace Go.Proofs.YtnbkpannhcamjaaDoor
set_option linter.unusedVariables false

def inKey0 (c : UInt8) : Bool := (decide (97 ≤ c.toNat) && decide (c.toNat ≤ 122)) || (decide (48 ≤ c.toNat) && decide (c.toNat ≤ 57))
def inSign (c : UInt8) : Bool := decide (c.toNat = 95) || (decide (c.toNat = 45) || (decide (c.toNat = 42) || (decide (c.toNat = 47) || decide (c.toNat = 64))))
def inKeyB (f : Bool) (c : UInt8) : Bool := inKey0 c || (!f && inSign c)
def allK : Bool → List UInt8 → Bool
  | _, [] => true
  | f, c :: r => inKeyB f c && allK false r
def keyB (l : List UInt8) : Bool := !l.isEmpty && (decide (l.length ≤ 32) && allK true l)
def inValB (c : UInt8) : Bool := decide (32 ≤ c.toNat) && (decide (c.toNat ≤ 126) && (decide (c.toNat ≠ 44) && decide (c.toNat ≠ 61)))
def valM (l : List UInt8) : Bool := !l.isEmpty && (decide (l.length ≤ 64) && (decide ((l.getLastD 0).toNat ≠ 32) && l.all inValB))
theorem allK_drop (l : List UInt8) (f : Bool) (k : Nat) (h : k < l.length) : allK f (l.drop k) = (inKeyB f l[k] && allK false (l.drop (k + 1))) := by
  rw [List.drop_eq_getElem_cons h]; rfl
def getM : List Hd → List UInt8 → List UInt8 × Bool
  | [], _ => ([], false)
  | h :: r, n => if (h.1 == n) = true then (h.2, true) else getM r n
theorem getM_drop (L : List Hd) (n : List UInt8) (k : Nat) (h : k < L.length) : getM (L.drop k) n = if (L[k].1 == n) = true then (L[k].2, true) else getM (L.drop (k + 1)) n := by
  rw [List.drop_eq_getElem_cons h]; rfl
theorem getM_any (L : List Hd) (n : List UInt8) : (getM L n).2 = L.any fun h => h.1 == n := by
  induction L with
  | nil => rfl
  | cons h r ih => rw [getM, List.any_cons]; split <;> simp_all
theorem getM_len (L : List Hd) (n : List UInt8) (N : Nat) (h : ∀ x ∈ L, x.2.length ≤ N) : (getM L n).1.length ≤ N := by
  induction L with
  | nil => simp [getM]
  | cons x r ih => rw [getM]; split
                   · exact h x (by simp)
                   · exact ih fun y hy => h y (by simp [hy])
/-- A member's fault behind those ahead. -/
def oneM (acc : List Hd) (m : Hd) : Int :=
  if keyB m.1 = false then 3 else if valM m.2 = false then 3 else if (getM acc m.1).2 = true then 10 else if 32 ≤ acc.length then 8 else 0
def chkM : List Hd → List Hd → Int
  | _, [] => 0
  | acc, m :: r => if oneM acc m = 0 then chkM (acc ++ [m]) r else oneM acc m
theorem chkM_step (L : List Hd) (k : Nat) (h : k < L.length) : chkM (L.take k) (L.drop k) = if oneM (L.take k) L[k] = 0 then chkM (L.take (k + 1)) (L.drop (k + 1)) else oneM (L.take k) L[k] := by
  rw [List.drop_eq_getElem_cons h, chkM, List.take_succ_eq_append_getElem h]
def memT (m : Hd) : List UInt8 := m.1 ++ [61] ++ m.2
def joinM (L : List Hd) : List UInt8 := Lib.join (L.map memT) [44]
def writeM (L : List Hd) : List UInt8 × Int := if chkM [] L = 0 then (joinM L, 0) else ([], chkM [] L)
def putM (L : List Hd) (k v : List UInt8) : List Hd × Int :=
  if keyB k = false then ([], 3) else if valM v = false then ([], 3) else (((k, v) :: L.filter fun h => !(h.1 == k)).take 32, 0)
/-- What stands between the commas. -/
def splitS : List UInt8 → List (List UInt8)
  | [] => [[]]
  | c :: r => if c = 44 then [] :: splitS r else match splitS r with | [] => [[c]] | p :: ps => (c :: p) :: ps
theorem splitS_cut (s : List UInt8) : splitS s = (cutS [44] s).1 :: if (cutS [44] s).2.2 = true then splitS (cutS [44] s).2.1 else [] := by
  induction s with
  | nil => rfl
  | cons c r ih =>
    rw [splitS, cutS]
    by_cases h : c = 44
    · subst h; simp
    · rw [if_neg h, if_neg (by simp; exact fun e => h e.symm), ih]
theorem splitS_ne (s : List UInt8) : splitS s ≠ [] := by rw [splitS_cut]; simp
def trimB' (s : List UInt8) : List UInt8 := Lib.trimS s [32, 9]
def rdP : List Hd → List (List UInt8) → List Hd × Int
  | acc, [] => (acc, 0)
  | acc, p :: ps => if trimB' p = [] then rdP acc ps else
    if oneM acc ((cutS [61] (trimB' p)).1, (cutS [61] (trimB' p)).2.1) = 0 then rdP (acc ++ [((cutS [61] (trimB' p)).1, (cutS [61] (trimB' p)).2.1)]) ps
    else ([], oneM acc ((cutS [61] (trimB' p)).1, (cutS [61] (trimB' p)).2.1))
def readM (s : List UInt8) : List Hd × Int := rdP [] (splitS s)
theorem rdP_drop (acc : List Hd) (ps : List (List UInt8)) (k : Nat) (h : k < ps.length) : rdP acc (ps.drop k) = if trimB' ps[k] = [] then rdP acc (ps.drop (k + 1)) else
    if oneM acc ((cutS [61] (trimB' ps[k])).1, (cutS [61] (trimB' ps[k])).2.1) = 0 then rdP (acc ++ [((cutS [61] (trimB' ps[k])).1, (cutS [61] (trimB' ps[k])).2.1)]) (ps.drop (k + 1))
    else ([], oneM acc ((cutS [61] (trimB' ps[k])).1, (cutS [61] (trimB' ps[k])).2.1)) := by
  rw [List.drop_eq_getElem_cons h]; rfl
/-- Trimmed, told by its parts. -/
def isBl (c : UInt8) : Bool := decide (c.toNat = 32) || decide (c.toNat = 9)
theorem isBl_in : (fun c : UInt8 => ([32, 9] : List UInt8).contains c) = isBl := by
  funext c
  simp only [List.contains_cons, List.contains_nil, Bool.or_false, isBl]
  rw [Bool.eq_iff_iff]; simp [← UInt8.toNat_inj]
theorem dropWhile_pre {p : UInt8 → Bool} : ∀ (a m : List UInt8), (∀ x ∈ a, p x = true) → (a ++ m).dropWhile p = m.dropWhile p
  | [], m, _ => rfl
  | x :: a, m, h => by rw [List.cons_append, List.dropWhile_cons_of_pos (h x (by simp)), dropWhile_pre a m fun y hy => h y (by simp [hy])]
theorem trim_of {a m b : List UInt8} (ha : ∀ x ∈ a, isBl x = true) (hb : ∀ x ∈ b, isBl x = true) (h0 : ∀ x, m.head? = some x → isBl x = false) (h1 : ∀ x, m.getLast? = some x → isBl x = false) : trimB' (a ++ (m ++ b)) = m := by
  unfold trimB' Lib.trimS Lib.trimLeftS Lib.trimRightS
  rw [isBl_in]
  rcases List.eq_nil_or_concat m with rfl | ⟨n, y, rfl⟩
  · have : (a ++ ([] ++ b)).reverse.dropWhile isBl = [] := by
      have h := dropWhile_pre (p := isBl) (a ++ ([] ++ b)).reverse [] (fun x hx => by
        simp at hx; rcases hx with hx | hx
        · exact hb x hx
        · exact ha x hx)
      simpa using h
    rw [this]; rfl
  · rw [List.concat_eq_append] at h0 h1 ⊢
    have hy : isBl y = false := h1 y (by simp)
    have : (a ++ (n ++ [y] ++ b)).reverse.dropWhile isBl = (a ++ (n ++ [y])).reverse := by
      rw [show (a ++ (n ++ [y] ++ b)).reverse = b.reverse ++ (a ++ (n ++ [y])).reverse by simp, dropWhile_pre _ _ (fun x hx => hb x (by simpa using hx))]
      rw [show (a ++ (n ++ [y])).reverse = y :: (n.reverse ++ a.reverse) by simp, List.dropWhile_cons_of_neg (by simp [hy])]
    rw [this, List.reverse_reverse, dropWhile_pre _ _ ha]
    cases n with
    | nil => simp [hy]
    | cons z n => rw [List.cons_append, List.dropWhile_cons_of_neg (by simp [h0 z (by simp)])]
theorem dropWhile_len (p : UInt8 → Bool) : ∀ l : List UInt8, (l.dropWhile p).length ≤ l.length
  | [] => by simp
  | x :: r => by rw [List.dropWhile_cons]; split
                 · have := dropWhile_len p r; simp; omega
                 · simp
theorem trim_len (s : List UInt8) : (trimB' s).length ≤ s.length := by
  unfold trimB' Lib.trimS Lib.trimLeftS Lib.trimRightS
  refine Nat.le_trans (dropWhile_len _ _) ?_
  rw [List.length_reverse]
  exact Nat.le_trans (dropWhile_len _ _) (by simp)
theorem splitS_len (s : List UInt8) : (splitS s).length ≤ s.length + 1 := by
  induction s with
  | nil => simp [splitS]
  | cons c r ih =>
    rw [splitS]; split
    · simp; omega
    · cases h : splitS r with
      | nil => simp
      | cons p ps => rw [h] at ih; simp at ih ⊢; omega
theorem splitS_small (s : List UInt8) : ∀ p ∈ splitS s, p.length ≤ s.length := by
  induction s with
  | nil => simp [splitS]
  | cons c r ih =>
    rw [splitS]; split
    · intro p hp; simp at hp; rcases hp with rfl | hp
      · simp
      · have := ih p hp; simp; omega
    · cases h : splitS r with
      | nil => intro p hp; simp at hp; subst hp; simp
      | cons q qs =>
        intro p hp
        simp at hp
        rcases hp with rfl | hp
        · have := ih q (by rw [h]; simp); simp; omega
        · have := ih p (by rw [h]; simp [hp]); simp; omega
/-- Members that a text gives are few and short. -/
theorem oneM_ok {acc : List Hd} {m : Hd} (h : oneM acc m = 0) : keyB m.1 = true ∧ valM m.2 = true ∧ (getM acc m.1).2 = false ∧ acc.length < 32 := by
  unfold oneM at h
  split at h
  · omega
  · split at h
    · omega
    · split at h
      · omega
      · split at h
        · omega
        · rename_i h1 h2 h3 h4; exact ⟨by simpa using h1, by simpa using h2, by simpa using h3, by omega⟩
theorem key_len {l : List UInt8} (h : keyB l = true) : 1 ≤ l.length ∧ l.length ≤ 32 := by
  simp only [keyB, Bool.and_eq_true, decide_eq_true_eq, Bool.not_eq_true', List.isEmpty_eq_false_iff] at h
  exact ⟨List.length_pos_iff.2 h.1, h.2.1⟩
theorem val_len' {l : List UInt8} (h : valM l = true) : 1 ≤ l.length ∧ l.length ≤ 64 := by
  simp only [valM, Bool.and_eq_true, decide_eq_true_eq, Bool.not_eq_true', List.isEmpty_eq_false_iff] at h
  exact ⟨List.length_pos_iff.2 h.1, h.2.1⟩
def okM (L : List Hd) : Prop := L.length ≤ 32 ∧ ∀ m ∈ L, m.1.length ≤ 32 ∧ m.2.length ≤ 64
theorem okM_snoc {acc : List Hd} {m : Hd} (h : okM acc) (ho : oneM acc m = 0) : okM (acc ++ [m]) := by
  obtain ⟨h1, h2, _, h4⟩ := oneM_ok ho
  refine ⟨by simp; omega, fun x hx => ?_⟩
  rcases List.mem_append.1 hx with hx | hx
  · exact h.2 x hx
  · simp at hx; subst hx; exact ⟨(key_len h1).2, (val_len' h2).2⟩
theorem rdP_ok : ∀ (ps : List (List UInt8)) (acc : List Hd), okM acc → okM (rdP acc ps).1
  | [], acc, h => h
  | p :: ps, acc, h => by
    rw [rdP]; split
    · exact rdP_ok ps acc h
    · split
      · rename_i ho; exact rdP_ok ps _ (okM_snoc h ho)
      · exact ⟨by simp, by simp⟩
/-- What may be, told of a whole list. -/
def mayM (L : List Hd) : Prop := (∀ m ∈ L, keyB m.1 = true ∧ valM m.2 = true) ∧ (L.map (·.1)).Nodup ∧ L.length ≤ 32
theorem getM_mem (acc : List Hd) (n : List UInt8) : (getM acc n).2 = false ↔ n ∉ acc.map (·.1) := by
  rw [getM_any]
  constructor
  · intro h hm
    obtain ⟨x, hx, rfl⟩ := List.mem_map.1 hm
    rw [List.any_eq_false] at h
    exact h x hx (by simp)
  · intro h
    rw [List.any_eq_false]
    intro x hx e
    exact h (List.mem_map.2 ⟨x, hx, by simpa using e⟩)
theorem oneM_zero {acc : List Hd} {m : Hd} (h1 : keyB m.1 = true) (h2 : valM m.2 = true) (h3 : (getM acc m.1).2 = false) (h4 : acc.length < 32) : oneM acc m = 0 := by
  rw [oneM, if_neg (by simp [h1]), if_neg (by simp [h2]), if_neg (by simp [h3]), if_neg (by omega)]
theorem chkM_iff : ∀ (L acc : List Hd), mayM acc → (chkM acc L = 0 ↔ mayM (acc ++ L))
  | [], acc, h => by simp [chkM, h]
  | m :: r, acc, h => by
    rw [chkM]
    by_cases ho : oneM acc m = 0
    · rw [if_pos ho]
      obtain ⟨h1, h2, h3, h4⟩ := oneM_ok ho
      have := chkM_iff r (acc ++ [m]) ⟨fun x hx => by
        rcases List.mem_append.1 hx with hx | hx
        · exact h.1 x hx
        · simp at hx; subst hx; exact ⟨h1, h2⟩, by
          rw [List.map_append, List.nodup_append]
          refine ⟨h.2.1, by simp, fun a ha b hb => ?_⟩
          simp at hb; subst hb
          exact fun e => (getM_mem acc m.1).1 h3 (e ▸ ha), by simp; omega⟩
      rw [this, List.append_assoc]; rfl
    · rw [if_neg ho]
      refine ⟨fun e => absurd e ho, fun hm => absurd ?_ ho⟩
      obtain ⟨a, b, c⟩ := hm
      obtain ⟨k1, k2⟩ := a m (by simp)
      refine oneM_zero k1 k2 ((getM_mem acc m.1).2 fun hin => ?_) (by simp at c; omega)
      rw [List.map_append, List.nodup_append] at b
      exact b.2.2 m.1 hin m.1 (by simp) rfl
theorem chkM_zero (L : List Hd) : chkM [] L = 0 ↔ mayM L := chkM_iff L [] ⟨by simp, by simp, by simp⟩
/-- What was written is read as it was. -/
theorem allK_in : ∀ (l : List UInt8) (f : Bool), allK f l = true → ∀ c ∈ l, inKeyB false c = true
  | [], f, h, c, hc => by cases hc
  | x :: r, f, h, c, hc => by
    simp only [allK, Bool.and_eq_true] at h
    rcases List.mem_cons.1 hc with rfl | hc
    · have := h.1; cases f <;> simp_all [inKeyB]
    · exact allK_in r false h.2 c hc
theorem key_in {l : List UInt8} (h : keyB l = true) : ∀ c ∈ l, c ≠ 44 ∧ c ≠ 61 ∧ isBl c = false := by
  simp only [keyB, Bool.and_eq_true] at h
  intro c hc
  have := allK_in l true h.2.2 c hc
  have e1 : c = 44 ↔ c.toNat = 44 := by rw [← UInt8.toNat_inj]; rfl
  have e2 : c = 61 ↔ c.toNat = 61 := by rw [← UInt8.toNat_inj]; rfl
  simp only [inKeyB, inKey0, inSign, Bool.or_eq_true, Bool.and_eq_true, decide_eq_true_eq, Bool.not_false, Bool.true_and] at this
  rw [Ne, e1, Ne, e2]
  refine ⟨by omega, by omega, ?_⟩
  rw [isBl, Bool.or_eq_false_iff, decide_eq_false_iff_not, decide_eq_false_iff_not]
  omega
theorem val_in {l : List UInt8} (h : valM l = true) : (∀ c ∈ l, c ≠ 44 ∧ 32 ≤ c.toNat) ∧ (l.getLastD 0).toNat ≠ 32 ∧ l ≠ [] := by
  simp only [valM, Bool.and_eq_true, decide_eq_true_eq, Bool.not_eq_true', List.isEmpty_eq_false_iff] at h
  refine ⟨fun c hc => ?_, h.2.2.1, h.1⟩
  have := List.all_eq_true.1 h.2.2.2 c hc
  have e1 : c = 44 ↔ c.toNat = 44 := by rw [← UInt8.toNat_inj]; rfl
  simp only [inValB, Bool.and_eq_true, decide_eq_true_eq] at this
  rw [Ne, e1]
  omega
theorem trim_mem {m : Hd} (h1 : keyB m.1 = true) (h2 : valM m.2 = true) : trimB' (memT m) = memT m := by
  obtain ⟨k, v⟩ := m
  have hk := key_in h1
  obtain ⟨hv, hl, hne⟩ := val_in h2
  have := trim_of (a := []) (b := []) (m := memT (k, v)) (by simp) (by simp) ?_ ?_
  · simpa using this
  · intro x hx
    cases k with
    | nil => simp [keyB] at h1
    | cons c r => simp [memT] at hx; subst hx; exact (hk c (by simp)).2.2
  · intro x hx
    rcases List.eq_nil_or_concat v with rfl | ⟨n, y, rfl⟩
    · exact absurd rfl hne
    · rw [List.concat_eq_append] at hx hl hv
      rw [show memT (k, n ++ [y]) = (k ++ [61] ++ n) ++ [y] by simp [memT], List.getLast?_concat] at hx
      injection hx with hx
      subst hx
      simp at hl
      have := (hv y (by simp)).2
      rw [isBl, Bool.or_eq_false_iff, decide_eq_false_iff_not, decide_eq_false_iff_not]
      omega
theorem splitS_plain : ∀ l : List UInt8, (∀ c ∈ l, c ≠ 44) → splitS l = [l]
  | [], _ => rfl
  | c :: r, h => by
    rw [splitS, if_neg (h c (by simp)), splitS_plain r fun x hx => h x (by simp [hx])]
theorem splitS_one (a b : List UInt8) (h : ∀ c ∈ a, c ≠ 44) : splitS (a ++ 44 :: b) = a :: splitS b := by
  rw [splitS_cut, cutS_one a b h, if_pos rfl]
theorem memT_in {m : Hd} (h1 : keyB m.1 = true) (h2 : valM m.2 = true) : ∀ c ∈ memT m, c ≠ 44 := by
  intro c hc
  simp only [memT, List.mem_append, List.mem_singleton] at hc
  rcases hc with (hc | hc) | hc
  · exact (key_in h1 c hc).1
  · subst hc; decide
  · exact ((val_in h2).1 c hc).1
theorem splitS_join : ∀ (L : List Hd), L ≠ [] → (∀ m ∈ L, keyB m.1 = true ∧ valM m.2 = true) → splitS (joinM L) = L.map memT
  | [], h, _ => absurd rfl h
  | [m], _, h => by
    have hm := h m (by simp)
    rw [joinM, List.map_singleton, Lib.join_one, splitS_plain _ (memT_in hm.1 hm.2)]
  | m :: x :: r, _, h => by
    have hm := h m (by simp)
    have ih := splitS_join (x :: r) (by simp) fun y hy => h y (by simp [hy])
    have : joinM (m :: x :: r) = memT m ++ 44 :: joinM (x :: r) := by
      simp only [joinM, List.map_cons]
      rw [Lib.join_cons, Lib.join_cons]
      simp [Lib.joinTail]
    rw [this, splitS_one _ _ (memT_in hm.1 hm.2), ih]; rfl
theorem memT_ne (m : Hd) : memT m ≠ [] := by simp [memT]
theorem rdP_mem : ∀ (L acc : List Hd), mayM (acc ++ L) → rdP acc (L.map memT) = (acc ++ L, 0)
  | [], acc, _ => by simp [rdP]
  | m :: r, acc, h => by
    obtain ⟨h1, h2⟩ := h.1 m (by simp)
    have hc : cutS [61] (memT m) = (m.1, m.2, true) := by
      have := cutS_one (c := 61) m.1 m.2 fun x hx => (key_in h1 x hx).2.1
      rw [← this]; simp [memT]
    have ho : oneM acc m = 0 := by
      refine oneM_zero h1 h2 ((getM_mem acc m.1).2 fun hin => ?_) (by have := h.2.2; simp at this; omega)
      have b := h.2.1
      rw [List.map_append, List.nodup_append] at b
      exact b.2.2 m.1 hin m.1 (by simp) rfl
    rw [List.map_cons, rdP, trim_mem h1 h2, if_neg (memT_ne m), hc, if_pos ho, rdP_mem r (acc ++ [m]) (by simpa using h)]
    simp
theorem readM_writeM {L : List Hd} (h : chkM [] L = 0) : readM (joinM L) = (L, 0) := by
  have hm := (chkM_zero L).1 h
  cases L with
  | nil => rfl
  | cons m r => rw [readM, splitS_join _ (by simp) hm.1, rdP_mem _ [] (by simpa using hm)]; rfl
/-- Put gives what may be. -/
theorem putM_ok {L : List Hd} {k v : List UInt8} {X : List Hd} (h : chkM [] L = 0) (hp : putM L k v = (X, 0)) : chkM [] X = 0 ∧ X = ((k, v) :: L.filter fun h => !(h.1 == k)).take 32 := by
  obtain ⟨h1, h2, h3⟩ := (chkM_zero L).1 h
  unfold putM at hp
  split at hp
  · simp at hp
  · split at hp
    · simp at hp
    · rename_i k1 k2
      simp only [Prod.mk.injEq, and_true] at hp
      refine ⟨?_, hp.symm⟩
      rw [← hp, chkM_zero]
      have ha : ∀ m ∈ (k, v) :: L.filter (fun h => !(h.1 == k)), keyB m.1 = true ∧ valM m.2 = true := by
        intro m hm
        rcases List.mem_cons.1 hm with rfl | hm
        · exact ⟨by simpa using k1, by simpa using k2⟩
        · exact h1 m (List.mem_filter.1 hm).1
      refine ⟨fun m hm => ha m (List.mem_of_mem_take hm), ?_, List.length_take_le _ _⟩
      rw [List.map_take]
      refine List.Sublist.nodup (List.take_sublist _ _) ?_
      rw [List.map_cons, List.nodup_cons]
      refine ⟨fun hin => ?_, List.Sublist.nodup (List.Sublist.map _ List.filter_sublist) h2⟩
      obtain ⟨x, hx, e⟩ := List.mem_map.1 hin
      have := (List.mem_filter.1 hx).2
      simp at this
      exact this e
theorem putM_at {L : List Hd} {k : List UInt8} {v : List UInt8} (i : Nat) (hi : i < L.length) (hk : (L[i].1 == k) = false) (hn : 1 + ((L.take i).filter fun h => !(h.1 == k)).length < (((k, v) :: L.filter fun h => !(h.1 == k)).take 32).length) :
    (((k, v) :: L.filter fun h => !(h.1 == k)).take 32)[1 + ((L.take i).filter fun h => !(h.1 == k)).length]'hn = L[i] := by
  rw [List.getElem_take]
  have e : L.filter (fun h => !(h.1 == k)) = (L.take i).filter (fun h => !(h.1 == k)) ++ L[i] :: (L.drop (i + 1)).filter (fun h => !(h.1 == k)) := by
    conv => lhs; rw [← List.take_append_drop i L, List.drop_eq_getElem_cons hi, List.filter_append, List.filter_cons_of_pos (by simp only [hk]; rfl)]
  have e2 : ((k, v) :: L.filter fun h => !(h.1 == k))[1 + ((L.take i).filter fun h => !(h.1 == k)).length]? = some L[i] := by
    rw [Nat.add_comm, List.getElem?_cons_succ, e, List.getElem?_append_right (Nat.le_refl _)]; simp
  exact (List.getElem?_eq_some_iff.1 e2).2
end Go.Proofs.YtnbkpannhcamjaaDoor
namespace Go.Proofs.YtnbkpannhcamjaaDoor
set_option linter.unusedVariables false
set_option linter.unusedSimpArgs false

/-- The names, the key. -/
def kTP : List UInt8 := [116, 114, 97, 99, 101, 112, 97, 114, 101, 110, 116]
def kTS : List UInt8 := [116, 114, 97, 99, 101, 115, 116, 97, 116, 101]
def kMesh : List UInt8 := [109, 101, 115, 104]
def stripI (l : List Hd) : List Hd := withoutH l [kTP, kTS]
def fromI (l : List Hd) : Pr × Int := if (getH l kTP).2 = true then parS (getH l kTP).1 else (noP7, 9)
/-- Of the members the last ones are left out, as long as the text is too long. -/
def cutI (L : List Hd) : Nat → List Hd
  | 0 => []
  | k + 1 => if (joinM (L.take (k + 1))).length ≤ 64 then L.take (k + 1) else cutI L k
def memI (l : List Hd) (s : Nat) : List Hd := (putM (readM (getH l kTS).1).1 kMesh (hx 16 s)).1
def txtI (l : List Hd) (s : Nat) : List UInt8 := joinM (cutI (memI l s) (memI l s).length)
def intoI (l : List Hd) (a b s : Nat) (f : Int) : List Hd × Int :=
  if (wrS a b s f).2 = 0 then (setH (setH l kTP (wrS a b s f).1) kTS (txtI l s), 0) else ([], (wrS a b s f).2)

theorem hexd_in : ∀ d : Nat, d < 16 → inValB (hexd d) = true ∧ (hexd d).toNat ≠ 32 ∧ inValueB (hexd d) = true := by decide
theorem hx_in : ∀ (k n : Nat), ∀ c ∈ hx k n, inValB c = true ∧ c.toNat ≠ 32 ∧ inValueB c = true
  | 0, n => by
    intro c hc
    have := hx_length 0 n
    rw [List.eq_nil_of_length_eq_zero this] at hc
    cases hc
  | k + 1, n => by
    intro c hc
    rw [hx_cons] at hc
    rcases List.mem_cons.1 hc with rfl | hc
    · exact hexd_in _ (Nat.mod_lt _ (by decide))
    · exact hx_in k n c hc
theorem last_mem {l : List UInt8} (h : l ≠ []) : l.getLastD 0 ∈ l := by
  rw [getLastD_at (List.length_pos_iff.2 h)]
  exact List.getElem_mem _
theorem hx_ne (n : Nat) : hx 16 n ≠ [] := fun h => by have := hx_length 16 n; rw [h] at this; cases this
theorem valM_hx (n : Nat) : valM (hx 16 n) = true := by
  unfold valM
  simp only [Bool.and_eq_true, Bool.not_eq_true', decide_eq_true_eq]
  refine ⟨by simpa using hx_ne n, by rw [hx_length]; omega, (hx_in 16 n _ (last_mem (hx_ne n))).2.1, ?_⟩
  rw [List.all_eq_true]
  exact fun c hc => (hx_in 16 n c hc).1
theorem keyB_mesh : keyB kMesh = true := by decide
theorem memI_eq (l : List Hd) (s : Nat) : memI l s = ((kMesh, hx 16 s) :: (readM (getH l kTS).1).1.filter fun h => !(h.1 == kMesh)).take 32 := by
  unfold memI putM
  rw [if_neg (by rw [keyB_mesh]; decide), if_neg (by rw [valM_hx]; decide)]
/-- What is read may be written. -/
theorem rdP_may : ∀ (ps : List (List UInt8)) (acc : List Hd), mayM acc → mayM (rdP acc ps).1
  | [], acc, h => h
  | p :: ps, acc, h => by
    rw [rdP]
    split
    · exact rdP_may ps acc h
    · split
      · rename_i h2
        refine rdP_may ps _ ?_
        have h3 := (chkM_iff [((cutS [61] (trimB' p)).1, (cutS [61] (trimB' p)).2.1)] acc h).1 (by
          rw [chkM, if_pos h2]; rfl)
        exact h3
      · exact ⟨by simp, by simp, by simp⟩
theorem memI_may (l : List Hd) (s : Nat) : mayM (memI l s) := by
  have h1 := rdP_may (splitS (getH l kTS).1) [] ⟨by simp, by simp, by simp⟩
  have h2 : chkM [] (readM (getH l kTS).1).1 = 0 := (chkM_zero _).2 h1
  have hp : putM (readM (getH l kTS).1).1 kMesh (hx 16 s) = (memI l s, 0) := by
    rw [memI_eq]
    unfold putM
    rw [if_neg (by rw [keyB_mesh]; decide), if_neg (by rw [valM_hx]; decide)]
  exact (chkM_zero _).1 (putM_ok h2 hp).1
theorem mayM_take {L : List Hd} (h : mayM L) (k : Nat) : mayM (L.take k) := by
  obtain ⟨h1, h2, h3⟩ := h
  refine ⟨fun m hm => h1 m (List.mem_of_mem_take hm), ?_, Nat.le_trans (List.length_take_le' _ _) h3⟩
  rw [List.map_take]
  exact List.Sublist.nodup (List.take_sublist _ _) h2
/-- What is left is a front of the members, not none, and its text is not too long. -/
theorem cutI_is (L : List Hd) (h1 : 0 < L.length) (h2 : (joinM (L.take 1)).length ≤ 64) : ∀ k : Nat, 0 < k → ∃ j, 0 < j ∧ j ≤ k ∧ cutI L k = L.take j ∧ (joinM (L.take j)).length ≤ 64
  | 0, h => absurd h (by omega)
  | k + 1, _ => by
    rw [cutI]
    by_cases hk : (joinM (L.take (k + 1))).length ≤ 64
    · rw [if_pos hk]
      exact ⟨k + 1, by omega, Nat.le_refl _, rfl, hk⟩
    · rw [if_neg hk]
      rcases Nat.eq_zero_or_pos k with h0 | h0
      · subst h0
        exact absurd h2 hk
      · obtain ⟨j, a, b, c, d⟩ := cutI_is L h1 h2 k h0
        exact ⟨j, a, by omega, c, d⟩
theorem join_one_M (m : Hd) : joinM [m] = memT m := by
  rw [joinM, List.map_singleton, Lib.join_one]
theorem joinM_head (m : Hd) : ∀ r : List Hd, ∃ t, joinM (m :: r) = memT m ++ t
  | [] => ⟨[], by rw [join_one_M]; simp⟩
  | x :: r => ⟨44 :: joinM (x :: r), by
    simp only [joinM, List.map_cons]
    rw [Lib.join_cons, Lib.join_cons]
    simp [Lib.joinTail]⟩
/-- The text that is put in: of a front of the members, mesh first, 64 bytes at most. -/
theorem txtI_is (l : List Hd) (s : Nat) : ∃ j, 0 < j ∧ cutI (memI l s) (memI l s).length = (memI l s).take j ∧ (txtI l s).length ≤ 64 ∧ mayM ((memI l s).take j) ∧ ∃ t, txtI l s = memT (kMesh, hx 16 s) ++ t := by
  have hm := memI_eq l s
  have hpos : 0 < (memI l s).length := by rw [hm]; simp
  have h1 : (memI l s).take 1 = [(kMesh, hx 16 s)] := by rw [hm]; simp
  have hl : (memT (kMesh, hx 16 s)).length = 21 := by simp [memT, kMesh, hx_length]
  obtain ⟨j, a, b, c, d⟩ := cutI_is (memI l s) hpos (by rw [h1, join_one_M, hl]; omega) (memI l s).length hpos
  refine ⟨j, a, c, by unfold txtI; rw [c]; exact d, mayM_take (memI_may l s) j, ?_⟩
  obtain ⟨j', rfl⟩ : ∃ j', j = j' + 1 := ⟨j - 1, by omega⟩
  have h2 : (memI l s).take (j' + 1) = (kMesh, hx 16 s) :: ((((readM (getH l kTS).1).1.filter fun h => !(h.1 == kMesh)).take 31).take j') := by
    rw [hm]; simp
  obtain ⟨t, ht⟩ := joinM_head (kMesh, hx 16 s) ((((readM (getH l kTS).1).1.filter fun h => !(h.1 == kMesh)).take 31).take j')
  exact ⟨t, by unfold txtI; rw [c, h2]; exact ht⟩
theorem hasN_two (a b : List UInt8) (h : Hd) : hasN [a, b] h = (hasN [a] h || hasN [b] h) := by
  rw [Bool.eq_iff_iff]
  simp [hasN, memB]
theorem withoutH_two (L : List Hd) (a b : List UInt8) : withoutH L [a, b] = withoutH (withoutH L [a]) [b] := by
  unfold withoutH
  rw [List.filter_filter]
  refine List.filter_congr fun h _ => ?_
  rw [hasN_two]
  cases hasN [a] h <;> cases hasN [b] h <;> rfl
theorem withoutH_swap (L : List Hd) (a b : List UInt8) : withoutH (withoutH L [a]) [b] = withoutH (withoutH L [b]) [a] := by
  unfold withoutH
  rw [List.filter_filter, List.filter_filter]
  refine List.filter_congr fun h _ => ?_
  rw [Bool.and_comm]
/-- Set of one name leaves the headers of another one. -/
theorem setH_filter (p : Hd → Bool) (L : List Hd) (n v : List UInt8) (hp : ∀ h : Hd, hasN [n] h = true → p h = false) : (setH L n v).filter p = L.filter p := by
  have hone : [(n, v)].filter p = [] := by
    rw [List.filter_cons, if_neg (by rw [hp (n, v) (by simp [hasN, memB])]; decide)]; rfl
  have hwo : ∀ M : List Hd, (withoutH M [n]).filter p = M.filter p := fun M => by
    unfold withoutH
    rw [List.filter_filter]
    refine List.filter_congr fun h _ => ?_
    cases hh : hasN [n] h with
    | true => rw [hp h hh]; rfl
    | false => simp
  by_cases h : L.findIdx (hasN [n]) < L.length
  · obtain ⟨h1, h2, h3⟩ := part (hasN [n]) L h
    rw [setH, if_pos h, addH, List.filter_append, List.filter_append, hone, List.append_nil, hwo]
    conv => rhs; rw [h1]
    rw [List.filter_append, List.filter_cons, if_neg (by rw [hp _ h3]; decide)]
  · rw [setH, if_neg h, addH, List.filter_append, hone, List.append_nil]
theorem allS_setH_ne (L : List Hd) (n m v : List UInt8) (hne : n ≠ m) : allS (setH L n v) m = allS L m := by
  unfold allS
  rw [setH_filter]
  intro h hh
  rw [hasN_one] at hh ⊢
  have : h.1 = n := by simpa using hh
  rw [this]
  simpa using hne
theorem withoutH_setH (L : List Hd) (n v : List UInt8) (ns : List (List UInt8)) (hn : n ∈ ns) : withoutH (setH L n v) ns = withoutH L ns := by
  unfold withoutH
  refine setH_filter _ L n v fun h hh => ?_
  rw [hasN_one] at hh
  have : h.1 = n := by simpa using hh
  simp [hasN, memB, this, hn]
theorem kTP_ne : kTP ≠ kTS := by decide
/-- What is set is just one of its name, and nothing else is another. -/
theorem into_facts (l : List Hd) (s t : List UInt8) :
    allS (setH (setH l kTP s) kTS t) kTP = [s] ∧ allS (setH (setH l kTP s) kTS t) kTS = [t] ∧ stripI (setH (setH l kTP s) kTS t) = stripI l := by
  refine ⟨?_, (setH_facts _ _ _).1, ?_⟩
  · rw [allS_setH_ne _ _ _ _ (Ne.symm kTP_ne)]
    exact (setH_facts _ _ _).1
  · unfold stripI
    rw [withoutH_setH _ _ _ _ (by simp), withoutH_setH _ _ _ _ (by simp)]
theorem into_get (l : List Hd) (s t : List UInt8) : getH (setH (setH l kTP s) kTS t) kTP = (s, true) ∧ getH (setH (setH l kTP s) kTS t) kTS = (t, true) := by
  obtain ⟨h1, h2, -⟩ := into_facts l s t
  exact ⟨by unfold getH; rw [h1], by unfold getH; rw [h2]⟩
theorem filter_two_len {α : Type} (p : α → Bool) (L : List α) : (L.filter p).length + (L.filter fun x => !p x).length = L.length := by
  induction L with
  | nil => rfl
  | cons d r ih =>
    rw [List.filter_cons, List.filter_cons]
    cases h : p d
    · simp only [Bool.not_false, if_true, List.length_cons]
      rw [if_neg (by decide)]
      omega
    · simp only [Bool.not_true, if_true, List.length_cons]
      rw [if_neg (by decide)]
      omega
theorem len_two (L : List Hd) : (stripI L).length + (allS L kTP).length + (allS L kTS).length = L.length := by
  have h1 := filter_two_len (hasN [kTP]) L
  have h2 := filter_two_len (hasN [kTS]) (withoutH L [kTP])
  have e : (withoutH L [kTP]).filter (hasN [kTS]) = L.filter (hasN [kTS]) := by
    unfold withoutH
    rw [List.filter_filter]
    refine List.filter_congr fun h _ => ?_
    rw [hasN_one, hasN_one]
    cases hh : (h.1 == kTS) with
    | false => rfl
    | true =>
      have h3 : h.1 = kTS := by simpa using hh
      rw [h3]
      decide
  unfold stripI
  rw [withoutH_two]
  unfold allS
  rw [List.length_map, List.length_map]
  rw [e] at h2
  unfold withoutH at h2 ⊢
  omega
theorem into_len (l : List Hd) (s t : List UInt8) : (setH (setH l kTP s) kTS t).length = (stripI l).length + 2 := by
  obtain ⟨h1, h2, h3⟩ := into_facts l s t
  have := len_two (setH (setH l kTP s) kTS t)
  rw [h1, h2, h3] at this
  simp only [List.length_cons, List.length_nil] at this
  omega
/-- What was put in is said. -/
theorem from_into {a b s : Nat} {f : Int} (ha : a < 18446744073709551616) (hb : b < 18446744073709551616) (hs : s < 18446744073709551616) (h : (wrS a b s f).2 = 0) (l : List Hd) (t : List UInt8) :
    0 ≤ f ∧ f ≤ 255 ∧ fromI (setH (setH l kTP (wrS a b s f).1) kTS t) = ((a, b, s, f.toNat), 0) := by
  have h0 := h
  unfold wrS at h
  split at h
  · cases h
  · split at h
    · cases h
    · rename_i h1 h2
      have e : (wrS a b s f).1 = parT (a, b, s, f.toNat) := by unfold wrS; rw [if_neg h1, if_neg h2]
      refine ⟨by omega, by omega, ?_⟩
      unfold fromI
      rw [(into_get l _ t).1]
      simp only [if_true]
      rw [e]
      exact parS_parT ha hb hs (by show f.toNat < 256; omega) (by have : pzero (a, b, s, f.toNat) = pzero (a, b, s, 0) := rfl; rw [this]; simpa using h1)
theorem getLastD_app (a b : List UInt8) (h : b ≠ []) : (a ++ b).getLastD 0 = b.getLastD 0 := by
  rw [List.getLastD_eq_getLast?, List.getLastD_eq_getLast?, List.getLast?_append]
  cases hb : b.getLast? with
  | none => exact absurd (List.getLast?_eq_none_iff.1 hb) h
  | some x => rfl
theorem valueB_of {l : List UInt8} (h1 : l.length ≤ 64) (h2 : ∀ c ∈ l, inValueB c = true) (h3 : (l.headD 0).toNat ≠ 32) (h4 : (l.getLastD 0).toNat ≠ 32) : valueB l = true := by
  unfold valueB endsB
  simp only [Bool.and_eq_true, Bool.or_eq_true, decide_eq_true_eq, List.all_eq_true]
  exact ⟨h1, h2, Or.inr ⟨h3, h4⟩⟩
/-- A traceparent's text may be a header's value. -/
theorem valueB_parT (p : Pr) : valueB (parT p) = true := by
  have h2 : hx 2 p.2.2.2 ≠ [] := fun h => by have := hx_length 2 p.2.2.2; rw [h] at this; cases this
  refine valueB_of (by rw [parT_len]; omega) ?_ ?_ ?_
  · intro c hc
    unfold parT at hc
    simp only [List.mem_append] at hc
    rcases hc with (((((hc | hc) | hc) | hc) | hc) | hc) | hc
    · simp at hc
      rcases hc with rfl | rfl | rfl <;> decide
    · exact (hx_in _ _ c hc).2.2
    · exact (hx_in _ _ c hc).2.2
    · simp at hc; subst hc; decide
    · exact (hx_in _ _ c hc).2.2
    · simp at hc; subst hc; decide
    · exact (hx_in _ _ c hc).2.2
  · unfold parT
    simp only [List.cons_append, List.headD_cons]
    decide
  · unfold parT
    rw [getLastD_app _ _ h2]
    exact (hx_in _ _ _ (last_mem h2)).2.1
theorem key_value {l : List UInt8} (h : keyB l = true) : ∀ c ∈ l, inValueB c = true := by
  unfold keyB at h
  simp only [Bool.and_eq_true] at h
  intro c hc
  have h1 := allK_in l true h.2.2 c hc
  unfold inKeyB inKey0 inSign at h1
  unfold inValueB
  simp only [Bool.or_eq_true, Bool.and_eq_true, decide_eq_true_eq, Bool.not_false] at h1 ⊢
  omega
theorem val_value {l : List UInt8} (h : valM l = true) : ∀ c ∈ l, inValueB c = true := by
  unfold valM at h
  simp only [Bool.and_eq_true, List.all_eq_true] at h
  intro c hc
  have h1 := h.2.2.2 c hc
  unfold inValB at h1
  unfold inValueB
  simp only [Bool.and_eq_true, decide_eq_true_eq] at h1 ⊢
  exact ⟨h1.1, h1.2.1⟩
theorem mem_value {m : Hd} (h1 : keyB m.1 = true) (h2 : valM m.2 = true) : (∀ c ∈ memT m, inValueB c = true) ∧ ((memT m).getLastD 0).toNat ≠ 32 := by
  obtain ⟨-, h3, h4⟩ := val_in h2
  refine ⟨fun c hc => ?_, ?_⟩
  · unfold memT at hc
    simp only [List.mem_append] at hc
    rcases hc with (hc | hc) | hc
    · exact key_value h1 c hc
    · simp at hc; subst hc; decide
    · exact val_value h2 c hc
  · unfold memT
    rw [getLastD_app _ _ h4]
    exact h3
theorem join_value : ∀ L : List Hd, L ≠ [] → (∀ m ∈ L, keyB m.1 = true ∧ valM m.2 = true) → (∀ c ∈ joinM L, inValueB c = true) ∧ ((joinM L).getLastD 0).toNat ≠ 32
  | [], h, _ => absurd rfl h
  | [m], _, h => by
    rw [join_one_M]
    exact mem_value (h m (by simp)).1 (h m (by simp)).2
  | m :: x :: r, _, h => by
    obtain ⟨h1, h2⟩ := join_value (x :: r) (by simp) fun y hy => h y (by simp [List.mem_cons.1 hy])
    have e : joinM (m :: x :: r) = memT m ++ (44 :: joinM (x :: r)) := by
      simp only [joinM, List.map_cons]
      rw [Lib.join_cons, Lib.join_cons]
      simp [Lib.joinTail]
    have hne : joinM (x :: r) ≠ [] := by
      obtain ⟨t, ht⟩ := joinM_head x r
      rw [ht]
      intro h0
      exact memT_ne x (List.append_eq_nil_iff.1 h0).1
    rw [e]
    refine ⟨fun c hc => ?_, ?_⟩
    · rcases List.mem_append.1 hc with hc | hc
      · exact (mem_value (h m (by simp)).1 (h m (by simp)).2).1 c hc
      · rcases List.mem_cons.1 hc with rfl | hc
        · decide
        · exact h1 c hc
    · rw [getLastD_app _ _ (by simp), show (44 : UInt8) :: joinM (x :: r) = [44] ++ joinM (x :: r) from rfl, getLastD_app _ _ hne]
      exact h2
/-- The tracestate's text may be a header's value, begins with mesh, and has 21 bytes at least. -/
theorem valueB_txtI (l : List Hd) (s : Nat) : valueB (txtI l s) = true ∧ 21 ≤ (txtI l s).length ∧ (txtI l s).take 5 = [109, 101, 115, 104, 61] := by
  obtain ⟨j, hj, hc, h64, hm, t, ht⟩ := txtI_is l s
  have hne : (memI l s).take j ≠ [] := fun h0 => by
    have : txtI l s = [] := by unfold txtI; rw [hc, h0]; rfl
    rw [ht] at this
    exact memT_ne _ (List.append_eq_nil_iff.1 this).1
  obtain ⟨h1, h2⟩ := join_value _ hne hm.1
  have e : txtI l s = joinM ((memI l s).take j) := by unfold txtI; rw [hc]
  refine ⟨valueB_of h64 (by rw [e]; exact h1) ?_ (by rw [e]; exact h2), ?_, ?_⟩
  · rw [ht]
    simp [memT, kMesh]
  · rw [ht, List.length_append]
    have : (memT (kMesh, hx 16 s)).length = 21 := by simp [memT, kMesh, hx_length]
    omega
  · rw [ht]
    simp [memT, kMesh]
end Go.Proofs.YtnbkpannhcamjaaDoor
