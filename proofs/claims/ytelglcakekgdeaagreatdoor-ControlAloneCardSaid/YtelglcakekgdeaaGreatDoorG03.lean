/- Texts put together: La Lb Mq. -/
import Derived.Test.YtelglcakekgdeaaGreatDoorG02
import Derived.Lib.AtoiAll
import Derived.Lib.ItoaNum
namespace Go.Proofs.YtelglcakekgdeaaGreatDoor
set_option linter.unusedVariables false
set_option linter.unusedSimpArgs false

/-- The lines: each one's first word, and signs of what stands behind it. -/
def frm : List (List UInt8 × List UInt8) := [([102, 111, 114, 109, 97, 116], [115]), ([114, 117, 108, 101], [110]), ([109, 101, 116, 104, 111, 100], [119]), ([104, 111, 115, 116], [119]), ([101, 120, 97, 99, 116], [119]), ([112, 114, 101, 102, 105, 120], [119]), ([104, 101, 97, 100], [119, 116]), ([104, 97, 115], [119]), ([116, 111], [119]), ([97, 98, 111, 114, 116], [110, 110]), ([100, 101, 108, 97, 121], [110, 110]), ([109, 105, 114, 114, 111, 114], [110, 119]), ([115, 97, 109, 112, 108, 101], [110]), ([101, 110, 100], [])]
def frmW (i : Nat) : List UInt8 := ((frm[i]?).getD ([], [])).1
def frmB (i : Nat) : List UInt8 := ((frm[i]?).getD ([], [])).2
def lineT (i : Nat) (bh : List (List UInt8)) : List UInt8 := frmW i ++ bh.flatMap (fun s => 32 :: s)
def lineN (i : Nat) (bh : List (List UInt8)) : List UInt8 := lineT i bh ++ [10]
def predN (p : Pd) : List UInt8 := if p.k = 5 then lineN 6 [p.n, p.v] else if p.k = 6 then lineN 7 [p.n] else lineN (p.k + 1).toNat [p.v]
def abN (r : Rs) : List UInt8 := if r.ap ≠ 0 ∨ r.st ≠ 0 then lineN 9 [Lib.itoa r.ap, Lib.itoa r.st] else []
def deN (r : Rs) : List UInt8 := if r.dp ≠ 0 ∨ r.dt ≠ 0 then lineN 10 [Lib.itoa r.dp, Lib.itoa r.dt] else []
def miN (r : Rs) : List UInt8 := if r.mi ≠ [] then lineN 11 [Lib.itoa r.mp, r.mi] else []
def saN (r : Rs) : List UInt8 := if r.sm ≠ 0 then lineN 12 [Lib.itoa r.sm] else []
def ruleN (r : Rs) : List UInt8 := lineN 1 [Lib.itoa r.rank] ++ (r.ps.flatMap predN ++ (lineN 8 [r.tg] ++ (abN r ++ (deN r ++ (miN r ++ saN r)))))
def fmN (f : List UInt8) : List UInt8 := if f ≠ [] then lineN 0 [f] else []
def confN (f : List UInt8) (U : List Rs) : List UInt8 := fmN f ++ (U.flatMap ruleN ++ lineN 13 [])
def inNum (n : Int) : Bool := decide (0 ≤ n) && decide (n ≤ 999999)
def numsR (r : Rs) : List Int := [r.rank, r.ap, r.st, r.dp, r.dt, r.mp, r.sm]
def mirB (m : List UInt8) (p : Int) : Bool := if m = [] then decide (p = 0) else nameB m
/-- A rule's error, where it is to be written. -/
def cfR (r : Rs) : Int :=
  if 4 < r.ps.length then 8 else if fltR r.ps ≠ 0 then fltR r.ps else if nameB r.tg = false ∨ mirB r.mi r.mp = false then 7 else if (numsR r).all inNum = false then 12 else 0

/-- What a line says. -/
structure Sd where
  line : Nat
  nums : List Int
  words : List (List UInt8)
  deriving DecidableEq
def lineIx (w : List UInt8) : Option Nat := if frm.findIdx (fun x => x.1 == w) < 14 then some (frm.findIdx (fun x => x.1 == w)) else none
def numP (l : List UInt8) : Option Int := match Lib.atoiAll l with
  | .ok v => if inNum v = true ∧ Lib.itoa v = l then some v else none
  | _ => none
def cutP (sg : UInt8) (r : List UInt8) : List UInt8 × List UInt8 × Bool := if sg = 116 ∨ sg = 115 then (r, [], false) else cutS [32] r
def takeP (s : Sd) (sg : UInt8) (w : List UInt8) : Option Sd :=
  if sg = 110 then (match numP w with | some n => some ⟨s.line, s.nums ++ [n], s.words⟩ | none => none)
  else if sg = 115 ∧ w = [] then none else some ⟨s.line, s.nums, s.words ++ [w]⟩
def behP : List UInt8 → Sd → List UInt8 → Bool → Option (Sd × Bool)
  | [], s, _, more => some (s, more)
  | sg :: t, s, rest, more => if more = false then none else match takeP s sg (cutP sg rest).1 with
    | none => none
    | some s' => behP t s' (cutP sg rest).2.1 (cutP sg rest).2.2
def hearP (l : List UInt8) : Option Sd := match lineIx (cutS [32] l).1 with
  | none => none
  | some i => match behP (frmB i) ⟨i, [], []⟩ (cutS [32] l).2.1 (cutS [32] l).2.2 with
    | some (s, false) => some s
    | _ => none
def folP (line : Nat) (last : Int) : Bool :=
  if line = 0 then decide (last = -1) else if line = 1 ∨ line = 13 then !(decide (1 ≤ last) && decide (last < 8)) && decide (last ≠ 13)
  else if line ≤ 8 then decide (1 ≤ last) && decide (last < 8) else decide (8 ≤ last) && decide (last < (line : Int))
def wd (s : Sd) (i : Nat) : List UInt8 := (s.words[i]?).getD []
def nm (s : Sd) (i : Nat) : Int := (s.nums[i]?).getD 0
def predP (s : Sd) : Pd := if s.line = 6 then ⟨5, wd s 0, wd s 1⟩ else if s.line = 7 then ⟨6, wd s 0, []⟩ else ⟨(s.line : Int) - 1, [], wd s 0⟩
def withP (r : Rs) (s : Sd) : Rs :=
  if s.line = 8 then { r with tg := wd s 0 } else if s.line = 9 then { r with ap := nm s 0, st := nm s 1 } else if s.line = 10 then { r with dp := nm s 0, dt := nm s 1 }
  else if s.line = 11 then { r with mp := nm s 0, mi := wd s 0 } else if s.line = 12 then { r with sm := nm s 0 } else { r with ps := r.ps ++ [predP s] }
def rule0 (n : Int) : Rs := ⟨n, [], [], 0, 0, 0, 0, 0, [], 0⟩
def keepU (U : List Rs) (s : Sd) : List Rs := match U.getLast? with
  | none => U
  | some r => U.dropLast ++ [withP r s]
def keepP (f : List UInt8) (U : List Rs) (s : Sd) : List UInt8 × List Rs :=
  if s.line = 0 then (wd s 0, U) else if s.line = 1 then (f, U ++ [rule0 (nm s 0)]) else if s.line = 13 then (f, U) else (f, keepU U s)
def linesP : Nat → List UInt8 → Nat → Int → List UInt8 → List Rs → Option (List UInt8 × List Rs) × Nat
  | 0, _, n, _, _, _ => (none, n + 1)
  | k + 1, rest, n, last, f, U =>
    if (cutS [10] rest).2.2 = false then (none, n + 1) else match hearP (cutS [10] rest).1 with
    | none => (none, n + 1)
    | some s => if folP s.line last = false then (none, n + 1) else
      if s.line ≠ 13 ∨ (cutS [10] rest).2.1 ≠ [] then linesP k (cutS [10] rest).2.1 (n + 1) s.line (keepP f U s).1 (keepP f U s).2 else (some (keepP f U s), n + 1)
abbrev Cf := List UInt8 × List Rs
/-- What is read of a text: the config, the number of the line at fault, the error. -/
def readC (text : List UInt8) : Cf × Nat × Int :=
  if 4096 < text.length then (([], []), 0, 6) else match linesP (text.length + 1) text 0 (-1) [] [] with
  | (none, n) => (([], []), n, 3)
  | (some g, _) => if chkC cfR g.1 g.2 ≠ 0 then (([], []), 0, chkC cfR g.1 g.2) else (g, 0, 0)

-- numerals
theorem digs_all (u : Nat) : ∀ x ∈ Lib.decDigits u, 48 ≤ x.toNat ∧ x.toNat ≤ 57 := by
  induction u using Nat.strongRecOn with
  | _ u ih =>
    intro x hx
    rw [Lib.decDigits] at hx
    split at hx
    · simp at hx; subst hx; simp; omega
    · rename_i h
      rcases List.mem_append.1 hx with hx | hx
      · exact ih (u / 10) (by omega) x hx
      · simp at hx; subst hx; simp; omega
theorem digs_ne (u : Nat) : Lib.decDigits u ≠ [] := by
  rw [Lib.decDigits]
  split <;> simp
theorem parse_snoc : ∀ (l : List UInt8) (acc a : Nat) (c : UInt8), Lib.parseUint10 acc l = .ok a → a ≤ 100000000000 → 48 ≤ c.toNat → c.toNat ≤ 57 → Lib.parseUint10 acc (l ++ [c]) = .ok (a * 10 + (c.toNat - 48))
  | [], acc, a, c, h, ha, h1, h2 => by
    simp only [Lib.parseUint10] at h
    injection h with h
    subst h
    simp only [List.nil_append, Lib.parseUint10]
    rw [if_pos ⟨h1, h2⟩, if_neg (by omega), if_neg (by omega)]
  | d :: r, acc, a, c, h, ha, h1, h2 => by
    simp only [List.cons_append, Lib.parseUint10] at h ⊢
    split at h
    · rename_i hd
      rw [if_pos hd]
      split at h
      · cases h
      · rename_i h3
        rw [if_neg h3]
        split at h
        · cases h
        · rename_i h4
          rw [if_neg h4]
          exact parse_snoc r _ a c h ha h1 h2
    · cases h
theorem parse_digs (u : Nat) (hu : u ≤ 1000000000) : Lib.parseUint10 0 (Lib.decDigits u) = .ok u := by
  induction u using Nat.strongRecOn with
  | _ u ih =>
    rw [Lib.decDigits]
    split
    · rename_i h
      have hc : (UInt8.ofNat (48 + u)).toNat = 48 + u := by simp; omega
      simp only [Lib.parseUint10]
      rw [hc, if_pos (by omega), if_neg (by omega), if_neg (by omega)]
      congr 1
      omega
    · rename_i h
      have hc : (UInt8.ofNat (48 + u % 10)).toNat = 48 + u % 10 := by simp; omega
      rw [parse_snoc _ 0 (u / 10) _ (ih (u / 10) (by omega) (by omega)) (by omega) (by rw [hc]; omega) (by rw [hc]; omega), hc]
      congr 1
      omega
theorem itoa_nat (u : Nat) : Lib.itoa (u : Int) = Lib.decDigits u := by
  unfold Lib.itoa
  rw [if_neg (by omega)]; simp
theorem atoi_digs (u : Nat) (hu : u ≤ 1000000000) : Lib.atoiAll (Lib.decDigits u) = .ok (u : Int) := by
  have hn := digs_ne u
  have ha := digs_all u
  have hp := parse_digs u hu
  unfold Lib.atoiAll
  cases hd : Lib.decDigits u with
  | nil => exact absurd hd hn
  | cons c r =>
    have hc := ha c (by rw [hd]; simp)
    rw [hd] at hp
    simp only
    rw [if_neg (by omega), Lib.parseMag, if_neg (by simp), hp]
    simp only
    rw [if_neg (by omega), if_neg (by omega), if_neg (by omega)]
theorem numP_itoa {n : Int} (h : inNum n = true) : numP (Lib.itoa n) = some n := by
  have h' := h
  unfold inNum at h'
  simp at h'
  obtain ⟨u, rfl⟩ : ∃ u : Nat, n = (u : Int) := ⟨n.toNat, by omega⟩
  rw [numP, itoa_nat, atoi_digs u (by omega)]
  simp only
  rw [if_pos ⟨h, itoa_nat u⟩]
theorem itoa_ne {n : Int} (h : inNum n = true) : ∀ x ∈ Lib.itoa n, x ≠ 32 ∧ x ≠ 10 := by
  unfold inNum at h
  simp at h
  obtain ⟨u, rfl⟩ : ∃ u : Nat, n = (u : Int) := ⟨n.toNat, by omega⟩
  rw [itoa_nat]
  intro x hx
  have := digs_all u x hx
  constructor <;> (rintro rfl; revert this; decide)
-- cutting
theorem cut_none {c : UInt8} {a : List UInt8} (h : ∀ x ∈ a, x ≠ c) : cutS [c] a = (a, [], false) := by
  induction a with
  | nil => rfl
  | cons b l ih =>
    rw [cutS, if_neg (by
      simp only [List.isPrefixOf, Bool.and_true, beq_iff_eq]
      exact fun e => h b (by simp) e.symm), ih fun x hx => h x (by simp [hx])]
theorem frm_facts : ∀ i : Fin 14, lineIx (frmW i.val) = some i.val ∧ (frmW i.val).all (fun x => x != 32 && x != 10) = true := by decide +kernel
theorem frm_ix {i : Nat} (hi : i < 14) : lineIx (frmW i) = some i := (frm_facts ⟨i, hi⟩).1
theorem frm_ne {i : Nat} (hi : i < 14) : ∀ x ∈ frmW i, x ≠ 32 ∧ x ≠ 10 := fun x hx => by
  have := List.all_eq_true.1 (frm_facts ⟨i, hi⟩).2 x hx
  simpa using this
theorem hear_cut {i : Nat} (hi : i < 14) (r : List UInt8) : hearP (frmW i ++ 32 :: r) = match behP (frmB i) ⟨i, [], []⟩ r true with
    | some (s, false) => some s
    | _ => none := by
  rw [hearP, cutS_one (frmW i) r fun x hx => (frm_ne hi x hx).1]
  simp only [frm_ix hi]
theorem hear_w {i : Nat} (hi : i < 14) (hb : frmB i = [119]) {v : List UInt8} (hv : ∀ x ∈ v, x ≠ 32) : hearP (lineT i [v]) = some ⟨i, [], [v]⟩ := by
  have : lineT i [v] = frmW i ++ 32 :: v := by simp [lineT]
  rw [this, hear_cut hi, hb]
  simp [behP, cutP, takeP, cut_none hv]
theorem hear_n {i : Nat} (hi : i < 14) (hb : frmB i = [110]) {n : Int} (hn : inNum n = true) : hearP (lineT i [Lib.itoa n]) = some ⟨i, [n], []⟩ := by
  have : lineT i [Lib.itoa n] = frmW i ++ 32 :: Lib.itoa n := by simp [lineT]
  rw [this, hear_cut hi, hb]
  simp [behP, cutP, takeP, cut_none fun x hx => (itoa_ne hn x hx).1, numP_itoa hn]
theorem hear_nn {i : Nat} (hi : i < 14) (hb : frmB i = [110, 110]) {n m : Int} (hn : inNum n = true) (hm : inNum m = true) : hearP (lineT i [Lib.itoa n, Lib.itoa m]) = some ⟨i, [n, m], []⟩ := by
  have : lineT i [Lib.itoa n, Lib.itoa m] = frmW i ++ 32 :: (Lib.itoa n ++ 32 :: Lib.itoa m) := by simp [lineT]
  rw [this, hear_cut hi, hb]
  simp [behP, cutP, takeP, cutS_one (Lib.itoa n) (Lib.itoa m) fun x hx => (itoa_ne hn x hx).1, cut_none fun x hx => (itoa_ne hm x hx).1, numP_itoa hn, numP_itoa hm]
theorem hear_nw {i : Nat} (hi : i < 14) (hb : frmB i = [110, 119]) {n : Int} {v : List UInt8} (hn : inNum n = true) (hv : ∀ x ∈ v, x ≠ 32) : hearP (lineT i [Lib.itoa n, v]) = some ⟨i, [n], [v]⟩ := by
  have : lineT i [Lib.itoa n, v] = frmW i ++ 32 :: (Lib.itoa n ++ 32 :: v) := by simp [lineT]
  rw [this, hear_cut hi, hb]
  simp [behP, cutP, takeP, cutS_one (Lib.itoa n) v fun x hx => (itoa_ne hn x hx).1, cut_none hv, numP_itoa hn]
theorem hear_wt {i : Nat} (hi : i < 14) (hb : frmB i = [119, 116]) {n v : List UInt8} (hn : ∀ x ∈ n, x ≠ 32) : hearP (lineT i [n, v]) = some ⟨i, [], [n, v]⟩ := by
  have : lineT i [n, v] = frmW i ++ 32 :: (n ++ 32 :: v) := by simp [lineT]
  rw [this, hear_cut hi, hb]
  simp [behP, cutP, takeP, cutS_one n v hn]
theorem hear_s {i : Nat} (hi : i < 14) (hb : frmB i = [115]) {v : List UInt8} (hv : v ≠ []) : hearP (lineT i [v]) = some ⟨i, [], [v]⟩ := by
  have : lineT i [v] = frmW i ++ 32 :: v := by simp [lineT]
  rw [this, hear_cut hi, hb]
  simp [behP, cutP, takeP, hv]
theorem hear_end : hearP (lineT 13 []) = some ⟨13, [], []⟩ := by decide +kernel
end Go.Proofs.YtelglcakekgdeaaGreatDoor
namespace Go.Proofs.YtelglcakekgdeaaGreatDoor
set_option linter.unusedVariables false
set_option linter.unusedSimpArgs false

theorem lines_step {k : Nat} {t r : List UInt8} {n : Nat} {last : Int} {f : List UInt8} {U : List Rs} {s : Sd} (ht : ∀ x ∈ t, x ≠ 10) (hh : hearP t = some s) (hf : folP s.line last = true) :
    linesP (k + 1) (t ++ 10 :: r) n last f U = if s.line ≠ 13 ∨ r ≠ [] then linesP k r (n + 1) s.line (keepP f U s).1 (keepP f U s).2 else (some (keepP f U s), n + 1) := by
  rw [linesP, cutS_one t r ht]
  simp only [hh, hf]
  simp
/-- A text leads from one state of the reader to another. -/
def Goes (t : List UInt8) (last : Int) (f : List UInt8) (U : List Rs) (last' : Int) (f' : List UInt8) (U' : List Rs) : Prop :=
  ∀ (k n : Nat) (rest : List UInt8), t.length ≤ k → ∃ k' n', k ≤ k' + t.length ∧ linesP k (t ++ rest) n last f U = linesP k' rest n' last' f' U'
theorem Goes.nil (last : Int) (f : List UInt8) (U : List Rs) : Goes [] last f U last f U := fun k n rest _ => ⟨k, n, by simp, rfl⟩
theorem Goes.append {t u : List UInt8} {a b c : Int} {f g h : List UInt8} {U V W : List Rs} (h1 : Goes t a f U b g V) (h2 : Goes u b g V c h W) : Goes (t ++ u) a f U c h W := fun k n rest hk => by
  rw [List.length_append] at hk
  obtain ⟨k1, n1, e1, e2⟩ := h1 k n (u ++ rest) (by omega)
  obtain ⟨k2, n2, e3, e4⟩ := h2 k1 n1 rest (by omega)
  exact ⟨k2, n2, by rw [List.length_append]; omega, by rw [List.append_assoc, e2, e4]⟩
theorem Goes.line {i : Nat} {bh : List (List UInt8)} {s : Sd} {last : Int} {f : List UInt8} {U : List Rs} (hi : i < 14) (hb : ∀ v ∈ bh, ∀ x ∈ v, x ≠ 10) (hh : hearP (lineT i bh) = some s) (hs : s.line = i) (h13 : i ≠ 13) (hf : folP i last = true) :
    Goes (lineN i bh) last f U i (keepP f U s).1 (keepP f U s).2 := fun k n rest hk => by
  have hl : (lineN i bh).length = (lineT i bh).length + 1 := by simp [lineN]
  obtain ⟨k0, rfl⟩ : ∃ k0, k = k0 + 1 := ⟨k - 1, by omega⟩
  have ht : ∀ x ∈ lineT i bh, x ≠ 10 := fun x hx => by
    rw [lineT] at hx
    rcases List.mem_append.1 hx with hx | hx
    · exact (frm_ne hi x hx).2
    · obtain ⟨v, hv, hx⟩ := List.mem_flatMap.1 hx
      rcases List.mem_cons.1 hx with rfl | hx
      · decide
      · exact hb v hv x hx
  have e : lineN i bh ++ rest = lineT i bh ++ 10 :: rest := by simp [lineN]
  refine ⟨k0, n + 1, by omega, ?_⟩
  rw [e, lines_step ht hh (by rw [hs]; exact hf), if_pos (Or.inl (by rw [hs]; exact h13)), hs]
theorem keepP_rest {f : List UInt8} {V : List Rs} {r : Rs} {s : Sd} (h0 : s.line ≠ 0) (h1 : s.line ≠ 1) (h13 : s.line ≠ 13) : keepP f (V ++ [r]) s = (f, V ++ [withP r s]) := by
  rw [keepP, if_neg h0, if_neg h1, if_neg h13, keepU]
  simp
theorem ne_of_all {p : UInt8 → Bool} {l : List UInt8} (h : l.all p = true) {c : UInt8} (hc : p c = false) : ∀ x ∈ l, x ≠ c := all_ne h hc
theorem name_ne {l : List UInt8} (h : nameB l = true) : (∀ x ∈ l, x ≠ 32) ∧ ∀ x ∈ l, x ≠ 10 := ⟨all_ne (nameB_all h).2 (by decide), all_ne (nameB_all h).2 (by decide)⟩
theorem method_ne {l : List UInt8} (h : methodB l = true) : (∀ x ∈ l, x ≠ 32) ∧ ∀ x ∈ l, x ≠ 10 := by
  unfold methodB at h
  rw [Bool.and_eq_true, Bool.and_eq_true] at h
  exact ⟨all_ne h.2.2 (by decide), all_ne h.2.2 (by decide)⟩
theorem path_ne {l : List UInt8} (h : pathB l = true) : (∀ x ∈ l, x ≠ 32) ∧ ∀ x ∈ l, x ≠ 10 := by
  unfold pathB at h
  rw [Bool.and_eq_true, Bool.and_eq_true] at h
  exact ⟨all_ne h.2.2 (by decide), all_ne h.2.2 (by decide)⟩
theorem value_ne {l : List UInt8} (h : valueB l = true) : ∀ x ∈ l, x ≠ 10 := all_ne (valueB_all h) (by decide)
theorem folP_pred {i : Nat} {last : Int} (h2 : 2 ≤ i) (h8 : i ≤ 8) (h : 1 ≤ last ∧ last < 8) : folP i last = true := by
  rw [folP, if_neg (by omega), if_neg (by omega), if_pos h8, decide_eq_true h.1, decide_eq_true h.2]; rfl
theorem folP_opt {i : Nat} {last : Int} (h8 : 8 < i) (h13 : i < 13) (h : 8 ≤ last ∧ last < i) : folP i last = true := by
  rw [folP, if_neg (by omega), if_neg (by omega), if_neg (by omega), decide_eq_true h.1, decide_eq_true h.2]; rfl
theorem folP_rule {i : Nat} {last : Int} (hi : i = 1 ∨ i = 13) (h : last = -1 ∨ last = 0 ∨ (8 ≤ last ∧ last ≤ 12)) : folP i last = true := by
  rw [folP, if_neg (by omega), if_pos hi, decide_eq_true (show last ≠ 13 by omega)]
  rcases h with rfl | rfl | h
  · rfl
  · rfl
  · rw [decide_eq_false (show ¬ last < 8 by omega)]; simp
theorem Goes.one {i : Nat} {bh : List (List UInt8)} {s : Sd} {last : Int} {f : List UInt8} {V : List Rs} {r r' : Rs} (hi : 2 ≤ i) (hi2 : i < 13) (hb : ∀ v ∈ bh, ∀ x ∈ v, x ≠ 10) (hh : hearP (lineT i bh) = some s) (hs : s.line = i) (hf : folP i last = true) (hw : withP r s = r') :
    Goes (lineN i bh) last f (V ++ [r]) i f (V ++ [r']) := by
  have h := Goes.line (f := f) (U := V ++ [r]) (by omega) hb hh hs (by omega) hf
  rw [keepP_rest (by omega) (by omega) (by omega), hw] at h
  exact h
theorem goes_pred (p : Pd) (hp : cE p.k p.n p.v = 0) (last : Int) (hl : 1 ≤ last ∧ last < 8) (f : List UInt8) (V : List Rs) (r : Rs) :
    ∃ last', (1 ≤ last' ∧ last' < 8) ∧ Goes (predN p) last f (V ++ [r]) last' f (V ++ [{ r with ps := r.ps ++ [p] }]) := by
  obtain ⟨k, n, v⟩ := p
  simp only at hp
  unfold cE at hp
  have plain : ∀ (i : Nat), 2 ≤ i → i < 6 → frmB i = [119] → k = (i : Int) - 1 → n = [] → (∀ x ∈ v, x ≠ 32) → (∀ x ∈ v, x ≠ 10) → ∃ last', (1 ≤ last' ∧ last' < 8) ∧ Goes (predN ⟨k, n, v⟩) last f (V ++ [r]) last' f (V ++ [{ r with ps := r.ps ++ [⟨k, n, v⟩] }]) := by
    intro i h2 h6 hb hk hn h32 h10
    refine ⟨i, by omega, ?_⟩
    have e : predN ⟨k, n, v⟩ = lineN i [v] := by
      rw [predN, if_neg (show ¬ k = 5 by omega), if_neg (show ¬ k = 6 by omega), show (k + 1).toNat = i by omega]
    rw [e]
    refine Goes.one h2 (by omega) (fun u hu => by simp at hu; subst hu; exact h10) (hear_w (by omega) hb h32) rfl (folP_pred h2 (by omega) hl) ?_
    rw [withP]
    simp only
    rw [if_neg (by omega), if_neg (by omega), if_neg (by omega), if_neg (by omega), if_neg (by omega), predP]
    simp only
    rw [if_neg (by omega), if_neg (by omega), hn, hk]
    rfl
  by_cases k1 : k = 1
  · rw [if_pos k1] at hp
    by_cases hn : n = []
    · rw [if_pos hn] at hp
      have hv : methodB v = true := by
        by_cases h : methodB v = true
        · exact h
        · rw [if_neg h] at hp; exact absurd hp (by omega)
      exact plain 2 (by omega) (by omega) rfl (by omega) hn (method_ne hv).1 (method_ne hv).2
    · rw [if_neg hn] at hp; exact absurd hp (by omega)
  rw [if_neg k1] at hp
  by_cases k2 : k = 2
  · rw [if_pos k2] at hp
    by_cases hn : n = []
    · rw [if_pos hn] at hp
      have hv : nameB v = true := by
        by_cases h : nameB v = true
        · exact h
        · rw [if_neg h] at hp; exact absurd hp (by omega)
      exact plain 3 (by omega) (by omega) rfl (by omega) hn (name_ne hv).1 (name_ne hv).2
    · rw [if_neg hn] at hp; exact absurd hp (by omega)
  rw [if_neg k2] at hp
  by_cases k3 : k = 3
  · rw [if_pos k3] at hp
    by_cases hn : n = []
    · rw [if_pos hn] at hp
      have hv : pathB v = true := by
        by_cases h : pathB v = true
        · exact h
        · rw [if_neg h] at hp; exact absurd hp (by omega)
      exact plain 4 (by omega) (by omega) rfl (by omega) hn (path_ne hv).1 (path_ne hv).2
    · rw [if_neg hn] at hp; exact absurd hp (by omega)
  rw [if_neg k3] at hp
  by_cases k4 : k = 4
  · rw [if_pos k4] at hp
    by_cases hn : n = []
    · rw [if_pos hn] at hp
      have hv : pathB v = true := by
        by_cases h : pathB v = true
        · exact h
        · rw [if_neg h] at hp; exact absurd hp (by omega)
      exact plain 5 (by omega) (by omega) rfl (by omega) hn (path_ne hv).1 (path_ne hv).2
    · rw [if_neg hn] at hp; exact absurd hp (by omega)
  rw [if_neg k4] at hp
  by_cases k5 : k = 5
  · rw [if_pos k5] at hp
    have hn : nameB n = true := by
      by_cases h : nameB n = true
      · exact h
      · rw [if_neg h] at hp; exact absurd hp (by omega)
    rw [if_pos hn] at hp
    have hv : valueB v = true := by
      by_cases h : valueB v = true
      · exact h
      · rw [if_neg h] at hp; exact absurd hp (by omega)
    subst k5
    refine ⟨6, by omega, ?_⟩
    have e : predN ⟨5, n, v⟩ = lineN 6 [n, v] := rfl
    rw [e]
    refine Goes.one (by omega) (by omega) (fun u hu => by
      simp at hu
      rcases hu with rfl | rfl
      · exact (name_ne hn).2
      · exact value_ne hv) (hear_wt (by omega) rfl (name_ne hn).1) rfl (folP_pred (by omega) (by omega) hl) rfl
  rw [if_neg k5] at hp
  by_cases k6 : k = 6
  · rw [if_pos k6] at hp
    by_cases hv : v = []
    · rw [if_pos hv] at hp
      have hn : nameB n = true := by
        by_cases h : nameB n = true
        · exact h
        · rw [if_neg h] at hp; exact absurd hp (by omega)
      subst k6 hv
      refine ⟨7, by omega, ?_⟩
      have e : predN ⟨6, n, []⟩ = lineN 7 [n] := rfl
      rw [e]
      exact Goes.one (by omega) (by omega) (fun u hu => by simp at hu; subst hu; exact (name_ne hn).2) (hear_w (by omega) rfl (name_ne hn).1) rfl (folP_pred (by omega) (by omega) hl) rfl
    · rw [if_neg hv] at hp; exact absurd hp (by omega)
  rw [if_neg k6] at hp
  exact absurd hp (by omega)
theorem goes_preds (f : List UInt8) (V : List Rs) : ∀ (ps : List Pd) (r : Rs) (last : Int), (∀ p ∈ ps, cE p.k p.n p.v = 0) → (1 ≤ last ∧ last < 8) →
    ∃ last', (1 ≤ last' ∧ last' < 8) ∧ Goes (ps.flatMap predN) last f (V ++ [r]) last' f (V ++ [{ r with ps := r.ps ++ ps }])
  | [], r, last, _, hl => ⟨last, hl, by
    have : ({ r with ps := r.ps ++ [] } : Rs) = r := by simp
    rw [this]
    exact Goes.nil _ _ _⟩
  | p :: ps, r, last, hp, hl => by
    obtain ⟨l1, h1, g1⟩ := goes_pred p (hp p (by simp)) last hl f V r
    obtain ⟨l2, h2, g2⟩ := goes_preds f V ps { r with ps := r.ps ++ [p] } l1 (fun q hq => hp q (by simp [hq])) h1
    refine ⟨l2, h2, ?_⟩
    rw [List.flatMap_cons]
    have := g1.append g2
    simpa using this
theorem fltR_all : ∀ {L : List Pd}, fltR L = 0 → ∀ p ∈ L, cE p.k p.n p.v = 0
  | [], _, p, hp => by cases hp
  | e :: r, h, p, hp => by
    rw [fltR] at h
    by_cases hc : cE e.k e.n e.v ≠ 0
    · rw [if_pos hc] at h; exact absurd h hc
    · rw [if_neg hc] at h
      rcases List.mem_cons.1 hp with rfl | hp
      · exact Decidable.not_not.1 hc
      · exact fltR_all h p hp
theorem cfR_ok {r : Rs} (h : cfR r = 0) : r.ps.length ≤ 4 ∧ (∀ p ∈ r.ps, cE p.k p.n p.v = 0) ∧ nameB r.tg = true ∧ mirB r.mi r.mp = true ∧ inNum r.rank = true ∧ inNum r.ap = true ∧ inNum r.st = true ∧ inNum r.dp = true ∧ inNum r.dt = true ∧ inNum r.mp = true ∧ inNum r.sm = true := by
  unfold cfR at h
  by_cases h1 : 4 < r.ps.length
  · rw [if_pos h1] at h; exact absurd h (by omega)
  rw [if_neg h1] at h
  by_cases h2 : fltR r.ps ≠ 0
  · rw [if_pos h2] at h; exact absurd h h2
  rw [if_neg h2] at h
  by_cases h3 : nameB r.tg = false ∨ mirB r.mi r.mp = false
  · rw [if_pos h3] at h; exact absurd h (by omega)
  rw [if_neg h3] at h
  by_cases h4 : (numsR r).all inNum = false
  · rw [if_pos h4] at h; exact absurd h (by omega)
  have h5 : (numsR r).all inNum = true := by simpa using h4
  simp only [numsR, List.all_cons, List.all_nil, Bool.and_true, Bool.and_eq_true] at h5
  exact ⟨by omega, fltR_all (Decidable.not_not.1 h2), by
    cases hh : nameB r.tg
    · exact absurd (Or.inl hh) h3
    · rfl, by
    cases hh : mirB r.mi r.mp
    · exact absurd (Or.inr hh) h3
    · rfl, h5⟩
theorem goes_rule (r : Rs) (h : cfR r = 0) (f : List UInt8) (V : List Rs) (last : Int) (hl : last = -1 ∨ last = 0 ∨ (8 ≤ last ∧ last ≤ 12)) :
    ∃ last', (8 ≤ last' ∧ last' ≤ 12) ∧ Goes (ruleN r) last f V last' f (V ++ [r]) := by
  obtain ⟨-, hps, htg, hmi, n0, n1, n2, n3, n4, n5, n6⟩ := cfR_ok h
  have it : ∀ {n : Int}, inNum n = true → ∀ x ∈ Lib.itoa n, x ≠ 10 := fun hn x hx => (itoa_ne hn x hx).2
  -- its first line
  have g1 : Goes (lineN 1 [Lib.itoa r.rank]) last f V 1 f (V ++ [rule0 r.rank]) := by
    have := Goes.line (i := 1) (bh := [Lib.itoa r.rank]) (f := f) (U := V) (last := last) (by omega) (fun u hu => by simp at hu; subst hu; exact it n0) (hear_n (by omega) rfl n0) rfl (by omega) (folP_rule (Or.inl rfl) hl)
    exact this
  -- its predicates
  obtain ⟨l2, h2, g2⟩ := goes_preds f V r.ps (rule0 r.rank) 1 hps (by omega)
  have e2 : ({ rule0 r.rank with ps := (rule0 r.rank).ps ++ r.ps } : Rs) = ⟨r.rank, r.ps, [], 0, 0, 0, 0, 0, [], 0⟩ := by simp [rule0]
  rw [e2] at g2
  -- its target
  have g3 : Goes (lineN 8 [r.tg]) l2 f (V ++ [⟨r.rank, r.ps, [], 0, 0, 0, 0, 0, [], 0⟩]) 8 f (V ++ [⟨r.rank, r.ps, r.tg, 0, 0, 0, 0, 0, [], 0⟩]) :=
    Goes.one (by omega) (by omega) (fun u hu => by simp at hu; subst hu; exact (name_ne htg).2) (hear_w (by omega) rfl (name_ne htg).1) rfl (folP_pred (by omega) (by omega) h2) rfl
  -- abort
  obtain ⟨l4, h4, g4⟩ : ∃ l4, (8 ≤ l4 ∧ l4 ≤ 9) ∧ Goes (abN r) 8 f (V ++ [⟨r.rank, r.ps, r.tg, 0, 0, 0, 0, 0, [], 0⟩]) l4 f (V ++ [⟨r.rank, r.ps, r.tg, r.ap, r.st, 0, 0, 0, [], 0⟩]) := by
    unfold abN
    by_cases hc : r.ap ≠ 0 ∨ r.st ≠ 0
    · rw [if_pos hc]
      exact ⟨9, by omega, Goes.one (by omega) (by omega) (fun u hu => by
        simp at hu
        rcases hu with rfl | rfl
        · exact it n1
        · exact it n2) (hear_nn (by omega) rfl n1 n2) rfl (folP_opt (by omega) (by omega) (by omega)) rfl⟩
    · rw [if_neg hc, show r.ap = 0 by omega, show r.st = 0 by omega]
      exact ⟨8, by omega, Goes.nil _ _ _⟩
  -- delay
  obtain ⟨l5, h5, g5⟩ : ∃ l5, (8 ≤ l5 ∧ l5 ≤ 10) ∧ Goes (deN r) l4 f (V ++ [⟨r.rank, r.ps, r.tg, r.ap, r.st, 0, 0, 0, [], 0⟩]) l5 f (V ++ [⟨r.rank, r.ps, r.tg, r.ap, r.st, r.dp, r.dt, 0, [], 0⟩]) := by
    unfold deN
    by_cases hc : r.dp ≠ 0 ∨ r.dt ≠ 0
    · rw [if_pos hc]
      exact ⟨10, by omega, Goes.one (by omega) (by omega) (fun u hu => by
        simp at hu
        rcases hu with rfl | rfl
        · exact it n3
        · exact it n4) (hear_nn (by omega) rfl n3 n4) rfl (folP_opt (by omega) (by omega) (by omega)) rfl⟩
    · rw [if_neg hc, show r.dp = 0 by omega, show r.dt = 0 by omega]
      exact ⟨l4, by omega, Goes.nil _ _ _⟩
  -- mirror
  obtain ⟨l6, h6, g6⟩ : ∃ l6, (8 ≤ l6 ∧ l6 ≤ 11) ∧ Goes (miN r) l5 f (V ++ [⟨r.rank, r.ps, r.tg, r.ap, r.st, r.dp, r.dt, 0, [], 0⟩]) l6 f (V ++ [⟨r.rank, r.ps, r.tg, r.ap, r.st, r.dp, r.dt, r.mp, r.mi, 0⟩]) := by
    unfold miN
    unfold mirB at hmi
    by_cases hc : r.mi = []
    · rw [if_pos hc] at hmi
      rw [if_neg (by simp [hc]), hc, show r.mp = 0 by simpa using hmi]
      exact ⟨l5, by omega, Goes.nil _ _ _⟩
    · rw [if_neg hc] at hmi
      rw [if_pos hc]
      exact ⟨11, by omega, Goes.one (by omega) (by omega) (fun u hu => by
        simp at hu
        rcases hu with rfl | rfl
        · exact it n5
        · exact (name_ne hmi).2) (hear_nw (by omega) rfl n5 (name_ne hmi).1) rfl (folP_opt (by omega) (by omega) (by omega)) rfl⟩
  -- sample
  obtain ⟨l7, h7, g7⟩ : ∃ l7, (8 ≤ l7 ∧ l7 ≤ 12) ∧ Goes (saN r) l6 f (V ++ [⟨r.rank, r.ps, r.tg, r.ap, r.st, r.dp, r.dt, r.mp, r.mi, 0⟩]) l7 f (V ++ [⟨r.rank, r.ps, r.tg, r.ap, r.st, r.dp, r.dt, r.mp, r.mi, r.sm⟩]) := by
    unfold saN
    by_cases hc : r.sm ≠ 0
    · rw [if_pos hc]
      exact ⟨12, by omega, Goes.one (by omega) (by omega) (fun u hu => by simp at hu; subst hu; exact it n6) (hear_n (by omega) rfl n6) rfl (folP_opt (by omega) (by omega) (by omega)) rfl⟩
    · rw [if_neg hc, show r.sm = 0 by omega]
      exact ⟨l6, by omega, Goes.nil _ _ _⟩
  exact ⟨l7, h7, g1.append (g2.append (g3.append (g4.append (g5.append (g6.append g7)))))⟩
theorem goes_rules (f : List UInt8) : ∀ (U V : List Rs) (last : Int), (∀ r ∈ U, cfR r = 0) → (last = -1 ∨ last = 0 ∨ (8 ≤ last ∧ last ≤ 12)) →
    ∃ last', (last' = -1 ∨ last' = 0 ∨ (8 ≤ last' ∧ last' ≤ 12)) ∧ Goes (U.flatMap ruleN) last f V last' f (V ++ U)
  | [], V, last, _, hl => ⟨last, hl, by rw [List.append_nil]; exact Goes.nil _ _ _⟩
  | r :: U, V, last, hr, hl => by
    obtain ⟨l1, h1, g1⟩ := goes_rule r (hr r (by simp)) f V last hl
    obtain ⟨l2, h2, g2⟩ := goes_rules f U (V ++ [r]) l1 (fun q hq => hr q (by simp [hq])) (Or.inr (Or.inr h1))
    refine ⟨l2, h2, ?_⟩
    rw [List.flatMap_cons]
    have := g1.append g2
    simpa using this
theorem fmt_ne {f : List UInt8} (h : fmtOK f = true) : ∀ x ∈ f, x ≠ 10 := by
  unfold fmtOK at h
  rw [Bool.and_eq_true] at h
  exact all_ne h.2 (by decide)
/-- What was written is read as it was. -/
theorem lines_back {f : List UInt8} {U : List Rs} (h : chkC cfR f U = 0) (k n : Nat) (hk : (confN f U).length ≤ k) : ∃ n', linesP k (confN f U) n (-1) [] [] = (some (f, U), n') := by
  obtain ⟨hf, -, hU⟩ := chkC_ok h
  obtain ⟨l0, h0, g0⟩ : ∃ l0 : Int, (l0 = -1 ∨ l0 = 0 ∨ (8 ≤ l0 ∧ l0 ≤ 12)) ∧ Goes (fmN f) (-1) [] [] l0 f [] := by
    unfold fmN
    by_cases hc : f ≠ []
    · rw [if_pos hc]
      have := Goes.line (i := 0) (bh := [f]) (f := []) (U := []) (last := -1) (by omega) (fun u hu => by simp at hu; subst hu; exact fmt_ne hf) (hear_s (by omega) rfl hc) rfl (by omega) rfl
      exact ⟨0, Or.inr (Or.inl rfl), this⟩
    · rw [if_neg hc, Decidable.not_not.1 hc]
      exact ⟨-1, Or.inl rfl, Goes.nil _ _ _⟩
  obtain ⟨l1, h1, g1⟩ := goes_rules f U [] l0 hU h0
  rw [List.nil_append] at g1
  have g := g0.append g1
  have e : confN f U = (fmN f ++ U.flatMap ruleN) ++ lineN 13 [] := by rw [confN, List.append_assoc]
  have hl : (lineN 13 []).length = 4 := rfl
  rw [e, List.length_append, hl] at hk
  obtain ⟨k1, n1, a1, a2⟩ := g k n (lineN 13 []) (by omega)
  obtain ⟨k2, rfl⟩ : ∃ k2, k1 = k2 + 1 := ⟨k1 - 1, by omega⟩
  refine ⟨n1 + 1, ?_⟩
  rw [e, a2, show lineN 13 [] = lineT 13 [] ++ 10 :: [] from rfl, lines_step (by decide) hear_end (folP_rule (Or.inr rfl) h1), if_neg (by simp)]
  rfl
theorem readC_back {f : List UInt8} {U : List Rs} (h : chkC cfR f U = 0) (hl : (confN f U).length ≤ 4096) : readC (confN f U) = ((f, U), 0, 0) := by
  obtain ⟨n', e⟩ := lines_back h ((confN f U).length + 1) 0 (by omega)
  rw [readC, if_neg (by omega), e]
  simp only
  rw [if_neg (by rw [h]; simp)]
theorem readC_ok {t : List UInt8} {c : Cf} {n : Nat} (h : readC t = (c, n, 0)) : n = 0 ∧ chkC cfR c.1 c.2 = 0 := by
  unfold readC at h
  split at h
  · have := congrArg (fun x : Cf × Nat × Int => x.2.2) h; simp at this
  · split at h
    · have := congrArg (fun x : Cf × Nat × Int => x.2.2) h; simp at this
    · split at h
      · rename_i hc
        exact absurd (congrArg (fun x : Cf × Nat × Int => x.2.2) h) hc
      · rename_i g _ _ hc
        have e1 := congrArg (fun x : Cf × Nat × Int => x.1) h
        have e2 := congrArg (fun x : Cf × Nat × Int => x.2.1) h
        simp only at e1 e2
        subst e1
        exact ⟨e2.symm, Decidable.not_not.1 hc⟩
theorem readC_err {t : List UInt8} {c : Cf} {n : Nat} {e : Int} (h : readC t = (c, n, e)) (he : e ≠ 0) : c = ([], []) ∧ (n = 0 ∨ e = 3) := by
  unfold readC at h
  split at h
  · simp only [Prod.mk.injEq] at h; exact ⟨h.1.symm, Or.inl h.2.1.symm⟩
  · split at h
    · simp only [Prod.mk.injEq] at h; exact ⟨h.1.symm, Or.inr h.2.2.symm⟩
    · split at h
      · simp only [Prod.mk.injEq] at h; exact ⟨h.1.symm, Or.inl h.2.1.symm⟩
      · simp only [Prod.mk.injEq] at h; exact absurd h.2.2.symm he
end Go.Proofs.YtelglcakekgdeaaGreatDoor
namespace Go.Proofs.YtelglcakekgdeaaGreatDoor
set_option linter.unusedVariables false
set_option linter.unusedSimpArgs false

abbrev Qt : Type := List UInt8 × List UInt8 × List UInt8 × List Hd × List UInt8
def chk5 (q : Qt) : Int := chkQ q.1 q.2.1 q.2.2.1 q.2.2.2.1 q.2.2.2.2
def text5 (q : Qt) : List UInt8 := textQ q.1 q.2.1 q.2.2.1 q.2.2.2.1 q.2.2.2.2
def noQ : Qt := ([], [], [], [], [])
/-- The pieces of a text, and whether all its marks are there. -/
def partsM (s : List UInt8) : Qt × Bool :=
  let c1 := cutS [32] s
  let c2 := cutS [32] c1.2.1
  let c3 := cutS [10] c2.2.1
  let r := rhM 17 [] c3.2.1
  ((c1.1, c2.1, c3.1, r.1, r.2.2), r.2.1)
def readQ (s : List UInt8) : Qt × Int := if (partsM s).2 = true ∧ chk5 (partsM s).1 = 0 then ((partsM s).1, 0) else (noQ, 3)
theorem chk5_ok {q : Qt} (h : chk5 q = 0) : methodB q.1 = true ∧ nameB q.2.1 = true ∧ pathB q.2.2.1 = true ∧ checkS q.2.2.2.1 = 0 ∧ q.2.2.2.2.length ≤ 200 := by
  unfold chk5 chkQ at h
  split at h
  · split at h
    · split at h
      · unfold tailChk at h
        split at h
        · split at h
          · omega
          · rename_i a b c d e; exact ⟨a, b, c, d, by omega⟩
        · rename_i a b c d; exact absurd h d
      · omega
    · omega
  · omega
theorem methodB_all {l : List UInt8} (h : methodB l = true) : l.all (inB 65 90) = true := by
  simp only [methodB, Bool.and_eq_true] at h; exact h.2.2
theorem pathB_all {l : List UInt8} (h : pathB l = true) : l.all (inB 33 126) = true := by
  simp only [pathB, Bool.and_eq_true] at h; exact h.2.2
theorem partsM_text (q : Qt) (h : chk5 q = 0) : partsM (text5 q) = (q, true) := by
  obtain ⟨m, hh, p, L, b⟩ := q
  obtain ⟨h1, h2, h3, h4, h5⟩ := chk5_ok h
  have a1 := methodB_all h1
  have a2 := (nameB_all h2).2
  have a3 := pathB_all h3
  obtain ⟨l1, l2⟩ := checkS_ok h4
  simp only at a1 a2 a3 l1 l2
  have e1 : cutS [32] (text5 (m, hh, p, L, b)) = (m, hh ++ 32 :: (p ++ 10 :: tailT L b), true) := by
    rw [← cutS_one (c := 32) m _ (all_ne a1 (by decide))]; simp [text5, textQ]
  have e2 : cutS [32] (hh ++ 32 :: (p ++ 10 :: tailT L b)) = (hh, p ++ 10 :: tailT L b, true) := cutS_one (c := 32) hh _ (all_ne a2 (by decide))
  have e3 : cutS [10] (p ++ 10 :: tailT L b) = (p, tailT L b, true) := cutS_one (c := 10) p _ (all_ne a3 (by decide))
  have e4 := rhM_text b L [] 17 l2 (by simpa using l1) (by simp)
  simp only [partsM, e1, e2, e3, e4, List.nil_append]
theorem readQ_text (q : Qt) (h : chk5 q = 0) : readQ (text5 q) = (q, 0) := by
  rw [readQ, partsM_text q h, if_pos ⟨rfl, h⟩]
theorem cut_back {sep s : List UInt8} (hs : sep ≠ []) (h : (cutS sep s).2.1 ≠ [] ∨ (cutS sep s).2.2 = true) : s = (cutS sep s).1 ++ sep ++ (cutS sep s).2.1 := by
  refine cutS_found hs s ?_
  cases hq : (cutS sep s).2.2 with
  | true => rfl
  | false =>
    rcases h with h | h
    · exact absurd (cutS_lost s hq).2 h
    · rw [hq] at h; cases h
theorem partsM_back (s : List UInt8) (h : (partsM s).2 = true) : text5 (partsM s).1 = s := by
  have h0 : (rhM 17 [] (cutS [10] (cutS [32] (cutS [32] s).2.1).2.1).2.1).2.1 = true := h
  obtain ⟨L, b, hr⟩ : ∃ L b, rhM 17 [] (cutS [10] (cutS [32] (cutS [32] s).2.1).2.1).2.1 = (L, true, b) := ⟨_, _, by rw [← h0]⟩
  obtain ⟨L', e1, e2⟩ := rhM_back _ _ _ _ _ hr
  rw [List.nil_append] at e1
  subst e1
  have n3 : (cutS [10] (cutS [32] (cutS [32] s).2.1).2.1).2.1 ≠ [] := by rw [e2]; simp [tailT]
  have b3 := cut_back (sep := [10]) (by simp) (Or.inl n3)
  have n2 : (cutS [32] (cutS [32] s).2.1).2.1 ≠ [] := by rw [b3]; simp
  have b2 := cut_back (sep := [32]) (by simp) (Or.inl n2)
  have n1 : (cutS [32] s).2.1 ≠ [] := by rw [b2]; simp
  have b1 := cut_back (sep := [32]) (by simp) (Or.inl n1)
  have hp : partsM s = (((cutS [32] s).1, (cutS [32] (cutS [32] s).2.1).1, (cutS [10] (cutS [32] (cutS [32] s).2.1).2.1).1, L, b), true) := by simp only [partsM, hr]
  rw [hp]
  show textQ _ _ _ _ _ = s
  conv => rhs; rw [b1, b2, b3, e2]
  simp [textQ]
theorem readQ_back (s : List UInt8) (h : (readQ s).2 = 0) : chk5 (readQ s).1 = 0 ∧ text5 (readQ s).1 = s := by
  unfold readQ at h ⊢
  split at h
  · rename_i hc; rw [if_pos hc]; exact ⟨hc.2, partsM_back s hc.1⟩
  · simp at h
/-- The plain way: cut as the document's own text does. -/
def cutR (sep s : List UInt8) : List UInt8 × List UInt8 × Bool := if (cutS sep s).2.2 = true then cutS sep s else ([], [], false)
def partsR (s : List UInt8) : Qt × Bool :=
  let l := cutR [10] s
  let c1 := cutR [32] l.1
  let c2 := cutR [32] c1.2.1
  let r := rhR 17 [] l.2.1
  ((c1.1, c2.1, c2.2.1, r.1, r.2.1), r.2.2)
theorem cutR_of {sep s a b : List UInt8} (h : cutS sep s = (a, b, true)) : cutR sep s = (a, b, true) := by rw [cutR, h, if_pos rfl]
theorem partsR_text (q : Qt) (h : chk5 q = 0) : partsR (text5 q) = (q, true) := by
  obtain ⟨m, hh, p, L, b⟩ := q
  obtain ⟨h1, h2, h3, h4, h5⟩ := chk5_ok h
  have a1 := methodB_all h1
  have a2 := (nameB_all h2).2
  have a3 := pathB_all h3
  obtain ⟨l1, l2⟩ := checkS_ok h4
  simp only at a1 a2 a3 l1 l2
  have e1 : cutS [10] (text5 (m, hh, p, L, b)) = (m ++ 32 :: (hh ++ 32 :: p), tailT L b, true) := by
    rw [← cutS_one (c := 10) (m ++ 32 :: (hh ++ 32 :: p)) _ (fun x hx => ?_)]
    · simp [text5, textQ]
    · rcases List.mem_append.1 hx with hx | hx
      · exact all_ne a1 (by decide) x hx
      · rcases List.mem_cons.1 hx with rfl | hx
        · decide
        · rcases List.mem_append.1 hx with hx | hx
          · exact all_ne a2 (by decide) x hx
          · rcases List.mem_cons.1 hx with rfl | hx
            · decide
            · exact all_ne a3 (by decide) x hx
  have e2 : cutS [32] (m ++ 32 :: (hh ++ 32 :: p)) = (m, hh ++ 32 :: p, true) := cutS_one (c := 32) m _ (all_ne a1 (by decide))
  have e3 : cutS [32] (hh ++ 32 :: p) = (hh, p, true) := cutS_one (c := 32) hh _ (all_ne a2 (by decide))
  have e4 := rhR_text b L [] 17 l2 (by simpa using l1) (by simp)
  simp only [partsR, cutR_of e1, cutR_of e2, cutR_of e3, e4, List.nil_append]
theorem readR_eq (s : List UInt8) : (if (partsR s).2 = true ∧ chk5 (partsR s).1 = 0 ∧ text5 (partsR s).1 = s then ((partsR s).1, (0 : Int)) else (noQ, 3)) = readQ s := by
  by_cases h : (partsM s).2 = true ∧ chk5 (partsM s).1 = 0
  · have ht := partsM_back s h.1
    have hr := partsR_text _ h.2
    rw [ht] at hr
    rw [readQ, if_pos h, hr, if_pos ⟨rfl, h.2, ht⟩]
  · rw [readQ, if_neg h, if_neg]
    rintro ⟨h1, h2, h3⟩
    have := partsM_text _ h2
    rw [h3] at this
    exact h (by rw [this]; exact ⟨rfl, h2⟩)
/-- A status in three digits. -/
def d3 (n : Nat) : List UInt8 := [UInt8.ofNat (48 + n / 100), UInt8.ofNat (48 + n / 10 % 10), UInt8.ofNat (48 + n % 10)]
def stOf : List UInt8 → Option Nat
  | [x, y, z] => if 49 ≤ x.toNat ∧ x.toNat ≤ 53 ∧ 48 ≤ y.toNat ∧ y.toNat ≤ 57 ∧ 48 ≤ z.toNat ∧ z.toNat ≤ 57 then some (100 * (x.toNat - 48) + 10 * (y.toNat - 48) + (z.toNat - 48)) else none
  | _ => none
def nR (l : List UInt8) : Int := (l.take 3).foldl (fun n c => 10 * n + (c.toNat : Int) - 48) 0
theorem d3_facts : ∀ k : Fin 500, stOf (d3 (100 + k.val)) = some (100 + k.val) ∧ Lib.atoiAll (d3 (100 + k.val)) = .ok ((100 + k.val : Nat) : Int) ∧ nR (d3 (100 + k.val)) = ((100 + k.val : Nat) : Int) ∧ (d3 (100 + k.val)).all (fun c => c != 10) = true := by decide +kernel
theorem stOf_d3 {n : Nat} (h1 : 100 ≤ n) (h2 : n ≤ 599) : stOf (d3 n) = some n ∧ Lib.atoiAll (d3 n) = .ok (n : Int) ∧ nR (d3 n) = (n : Int) ∧ ∀ c ∈ d3 n, c ≠ 10 := by
  obtain ⟨k, rfl⟩ : ∃ k, n = 100 + k := ⟨n - 100, by omega⟩
  obtain ⟨a, b, c, d⟩ := d3_facts ⟨k, by omega⟩
  exact ⟨a, b, c, fun x hx => by have := List.all_eq_true.1 d x hx; simpa using this⟩
theorem stOf_back {d : List UInt8} {n : Nat} (h : stOf d = some n) : d = d3 n ∧ 100 ≤ n ∧ n ≤ 599 := by
  match d, h with
  | [x, y, z], h =>
    rw [stOf] at h
    split at h
    · rename_i hc
      simp only [Option.some.injEq] at h
      have hx := x.toNat_lt
      refine ⟨?_, by omega, by omega⟩
      rw [d3, ← h, show 48 + (100 * (x.toNat - 48) + 10 * (y.toNat - 48) + (z.toNat - 48)) / 100 = x.toNat from by omega, show 48 + (100 * (x.toNat - 48) + 10 * (y.toNat - 48) + (z.toNat - 48)) / 10 % 10 = y.toNat from by omega,
        show 48 + (100 * (x.toNat - 48) + 10 * (y.toNat - 48) + (z.toNat - 48)) % 10 = z.toNat from by omega]
      simp
    · cases h
theorem itoa_d3 {n : Nat} (h1 : 100 ≤ n) (h2 : n ≤ 599) : Lib.itoa (n : Int) = d3 n := by
  rw [Lib.itoa, if_neg (by omega), Int.toNat_natCast, Lib.decDigits, dif_neg (by omega), Lib.decDigits, dif_neg (by omega), Lib.decDigits, dif_pos (by omega), Nat.div_div_eq_div_mul]
  rfl
abbrev Pt : Type := Int × List Hd × List UInt8
def noP : Pt := (0, [], [])
def text3 (d : List UInt8) (L : List Hd) (b : List UInt8) : List UInt8 := d ++ [10] ++ tailT L b
/-- The response of a text. -/
def readP (s : List UInt8) : Pt × Int :=
  match stOf (cutS [10] s).1 with
  | some n => if (rhM 17 [] (cutS [10] s).2.1).2.1 = true ∧ tailChk (rhM 17 [] (cutS [10] s).2.1).1 (rhM 17 [] (cutS [10] s).2.1).2.2 = 0 then (((n : Int), (rhM 17 [] (cutS [10] s).2.1).1, (rhM 17 [] (cutS [10] s).2.1).2.2), 0) else (noP, 3)
  | none => (noP, 3)
theorem tailChk_ok {L : List Hd} {b : List UInt8} (h : tailChk L b = 0) : checkS L = 0 ∧ b.length ≤ 200 := by
  unfold tailChk at h
  split at h
  · split at h
    · omega
    · rename_i a c; exact ⟨a, by omega⟩
  · rename_i a; exact absurd h a
theorem chkP_ok {n : Int} {L : List Hd} {b : List UInt8} (h : chkP n L b = 0) : 100 ≤ n ∧ n ≤ 599 ∧ tailChk L b = 0 := by
  unfold chkP at h
  split at h
  · omega
  · rename_i a; exact ⟨by omega, by omega, h⟩
theorem readP_text (n : Nat) (L : List Hd) (b : List UInt8) (h1 : 100 ≤ n) (h2 : n ≤ 599) (h : tailChk L b = 0) : readP (text3 (d3 n) L b) = (((n : Int), L, b), 0) := by
  obtain ⟨s1, s2, s3, s4⟩ := stOf_d3 h1 h2
  obtain ⟨c1, c2⟩ := tailChk_ok h
  obtain ⟨l1, l2⟩ := checkS_ok c1
  have e1 : cutS [10] (text3 (d3 n) L b) = (d3 n, tailT L b, true) := by
    rw [← cutS_one (c := 10) (d3 n) _ s4]; simp [text3]
  have e4 := rhM_text b L [] 17 l2 (by simpa using l1) (by simp)
  rw [readP, e1]
  simp only [s1, e4, List.nil_append]
  rw [if_pos ⟨trivial, h⟩]
theorem readP_back (s : List UInt8) (h : (readP s).2 = 0) : ∃ (n : Nat) (L : List Hd) (b : List UInt8), 100 ≤ n ∧ n ≤ 599 ∧ tailChk L b = 0 ∧ readP s = (((n : Int), L, b), 0) ∧ text3 (d3 n) L b = s := by
  unfold readP at h ⊢
  cases hs : stOf (cutS [10] s).1 with
  | none => rw [hs] at h; simp at h
  | some n =>
    rw [hs] at h
    simp only at h ⊢
    split at h
    · rename_i hc
      rw [if_pos hc]
      obtain ⟨e1, e2, e3⟩ := stOf_back hs
      obtain ⟨L, b, hr⟩ : ∃ L b, rhM 17 [] (cutS [10] s).2.1 = (L, true, b) := ⟨_, _, by rw [← hc.1]⟩
      obtain ⟨L', f1, f2⟩ := rhM_back _ _ _ _ _ hr
      rw [List.nil_append] at f1
      subst f1
      rw [hr] at hc ⊢
      refine ⟨n, L, b, e2, e3, hc.2, rfl, ?_⟩
      have n3 : (cutS [10] s).2.1 ≠ [] := by rw [f2]; simp [tailT]
      have b3 := cut_back (sep := [10]) (by simp) (Or.inl n3)
      rw [e1, f2] at b3
      exact b3.symm
    · simp at h
theorem readPR_eq (s : List UInt8) : (if (rhR 17 [] (cutR [10] s).2.1).2.2 = true ∧ chkP (nR (cutR [10] s).1) (rhR 17 [] (cutR [10] s).2.1).1 (rhR 17 [] (cutR [10] s).2.1).2.1 = 0 ∧ text3 (d3 (nR (cutR [10] s).1).toNat) (rhR 17 [] (cutR [10] s).2.1).1 (rhR 17 [] (cutR [10] s).2.1).2.1 = s
    then ((nR (cutR [10] s).1, (rhR 17 [] (cutR [10] s).2.1).1, (rhR 17 [] (cutR [10] s).2.1).2.1), (0 : Int)) else (noP, 3)) = readP s := by
  have both : ∀ (n : Nat) (L : List Hd) (b : List UInt8), 100 ≤ n → n ≤ 599 → tailChk L b = 0 → text3 (d3 n) L b = s → cutR [10] s = (d3 n, tailT L b, true) ∧ rhR 17 [] (tailT L b) = (L, b, true) ∧ nR (d3 n) = n := fun n L b h1 h2 h e => by
    obtain ⟨s1, s2, s3, s4⟩ := stOf_d3 h1 h2
    obtain ⟨c1, c2⟩ := tailChk_ok h
    obtain ⟨l1, l2⟩ := checkS_ok c1
    have e1 : cutS [10] (text3 (d3 n) L b) = (d3 n, tailT L b, true) := by
      rw [← cutS_one (c := 10) (d3 n) _ s4]; simp [text3]
    have e4 := rhR_text b L [] 17 l2 (by simpa using l1) (by simp)
    rw [e] at e1
    exact ⟨cutR_of e1, by simpa using e4, s3⟩
  rcases (show (readP s).2 = 0 ∨ readP s = (noP, 3) from by
    unfold readP
    split
    · split
      · exact Or.inl rfl
      · exact Or.inr rfl
    · exact Or.inr rfl) with h | h
  · obtain ⟨n, L, b, h1, h2, h3, h4, h5⟩ := readP_back s h
    obtain ⟨a1, a2, a3⟩ := both n L b h1 h2 h3 h5
    rw [a1]
    simp only [a2, a3]
    rw [if_pos ⟨trivial, by rw [chkP, if_neg (by omega)]; exact h3, by rw [Int.toNat_natCast]; exact h5⟩, h4]
  · rw [h, if_neg]
    rintro ⟨q1, q2, q3⟩
    obtain ⟨c1, c2, c3⟩ := chkP_ok q2
    obtain ⟨n, hn⟩ := Int.eq_ofNat_of_zero_le (show 0 ≤ nR (cutR [10] s).1 by omega)
    rw [hn] at q3 c1 c2
    rw [Int.toNat_natCast] at q3
    have := readP_text n _ _ (by omega) (by omega) c3
    rw [q3, h] at this
    simp at this
end Go.Proofs.YtelglcakekgdeaaGreatDoor
