/- Plain facts: a traceparent as a text. No program is imported. -/
import Derived.Test.YtddmmpjamnjilaaDoorIp
namespace Go.Proofs.YtddmmpjamnjilaaDoor
set_option linter.unusedVariables false
set_option linter.unusedSimpArgs false

def isHex (c : UInt8) : Bool := (hexv c).isSome
theorem uh_all : ∀ (l : List UInt8) (a : Nat), (uh a l).isSome = l.all isHex
  | [], a => rfl
  | c :: r, a => by
    rw [uh, List.all_cons, isHex]
    cases h : hexv c with
    | none => rfl
    | some d => simp only [Option.isSome_some, Bool.true_and]; exact uh_all r _
theorem unhexS_all {l : List UInt8} (h1 : 1 ≤ l.length) (h2 : l.length ≤ 16) : (unhexS l).2 = 0 ↔ l.all isHex = true := by
  rw [unhexS, if_neg (by omega), ← uh_all l 0]
  cases uh 0 l <;> simp
theorem unhexS_one (c : UInt8) : unhexS [c] = (match hexv c with | none => (0, 3) | some d => (d, 0)) := by
  rw [unhexS, if_neg (by simp), uh]
  cases hexv c <;> simp [uh]
theorem unhexS_lt {l : List UInt8} : (unhexS l).1 < 16 ^ l.length := by
  by_cases h : (unhexS l).2 = 0
  · have h3 := hexS_unhexS l h
    rw [hexS, putX] at h3
    split at h3
    · simp at h3
    · split at h3
      · rename_i _ h4
        rw [Int.toNat_natCast] at h4
        rcases Nat.lt_or_ge (unhexS l).1 (16 ^ l.length) with h5 | h5
        · exact h5
        · have := Nat.div_pos h5 (Nat.pow_pos (by omega)); omega
      · simp at h3
  · rw [unhexS_fst l h]; exact Nat.pow_pos (by omega)
theorem hx_of_unhex {l : List UInt8} (h : (unhexS l).2 = 0) : hx l.length (unhexS l).1 = l := by
  have h3 := hexS_unhexS l h
  rw [hexS, putX] at h3
  split at h3
  · simp at h3
  · split at h3
    · rw [Int.toNat_natCast] at h3; exact congrArg Prod.fst h3
    · simp at h3
/-- A piece of a text, as a number. -/
def pc (l : List UInt8) (a n : Nat) : Nat × Int := unhexS ((l.drop a).take n)
/-- Whether a text of that version may end so. -/
def endS (v : Nat) (r : List UInt8) : Bool := if v = 255 then false else if v = 0 then r.isEmpty else (r.isEmpty || List.isPrefixOf [45] r)
/-- Whether the first k pieces are as they must be. -/
def pcOk (l : List UInt8) (a n : Nat) (m : Bool) : Bool := decide ((pc l a n).2 = 0) && (!m || decide (l[a + n]? = some 45))
def cutOk (l : List UInt8) : Bool := pcOk l 0 2 true && (pcOk l 3 16 false && (pcOk l 19 16 true && (pcOk l 36 16 true && pcOk l 53 2 false)))
def formS (l : List UInt8) : Bool := decide (55 ≤ l.length) && (cutOk l && endS (pc l 0 2).1 (l.drop 55))
abbrev Pr := Nat × Nat × Nat × Nat
def pzero (p : Pr) : Bool := decide (p.1 = 0 ∧ p.2.1 = 0) || decide (p.2.2.1 = 0)
def numP (l : List UInt8) : Pr := ((pc l 3 16).1, (pc l 19 16).1, (pc l 36 16).1, (pc l 53 2).1)
def noP7 : Pr := (0, 0, 0, 0)
/-- What a text says. -/
def parS (l : List UInt8) : Pr × Int := if formS l = true then (if pzero (numP l) = true then (noP7, 11) else (numP l, 0)) else (noP7, 3)
/-- The text that says it. -/
def parT (p : Pr) : List UInt8 := [48, 48, 45] ++ hx 16 p.1 ++ hx 16 p.2.1 ++ [45] ++ hx 16 p.2.2.1 ++ [45] ++ hx 2 p.2.2.2
def wrS (a b s : Nat) (f : Int) : List UInt8 × Int := if pzero (a, b, s, 0) = true then ([], 11) else if f < 0 ∨ 255 < f then ([], 12) else (parT (a, b, s, f.toNat), 0)

theorem pc_len {l : List UInt8} {a n : Nat} (h : a + n ≤ l.length) : ((l.drop a).take n).length = n := by simp; omega
theorem pc_all {l : List UInt8} {a n : Nat} (h : a + n ≤ l.length) (h1 : 1 ≤ n) (h2 : n ≤ 16) : (pc l a n).2 = 0 ↔ ((l.drop a).take n).all isHex = true :=
  unhexS_all (by rw [pc_len h]; exact h1) (by rw [pc_len h]; exact h2)
theorem take_split (l : List UInt8) (a : Nat) : (l.drop a).take 32 = (l.drop a).take 16 ++ (l.drop (a + 16)).take 16 := by
  rw [show 32 = 16 + 16 from rfl, List.take_add, List.drop_drop]
theorem ver_ff {l : List UInt8} (hl : 2 ≤ l.length) (h : (pc l 0 2).2 = 0) : (pc l 0 2).1 = 255 ↔ (l.take 2 = [102, 102]) := by
  unfold pc at *
  rw [List.drop_zero] at *
  have h2 := hx_of_unhex h
  rw [show (l.take 2).length = 2 from by simp; omega] at h2
  constructor
  · intro e; rw [e] at h2; rw [← h2]; decide
  · intro e; rw [e]; decide
theorem ver_00 {l : List UInt8} (hl : 2 ≤ l.length) (h : (pc l 0 2).2 = 0) : (pc l 0 2).1 = 0 ↔ (l.take 2 = [48, 48]) := by
  unfold pc at *
  rw [List.drop_zero] at *
  have h2 := hx_of_unhex h
  rw [show (l.take 2).length = 2 from by simp; omega] at h2
  constructor
  · intro e; rw [e] at h2; rw [← h2]; decide
  · intro e; rw [e]; decide
theorem at_of {l : List UInt8} {i : Nat} (h : i < l.length) : decide (l[i]? = some 45) = (l[i] == 45) := by
  rw [List.getElem?_eq_getElem h, Bool.eq_iff_iff]; simp
theorem drop_prefix {l : List UInt8} {i : Nat} (h : i < l.length) : List.isPrefixOf [45] (l.drop i) = (l[i] == 45) := by
  rw [List.drop_eq_getElem_cons h, List.isPrefixOf_cons_cons, Bool.eq_iff_iff]; simp
  exact eq_comm
/-- Well formed, as the document lists it. -/
def formR (l : List UInt8) : Prop := 55 ≤ l.length ∧ l[2]? = some 45 ∧ l[35]? = some 45 ∧ l[52]? = some 45 ∧ (l.take 2).all isHex = true ∧ ¬ l.take 2 = [102, 102] ∧ ¬ (l.take 2 = [48, 48] ∧ l.length ≠ 55) ∧ ¬ (55 < l.length ∧ l[55]? ≠ some 45) ∧
  ((l.drop 3).take 32).all isHex = true ∧ ((l.drop 36).take 16).all isHex = true ∧ ((l.drop 53).take 2).all isHex = true
theorem endS_iff {l : List UInt8} (hl : 55 ≤ l.length) (h : (pc l 0 2).2 = 0) : endS (pc l 0 2).1 (l.drop 55) = true ↔ (¬ l.take 2 = [102, 102] ∧ ¬ (l.take 2 = [48, 48] ∧ l.length ≠ 55) ∧ ¬ (55 < l.length ∧ l[55]? ≠ some 45)) := by
  have hf := ver_ff (l := l) (by omega) h
  have h0 := ver_00 (l := l) (by omega) h
  have he : (l.drop 55).isEmpty = true ↔ l.length = 55 := by rw [List.isEmpty_iff, List.drop_eq_nil_iff]; omega
  unfold endS
  by_cases a : (pc l 0 2).1 = 255
  · rw [if_pos a]; simp [hf.1 a]
  · rw [if_neg a]
    have a' : ¬ l.take 2 = [102, 102] := fun e => a (hf.2 e)
    by_cases b : (pc l 0 2).1 = 0
    · rw [if_pos b, he]
      have b' := h0.1 b
      constructor
      · intro e; exact ⟨a', fun x => x.2 e, fun x => by omega⟩
      · intro ⟨_, x, _⟩
        rcases Nat.lt_or_ge 55 l.length with y | y
        · exact absurd ⟨b', by omega⟩ x
        · omega
    · rw [if_neg b, Bool.or_eq_true, he]
      have b' : ¬ l.take 2 = [48, 48] := fun e => b (h0.2 e)
      constructor
      · rintro (e | e)
        · exact ⟨a', fun x => b' x.1, fun x => by omega⟩
        · refine ⟨a', fun x => b' x.1, fun x => ?_⟩
          rw [drop_prefix x.1] at e
          have := x.2
          rw [List.getElem?_eq_getElem x.1] at this
          simp at e this
          exact this e
      · intro ⟨_, _, x⟩
        rcases Nat.lt_or_ge 55 l.length with y | y
        · right
          rw [drop_prefix y]
          have : l[55]? = some 45 := Classical.byContradiction fun z => x ⟨y, z⟩
          rw [List.getElem?_eq_getElem y] at this
          simpa using this
        · left; omega
theorem pcOk_iff {l : List UInt8} {a n : Nat} {m : Bool} (h : a + n ≤ l.length) (h1 : 1 ≤ n) (h2 : n ≤ 16) : pcOk l a n m = true ↔ ((l.drop a).take n).all isHex = true ∧ (m = true → l[a + n]? = some 45) := by
  rw [pcOk, Bool.and_eq_true, decide_eq_true_eq, pc_all h h1 h2]
  cases m <;> simp
theorem formS_iff (l : List UInt8) : formS l = true ↔ formR l := by
  unfold formS formR
  rw [Bool.and_eq_true, Bool.and_eq_true, decide_eq_true_eq]
  by_cases hl : 55 ≤ l.length
  · unfold cutOk
    simp only [Bool.and_eq_true]
    rw [pcOk_iff (a := 0) (by omega) (by omega) (by omega), pcOk_iff (a := 3) (by omega) (by omega) (by omega), pcOk_iff (a := 19) (by omega) (by omega) (by omega), pcOk_iff (a := 36) (by omega) (by omega) (by omega), pcOk_iff (a := 53) (by omega) (by omega) (by omega),
      take_split, List.all_append, Bool.and_eq_true, List.drop_zero]
    constructor
    · rintro ⟨_, ⟨⟨a0, a1⟩, ⟨b0, _⟩, ⟨c0, c1⟩, ⟨d0, d1⟩, e0, _⟩, f⟩
      have hv : (pc l 0 2).2 = 0 := (pc_all (a := 0) (by omega) (by omega) (by omega)).2 (by rw [List.drop_zero]; exact a0)
      obtain ⟨f1, f2, f3⟩ := (endS_iff hl hv).1 f
      exact ⟨hl, a1 rfl, c1 rfl, d1 rfl, a0, f1, f2, f3, ⟨b0, c0⟩, d0, e0⟩
    · rintro ⟨_, a1, c1, d1, a0, f1, f2, f3, ⟨b0, c0⟩, d0, e0⟩
      have hv : (pc l 0 2).2 = 0 := (pc_all (a := 0) (by omega) (by omega) (by omega)).2 (by rw [List.drop_zero]; exact a0)
      exact ⟨hl, ⟨⟨a0, fun _ => a1⟩, ⟨b0, fun h => by cases h⟩, ⟨c0, fun _ => c1⟩, ⟨d0, fun _ => d1⟩, e0, fun h => by cases h⟩, (endS_iff hl hv).2 ⟨f1, f2, f3⟩⟩
  · constructor
    · intro h; exact absurd h.1 hl
    · intro h; exact absurd h.1 hl
/-- The trace and the span of a text that is well formed. -/
theorem ofS_form {l : List UInt8} (h : formS l = true) : ofS ((l.drop 3).take 32) = if (numP l).1 = 0 ∧ (numP l).2.1 = 0 then (0, 0, 11) else ((numP l).1, (numP l).2.1, 0) := by
  obtain ⟨hl, _, _, _, _, _, _, _, hx, _⟩ := (formS_iff l).1 h
  have e1 : ((l.drop 3).take 32).take 16 = (l.drop 3).take 16 := by rw [List.take_take]; simp
  have e2 : ((l.drop 3).take 32).drop 16 = (l.drop 19).take 16 := by rw [List.drop_take, List.drop_drop]
  rw [take_split, List.all_append, Bool.and_eq_true] at hx
  have q1 : (pc l 3 16).2 = 0 := (pc_all (by omega) (by omega) (by omega)).2 hx.1
  have q2 : (pc l 19 16).2 = 0 := (pc_all (by omega) (by omega) (by omega)).2 hx.2
  rw [ofS, if_neg (by rw [pc_len (by omega)]; simp), e1, e2]
  unfold pc at q1 q2
  rw [if_pos ⟨q1, q2⟩]
  rfl
theorem spanOfS_form {l : List UInt8} (h : formS l = true) : spanOfS ((l.drop 36).take 16) = if (numP l).2.2.1 = 0 then (0, 11) else ((numP l).2.2.1, 0) := by
  obtain ⟨hl, _, _, _, _, _, _, _, _, hx, _⟩ := (formS_iff l).1 h
  have q1 : (pc l 36 16).2 = 0 := (pc_all (by omega) (by omega) (by omega)).2 hx
  rw [spanOfS, if_neg (by rw [pc_len (by omega)]; simp)]
  unfold pc at q1
  rw [if_pos q1]
  rfl
theorem flags_form {l : List UInt8} (h : formS l = true) : unhexS ((l.drop 53).take 2) = ((numP l).2.2.2, 0) := by
  obtain ⟨hl, _, _, _, _, _, _, _, _, _, hx⟩ := (formS_iff l).1 h
  have q1 : (pc l 53 2).2 = 0 := (pc_all (by omega) (by omega) (by omega)).2 hx
  exact Prod.ext rfl q1
theorem numP_lt (l : List UInt8) (hl : 55 ≤ l.length) : (numP l).1 < 18446744073709551616 ∧ (numP l).2.1 < 18446744073709551616 ∧ (numP l).2.2.1 < 18446744073709551616 ∧ (numP l).2.2.2 < 256 := by
  have h1 := unhexS_lt (l := (l.drop 3).take 16)
  have h2 := unhexS_lt (l := (l.drop 19).take 16)
  have h3 := unhexS_lt (l := (l.drop 36).take 16)
  have h4 := unhexS_lt (l := (l.drop 53).take 2)
  rw [pc_len (by omega)] at h1 h2 h3 h4
  exact ⟨h1, h2, h3, h4⟩
theorem at_app {a b : List UInt8} {n : Nat} (h : a.length = n) : (a ++ b)[n]? = b[0]? := by subst h; rw [List.getElem?_append_right (Nat.le_refl _), Nat.sub_self]
theorem parT_len (p : Pr) : (parT p).length = 55 := by simp [parT, hx_length]
theorem drop_app {a b : List UInt8} {n : Nat} (h : a.length = n) : (a ++ b).drop n = b := by subst h; exact List.drop_left
theorem take_app {a b : List UInt8} {n : Nat} (h : a.length = n) : (a ++ b).take n = a := by subst h; exact List.take_left
theorem parT_pieces (p : Pr) : (parT p).take 2 = [48, 48] ∧ (parT p)[2]? = some 45 ∧ ((parT p).drop 3).take 16 = hx 16 p.1 ∧ ((parT p).drop 19).take 16 = hx 16 p.2.1 ∧ (parT p)[35]? = some 45 ∧ ((parT p).drop 36).take 16 = hx 16 p.2.2.1 ∧ (parT p)[52]? = some 45 ∧ ((parT p).drop 53).take 2 = hx 2 p.2.2.2 := by
  obtain ⟨a, b, s, f⟩ := p
  have la := hx_length 16 a
  have lb := hx_length 16 b
  have ls := hx_length 16 s
  have lf := hx_length 2 f
  simp only [parT]
  generalize hx 16 a = A at *
  generalize hx 16 b = B at *
  generalize hx 16 s = S at *
  generalize hx 2 f = F at *
  have e3 : [48, 48, 45] ++ A ++ B ++ [45] ++ S ++ [45] ++ F = [48, 48, 45] ++ (A ++ (B ++ ([45] ++ (S ++ ([45] ++ F))))) := by simp
  have e19 : [48, 48, 45] ++ A ++ B ++ [45] ++ S ++ [45] ++ F = ([48, 48, 45] ++ A) ++ (B ++ ([45] ++ (S ++ ([45] ++ F)))) := by simp
  have e35 : [48, 48, 45] ++ A ++ B ++ [45] ++ S ++ [45] ++ F = ([48, 48, 45] ++ A ++ B) ++ ([45] ++ (S ++ ([45] ++ F))) := by simp
  have e36 : [48, 48, 45] ++ A ++ B ++ [45] ++ S ++ [45] ++ F = ([48, 48, 45] ++ A ++ B ++ [45]) ++ (S ++ ([45] ++ F)) := by simp
  have e52 : [48, 48, 45] ++ A ++ B ++ [45] ++ S ++ [45] ++ F = ([48, 48, 45] ++ A ++ B ++ [45] ++ S) ++ ([45] ++ F) := by simp
  have e53 : [48, 48, 45] ++ A ++ B ++ [45] ++ S ++ [45] ++ F = ([48, 48, 45] ++ A ++ B ++ [45] ++ S ++ [45]) ++ F := by simp
  refine ⟨?_, ?_, ?_, ?_, ?_, ?_, ?_, ?_⟩
  · rw [e3]; rfl
  · rw [e3]; rfl
  · rw [e3, drop_app (by rfl), take_app la]
  · rw [e19, drop_app (by simp [la]), take_app lb]
  · rw [e35, at_app (by simp [la, lb])]; rfl
  · rw [e36, drop_app (by simp [la, lb]), take_app ls]
  · rw [e52, at_app (by simp [la, lb, ls])]; rfl
  · rw [e53, drop_app (by simp [la, lb, ls]), List.take_of_length_le (by omega)]
/-- What is written is read as it was. -/
theorem parS_parT {p : Pr} (h0 : p.1 < 18446744073709551616) (h1 : p.2.1 < 18446744073709551616) (h2 : p.2.2.1 < 18446744073709551616) (h3 : p.2.2.2 < 256) (hz : pzero p = false) : parS (parT p) = (p, 0) := by
  obtain ⟨t0, t2, ta, tb, t35, ts, t52, tf⟩ := parT_pieces p
  have hl := parT_len p
  have qa : pc (parT p) 3 16 = (p.1, 0) := by rw [pc, ta]; exact hx_unhex h0
  have qb : pc (parT p) 19 16 = (p.2.1, 0) := by rw [pc, tb]; exact hx_unhex h1
  have qs : pc (parT p) 36 16 = (p.2.2.1, 0) := by rw [pc, ts]; exact hx_unhex h2
  have qf : pc (parT p) 53 2 = (p.2.2.2, 0) := by rw [pc, tf]; exact unhexS_hexS p.2.2.2 2 (by omega) (by omega) (Nat.div_eq_of_lt (by omega))
  have qv : pc (parT p) 0 2 = (0, 0) := by rw [pc, List.drop_zero, t0]; decide
  have hf : formS (parT p) = true := by
    simp only [formS, cutOk, pcOk, qa, qb, qs, qf, qv, hl, t2, t35, t52, endS]
    simp [List.drop_of_length_le, hl]
  have hn : numP (parT p) = p := by simp only [numP, qa, qb, qs, qf]
  rw [parS, if_pos hf, hn, if_neg (by rw [hz]; decide)]
/-- What is read can be written; of version 00 it is the same text. -/
theorem parT_parS {l : List UInt8} (h : formS l = true) (hv : l.take 2 = [48, 48]) : parT (numP l) = l := by
  obtain ⟨hl, t2, t35, t52, a0, f1, f2, f3, hx1, hx2, hx3⟩ := (formS_iff l).1 h
  have h55 : l.length = 55 := Classical.byContradiction fun e => f2 ⟨hv, e⟩
  rw [take_split, List.all_append, Bool.and_eq_true] at hx1
  have qa := hx_of_unhex ((pc_all (l := l) (a := 3) (n := 16) (by omega) (by omega) (by omega)).2 hx1.1)
  have qb := hx_of_unhex ((pc_all (l := l) (a := 19) (n := 16) (by omega) (by omega) (by omega)).2 hx1.2)
  have qs := hx_of_unhex ((pc_all (l := l) (a := 36) (n := 16) (by omega) (by omega) (by omega)).2 hx2)
  have qf := hx_of_unhex ((pc_all (l := l) (a := 53) (n := 2) (by omega) (by omega) (by omega)).2 hx3)
  rw [pc_len (by omega)] at qa qb qs qf
  have one : ∀ i, i < l.length → l[i]? = some 45 → (l.drop i).take 1 = [45] := fun i hi e => by
    rw [List.drop_eq_getElem_cons hi, List.take_succ_cons]
    rw [List.getElem?_eq_getElem hi, Option.some.injEq] at e
    rw [e]; rfl
  have step : ∀ i n, (l.drop i) = (l.drop i).take n ++ l.drop (i + n) := fun i n => by rw [← List.drop_drop, List.take_append_drop]
  have e : l = l.take 2 ++ ((l.drop 2).take 1 ++ ((l.drop 3).take 16 ++ ((l.drop 19).take 16 ++ ((l.drop 35).take 1 ++ ((l.drop 36).take 16 ++ ((l.drop 52).take 1 ++ (l.drop 53).take 2)))))) := by
    have z : (l.drop 53).take 2 = l.drop 53 := List.take_of_length_le (by simp; omega)
    rw [z, ← step 52 1, ← step 36 16, ← step 35 1, ← step 19 16, ← step 3 16, ← step 2 1, List.take_append_drop]
  have hp : parT (numP l) = [48, 48] ++ ([45] ++ (hx 16 (pc l 3 16).1 ++ (hx 16 (pc l 19 16).1 ++ ([45] ++ (hx 16 (pc l 36 16).1 ++ ([45] ++ hx 2 (pc l 53 2).1)))))) := by simp [parT, numP]
  unfold pc at hp
  rw [hp, qa, qb, qs, qf]
  conv => rhs; rw [e]
  rw [hv, one 2 (by omega) t2, one 35 (by omega) t35, one 52 (by omega) t52]
theorem parS_back {l : List UInt8} {p : Pr} (h : parS l = (p, 0)) : formS l = true ∧ numP l = p ∧ pzero p = false ∧ 55 ≤ l.length := by
  unfold parS at h
  split at h
  · rename_i hf
    split at h
    · simp at h
    · rename_i hz
      rw [Prod.mk.injEq] at h
      obtain ⟨e, _⟩ := h
      refine ⟨hf, e, by rw [← e]; simpa using hz, ((formS_iff l).1 hf).1⟩
  · simp at h
end Go.Proofs.YtddmmpjamnjilaaDoor
