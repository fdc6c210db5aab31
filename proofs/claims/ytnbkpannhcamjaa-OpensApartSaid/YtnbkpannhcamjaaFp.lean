/- Plain facts of line: texts, escaped. -/
import Derived.Test.YtnbkpannhcamjaaPlain
namespace Go.Proofs.Ytnbkpannhcamjaa
set_option linter.unusedVariables false
set_option linter.unusedSimpArgs false
open Go Go.RowKit

/-- A byte, escaped. -/
def escB (b : UInt8) : List UInt8 := if b.toNat < 32 ∨ 126 < b.toNat then [92, 120, hexd (b.toNat / 16), hexd (b.toNat % 16)] else if b.toNat = 34 ∨ b.toNat = 92 then [92, b] else [b]
/-- A text, escaped. -/
def escS (s : List UInt8) : List UInt8 := if s = [] then [45] else s.flatMap escB
def hexN (c : UInt8) : Nat := if c.toNat < 58 then c.toNat - 48 else c.toNat - 87
/-- The byte that the first signs of an escaped text stand for. -/
def decB : List UInt8 → UInt8
  | [] => 0
  | c :: r => if c = 92 then (match r with | [] => 0 | d :: q => if d = 120 then (match q with | x :: y :: _ => UInt8.ofNat (16 * hexN x + hexN y) | _ => 0) else d) else c
theorem hexN_two : ∀ a : Fin 256, UInt8.ofNat (16 * hexN (hexd (a.val / 16)) + hexN (hexd (a.val % 16))) = UInt8.ofNat a := by decide +kernel
theorem escB_plain : ∀ a : Fin 256, (escB (UInt8.ofNat a)).all (fun c => decide (32 ≤ c.toNat) && decide (c.toNat ≤ 126)) = true ∧ 1 ≤ (escB (UInt8.ofNat a)).length ∧ (escB (UInt8.ofNat a)).length ≤ 4 := by decide +kernel
theorem u8_fin (b : UInt8) : ∃ a : Fin 256, b = UInt8.ofNat a := ⟨⟨b.toNat, UInt8.toNat_lt b⟩, by simp⟩
theorem decB_of (a : UInt8) (r : List UInt8) : decB (escB a ++ r) = a := by
  unfold escB
  split
  · have h := hexN_two ⟨a.toNat, UInt8.toNat_lt a⟩
    simp only [List.cons_append, List.nil_append, decB, if_true]
    rw [h]
    simp
  · split
    · rename_i h1 h2
      have h3 : a ≠ 120 := fun e => by subst e; revert h2; decide
      simp only [List.cons_append, List.nil_append, decB, if_true, if_neg h3]
    · rename_i h1 h2
      have h3 : a ≠ 92 := fun e => h2 (Or.inr (by subst e; rfl))
      simp only [List.cons_append, List.nil_append, decB, if_neg h3]
theorem escB_cut {a b : UInt8} {r q : List UInt8} (h : escB a ++ r = escB b ++ q) : a = b ∧ r = q := by
  have hab : a = b := by rw [← decB_of a r, h, decB_of]
  subst hab
  exact ⟨rfl, List.append_cancel_left h⟩
theorem escF_inj : ∀ (s t : List UInt8), s.flatMap escB = t.flatMap escB → s = t
  | [], [], _ => rfl
  | [], b :: t, h => by
    obtain ⟨y, rfl⟩ := u8_fin b
    have h1 := (escB_plain y).2.1
    rw [List.flatMap_cons] at h
    have h2 := congrArg List.length h
    rw [List.length_append, List.flatMap_nil, List.length_nil] at h2
    omega
  | a :: s, [], h => by
    obtain ⟨y, rfl⟩ := u8_fin a
    have h1 := (escB_plain y).2.1
    rw [List.flatMap_cons] at h
    have h2 := congrArg List.length h
    rw [List.length_append, List.flatMap_nil, List.length_nil] at h2
    omega
  | a :: s, b :: t, h => by
    rw [List.flatMap_cons, List.flatMap_cons] at h
    obtain ⟨rfl, h2⟩ := escB_cut h
    rw [escF_inj s t h2]
/-- Unlike texts are escaped unlike, but for - and the one without bytes. -/
theorem escS_inj {s t : List UInt8} (h : escS s = escS t) : s = t ∨ (s = [] ∧ t = [45]) ∨ (s = [45] ∧ t = []) := by
  unfold escS at h
  by_cases h1 : s = []
  · by_cases h2 : t = []
    · exact Or.inl (h1.trans h2.symm)
    · rw [if_pos h1, if_neg h2] at h
      exact Or.inr (Or.inl ⟨h1, (escF_inj [45] t (Eq.trans (by decide) h)).symm⟩)
  · by_cases h2 : t = []
    · rw [if_neg h1, if_pos h2] at h
      exact Or.inr (Or.inr ⟨escF_inj s [45] (h.trans (by decide)), h2⟩)
    · rw [if_neg h1, if_neg h2] at h
      exact Or.inl (escF_inj s t h)
theorem escF_plain (s : List UInt8) : ∀ c ∈ s.flatMap escB, 32 ≤ c.toNat ∧ c.toNat ≤ 126 := by
  intro c hc
  obtain ⟨b, -, hb⟩ := List.mem_flatMap.1 hc
  obtain ⟨y, rfl⟩ := u8_fin b
  have h1 := List.all_eq_true.1 (escB_plain y).1 c hb
  rw [Bool.and_eq_true] at h1
  exact ⟨of_decide_eq_true h1.1, of_decide_eq_true h1.2⟩
theorem escS_plain (s : List UInt8) : ∀ c ∈ escS s, 32 ≤ c.toNat ∧ c.toNat ≤ 126 := by
  unfold escS
  split
  · intro c hc
    obtain rfl : c = 45 := by simpa using hc
    decide
  · exact escF_plain s
theorem escF_len : ∀ s : List UInt8, s.length ≤ (s.flatMap escB).length ∧ (s.flatMap escB).length ≤ 4 * s.length
  | [] => by simp
  | b :: s => by
    obtain ⟨h1, h2⟩ := escF_len s
    obtain ⟨y, rfl⟩ := u8_fin b
    obtain ⟨-, h3, h4⟩ := escB_plain y
    rw [List.flatMap_cons, List.length_append, List.length_cons]
    omega
theorem escS_len (s : List UInt8) : s.length ≤ (escS s).length ∧ (escS s).length ≤ 4 * s.length + 1 := by
  unfold escS
  split
  · rename_i h
    subst h
    decide
  · have := escF_len s
    omega
theorem escF_take (s : List UInt8) (k : Nat) (h : k < s.length) : (s.take (k + 1)).flatMap escB = (s.take k).flatMap escB ++ escB s[k] := by
  rw [List.take_succ_eq_append_getElem h, List.flatMap_append]
  simp
end Go.Proofs.Ytnbkpannhcamjaa
