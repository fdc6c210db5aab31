/- Texts put together: Ga. -/
import Derived.Test.YtpfhmpblcmednaaD01
import Derived.Lib.ItoaLen
namespace Go.Proofs.Ytpfhmpblcmednaa
set_option linter.unusedVariables false
set_option linter.unusedSimpArgs false
open Go Go.RowKit

/-- What a line is made of. -/
structure Rec where
  m : List UInt8
  h : List UInt8
  p : List UInt8
  L : List Hd
  b : List UInt8
  tg : List UInt8
  st : Int
  ve : Int
  tr : List UInt8
  sa : Int
  en : Int
def tookL (r : Rec) : Int := max (max r.en 0 - max r.sa 0) 0
/-- What stands in a line for a part. -/
def valL (r : Rec) (p : Prt) : List UInt8 :=
  if p.1 = 0 then p.2 else if p.1 = 1 then escS r.m else if p.1 = 2 then escS r.h else if p.1 = 3 then escS r.p else if p.1 = 4 then escS r.tg
  else if p.1 = 5 then Lib.itoa r.st else if p.1 = 6 then Lib.itoa r.ve else if p.1 = 7 then escS r.tr else if p.1 = 8 then Lib.itoa (tookL r)
  else if p.1 = 9 then escS (getH r.L p.2).1 else []
def allL (r : Rec) (l : List Prt) : List UInt8 := l.flatMap (valL r)
/-- The line of all parts. -/
def rendL (r : Rec) (l : List Prt) : List UInt8 := if 120 < (allL r l).length then (allL r l).take 119 ++ [126] else allL r l
def in64 (n : Int) : Prop := -9223372036854775808 ≤ n ∧ n ≤ 9223372036854775807
/-- A record that can be worked on. -/
def okRec (r : Rec) : Prop := (r.m.length ≤ 100000 ∧ r.h.length ≤ 100000 ∧ r.p.length ≤ 100000 ∧ r.tg.length ≤ 100000 ∧ r.tr.length ≤ 100000) ∧ (∀ x ∈ r.L, x.2.length ≤ 100000) ∧ (in64 r.st ∧ in64 r.ve ∧ in64 r.sa ∧ in64 r.en) ∧ r.L.length ≤ 100000
theorem tookL_in {r : Rec} (h : okRec r) : 0 ≤ tookL r ∧ in64 (tookL r) := by
  obtain ⟨-, -, ⟨-, -, ⟨a, b⟩, ⟨c, d⟩⟩, -⟩ := h
  unfold tookL in64
  omega
theorem getH_len {L : List Hd} (h : ∀ x ∈ L, x.2.length ≤ 100000) (n : List UInt8) : (getH L n).1.length ≤ 100000 := by
  unfold getH
  split
  · simp
  · rename_i v t hv
    have : v ∈ allS L n := by rw [hv]; simp
    obtain ⟨x, hx, rfl⟩ := List.mem_map.1 this
    exact h x (List.mem_filter.1 hx).1
theorem valL_len {r : Rec} (h : okRec r) (p : Prt) (hp : p.2.length ≤ 100000) : (valL r p).length ≤ 400001 := by
  have ht := tookL_in h
  have hg := getH_len h.2.1 p.2
  obtain ⟨⟨a, b, c, d, e⟩, -, ⟨i, j, -, -⟩, -⟩ := h
  have i1 := Lib.itoa_length_le r.st i.1 i.2
  have i2 := Lib.itoa_length_le r.ve j.1 j.2
  have i3 := Lib.itoa_length_le (tookL r) ht.2.1 ht.2.2
  have e1 := escS_len r.m
  have e2 := escS_len r.h
  have e3 := escS_len r.p
  have e4 := escS_len r.tg
  have e5 := escS_len r.tr
  have e6 := escS_len (getH r.L p.2).1
  unfold valL
  repeat' split
  all_goals (first | omega | (simp; done))
theorem allL_take (r : Rec) (l : List Prt) (k : Nat) (h : k < l.length) : allL r (l.take (k + 1)) = allL r (l.take k) ++ valL r l[k] := by
  unfold allL
  rw [List.take_succ_eq_append_getElem h, List.flatMap_append]
  simp
theorem allL_split (r : Rec) (l : List Prt) (k : Nat) : allL r l = allL r (l.take k) ++ allL r (l.drop k) := by
  unfold allL
  rw [← List.flatMap_append, List.take_append_drop]
/-- Once there is more than there is room for, no part behind counts. -/
theorem rendL_cut {r : Rec} {l : List Prt} {k : Nat} (h : 120 < (allL r (l.take k)).length) : rendL r l = (allL r (l.take k)).take 119 ++ [126] := by
  have e := allL_split r l k
  unfold rendL
  rw [if_pos (by rw [e, List.length_append]; omega), e, List.take_append_of_le_length (by omega)]
theorem rendL_len (r : Rec) (l : List Prt) : (rendL r l).length ≤ 120 := by
  unfold rendL
  split
  · simp only [List.length_append, List.length_take, List.length_singleton]; omega
  · omega
end Go.Proofs.Ytpfhmpblcmednaa
