/- Texts put together: Ld. -/
import Derived.Test.YtelglcakekgdeaaGreatDoorG33
import Derived.Test.YtelglcakekgdeaaGreatDoorG34
import Derived.Lib.ItoaLen
import Derived.Deep.RegionHeld3
namespace Go.Proofs.YtelglcakekgdeaaGreatDoor
set_option linter.unusedVariables false
set_option linter.unusedSimpArgs false
open Go.RowKit Go.Joins

/-- The table of lines, where it lies. -/
def Frm (w : World) : Prop := ∀ i, i < 14 → w.cell? ⟨0, i * 2, none⟩ = some (.string (bs (frmW i))) ∧ w.cell? ⟨0, i * 2 + 1, none⟩ = some (.string (bs (frmB i)))
theorem Frm.up {w w' : World} (h : Frm w) (hb : Below w.heap.size w w') : Frm w' := fun i hi => by
  obtain ⟨h1, h2⟩ := h i hi
  exact ⟨(hb.cell (lt_of_cell h1)).trans h1, (hb.cell (lt_of_cell h2)).trans h2⟩
def EnvC (w : World) : Prop := Env w ∧ Frm w
theorem EnvC.up {w w' : World} (h : EnvC w) (hb : Below w.heap.size w w') : EnvC w' := ⟨h.1.later hb, h.2.up hb⟩
theorem frmW_len : ∀ i : Fin 14, (frmW i.val).length ≤ 6 ∧ (frmB i.val).length ≤ 2 := by decide +kernel
theorem itoa_len {n : Int} (h : inNum n = true) : (Lib.itoa n).length ≤ 21 := by
  unfold inNum at h
  simp at h
  exact Lib.itoa_length_le n (by omega) (by omega)
theorem stx_one (w : World) (t : TypeId) (a : List UInt8) : STexts (w.alloc (.cells #[.string (bs a)] t)) (· < (w.alloc (.cells #[.string (bs a)] t)).heap.size) (some ⟨w.heap.size, 0, none⟩) [a] := fun k hk => by
  match k, hk with
  | 0, _ => exact ⟨_, rfl, by simp, Bk.cell (Bk.new w t #[.string (bs a)]) 0⟩
theorem stx_two (w : World) (t : TypeId) (a b : List UInt8) : STexts (w.alloc (.cells #[.string (bs a), .string (bs b)] t)) (· < (w.alloc (.cells #[.string (bs a), .string (bs b)] t)).heap.size) (some ⟨w.heap.size, 0, none⟩) [a, b] := fun k hk => by
  match k, hk with
  | 0, _ => exact ⟨_, rfl, by simp, Bk.cell (Bk.new w t #[.string (bs a), .string (bs b)]) 0⟩
  | 1, _ => exact ⟨_, rfl, by simp, Bk.cell (Bk.new w t #[.string (bs a), .string (bs b)]) 1⟩
theorem cdigits_any (n : Int) (w : World) (E : EnvC w) (hn : inNum n = true) :
    Calls Tryz.prog 108 #[.int .i64 n] w fun e w' => e = .returned (.string (bs (Lib.itoa n))) ∧ Below w.heap.size w w' := by
  have hn' := hn
  unfold inNum at hn'
  simp at hn'
  have HI := hid (lib_itoa n (by omega) (by omega) w E.1)
  clear hn' hn E
  go_enter Tryz.func108, Tryz.ntmps108
  go_wp2_with fail
  refine HI.out.mono ?_
  rintro e w1 ⟨rfl, hb⟩
  go_wp2_with fail
  go_returns
  exact ⟨rfl, hb⟩
def lineP (i : Nat) (bh : List (List UInt8)) (k : Nat) : List UInt8 := frmW i ++ (bh.take k).flatMap (fun s => 32 :: s)
theorem lineP_up (i : Nat) {bh : List (List UInt8)} {k : Nat} (hk : k < bh.length) : lineP i bh (k + 1) = lineP i bh k ++ (32 :: bh[k]) := by
  rw [lineP, List.take_succ_eq_append_getElem hk, List.flatMap_append, ← List.append_assoc, ← lineP]; simp
theorem lineP_len {i : Nat} (hi : i < 14) {bh : List (List UInt8)} (hb : ∀ s ∈ bh, s.length ≤ 1000) : ∀ k, k ≤ bh.length → (lineP i bh k).length ≤ 6 + k * 1001
  | 0, _ => by
    have := (frmW_len ⟨i, hi⟩).1
    simp only [lineP, List.take_zero, List.flatMap_nil, List.append_nil]
    omega
  | k + 1, hk => by
    have h1 := lineP_len hi hb k (by omega)
    have h2 := hb (bh[k]'(by omega)) (List.getElem_mem _)
    rw [lineP_up i (by omega), List.length_append, List.length_cons]
    omega
/-- A predicate that may be: its kind, and how long it is. -/
theorem cE_form {k : Int} {n v : List UInt8} (h : cE k n v = 0) : (k = 1 ∨ k = 2 ∨ k = 3 ∨ k = 4 ∨ k = 5 ∨ k = 6) ∧ n.length ≤ 64 ∧ v.length ≤ 64 := by
  have nl : ∀ l, nameB l = true → l.length ≤ 64 := fun l hl => by
    simp only [nameB, Bool.and_eq_true, decide_eq_true_eq] at hl; omega
  have vl : ∀ l, valueB l = true → l.length ≤ 64 := fun l hl => by
    simp only [valueB, Bool.and_eq_true, decide_eq_true_eq] at hl; exact hl.1
  have ml : ∀ l, methodB l = true → l.length ≤ 64 := fun l hl => by
    simp only [methodB, Bool.and_eq_true, decide_eq_true_eq] at hl; omega
  have pl : ∀ l, pathB l = true → l.length ≤ 64 := fun l hl => by
    simp only [pathB, Bool.and_eq_true, decide_eq_true_eq] at hl; exact hl.2.1
  unfold cE at h
  split at h
  · split at h
    · split at h
      · rename_i a b c; exact ⟨by omega, by rw [b]; simp, ml v c⟩
      · omega
    · omega
  split at h
  · split at h
    · split at h
      · rename_i a b c; exact ⟨by omega, by rw [b]; simp, nl v c⟩
      · omega
    · omega
  split at h
  · split at h
    · split at h
      · rename_i a b c; exact ⟨by omega, by rw [b]; simp, pl v c⟩
      · omega
    · omega
  split at h
  · split at h
    · split at h
      · rename_i a b c; exact ⟨by omega, by rw [b]; simp, pl v c⟩
      · omega
    · omega
  split at h
  · split at h
    · split at h
      · rename_i a b c; exact ⟨by omega, nl n b, vl v c⟩
      · omega
    · omega
  split at h
  · split at h
    · split at h
      · rename_i a b c; exact ⟨by omega, nl n c, by rw [b]; simp⟩
      · omega
    · omega
  · omega
end Go.Proofs.YtelglcakekgdeaaGreatDoor
