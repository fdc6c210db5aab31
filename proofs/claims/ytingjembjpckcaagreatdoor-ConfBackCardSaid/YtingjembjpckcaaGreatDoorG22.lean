/- Texts put together: Ld. -/
import Derived.Test.YtingjembjpckcaaGreatDoorG20
import Derived.Test.YtingjembjpckcaaGreatDoorG21
import Derived.Lib.ItoaLen
import Derived.Deep.RegionHeld3
namespace Go.Proofs.YtingjembjpckcaaGreatDoor
set_option linter.unusedVariables false
set_option linter.unusedSimpArgs false
open Go.RowKit Go.Joins

/-- The table of lines, where it lies. -/
def Frm (w : World) : Prop := ∀ i, i < 14 → w.cell? ⟨0, i * 2, none⟩ = some (.string (bs (frmW i))) ∧ w.cell? ⟨0, i * 2 + 1, none⟩ = some (.string (bs (frmB i)))
theorem Frm.up {w w' : World} (h : Frm w) (hb : Below w.heap.size w w') : Frm w' := fun i hi => by
  obtain ⟨h1, h2⟩ := h i hi
  exact ⟨(hb.cell (lt_of_cell h1)).trans h1, (hb.cell (lt_of_cell h2)).trans h2⟩
def EnvC (w : World) : Prop := Env w ∧ Frm w
theorem EnvC.up {w w' : World} (h : EnvC w) (hb : Below w.heap.size w w') : EnvC w' := ⟨h.1.later hb, h.2.up hb⟩
theorem frmW_len : ∀ i : Fin 14, (frmW i.val).length ≤ 6 ∧ (frmB i.val).length ≤ 2 := by decide +kernel
theorem itoa_len {n : Int} (h : inNum n = true) : (Lib.itoa n).length ≤ 21 := by
  unfold inNum at h
  simp at h
  exact Lib.itoa_length_le n (by omega) (by omega)
theorem stx_one (w : World) (t : TypeId) (a : List UInt8) : STexts (w.alloc (.cells #[.string (bs a)] t)) (· < (w.alloc (.cells #[.string (bs a)] t)).heap.size) (some ⟨w.heap.size, 0, none⟩) [a] := fun k hk => by
  match k, hk with
  | 0, _ => exact ⟨_, rfl, by simp, Bk.cell (Bk.new w t #[.string (bs a)]) 0⟩
theorem stx_two (w : World) (t : TypeId) (a b : List UInt8) : STexts (w.alloc (.cells #[.string (bs a), .string (bs b)] t)) (· < (w.alloc (.cells #[.string (bs a), .string (bs b)] t)).heap.size) (some ⟨w.heap.size, 0, none⟩) [a, b] := fun k hk => by
  match k, hk with
  | 0, _ => exact ⟨_, rfl, by simp, Bk.cell (Bk.new w t #[.string (bs a), .string (bs b)]) 0⟩
  | 1, _ => exact ⟨_, rfl, by simp, Bk.cell (Bk.new w t #[.string (bs a), .string (bs b)]) 1⟩
theorem cdigits_any (n : Int) (w : World) (E : EnvC w) (hn : inNum n = true) :
    Calls Tryz.prog 24 #[.int .i64 n] w fun e w' => e = .returned (.string (bs (Lib.itoa n))) ∧ Below w.heap.size w w' := by
  have hn' := hn
  unfold inNum at hn'
  simp at hn'
  have HI := hid (lib_itoa n (by omega) (by omega) w E.1)
  clear hn' hn E
  go_enter Tryz.func24, Tryz.ntmps24
  go_wp2_with fail
  refine HI.out.mono ?_
  rintro e w1 ⟨rfl, hb⟩
  go_wp2_with fail
  go_returns
  exact ⟨rfl, hb⟩
def lineP (i : Nat) (bh : List (List UInt8)) (k : Nat) : List UInt8 := frmW i ++ (bh.take k).flatMap (fun s => 32 :: s)
theorem lineP_up (i : Nat) {bh : List (List UInt8)} {k : Nat} (hk : k < bh.length) : lineP i bh (k + 1) = lineP i bh k ++ (32 :: bh[k]) := by
  rw [lineP, List.take_succ_eq_append_getElem hk, List.flatMap_append, ← List.append_assoc, ← lineP]; simp
theorem lineP_len {i : Nat} (hi : i < 14) {bh : List (List UInt8)} (hb : ∀ s ∈ bh, s.length ≤ 1000) : ∀ k, k ≤ bh.length → (lineP i bh k).length ≤ 6 + k * 1001
  | 0, _ => by
    have := (frmW_len ⟨i, hi⟩).1
    simp only [lineP, List.take_zero, List.flatMap_nil, List.append_nil]
    omega
  | k + 1, hk => by
    have h1 := lineP_len hi hb k (by omega)
    have h2 := hb (bh[k]'(by omega)) (List.getElem_mem _)
    rw [lineP_up i (by omega), List.length_append, List.length_cons]
    omega
set_option maxRecDepth 100000 in
set_option maxHeartbeats 1600000 in
theorem lineText_any (i : Nat) (hi : i < 14) (A : Option Addr) (c : Nat) (bh : List (List UInt8)) (w : World) (F : Frm w) (hS : STexts w (· < w.heap.size) A bh) (hb : ∀ s ∈ bh, s.length ≤ 1000) (hl : bh.length ≤ 4) :
    Calls Tryz.prog 14 #[.int .i64 i, .slice A bh.length c] w fun e w' => e = .returned (.string (bs (lineN i bh))) ∧ w = w' := by
  have c0 : (ByteArray.mk #[]) = bs [] := rfl
  have c1 : (ByteArray.mk #[32]) = bs [32] := rfl
  have c2 : (ByteArray.mk #[10]) = bs [10] := rfl
  obtain ⟨f1, -⟩ := F i hi
  have HS := hid hS
  have HB := hid hb
  have hi0 : (0 : Int) ≤ (i : Int) := by omega
  have hi1 : (i : Int) < 14 := by omega
  have HLP := hid (lineP_len hi hb)
  have HUP := hid (fun (k : Nat) (hk : k < bh.length) => lineP_up i hk)
  have H0 := hid (show lineP i bh 0 = frmW i by simp [lineP])
  have HN := hid (show lineP i bh bh.length ++ [10] = lineN i bh by rw [lineP, List.take_length, lineN, lineT])
  have hw0 := (frmW_len ⟨i, hi⟩).1
  simp only at hw0
  clear hS hb F
  generalize frmW i = fw at *
  go_enter Tryz.func14, Tryz.ntmps14
  go_wp2_with fail
  clear f1
  go_loop [5, 14] (fun s j => ∃ k : Nat, k ≤ bh.length ∧ j = .int .i64 k ∧ s = .string (bs (lineP i bh k))) (fun _ j => bh.length - (intOf j).toNat)
  case atStart => exact ⟨0, by omega, rfl, by rw [H0.out]⟩
  case round =>
    obtain ⟨k, hk, rfl, rfl⟩ := hrel
    have hlen := HLP.out k hk
    by_cases hlt : k < bh.length
    · obtain ⟨ad, rfl, hB, hc⟩ := HS.out k hlt
      have hki : decide ((k : Int) < ((bh.length : Nat) : Int)) = true := by simp; omega
      have hk0 : (0 : Int) ≤ (k : Int) := by omega
      have hk1 : (k : Int) < (bh.length : Int) := by omega
      have HU := hid (HUP.out k hlt)
      have hsl := HB.out _ (List.getElem_mem hlt)
      generalize bh[k] = s at *
      generalize lineP i bh k = acc at *
      go_wp2_with fail
      go_round
      case rel => exact ⟨k + 1, by omega, by go_num, by rw [HU.out]⟩
      case measure => simp [intOf]; omega
    · obtain rfl : k = bh.length := by omega
      have hki : decide (((bh.length : Nat) : Int) < ((bh.length : Nat) : Int)) = false := by simp
      generalize lineP i bh bh.length = acc at *
      go_wp2_with fail
      go_ret
      exact ⟨by rw [← HN.out]; simp, rfl⟩
theorem lineText_one (i : Nat) (hi : i < 14) (a : List UInt8) (w : World) (F : Frm w) (ha : a.length ≤ 1000) :
    Calls Tryz.prog 14 #[.int .i64 i, .slice (some ⟨w.heap.size, 0, none⟩) 1 1] (w.alloc (.cells #[.string (bs a)] 9)) fun e w' => e = .returned (.string (bs (lineN i [a]))) ∧ Below w.heap.size w w' :=
  (lineText_any i hi (some ⟨w.heap.size, 0, none⟩) 1 [a] _ (F.up (enew w _)) (stx_one w 9 a) (by simp; exact ha) (by simp)).mono fun e w' ⟨h1, h2⟩ => ⟨h1, by rw [← h2]; exact enew w _⟩
theorem lineText_two (i : Nat) (hi : i < 14) (a b : List UInt8) (w : World) (F : Frm w) (ha : a.length ≤ 1000) (hb : b.length ≤ 1000) :
    Calls Tryz.prog 14 #[.int .i64 i, .slice (some ⟨w.heap.size, 0, none⟩) 2 2] (w.alloc (.cells #[.string (bs a), .string (bs b)] 9)) fun e w' => e = .returned (.string (bs (lineN i [a, b]))) ∧ Below w.heap.size w w' :=
  (lineText_any i hi (some ⟨w.heap.size, 0, none⟩) 2 [a, b] _ (F.up (enew w _)) (stx_two w 9 a b) (by simp; exact ⟨ha, hb⟩) (by simp)).mono fun e w' ⟨h1, h2⟩ => ⟨h1, by rw [← h2]; exact enew w _⟩
theorem lineText_none (i : Nat) (hi : i < 14) (w : World) (F : Frm w) :
    Calls Tryz.prog 14 #[.int .i64 i, .slice none 0 0] w fun e w' => e = .returned (.string (bs (lineN i []))) ∧ Below w.heap.size w w' :=
  (lineText_any i hi none 0 [] w F (fun k hk => absurd hk (by simp)) (by simp) (by simp)).mono fun e w' ⟨h1, h2⟩ => ⟨h1, by rw [← h2]; exact Below.refl _ _⟩
/-- A predicate that may be: its kind, and how long it is. -/
theorem cE_form {k : Int} {n v : List UInt8} (h : cE k n v = 0) : (k = 1 ∨ k = 2 ∨ k = 3 ∨ k = 4 ∨ k = 5 ∨ k = 6) ∧ n.length ≤ 64 ∧ v.length ≤ 64 := by
  have nl : ∀ l, nameB l = true → l.length ≤ 64 := fun l hl => by
    simp only [nameB, Bool.and_eq_true, decide_eq_true_eq] at hl; omega
  have vl : ∀ l, valueB l = true → l.length ≤ 64 := fun l hl => by
    simp only [valueB, Bool.and_eq_true, decide_eq_true_eq] at hl; exact hl.1
  have ml : ∀ l, methodB l = true → l.length ≤ 64 := fun l hl => by
    simp only [methodB, Bool.and_eq_true, decide_eq_true_eq] at hl; omega
  have pl : ∀ l, pathB l = true → l.length ≤ 64 := fun l hl => by
    simp only [pathB, Bool.and_eq_true, decide_eq_true_eq] at hl; exact hl.2.1
  unfold cE at h
  split at h
  · split at h
    · split at h
      · rename_i a b c; exact ⟨by omega, by rw [b]; simp, ml v c⟩
      · omega
    · omega
  split at h
  · split at h
    · split at h
      · rename_i a b c; exact ⟨by omega, by rw [b]; simp, nl v c⟩
      · omega
    · omega
  split at h
  · split at h
    · split at h
      · rename_i a b c; exact ⟨by omega, by rw [b]; simp, pl v c⟩
      · omega
    · omega
  split at h
  · split at h
    · split at h
      · rename_i a b c; exact ⟨by omega, by rw [b]; simp, pl v c⟩
      · omega
    · omega
  split at h
  · split at h
    · split at h
      · rename_i a b c; exact ⟨by omega, nl n b, vl v c⟩
      · omega
    · omega
  split at h
  · split at h
    · split at h
      · rename_i a b c; exact ⟨by omega, nl n c, by rw [b]; simp⟩
      · omega
    · omega
  · omega
set_option maxRecDepth 100000 in
set_option maxHeartbeats 4000000 in
theorem predText_any (k : Int) (n v : List UInt8) (w : World) (F : Frm w) (h : cE k n v = 0) :
    Calls Tryz.prog 25 #[.agg #[.int .i64 k, .string (bs n), .string (bs v)]] w fun e w' => e = .returned (.string (bs (predN ⟨k, n, v⟩))) ∧ Below w.heap.size w w' := by
  obtain ⟨hk, hn, hv⟩ := cE_form h
  have hb0 := enew w (.cells #[.int .i64 k, .string (bs n), .string (bs v)] 37)
  have hp0 := BP.new w k n v
  have HF := hid (F.up hb0)
  have HB := hid hb0
  have HPN := hid (show predN ⟨k, n, v⟩ = if k = 5 then lineN 6 [n, v] else if k = 6 then lineN 7 [n] else lineN (k + 1).toNat [v] from rfl)
  clear F hb0 h
  rcases hk with rfl | rfl | rfl | rfl | rfl | rfl
  · have HL := hid (fun w2 (f : Frm w2) => lineText_one 2 (by omega) v w2 f (by omega))
    go_enter Tryz.func25, Tryz.ntmps25
    go_upto_region 1 with (fail)
    generalize w.alloc (.cells #[.int .i64 1, .string (bs n), .string (bs v)] 37) = v0 at *
    obtain ⟨p0, p1, p2⟩ := hp0.cells
    go_wp2_with fail
    refine (HL.out _ HF.out).mono ?_
    rintro e w1 ⟨rfl, hb⟩
    go_wp2_with fail
    go_returns
    exact ⟨by rw [HPN.out]; rfl, estep HB.out hb⟩
  · have HL := hid (fun w2 (f : Frm w2) => lineText_one 3 (by omega) v w2 f (by omega))
    go_enter Tryz.func25, Tryz.ntmps25
    go_upto_region 1 with (fail)
    generalize w.alloc (.cells #[.int .i64 2, .string (bs n), .string (bs v)] 37) = v0 at *
    obtain ⟨p0, p1, p2⟩ := hp0.cells
    go_wp2_with fail
    refine (HL.out _ HF.out).mono ?_
    rintro e w1 ⟨rfl, hb⟩
    go_wp2_with fail
    go_returns
    exact ⟨by rw [HPN.out]; rfl, estep HB.out hb⟩
  · have HL := hid (fun w2 (f : Frm w2) => lineText_one 4 (by omega) v w2 f (by omega))
    go_enter Tryz.func25, Tryz.ntmps25
    go_upto_region 1 with (fail)
    generalize w.alloc (.cells #[.int .i64 3, .string (bs n), .string (bs v)] 37) = v0 at *
    obtain ⟨p0, p1, p2⟩ := hp0.cells
    go_wp2_with fail
    refine (HL.out _ HF.out).mono ?_
    rintro e w1 ⟨rfl, hb⟩
    go_wp2_with fail
    go_returns
    exact ⟨by rw [HPN.out]; rfl, estep HB.out hb⟩
  · have HL := hid (fun w2 (f : Frm w2) => lineText_one 5 (by omega) v w2 f (by omega))
    go_enter Tryz.func25, Tryz.ntmps25
    go_upto_region 1 with (fail)
    generalize w.alloc (.cells #[.int .i64 4, .string (bs n), .string (bs v)] 37) = v0 at *
    obtain ⟨p0, p1, p2⟩ := hp0.cells
    go_wp2_with fail
    refine (HL.out _ HF.out).mono ?_
    rintro e w1 ⟨rfl, hb⟩
    go_wp2_with fail
    go_returns
    exact ⟨by rw [HPN.out]; rfl, estep HB.out hb⟩
  · have HL := hid (fun w2 (f : Frm w2) => lineText_two 6 (by omega) n v w2 f (by omega) (by omega))
    go_enter Tryz.func25, Tryz.ntmps25
    go_upto_region 1 with (fail)
    generalize w.alloc (.cells #[.int .i64 5, .string (bs n), .string (bs v)] 37) = v0 at *
    obtain ⟨p0, p1, p2⟩ := hp0.cells
    go_wp2_with fail
    refine (HL.out _ HF.out).mono ?_
    rintro e w1 ⟨rfl, hb⟩
    go_wp2_with fail
    go_returns
    exact ⟨by rw [HPN.out]; rfl, estep HB.out hb⟩
  · have HL := hid (fun w2 (f : Frm w2) => lineText_one 7 (by omega) n w2 f (by omega))
    go_enter Tryz.func25, Tryz.ntmps25
    go_upto_region 1 with (fail)
    generalize w.alloc (.cells #[.int .i64 6, .string (bs n), .string (bs v)] 37) = v0 at *
    obtain ⟨p0, p1, p2⟩ := hp0.cells
    go_wp2_with fail
    refine (HL.out _ HF.out).mono ?_
    rintro e w1 ⟨rfl, hb⟩
    go_wp2_with fail
    go_returns
    exact ⟨by rw [HPN.out]; rfl, estep HB.out hb⟩
end Go.Proofs.YtingjembjpckcaaGreatDoor
