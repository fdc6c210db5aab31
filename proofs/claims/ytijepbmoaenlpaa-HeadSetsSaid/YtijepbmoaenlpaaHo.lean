import Derived.Test.YtijepbmoaenlpaaHn
namespace Go.Proofs.Ytijepbmoaenlpaa
set_option linter.unusedVariables false
set_option linter.unusedSimpArgs false
open Go.RowKit Go.Joins

set_option maxRecDepth 100000 in
set_option maxHeartbeats 8000000 in
theorem headSets_walk (v : Value) (L : List Hd) (n s : ByteArray) (w1 : n.data.toList.length ≤ reachBytes) (w2 : s.data.toList.length ≤ reachBytes) (w : World) (hv : HX w (· < w.heap.size) v L) :
    Calls Try.prog 8 #[v, .string n, .string s] w fun e w' => e = .returned (.bool true) ∧ Below w.heap.size w w' := by
  obtain ⟨n, rfl⟩ : ∃ l, n = bs l := ⟨_, bs_of n⟩
  obtain ⟨s, rfl⟩ : ∃ l, s = bs l := ⟨_, bs_of s⟩
  clear w1 w2
  obtain ⟨A, cap, rfl, hR, hA, hlc, hcm, hsz⟩ := hv
  unfold maxLen at hcm
  have HF := hid (few_any A cap L w hR (by omega) hsz)
  have HR := hid hR
  have HA := hid hA
  clear hR hsz hA
  have hnot := notB'
  cases hf : fewOk L
  · have HE := hid hf
    clear hf
    go_enter Try.func8, Try.ntmps8
    go_wp2_with fail
    refine HF.out.mono ?_
    rintro e w1 ⟨rfl, hb1⟩
    rw [HE.out]
    go_wp2_with fail
    refine (known4_any _).mono ?_
    rintro e w2 ⟨rfl, hb2⟩
    go_wp2_with fail
    go_ret
    exact ⟨rfl, below_step' hb1 hb2⟩
  · have hl60 : L.length ≤ 60 := by simp [fewOk] at hf; exact hf.1
    have HE := hid hf
    clear hf
    obtain ⟨f1, f2, f3, f4⟩ := setH_facts L n s
    have hsl : (setH L n s).length ≤ 100 := by rw [← setR_false]; have := setR_length n s L false; omega
    have hS : ∀ w1, HReads w1 (· < w1.heap.size) A L → Calls Try.prog 36 #[.slice A L.length cap, .string (bs n), .string (bs s)] w1 fun e w' => ∃ r, e = .returned r ∧ HB w' w1.heap.size r (setH L n s) ∧ Below w1.heap.size w1 w' := fun w1 h => hset_any A cap L n s w1 h HA.out (by omega) (by omega) (by omega)
    generalize setH L n s = S at *
    have hgl : (withoutH S [n]).length ≤ 100 := by omega
    have HS := hid hS
    have F1 := hid f1
    have F2 := hid f2
    have HWI := hid (show ∀ (X : Option Addr) (c : Nat) (w1 : World), HReads w1 (· < w1.heap.size) X S → Calls Try.prog 38 #[.slice X S.length c, .slice (some ⟨w1.heap.size, 0, none⟩) 1 1] (w1.alloc (.cells #[.string (bs n)] 9)) fun e w' => ∃ A c, e = .returned (.slice A (withoutH S [n]).length c) ∧ HReads w' (· < w'.heap.size) A (withoutH S [n]) ∧ Below w1.heap.size w1 w' from fun X c w1 h =>
      (asHeads (hwithout_any X c S _ 1 [n] _ (h.later ((Below.refl _ _).alloc (Nat.le_refl _) _)) (stexts_one w1 n _) (by omega) (by simp))).mono fun e w' ⟨A, c, a, b, d⟩ => ⟨A, c, a, b, below_step' ((Below.refl _ _).alloc (Nat.le_refl _) _) d⟩)
    have HWL := hid (show ∀ (w1 : World), HReads w1 (· < w1.heap.size) A L → Calls Try.prog 38 #[.slice A L.length cap, .slice (some ⟨w1.heap.size, 0, none⟩) 1 1] (w1.alloc (.cells #[.string (bs n)] 9)) fun e w' => ∃ A c, e = .returned (.slice A (withoutH S [n]).length c) ∧ HReads w' (· < w'.heap.size) A (withoutH S [n]) ∧ Below w1.heap.size w1 w' from fun w1 h => by
      rw [f2]
      exact (asHeads (hwithout_any A cap L _ 1 [n] _ (h.later ((Below.refl _ _).alloc (Nat.le_refl _) _)) (stexts_one w1 n _) (by omega) (by simp))).mono fun e w' ⟨A, c, a, b, d⟩ => ⟨A, c, a, b, below_step' ((Below.refl _ _).alloc (Nat.le_refl _) _) d⟩)
    have hf3 : (((withoutH S [n]).length : Int) + 1 == (S.length : Int)) = true := by simp; omega
    generalize withoutH S [n] = G at *
    have F4 := hid f4
    clear f1 f2 f3 f4 hS
    go_enter Try.func8, Try.ntmps8
    go_wp2_with fail
    refine HF.out.mono ?_
    rintro e w1 ⟨rfl, hb⟩
    rw [HE.out]
    go_wp2_with fail
    refine (asHeads (HS.out _ (HR.out.later hb))).mono ?_
    rintro e w2 ⟨X, c1, rfl, hX, hb2⟩
    have hb := below_step' hb hb2
    have HX := hid hX
    clear hX
    go_wp2_with fail
    refine (asTexts (hall_any X c1 S n _ HX.out (by omega))).mono ?_
    rintro e w3 ⟨T, c2, rfl, hT, hb3⟩
    have hb := below_step' hb hb3
    have HX := hid (HX.out.later hb3)
    rw [F1.out] at hT
    rw [F1.out]
    obtain ⟨ad, rfl, _, hTc⟩ := hT 0 (by simp)
    have hTc' : w3.cell? ad = some (.string (bs s)) := by simpa [Addr.add] using hTc
    have hTb : ad.block < w3.heap.size := lt_of_cell hTc'
    clear hT hTc
    go_wp2_with fail
    refine (HWI.out X c1 _ HX.out).mono ?_
    rintro e w4 ⟨Y, c3, rfl, hY, hb4⟩
    have hb := below_step' hb hb4
    have hTc := (hb4.cell hTb).trans hTc'
    have hTb4 : ad.block < w4.heap.size := Nat.lt_of_lt_of_le hTb hb4.size
    have HY := hid hY
    clear hY hTc'
    go_wp2_with fail
    refine (hget_any Y c3 G n _ HY.out (by omega)).mono ?_
    rintro e w5 ⟨rfl, hb5⟩
    have hb := below_step' hb hb5
    have hTc := (hb5.cell hTb4).trans hTc
    have HY := hid (HY.out.later hb5)
    rw [F4.out]
    go_wp2_with fail
    refine (HWL.out _ (HR.out.later hb)).mono ?_
    rintro e w6 ⟨Z, c4, rfl, hZ, hb6⟩
    have hb := below_step' hb hb6
    have HY := hid (HY.out.later hb6)
    have HZ := hid hZ
    clear hZ
    go_wp2_with fail
    refine (same_any Y Z c3 c4 _ _ _ HY.out HZ.out (by omega) (by omega)).mono ?_
    rintro e w7 ⟨rfl, hb7⟩
    have hb := below_step' hb hb7
    rw [decide_eq_true rfl]
    go_wp2_with fail
    refine (known4_any _).mono ?_
    rintro e w8 ⟨rfl, hb8⟩
    go_wp2_with fail
    go_ret
    exact ⟨rfl, below_step' hb hb8⟩
end Go.Proofs.Ytijepbmoaenlpaa
