import Derived.Test.YtijepbmoaenlpaaHm
namespace Go.Proofs.Ytijepbmoaenlpaa
set_option linter.unusedVariables false
set_option linter.unusedSimpArgs false
open Go.RowKit Go.Joins

/-- A result that is a slice of headers, read. -/
theorem asHeads {F : Nat} {args : Array Value} {w : World} {M : List Hd} (h : Calls Try.prog F args w fun e w' => ∃ r, e = .returned r ∧ HB w' w.heap.size r M ∧ Below w.heap.size w w') :
    Calls Try.prog F args w fun e w' => ∃ A c, e = .returned (.slice A M.length c) ∧ HReads w' (· < w'.heap.size) A M ∧ Below w.heap.size w w' :=
  h.mono fun e w' ⟨r, a, b, c⟩ => by
    obtain ⟨A, c2, rfl, h⟩ := b.reads
    exact ⟨A, c2, a, h.imp (fun _ h => h.2), c⟩
theorem asTexts {F : Nat} {args : Array Value} {w : World} {M : List (List UInt8)} (h : Calls Try.prog F args w fun e w' => ∃ r, e = .returned r ∧ TB w' w.heap.size r M ∧ Below w.heap.size w w') :
    Calls Try.prog F args w fun e w' => ∃ A c, e = .returned (.slice A M.length c) ∧ STexts w' (· < w'.heap.size) A M ∧ Below w.heap.size w w' :=
  h.mono fun e w' ⟨r, a, b, c⟩ => by
    obtain ⟨A, c2, rfl, h⟩ := b.reads
    exact ⟨A, c2, a, h.imp (fun _ h => h.2), c⟩
set_option maxRecDepth 100000 in
set_option maxHeartbeats 4000000 in
theorem headMay_walk (v : Value) (L : List Hd) (s : ByteArray) (w1 : s.data.toList.length ≤ reachBytes) (w : World) (hv : HX w (· < w.heap.size) v L) :
    Calls Try.prog 6 #[v, .string s] w fun e w' => e = .returned (.bool true) ∧ Below w.heap.size w w' := by
  obtain ⟨l, rfl⟩ : ∃ l, s = bs l := ⟨_, bs_of s⟩
  rw [bs_data] at w1
  have ha : l.length ≤ 140737488351232 := w1
  clear w1
  obtain ⟨A, cap, rfl, hR, hA, hlc, hcm, hsz⟩ := hv
  unfold maxLen at hcm
  have HF := hid (few_any A cap L w hR (by omega) hsz)
  have HR := hid hR
  have HS := hid hsz
  clear hR hsz hA
  have hnot := notB'
  cases hf : fewOk L
  · have HE := hid hf
    clear hf
    go_enter Try.func6, Try.ntmps6
    go_wp2_with fail
    refine HF.out.mono ?_
    rintro e w1 ⟨rfl, hb1⟩
    rw [HE.out]
    go_wp2_with fail
    refine (known4_any _).mono ?_
    rintro e w2 ⟨rfl, hb2⟩
    go_wp2_with fail
    go_ret
    exact ⟨rfl, below_step' hb1 hb2⟩
  · have hl60 : L.length ≤ 60 := by simp [fewOk] at hf; exact hf.1
    have HE := hid hf
    clear hf
    by_cases h400 : 400 < l.length
    · go_enter Try.func6, Try.ntmps6
      go_wp2_with fail
      refine HF.out.mono ?_
      rintro e w1 ⟨rfl, hb1⟩
      rw [HE.out]
      go_wp2_with fail
      refine (known4_any _).mono ?_
      rintro e w2 ⟨rfl, hb2⟩
      go_wp2_with fail
      go_ret
      exact ⟨rfl, below_step' hb1 hb2⟩
    · go_enter Try.func6, Try.ntmps6
      go_wp2_with fail
      refine HF.out.mono ?_
      rintro e w1 ⟨rfl, hb1⟩
      rw [HE.out]
      go_wp2_with fail
      refine (hname_any l _ ha).mono ?_
      rintro e w2 ⟨rfl, rfl⟩
      go_wp2_with fail
      refine (rname_any l _ ha).mono ?_
      rintro e w2 ⟨rfl, rfl⟩
      go_wp2_with fail
      refine (hvalue_any l _ ha).mono ?_
      rintro e w2 ⟨rfl, rfl⟩
      go_wp2_with fail
      refine (rvalue_any l _ ha).mono ?_
      rintro e w2 ⟨rfl, rfl⟩
      go_wp2_with fail
      refine (hcheck_any A cap L _ (HR.out.later hb1) (by omega) HS.out).mono ?_
      rintro e w2 ⟨rfl, hb2⟩
      have hb2 := below_step' hb1 hb2
      go_wp2_with fail
      refine (rcheck_any A cap L _ (HR.out.later hb2) (by omega) HS.out).mono ?_
      rintro e w3 ⟨rfl, rfl⟩
      go_wp2_with fail
      refine (known4_any _).mono ?_
      rintro e w3 ⟨rfl, hb3⟩
      go_wp2_with fail
      go_ret
      exact ⟨rfl, below_step' hb2 hb3⟩
set_option maxRecDepth 100000 in
set_option maxHeartbeats 8000000 in
theorem headLists_walk (v : Value) (L : List Hd) (n s : ByteArray) (v2 : Value) (names : List (List UInt8)) (w1 : n.data.toList.length ≤ reachBytes) (w2 : s.data.toList.length ≤ reachBytes) (w : World) (hv : HX w (· < w.heap.size) v L) (hn : TX w (· < w.heap.size) v2 names) :
    Calls Try.prog 7 #[v, .string n, .string s, v2] w fun e w' => e = .returned (.bool true) ∧ Below w.heap.size w w' := by
  obtain ⟨n, rfl⟩ : ∃ l, n = bs l := ⟨_, bs_of n⟩
  obtain ⟨s, rfl⟩ : ∃ l, s = bs l := ⟨_, bs_of s⟩
  clear w1 w2
  obtain ⟨A, cap, rfl, hR, hA, hlc, hcm, hsz⟩ := hv
  obtain ⟨A2, cap2, rfl, hS, hnl, _⟩ := hn
  unfold maxLen at hcm hnl
  have HF := hid (few_any A cap L w hR (by omega) hsz)
  have HR := hid hR
  have HS := hid hS
  have HA := hid hA
  clear hR hsz hA hS
  have hnot := notB'
  cases hf : fewOk L
  · have HE := hid hf
    clear hf
    go_enter Try.func7, Try.ntmps7
    go_wp2_with fail
    refine HF.out.mono ?_
    rintro e w1 ⟨rfl, hb1⟩
    rw [HE.out]
    go_wp2_with fail
    refine (known4_any _).mono ?_
    rintro e w2 ⟨rfl, hb2⟩
    go_wp2_with fail
    go_ret
    exact ⟨rfl, below_step' hb1 hb2⟩
  · have hl60 : L.length ≤ 60 := by simp [fewOk] at hf; exact hf.1
    have HE := hid hf
    clear hf
    by_cases h20 : 20 < names.length
    · go_enter Try.func7, Try.ntmps7
      go_wp2_with fail
      refine HF.out.mono ?_
      rintro e w1 ⟨rfl, hb1⟩
      rw [HE.out]
      go_wp2_with fail
      refine (known4_any _).mono ?_
      rintro e w2 ⟨rfl, hb2⟩
      go_wp2_with fail
      go_ret
      exact ⟨rfl, below_step' hb1 hb2⟩
    · have HAL := hid (allS_length L n)
      have HSL := hid (show (setH L n s).length ≤ 100 by rw [← setR_false]; have := setR_length n s L false; omega)
      have HWL := hid (withoutH_length L names)
      have HDL := hid (show (addH L n s).length ≤ 100 by simp [addH]; omega)
      obtain ⟨g1, g2, hg⟩ : ∃ g1 g2, getH L n = (g1, g2) := ⟨_, _, rfl⟩
      have HG := hid hg
      clear hg
      go_enter Try.func7, Try.ntmps7
      go_wp2_with fail
      refine HF.out.mono ?_
      rintro e w1 ⟨rfl, hb⟩
      rw [HE.out]
      go_wp2_with fail
      refine (hget_any A cap L n _ (HR.out.later hb) (by omega)).mono ?_
      rintro e w2 ⟨rfl, hb2⟩
      have hb := below_step' hb hb2
      rw [HG.out]
      go_wp2_with fail
      refine (rget_any4 A cap L n _ (HR.out.later hb) (by omega)).mono ?_
      rintro e w3 ⟨rfl, hb3⟩
      have hb := below_step' hb hb3
      rw [HG.out]
      go_wp2_with fail
      refine (asTexts (hall_any A cap L n _ (HR.out.later hb) (by omega))).mono ?_
      rintro e w4 ⟨X1, c1, rfl, hX1, hb4⟩
      have hb := below_step' hb hb4
      have HX1 := hid hX1
      clear hX1
      go_wp2_with fail
      refine (asTexts (rall_any A cap L n _ (HR.out.later hb) (by omega))).mono ?_
      rintro e w5 ⟨X2, c2, rfl, hX2, hb5⟩
      have hb := below_step' hb hb5
      have HX2 := hid hX2
      have HX1 := hid (HX1.out.later hb5)
      clear hX2
      go_wp2_with fail
      refine (texts_any X1 X2 c1 c2 _ _ _ HX1.out HX2.out (by have := HAL.out; omega) (by have := HAL.out; omega)).mono ?_
      rintro e w6 ⟨rfl, hb6⟩
      have hb := below_step' hb hb6
      rw [decide_eq_true rfl]
      go_wp2_with fail
      refine (asHeads (hadd_any A cap L n s _ (HR.out.later hb) HA.out (by omega))).mono ?_
      rintro e w7 ⟨X1, c1, rfl, hX1, hb7⟩
      have hb := below_step' hb hb7
      have HX1 := hid hX1
      clear hX1
      go_wp2_with fail
      refine (asHeads (radd_any A cap L n s _ (HR.out.later hb) HA.out (by omega))).mono ?_
      rintro e w8 ⟨X2, c2, rfl, hX2, hb8⟩
      have hb := below_step' hb hb8
      have HX2 := hid hX2
      have HX1 := hid (HX1.out.later hb8)
      clear hX2
      go_wp2_with fail
      refine (same_any X1 X2 c1 c2 _ _ _ HX1.out HX2.out (by have := HDL.out; omega) (by have := HDL.out; omega)).mono ?_
      rintro e w9 ⟨rfl, hb9⟩
      have hb := below_step' hb hb9
      rw [decide_eq_true rfl]
      go_wp2_with fail
      refine (asHeads (hset_any A cap L n s _ (HR.out.later hb) HA.out (by omega) (by omega) (by omega))).mono ?_
      rintro e w10 ⟨X1, c1, rfl, hX1, hb10⟩
      have hb := below_step' hb hb10
      have HX1 := hid hX1
      clear hX1
      go_wp2_with fail
      refine (asHeads (rset_any A cap L n s _ (HR.out.later hb) (by omega))).mono ?_
      rintro e w11 ⟨X2, c2, rfl, hX2, hb11⟩
      have hb := below_step' hb hb11
      have HX2 := hid hX2
      have HX1 := hid (HX1.out.later hb11)
      clear hX2
      go_wp2_with fail
      refine (same_any X1 X2 c1 c2 _ _ _ HX1.out HX2.out (by have := HSL.out; omega) (by have := HSL.out; omega)).mono ?_
      rintro e w12 ⟨rfl, hb12⟩
      have hb := below_step' hb hb12
      rw [decide_eq_true rfl]
      go_wp2_with fail
      refine (asHeads (hwithout_any A cap L A2 cap2 names _ (HR.out.later hb) (HS.out.later hb) (by omega) (by omega))).mono ?_
      rintro e w13 ⟨X1, c1, rfl, hX1, hb13⟩
      have hb := below_step' hb hb13
      have HX1 := hid hX1
      clear hX1
      go_wp2_with fail
      refine (asHeads (rwithout_any A cap L A2 cap2 names _ (HR.out.later hb) (HS.out.later hb) (by omega) (by omega))).mono ?_
      rintro e w14 ⟨X2, c2, rfl, hX2, hb14⟩
      have hb := below_step' hb hb14
      have HX2 := hid hX2
      have HX1 := hid (HX1.out.later hb14)
      clear hX2
      go_wp2_with fail
      refine (same_any X1 X2 c1 c2 _ _ _ HX1.out HX2.out (by have := HWL.out; omega) (by have := HWL.out; omega)).mono ?_
      rintro e w15 ⟨rfl, hb15⟩
      have hb := below_step' hb hb15
      rw [decide_eq_true rfl]
      go_wp2_with fail
      refine (known4_any _).mono ?_
      rintro e w16 ⟨rfl, hb16⟩
      go_wp2_with fail
      go_ret
      exact ⟨rfl, below_step' hb hb16⟩
end Go.Proofs.Ytijepbmoaenlpaa
