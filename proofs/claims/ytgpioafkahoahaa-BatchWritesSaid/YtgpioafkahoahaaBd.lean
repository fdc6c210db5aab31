import Derived.Test.YtgpioafkahoahaaBc
namespace Go.Proofs.Ytgpioafkahoahaa
set_option linter.unusedVariables false
set_option linter.unusedSimpArgs false
open Go.RowKit Go.Joins

theorem ackB_ok {n q : Nat} (h : inR n q = true) {t : List UInt8} (ht : sealS (mkA ++ (vput n ++ vput q)) = t) : ackB n q = (t, 0) := by
  rw [ackB, if_pos h, Int.toNat_natCast, Int.toNat_natCast, ht]
theorem ackB_no {n q : Int} (h : inR n q = false) : ackB n q = ([], 12) := by rw [ackB, if_neg (by rw [h]; simp)]
set_option maxHeartbeats 1600000 in
theorem back_any (n q : Int) (w : World) {t : List UInt8} {r : Int} (H : Hid (ackB n q = (t, r))) :
    Calls Try.prog 21 #[.int .i64 n, .int .i64 q] w fun e w' => e = .returned (.tuple #[.string (bs t), .int .i64 r]) ∧ Below w.heap.size w w' := by
  have hnot := snot
  have H0 := H.out
  clear H
  cases hi : inR n q
  · rw [ackB_no hi] at H0
    simp only [Prod.mk.injEq] at H0
    obtain ⟨rfl, rfl⟩ := H0
    have HI := hid hi
    clear hi
    go_enter Try.func21, Try.ntmps21
    go_wp2_with fail
    refine (inrange_any n q _ HI).mono ?_
    rintro e w1 ⟨rfl, rfl⟩
    go_wp2_with fail
    go_returns
    exact ⟨rfl, Below.refl _ _⟩
  · have hr := hi
    rw [inR, decide_eq_true_eq] at hr
    obtain ⟨n, rfl⟩ := Int.eq_ofNat_of_zero_le hr.1
    obtain ⟨q, rfl⟩ := Int.eq_ofNat_of_zero_le hr.2.2.1
    obtain ⟨s, hs⟩ : ∃ s, sealS (mkA ++ (vput n ++ vput q)) = s := ⟨_, rfl⟩
    rw [ackB_ok hi hs] at H0
    simp only [Prod.mk.injEq] at H0
    obtain ⟨rfl, rfl⟩ := H0
    have HI := hid hi
    have hfl := fms_len [n, q]
    obtain ⟨fm, hfm⟩ : ∃ fm, fms [n, q] = fm := ⟨_, rfl⟩
    rw [hfm] at hfl
    have hfl2 : fm.length ≤ 20 := hfl
    have hseq : sealS (mkA ++ fm) = s := by rw [← hs, ← hfm]; simp [fms]
    have hmk : mkA.length ≤ 3 := Nat.le_refl 3
    have cmk := lit_mkA
    have hfc : ∀ k (h : k < [n, q].length), (w.alloc (.cells #[.int .i64 (n : Int), .int .i64 (q : Int)] 3)).cell? ⟨w.heap.size, k, none⟩ = some (.int .i64 ([n, q][k] : Int)) := fun k h => by
      match k, h with
      | 0, _ => simp
      | 1, _ => simp
    have hfa := forms_any w.heap.size 2 [n, q] _ hfc (by simp) (by simp) (fun x hx => by simp at hx; omega)
    rw [hfm] at hfa
    have HFA := hid hfa
    have hbz := sbelow_new w (.cells #[.int .i64 (n : Int), .int .i64 (q : Int)] 3)
    generalize mkA = mk at *
    have hse := fun w' => scseal_at (mk ++ fm) w' (by rw [List.length_append]; omega) (hid hseq)
    have u1 : ¬ 9223372036854775807 < mk.length + fm.length := by omega
    have HSE := hid hse
    clear hfc hfa hi hs hseq hfm hfl hr hse
    go_enter Try.func21, Try.ntmps21
    go_wp2_with fail
    refine (inrange_any _ _ _ HI).mono ?_
    rintro e w1 ⟨rfl, rfl⟩
    go_wp2_with fail
    refine HFA.out.mono ?_
    rintro e w2 ⟨rfl, hb2⟩
    have hb3 := sbelow_step hbz hb2
    clear HFA hbz hb2
    go_wp2_with fail
    refine (HSE.out _).mono ?_
    rintro e w3 ⟨rfl, hb4⟩
    go_wp2_with fail
    go_returns
    exact ⟨rfl, sbelow_step hb3 hb4⟩
set_option maxHeartbeats 1600000 in
theorem rback_any (n q : Int) (w : World) {t : List UInt8} {r : Int} (H : Hid (ackB n q = (t, r))) :
    Calls Try.prog 22 #[.int .i64 n, .int .i64 q] w fun e w' => e = .returned (.tuple #[.string (bs t), .int .i64 r]) ∧ Below w.heap.size w w' := by
  have hnot := snot
  have H0 := H.out
  clear H
  cases hi : inR n q
  · rw [ackB_no hi] at H0
    simp only [Prod.mk.injEq] at H0
    obtain ⟨rfl, rfl⟩ := H0
    have HI := hid hi
    clear hi
    go_enter Try.func22, Try.ntmps22
    go_wp2_with fail
    refine (place_any n q _ HI).mono ?_
    rintro e w1 ⟨rfl, rfl⟩
    go_wp2_with fail
    go_returns
    exact ⟨rfl, Below.refl _ _⟩
  · have hr := hi
    rw [inR, decide_eq_true_eq] at hr
    obtain ⟨n, rfl⟩ := Int.eq_ofNat_of_zero_le hr.1
    obtain ⟨q, rfl⟩ := Int.eq_ofNat_of_zero_le hr.2.2.1
    obtain ⟨s, hs⟩ : ∃ s, sealS (mkA ++ (vput n ++ vput q)) = s := ⟨_, rfl⟩
    rw [ackB_ok hi hs] at H0
    simp only [Prod.mk.injEq] at H0
    obtain ⟨rfl, rfl⟩ := H0
    have HI := hid hi
    obtain ⟨t1, ht1⟩ : ∃ t, vput n = t := ⟨_, rfl⟩
    obtain ⟨t2, ht2⟩ : ∃ t, vput q = t := ⟨_, rfl⟩
    have l1 : t1.length ≤ 10 := by rw [← ht1]; exact (vput_length_le _).2
    have l2 : t2.length ≤ 10 := by rw [← ht2]; exact (vput_length_le _).2
    have q1 := wrap_u64_nat n (by omega)
    have q2 := wrap_u64_nat q (by omega)
    have p1 := fun w' => srvput_at n w' (hid (by omega)) (hid ht1)
    have p2 := fun w' => srvput_at q w' (hid (by omega)) (hid ht2)
    have P1 := hid p1
    have P2 := hid p2
    rw [ht1, ht2] at hs
    have hmk : mkA.length ≤ 3 := Nat.le_refl 3
    have cmk := lit_mkA
    generalize mkA = mk at *
    have hse := fun w' => srseal_at (mk ++ (t1 ++ t2)) w' (by simp only [List.length_append]; omega) (hid hs)
    have HSE := hid hse
    have u1 : ¬ 9223372036854775807 < mk.length + t1.length := by omega
    have u2 : ¬ 9223372036854775807 < mk.length + t1.length + t2.length := by omega
    clear hi hs hr hse p1 p2 ht1 ht2
    go_enter Try.func22, Try.ntmps22
    go_wp2_with fail
    refine (place_any _ _ _ HI).mono ?_
    rintro e w1 ⟨rfl, rfl⟩
    go_wp2_with fail
    refine (P1.out _).mono ?_
    rintro e w2 ⟨rfl, hb2⟩
    go_wp2_with fail
    refine (P2.out _).mono ?_
    rintro e w3 ⟨rfl, hb3⟩
    have hb4 := sbelow_step hb2 hb3
    clear hb2 hb3
    go_wp2_with fail
    refine (HSE.out _).mono ?_
    rintro e w4 ⟨rfl, hb5⟩
    go_wp2_with fail
    go_returns
    exact ⟨rfl, sbelow_step hb4 hb5⟩
theorem beq_nil (l : List UInt8) : (l != []) = !decide (l = []) := by cases l <;> rfl
set_option maxHeartbeats 3200000 in
theorem breadack_any (s : List UInt8) (w : World) (hs : s.length ≤ 140737488351232) {n q : Nat} {r : Int} (H : Hid (readA s = (n, q, r))) :
    Calls Try.prog 27 #[.string (bs s)] w fun e w' => e = .returned (.tuple #[.int .i64 n, .int .i64 q, .int .i64 r]) ∧ Below w.heap.size w w' := by
  have H0 := H.out
  clear H
  obtain ⟨l, e, ho⟩ : ∃ l e, opM mkA s = (l, e) := ⟨_, _, rfl⟩
  have hll := opM_len ho
  have HO := hid ho
  rw [readA, ho] at H0
  simp only at H0
  have hop := fun w' => bopen_any s mkA w' hs (by rw [mkA_len]; omega) HO
  have cmk := lit_mkA
  have cnil : (ByteArray.mk #[]) = bs [] := rfl
  have HOP := hid hop
  clear ho hop HO
  generalize mkA = mk at *
  by_cases he : e = 0
  rotate_left
  · rw [if_pos he] at H0
    simp only [Prod.mk.injEq] at H0
    obtain ⟨rfl, rfl, rfl⟩ := H0
    have hb : (e != 0) = true := by simpa using he
    clear he
    go_enter Try.func27, Try.ntmps27
    go_wp2_with fail
    refine (HOP.out _).mono ?_
    rintro r w1 ⟨rfl, rfl⟩
    go_wp2_with fail
    go_returns
    exact ⟨rfl, Below.refl _ _⟩
  subst he
  rw [if_neg (by simp)] at H0
  obtain ⟨n', a1, e1, h1⟩ : ∃ x y z, nmP l 7 0 0 = (x, y, z) := ⟨_, _, _, rfl⟩
  obtain ⟨q', a2, e2, h2⟩ : ∃ x y z, nmP l 1099511627776 a1 e1 = (x, y, z) := ⟨_, _, _, rfl⟩
  have b1 := nmP_in h1 (by omega)
  have b2 := nmP_in h2 b1
  obtain ⟨k2, rfl⟩ := Int.eq_ofNat_of_zero_le b2.1
  have HN1 := hid h1
  have HN2 := hid h2
  have start : ∀ {Q : Ending → World → Prop}, True := trivial
  by_cases h20 : e2 = 0
  · subst h20
    rw [rdA_end h1 h2, Int.toNat_natCast] at H0
    have hv1 := nmE h2
    subst hv1
    by_cases hd : l.drop k2 = []
    · rw [if_pos hd] at H0
      simp only [Prod.mk.injEq] at H0
      obtain ⟨rfl, rfl, rfl⟩ := H0
      have hen := fun g w' (h : NC w' g l k2 0) => end_any g l k2 0 w' h (by omega) (by omega)
      rw [hd] at hen
      have HEN := hid hen
      clear hen hd h1 h2
      go_enter Try.func27, Try.ntmps27
      go_wp2_with fail
      refine (HOP.out _).mono ?_
      rintro r w1 ⟨rfl, rfl⟩
      go_wp2_with fail
      refine (numbers_any l _).mono ?_
      rintro r w2 ⟨rfl, hn2, hb2⟩
      go_wp2_with fail
      refine (number_any w.heap.size l 0 0 7 w2 w w.heap.size hn2 hb2 (Nat.le_refl _) (by omega) HN1 (by omega)).mono ?_
      rintro r w3 ⟨⟨v1, rfl, hv1⟩, hn3, hb3⟩
      obtain rfl := hv1 rfl
      clear hn2 hb2
      go_wp2_with fail
      refine (number_any w.heap.size l a1 0 1099511627776 w3 w w.heap.size hn3 hb3 (Nat.le_refl _) (by omega) HN2 (by omega)).mono ?_
      rintro r w4 ⟨⟨v2, rfl, hv2⟩, hn4, hb4⟩
      obtain rfl := hv2 rfl
      clear hn3 hb3
      go_wp2_with fail
      refine (HEN.out _ _ hn4).mono ?_
      rintro r w5 ⟨rfl, hb5⟩
      have hb6 := hb4.trans (hb5.mono hb4.size)
      clear hb4 hb5 hn4
      go_wp2_with fail
      go_returns
      exact ⟨rfl, hb6⟩
    · rw [if_neg hd] at H0
      simp only [Prod.mk.injEq] at H0
      obtain ⟨rfl, rfl, rfl⟩ := H0
      have hen := fun g w' (h : NC w' g l k2 0) => end_any g l k2 0 w' h (by omega) (by omega)
      obtain ⟨rest, hrest⟩ : ∃ rest, l.drop k2 = rest := ⟨_, rfl⟩
      rw [hrest] at hen hd
      have hne : (rest == []) = false := by simpa using hd
      have hne2 : (rest != []) = true := by simpa using hd
      have HEN := hid hen
      clear hen hd hrest h1 h2
      go_enter Try.func27, Try.ntmps27
      go_wp2_with fail
      refine (HOP.out _).mono ?_
      rintro r w1 ⟨rfl, rfl⟩
      go_wp2_with fail
      refine (numbers_any l _).mono ?_
      rintro r w2 ⟨rfl, hn2, hb2⟩
      go_wp2_with fail
      refine (number_any w.heap.size l 0 0 7 w2 w w.heap.size hn2 hb2 (Nat.le_refl _) (by omega) HN1 (by omega)).mono ?_
      rintro r w3 ⟨⟨v1, rfl, hv1⟩, hn3, hb3⟩
      clear hn2 hb2
      go_wp2_with fail
      refine (number_any w.heap.size l a1 0 1099511627776 w3 w w.heap.size hn3 hb3 (Nat.le_refl _) (by omega) HN2 (by omega)).mono ?_
      rintro r w4 ⟨⟨v2, rfl, hv2⟩, hn4, hb4⟩
      clear hn3 hb3
      go_wp2_with fail
      refine (HEN.out _ _ hn4).mono ?_
      rintro r w5 ⟨rfl, hb5⟩
      have hb6 := hb4.trans (hb5.mono hb4.size)
      clear hb4 hb5 hn4
      go_wp2_with fail
      go_returns
      exact ⟨rfl, hb6⟩
  · rw [rdA_err h1 h2 h20] at H0
    simp only [Prod.mk.injEq] at H0
    obtain ⟨rfl, rfl, rfl⟩ := H0
    have hb : (e2 != 0) = true := by simpa using h20
    have hb' : (e2 == 0) = false := by simpa using h20
    have hen := fun g w' (h : NC w' g l k2 e2) => end_any g l k2 e2 w' h (by omega) (by omega)
    have HEN := hid hen
    clear hen h1 h2 h20
    go_enter Try.func27, Try.ntmps27
    go_wp2_with fail
    refine (HOP.out _).mono ?_
    rintro r w1 ⟨rfl, rfl⟩
    go_wp2_with fail
    refine (numbers_any l _).mono ?_
    rintro r w2 ⟨rfl, hn2, hb2⟩
    go_wp2_with fail
    refine (number_any w.heap.size l 0 0 7 w2 w w.heap.size hn2 hb2 (Nat.le_refl _) (by omega) HN1 (by omega)).mono ?_
    rintro r w3 ⟨⟨v1, rfl, hv1⟩, hn3, hb3⟩
    clear hn2 hb2
    go_wp2_with fail
    refine (number_any w.heap.size l a1 e1 1099511627776 w3 w w.heap.size hn3 hb3 (Nat.le_refl _) (by omega) HN2 (by omega)).mono ?_
    rintro r w4 ⟨⟨v2, rfl, hv2⟩, hn4, hb4⟩
    clear hn3 hb3
    go_wp2_with fail
    refine (HEN.out _ _ hn4).mono ?_
    rintro r w5 ⟨rfl, hb5⟩
    have hb6 := hb4.trans (hb5.mono hb4.size)
    clear hb4 hb5 hn4
    go_wp2_with fail
    go_returns
    exact ⟨rfl, hb6⟩
end Go.Proofs.Ytgpioafkahoahaa
