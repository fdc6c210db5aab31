/- ConfBack: the walk. -/
import Derived.Test.YtingjembjpckcaaGreatDoorG36
namespace Go.Proofs.YtingjembjpckcaaGreatDoor
set_option linter.unusedVariables false
set_option linter.unusedSimpArgs false
open Go.RowKit Go.Joins

theorem confN_len {f : List UInt8} {U : List Rs} (h : chkC cfR f U = 0) : (confN f U).length ≤ 400000 := by
  obtain ⟨hf, h16, hr⟩ := chkC_ok h
  have a := (fmN_len hf).1
  have b := rules_len hr
  have c : (lineN 13 []).length ≤ 10 := by decide
  rw [confN, List.length_append, List.length_append]
  omega
theorem wrC_zero {f : List UInt8} {U : List Rs} {t : List UInt8} (h : wrC f U = (t, 0)) : chkC cfR f U = 0 ∧ t = confN f U := by
  unfold wrC at h
  split at h
  · rename_i hz
    exact ⟨hz, (Prod.mk.inj h).1.symm⟩
  · rename_i hz
    exact absurd (Prod.mk.inj h).2 hz
theorem wrC_of {f : List UInt8} {U : List Rs} (h : chkC cfR f U = 0) : wrC f U = (confN f U, 0) := by rw [wrC, if_pos h]
theorem wrC_len {f : List UInt8} {U : List Rs} {t : List UInt8} {z : Int} (h : wrC f U = (t, z)) : t.length ≤ 400000 := by
  unfold wrC at h
  split at h
  · rename_i hz
    rw [← (Prod.mk.inj h).1]; exact confN_len hz
  · rw [← (Prod.mk.inj h).1]; simp
theorem readC_long {t : List UInt8} (h : 4096 < t.length) : readC t = (([], []), 0, 6) := by rw [readC, if_pos h]
set_option maxRecDepth 100000 in
set_option maxHeartbeats 1000000 in
theorem confBack_walk (y : Value) (f : List UInt8) (U : List Ru) (m : ∀ u ∈ U, okRs u.sem) (hf : f.length ≤ 140737488351232) (s : List UInt8) (hs : s.length ≤ 140737488351232) (w : World) (E : EnvC w) (hy : RV w y U) :
    Calls Tryz.prog 4 #[.agg #[y, .string (bs f)], .string (bs s)] w fun e w' => e = .returned (.bool true) ∧ Below w.heap.size w w' := by
  have hnot := enot
  have c0 : (ByteArray.mk #[]) = bs [] := rfl
  have hb0 := enew w (.cells #[y, .string (bs f)] 24)
  have hk0 := BF.new w y f
  have H0 := hid (And.intro (hy.up hb0) (And.intro (E.up hb0) hb0))
  obtain ⟨zf, hzf⟩ : ∃ z, c13fewC f (U.map Ru.sem) = z := ⟨_, rfl⟩
  obtain ⟨t, z, hz⟩ : ∃ t z, wrC f (U.map Ru.sem) = (t, z) := ⟨_, _, rfl⟩
  have HWZ := hid hz
  have htl := wrC_len hz
  have HF := hid (fun w2 (h1 : RV w2 y U) => c13cfew_any y f U w2 h1 m hf (hid hzf))
  have HW := hid (fun w2 (e : EnvC w2) (h1 : RV w2 y U) => cwrite_any y f U w2 e h1 m hf (hid hz))
  clear hzf hz hy m hf hb0 E
  go_enter Tryz.func4, Tryz.ntmps4
  go_upto_region 1 with (fail)
  generalize w.alloc (.cells #[y, .string (bs f)] 24) = v0 at *
  have HC0 := hid hk0
  obtain ⟨k0, k1⟩ := hk0.cells
  clear hk0
  cases zf
  · go_wp2_with fail
    refine (HF.out _ H0.out.1).mono ?_
    rintro e w1 ⟨rfl, hb1⟩
    clear k0 k1
    have H1 := hid (And.intro (H0.out.1.up hb1) (And.intro (H0.out.2.1.up hb1) hb1))
    clear hb1
    go_wp2_with fail
    refine (known13_any _ H1.out.2.1).mono ?_
    rintro e w2 ⟨rfl, hb2⟩
    go_wp2_with fail
    go_returns
    exact ⟨rfl, estep H0.out.2.2 (estep H1.out.2.2 hb2)⟩
  by_cases h6 : 6000 < s.length
  · have d6 : decide ((6000 : Int) < (s.length : Int)) = true := decide_eq_true (by omega)
    clear h6
    go_wp2_with fail
    refine (HF.out _ H0.out.1).mono ?_
    rintro e w1 ⟨rfl, hb1⟩
    clear k0 k1
    have H1 := hid (And.intro (H0.out.1.up hb1) (And.intro (H0.out.2.1.up hb1) hb1))
    clear hb1
    go_wp2_with fail
    refine (known13_any _ H1.out.2.1).mono ?_
    rintro e w2 ⟨rfl, hb2⟩
    go_wp2_with fail
    go_returns
    exact ⟨rfl, estep H0.out.2.2 (estep H1.out.2.2 hb2)⟩
  have d6 : decide ((6000 : Int) < (s.length : Int)) = false := decide_eq_false (by omega)
  clear h6
  go_wp2_with fail
  refine (HF.out _ H0.out.1).mono ?_
  rintro e w1 ⟨rfl, hb1⟩
  clear k0 k1
  have H1 := hid (And.intro (H0.out.1.up hb1) (And.intro (H0.out.2.1.up hb1) hb1))
  clear hb1
  obtain ⟨k0, k1⟩ := (HC0.out.up H1.out.2.2).cells
  go_wp2_with fail
  refine (HW.out _ H1.out.2.1 H1.out.1).mono ?_
  rintro e w2 ⟨rfl, hb2⟩
  clear k0 k1 d6
  have H2 := hid (And.intro (H1.out.1.up hb2) (And.intro (H1.out.2.1.up hb2) (estep H1.out.2.2 hb2)))
  clear hb2 H1 HF HW
  obtain ⟨zb, hzb⟩ : ∃ b : Bool, b = (decide (z = 0) && decide (t.length ≤ 4096)) := ⟨_, rfl⟩
  have HZB := hid hzb
  clear hzb
  go_upto_region 4 with (fail)
  go_cut [38] from 32 to 38 (fun v wx => v = .bool zb ∧ wx = w2)
  case first =>
    by_cases b1 : z = 0
    · by_cases b2 : t.length ≤ 4096
      · have HV := hid (show zb = true by rw [HZB.out, decide_eq_true b1, decide_eq_true b2]; rfl)
        have d2 : decide ((t.length : Int) ≤ 4096) = true := decide_eq_true (by omega)
        subst b1
        go_wp2_with fail
        go_meet
        exact ⟨by rw [HV.out]; first | rfl | skip, rfl⟩
      · have HV := hid (show zb = false by rw [HZB.out, decide_eq_true b1, decide_eq_false b2]; rfl)
        have d2 : decide ((t.length : Int) ≤ 4096) = false := decide_eq_false (by omega)
        subst b1
        go_wp2_with fail
        go_meet
        exact ⟨by rw [HV.out]; first | rfl | skip, rfl⟩
    · have HV := hid (show zb = false by rw [HZB.out, decide_eq_false b1]; rfl)
      have d1 : decide (z = 0) = false := decide_eq_false b1
      go_wp2_with fail
      go_meet
      exact ⟨by rw [HV.out]; first | rfl | skip, rfl⟩
  case rest =>
  obtain ⟨rfl, hwc⟩ := hcut
  subst hwc
  obtain ⟨x2, rfl⟩ : ∃ x, x = wc := ⟨_, rfl⟩
  go_upto_if 38 with (fail)
  go_cut [7, 8, 9] from 18 to 56 (fun _ _ _ wx => Hid (Below v0.heap.size v0 wx))
  case first =>
    cases zb
    · go_wp2_with fail
      go_meet
      exact H2.out.2.2
    · have hzz : z = 0 ∧ t.length ≤ 4096 := by
        have := HZB.out
        simpa using this.symm
      obtain ⟨rfl, h4⟩ := hzz
      obtain ⟨hck, htt⟩ := wrC_zero HWZ.out
      have HR := hid (read_any (X := ((f, U.map Ru.sem), 0, 0)) t x2 H2.out.2.1 (by omega) (hid (by rw [htt]; exact readC_back hck (by rw [← htt]; exact h4))))
      have h16 := (chkC_ok hck).2.1
      rw [List.length_map] at h16
      clear hck htt
      go_wp2_with fail
      refine HR.out.mono ?_
      rintro e w3 ⟨⟨y1, V1, rfl, hrv1, hvm1, -⟩, hb3⟩
      obtain ⟨A1, cc1, rfl, -⟩ := id hrv1
      simp only at hvm1
      have hbt := enew w3 (.cells #[.slice A1 V1.length cc1, .string (bs f)] 24)
      have hk2 := BF.new w3 (.slice A1 V1.length cc1) f
      have H3 := hid (And.intro (hrv1.up hbt) (And.intro hvm1 (And.intro (estep H2.out.2.2 (estep hb3 hbt)) (H2.out.1.up (estep hb3 hbt)))))
      have hlv : V1.length ≤ 1000000 := by
        have := congrArg List.length hvm1
        simp at this
        omega
      generalize V1.length = n1 at *
      clear hrv1 hvm1 hb3 hbt HR
      go_upto_region 6 with (fail)
      generalize w3.alloc (.cells #[.slice A1 n1 cc1, .string (bs f)] 24) = v3 at *
      obtain ⟨q0, q1⟩ := hk2.cells
      obtain ⟨k0, k1⟩ := (HC0.out.up H3.out.2.2.1).cells
      have HS := hid (fun (hl : V1.length ≤ 1000000) => rcsame_any f (.slice A1 n1 cc1) y V1 U v3 H3.out.2.1 H3.out.1 H3.out.2.2.2 hl)
      have HS2 := hid (HS.out (by
        have := congrArg List.length H3.out.2.1
        simp at this
        omega))
      clear HS hk2
      go_wp2_with fail
      refine HS2.out.mono ?_
      rintro e w4 ⟨rfl, hb4⟩
      have HB4 := hid (estep H3.out.2.2.1 hb4)
      clear q0 q1 k0 k1 hb4
      go_wp2_with fail
      go_meet
      exact HB4.out
  case rest =>
  have HB2 := hcut
  obtain ⟨x3, rfl⟩ : ∃ x, x = wc := ⟨_, rfl⟩
  obtain ⟨X2, hX2⟩ : ∃ X, readC s = X := ⟨_, rfl⟩
  have HX2 := hid hX2
  have HR2 := hid (read_any s x3 (H0.out.2.1.up HB2.out) hs (hid hX2))
  clear hX2
  obtain ⟨⟨f2, U2⟩, n2, e2⟩ := X2
  go_wp2_with fail
  refine HR2.out.mono ?_
  rintro e w4 ⟨⟨y2, V2, rfl, hrv2, hvm2, hok2⟩, hb4⟩
  obtain ⟨A2, cc2, rfl, -⟩ := id hrv2
  simp only at hvm2
  have hbt := enew w4 (.cells #[.slice A2 V2.length cc2, .string (bs f2)] 24)
  have hk4 := BF.new w4 (.slice A2 V2.length cc2) f2
  have H4 := hid (And.intro (hrv2.up hbt) (And.intro hvm2 (And.intro (estep HB2.out (estep hb4 hbt)) hok2)))
  have HNV := hid (show V2.length = V2.length from rfl)
  generalize hn2 : V2.length = nv at *
  have HNV2 := hid hn2
  clear hn2 hrv2 hvm2 hok2 hb4 hbt HR2
  go_upto_region 9 with (fail)
  generalize w4.alloc (.cells #[.slice A2 nv cc2, .string (bs f2)] 24) = v4 at *
  have HK4 := hid hk4
  obtain ⟨q0, q1⟩ := hk4.cells
  clear hk4
  by_cases he2 : e2 = 0
  rotate_left
  · obtain ⟨hcz, hn3⟩ := readC_err HX2.out he2
    obtain ⟨rfl, rfl⟩ := Prod.mk.inj hcz
    have d1 : decide (e2 = 0) = false := decide_eq_false he2
    have d2 : (e2 != 0) = true := by simpa using he2
    have d3 : (!decide (e2 = 0)) = true := by rw [d1]; rfl
    have hn0 : (0 : Int) ≤ (n2 : Int) := by omega
    have hV : V2 = [] := by
      have := H4.out.2.1
      simpa using this
    have HS := hid (rcsame_any [] (.slice A2 nv cc2) (.slice none 0 0) V2 [] v4 (by rw [hV]) H4.out.1 (rv_no v4) (by rw [hV]; simp))
    clear hV hcz
    by_cases hn : n2 = 0
    · subst hn
      go_wp2_with fail
      refine HS.out.mono ?_
      rintro e w5 ⟨rfl, hb5⟩
      have HB5 := hid (estep H4.out.2.2.1 hb5)
      clear q0 q1 hb5
      go_wp2_with fail
      refine (known13_any _ (H0.out.2.1.up HB5.out)).mono ?_
      rintro e w6 ⟨rfl, hb6⟩
      go_wp2_with fail
      go_returns
      exact ⟨rfl, estep H0.out.2.2 (estep HB5.out hb6)⟩
    · have e3 : e2 = 3 := by
        rcases hn3 with h | h
        · exact absurd h hn
        · exact h
      have dn : decide ((n2 : Int) = 0) = false := decide_eq_false (by omega)
      have dn2 : ¬ (n2 : Int) = 0 := by omega
      subst e3
      clear hn hn3 he2
      go_wp2_with fail
      refine HS.out.mono ?_
      rintro e w5 ⟨rfl, hb5⟩
      have HB5 := hid (estep H4.out.2.2.1 hb5)
      clear q0 q1 hb5
      go_wp2_with fail
      refine (known13_any _ (H0.out.2.1.up HB5.out)).mono ?_
      rintro e w6 ⟨rfl, hb6⟩
      go_wp2_with fail
      go_returns
      exact ⟨rfl, estep H0.out.2.2 (estep HB5.out hb6)⟩
  subst he2
  obtain ⟨hn2, hck⟩ := readC_ok HX2.out
  simp only at hck
  subst hn2
  have hfo := (chkC_ok hck).1
  have hf2 := (fmN_len hfo).2
  have h16 := (chkC_ok hck).2.1
  have hVU := H4.out.2.1
  have hl3 := confN_len hck
  have HW2 := hid (cwrite_any (t := confN f2 U2) (z := 0) (.slice A2 nv cc2) f2 V2 v4 (H0.out.2.1.up H4.out.2.2.1) H4.out.1 H4.out.2.2.2 (by omega) (hid (by rw [hVU]; exact wrC_of hck)))
  have HCK := hid hck
  have HVL := hid (show V2.length ≤ 1000000 by
    have := congrArg List.length hVU
    simp at this
    omega)
  clear hfo hf2 h16 hVU hck
  obtain ⟨t3, ht3⟩ : ∃ t, confN f2 U2 = t := ⟨_, rfl⟩
  have HT3 := hid ht3
  rw [ht3] at HW2 hl3
  clear ht3
  go_wp2_with fail
  refine HW2.out.mono ?_
  rintro e w5 ⟨rfl, hb5⟩
  have HB5 := hid (estep H4.out.2.2.1 hb5)
  have HB5' := hid hb5
  clear q0 q1 hb5 HW2
  by_cases h3 : 4096 < t3.length
  · have HR3 := hid (read_any (X := (([], []), 0, 6)) t3 w5 (H0.out.2.1.up HB5.out) (by omega) (hid (readC_long h3)))
    have d3 : decide ((4096 : Int) < (t3.length : Int)) = true := decide_eq_true (by omega)
    clear h3
    go_wp2_with fail
    refine HR3.out.mono ?_
    rintro e w6 ⟨⟨y3, V3, rfl, hrv3, -, -⟩, hb6⟩
    obtain ⟨A3, cc3, rfl, -⟩ := id hrv3
    have hbt := enew w6 (.cells #[.slice A3 V3.length cc3, .string (bs [])] 24)
    have HB6 := hid (estep HB5.out (estep hb6 hbt))
    clear hrv3 hb6 hbt HR3
    generalize V3.length = n3 at *
    go_upto_region 13 with (fail)
    generalize w6.alloc (.cells #[.slice A3 n3 cc3, .string (bs [])] 24) = v6 at *
    go_wp2_with fail
    refine (known13_any _ (H0.out.2.1.up HB6.out)).mono ?_
    rintro e w7 ⟨rfl, hb7⟩
    go_wp2_with fail
    go_returns
    exact ⟨rfl, estep H0.out.2.2 (estep HB6.out hb7)⟩
  · have HR3 := hid (read_any (X := ((f2, U2), 0, 0)) t3 w5 (H0.out.2.1.up HB5.out) (by omega) (hid (by rw [← HT3.out]; exact readC_back HCK.out (by rw [HT3.out]; omega))))
    have d3 : decide ((4096 : Int) < (t3.length : Int)) = false := decide_eq_false (by omega)
    clear h3
    go_wp2_with fail
    refine HR3.out.mono ?_
    rintro e w6 ⟨⟨y3, V3, rfl, hrv3, hvm3, -⟩, hb6⟩
    obtain ⟨A3, cc3, rfl, -⟩ := id hrv3
    simp only at hvm3
    have hbt := enew w6 (.cells #[.slice A3 V3.length cc3, .string (bs f2)] 24)
    have hk6 := BF.new w6 (.slice A3 V3.length cc3) f2
    have HB6 := hid (estep HB5.out (estep hb6 hbt))
    have HB6' := hid (estep HB5'.out (estep hb6 hbt))
    have H6 := hid (And.intro (hrv3.up hbt) hvm3)
    clear hrv3 hvm3 hb6 hbt HR3
    generalize hn3 : V3.length = n3 at *
    clear hn3
    go_upto_region 13 with (fail)
    generalize w6.alloc (.cells #[.slice A3 n3 cc3, .string (bs f2)] 24) = v6 at *
    obtain ⟨k0, k1⟩ := hk6.cells
    obtain ⟨q0, q1⟩ := (HK4.out.up HB6'.out).cells
    have HS := hid (rcsame_any f2 (.slice A3 n3 cc3) (.slice A2 nv cc2) V3 V2 v6 (H6.out.2.trans H4.out.2.1.symm) H6.out.1 (H4.out.1.up HB6'.out) (by
      have h := congrArg List.length (H6.out.2.trans H4.out.2.1.symm)
      simp at h
      have := HVL.out
      omega))
    clear hk6
    go_wp2_with fail
    refine HS.out.mono ?_
    rintro e w7 ⟨rfl, hb7⟩
    have HB7 := hid (estep HB6.out hb7)
    clear k0 k1 q0 q1 hb7
    go_wp2_with fail
    refine (known13_any _ (H0.out.2.1.up HB7.out)).mono ?_
    rintro e w8 ⟨rfl, hb8⟩
    go_wp2_with fail
    go_returns
    exact ⟨rfl, estep H0.out.2.2 (estep HB7.out hb8)⟩
end Go.Proofs.YtingjembjpckcaaGreatDoor
