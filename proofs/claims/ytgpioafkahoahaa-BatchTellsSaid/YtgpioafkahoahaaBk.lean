import Derived.Test.YtgpioafkahoahaaBj
namespace Go.Proofs.Ytgpioafkahoahaa
set_option linter.unusedVariables false
set_option linter.unusedSimpArgs false
open Go.RowKit Go.Joins

set_option maxRecDepth 100000 in
set_option maxHeartbeats 16000000 in
theorem batchBack_few (n q : Int) (x : Value) (L : List Sp) (s : List UInt8) (hL : okL L) (hs : s.length ≤ 140737488351232) (w : World) (hx : SV w x L) (hz : fewB L = false ∨ (fewB L = true ∧ 3000 < s.length)) :
    Calls Try.prog 8 #[.agg #[.int .i64 n, .int .i64 q, x], .string (bs s)] w fun e w' => e = .returned (.bool true) ∧ Below w.heap.size w w' := by
  have hnot := snot
  rcases hz with hz | ⟨hz, hl⟩
  all_goals
    have HFEW := hid fun w (h : SV w x L) => d_bfew w n q h hL (hid hz)
    clear hz
    have hb0 := sbelow_new w (.cells #[.int .i64 n, .int .i64 q, x] 39)
    have hs0 := BB.new w n q x
    have hv0 := hx.up hb0
    go_enter Try.func8, Try.ntmps8
    go_upto_region 1 with (fail)
    generalize w.alloc (.cells #[.int .i64 n, .int .i64 q, x] 39) = v0 at *
    have HV0 := hid hv0
    clear hv0 hx
    obtain ⟨k0, k1, k2⟩ := hs0.cells
    go_wp2_with fail
    refine (HFEW.out v0 HV0.out).mono ?_
    rintro r v1 ⟨rfl, hbq⟩
    have hb1 := sbelow_step hb0 hbq
    have hs1 := hs0.up hbq
    have HV1 := hid (HV0.out.up hbq)
    clear hbq hb0 hs0 HV0
    clear k0 k1 k2
    go_wp2_with fail
    refine (known10_any _).mono ?_
    rintro r vz ⟨rfl, hbq⟩
    go_wp2_with fail
    go_returns
    exact ⟨rfl, sbelow_step hb1 hbq⟩
set_option maxRecDepth 100000 in
set_option maxHeartbeats 16000000 in
theorem batchBack_oo (n q : Nat) (x : Value) (L : List Sp) (s : List UInt8) (hL : okL L) (hs : s.length ≤ 140737488351232) (w : World) (hx : SV w x L) (hz : fewB L = true) (hl : s.length ≤ 3000) (hi : inR n q = true) (hc : chkB n q L = 0) :
    Calls Try.prog 8 #[.agg #[.int .i64 n, .int .i64 q, x], .string (bs s)] w fun e w' => e = .returned (.bool true) ∧ Below w.heap.size w w' := by
  have hnot := snot
  have hL40 := few_small hz
  have HFEW := hid fun w (h : SV w x L) => d_bfew w n q h hL (hid hz)
  clear hz
  obtain ⟨n2, q2, L2, er, hr⟩ : ∃ a b c d, readB s = (a, b, c, d) := ⟨_, _, _, _, rfl⟩
  obtain ⟨n3, q3, ea, hq2⟩ : ∃ a b c, readA s = (a, b, c) := ⟨_, _, _, rfl⟩
  have HRS := hid fun w => d_bread s w hs (hid hr)
  have HAS := hid fun w => breadack_any s w hs (hid hq2)
  have hb0 := bodyB_len hc
  obtain ⟨t, ht⟩ : ∃ t, sealS (bodyB n q L) = t := ⟨_, rfl⟩
  have htl : t.length ≤ 140737488351232 := by rw [← ht, sealS_length]; omega
  have HW := hid fun w (h : SV w x L) => d_bwrite w n q h hL (hid (show writeB n q L = (t, 0) by rw [writeB, if_pos hc, ht]))
  have HRW := hid fun w => d_bread t w htl (n := n) (q := q) (L := L) (r := 0) (hid (by rw [← ht]; exact readB_writeB hc fun s hs => (hL s hs).2))
  have HAW := hid fun w => breadack_any t w htl (n := 0) (q := 0) (r := 3) (hid (by rw [← ht]; exact readA_writeB))
  have HKW := hid fun w => kind_any t w htl (k := 1) (hid (by rw [← ht]; exact kind_writeB _ _ _))
  clear hb0 ht hc
  have hin := hi
  rw [inR, decide_eq_true_eq] at hin
  obtain ⟨ta, hta⟩ : ∃ t, sealS (mkA ++ (vput n ++ vput q)) = t := ⟨_, rfl⟩
  have htal : ta.length ≤ 140737488351232 := by
    rw [← hta, sealS_length]
    simp only [List.length_append]
    have := (vput_length_le n).2
    have := (vput_length_le q).2
    have : mkA.length = 3 := rfl
    omega
  have HA := hid fun w => back_any n q w (hid (ackB_ok hi hta))
  have HRA := hid fun w => breadack_any ta w htal (n := n) (q := q) (r := 0) (hid (by rw [← hta]; exact readA_ackB (n := n) (q := q) hi))
  have HKA := hid fun w => kind_any ta w htal (k := 2) (hid (by rw [← hta]; exact kind_ackB _))
  clear hin hta hi
  by_cases hre : er = 0
  · subst hre
    obtain ⟨g1, g2, g3⟩ := readB_back hr
    have hna := readB_not_A hr
    rw [hna] at hq2
    simp only [Prod.mk.injEq] at hq2
    obtain ⟨rfl, rfl, rfl⟩ := hq2
    have HWS := hid fun (VV : Value) w (h : SV w VV L2) => d_bwrite w n2 q2 h (fun s' hs' => ⟨by have := nameB_len (chkS_ok (g3 s' hs').1).2.1; omega, (g3 s' hs').2⟩) (hid (show writeB n2 q2 L2 = (s, 0) by rw [writeB, if_pos g1, ← g2]))
    clear g1 g2 g3 hna hr
    have hb0 := sbelow_new w (.cells #[.int .i64 n, .int .i64 q, x] 39)
    have hs0 := BB.new w n q x
    have hv0 := hx.up hb0
    go_enter Try.func8, Try.ntmps8
    go_upto_region 1 with (fail)
    generalize w.alloc (.cells #[.int .i64 n, .int .i64 q, x] 39) = v0 at *
    have HV0 := hid hv0
    clear hv0 hx
    obtain ⟨k0, k1, k2⟩ := hs0.cells
    go_wp2_with fail
    refine (HFEW.out v0 HV0.out).mono ?_
    rintro r v1 ⟨rfl, hbq⟩
    have hb1 := sbelow_step hb0 hbq
    have hs1 := hs0.up hbq
    have HV1 := hid (HV0.out.up hbq)
    clear hbq hb0 hs0 HV0
    clear k0 k1 k2
    obtain ⟨k0, k1, k2⟩ := hs1.cells
    go_wp2_with fail
    refine (HW.out _ HV1.out).mono ?_
    rintro r v2 ⟨rfl, hbq⟩
    have hb2 := sbelow_step hb1 hbq
    have hs2 := hs1.up hbq
    have HV2 := hid (HV1.out.up hbq)
    clear hbq hb1 hs1 HV1
    clear k0 k1 k2
    go_wp2_with fail
    refine (HRW.out _).mono ?_
    rintro r u1 ⟨⟨vx, rfl, hvx⟩, hbq⟩
    obtain ⟨A1, p1, he1⟩ := hvx.slice
    have hb3 := sbelow_step (sbelow_step hb2 hbq) (sbelow_new u1 (.cells #[.int .i64 n, .int .i64 q, vx] 39))
    have hs3 := (hs2.up hbq).up (sbelow_new u1 (.cells #[.int .i64 n, .int .i64 q, vx] 39))
    have HV3 := hid ((HV2.out.up hbq).up (sbelow_new u1 (.cells #[.int .i64 n, .int .i64 q, vx] 39)))
    have hxx := hvx.up (sbelow_new u1 (.cells #[.int .i64 n, .int .i64 q, vx] 39))
    have hsx := BB.new u1 n q vx
    clear hbq hb2 hs2 HV2 hvx
    subst he1
    go_upto_region 6 with (fail)
    generalize u1.alloc (.cells #[.int .i64 n, .int .i64 q, .slice A1 L.length p1] 39) = v3 at *
    generalize (Value.slice A1 L.length p1) = vx at *
    go_wp2_with fail
    refine (HAW.out _).mono ?_
    rintro r v4 ⟨rfl, hbq⟩
    have hb4 := sbelow_step hb3 hbq
    have hs4 := hs3.up hbq
    have HV4 := hid (HV3.out.up hbq)
    have hxx := hxx.up hbq
    have hsx := hsx.up hbq
    clear hbq hb3 hs3 HV3
    obtain ⟨k0, k1, k2⟩ := hs4.cells
    obtain ⟨q0, q1, q2⟩ := hsx.cells
    go_wp2_with fail
    refine (d_bsame _ n q hxx HV4.out (by omega)).mono ?_
    rintro r v5 ⟨rfl, hbq⟩
    have hb5 := sbelow_step hb4 hbq
    have hs5 := hs4.up hbq
    have HV5 := hid (HV4.out.up hbq)
    clear hbq hb4 hs4 HV4 hxx hsx k0 k1 k2 q0 q1 q2
    go_wp2_with fail
    refine (HKW.out _).mono ?_
    rintro r uz ⟨rfl, rfl⟩
    obtain ⟨k0, k1, k2⟩ := hs5.cells
    go_wp2_with fail
    refine (HA.out _).mono ?_
    rintro r v6 ⟨rfl, hbq⟩
    have hb6 := sbelow_step hb5 hbq
    have hs6 := hs5.up hbq
    have HV6 := hid (HV5.out.up hbq)
    clear hbq hb5 hs5 HV5
    clear k0 k1 k2
    go_wp2_with fail
    refine (HRA.out _).mono ?_
    rintro r v7 ⟨rfl, hbq⟩
    have hb7 := sbelow_step hb6 hbq
    have hs7 := hs6.up hbq
    have HV7 := hid (HV6.out.up hbq)
    clear hbq hb6 hs6 HV6
    obtain ⟨k0, k1, k2⟩ := hs7.cells
    go_wp2_with fail
    refine (HKA.out _).mono ?_
    rintro r uz ⟨rfl, rfl⟩
    clear k0 k1 k2
    go_wp2_with fail
    refine (HRS.out _).mono ?_
    rintro r u2 ⟨⟨vy, rfl, hvy⟩, hbq⟩
    obtain ⟨A2, p2, he2⟩ := hvy.slice
    have hbR := sbelow_step (sbelow_step hb7 hbq) (sbelow_new u2 (.cells #[.int .i64 n2, .int .i64 q2, vy] 39))
    have HVY := hid (hvy.up (sbelow_new u2 (.cells #[.int .i64 n2, .int .i64 q2, vy] 39)))
    have hsy := BB.new u2 n2 q2 vy
    clear hbq hb7 hs7 HV7 hvy
    subst he2
    go_upto_region 15 with (fail)
    generalize u2.alloc (.cells #[.int .i64 n2, .int .i64 q2, .slice A2 L2.length p2] 39) = u3 at *
    generalize (Value.slice A2 L2.length p2) = vy at *
    obtain ⟨k0, k1, k2⟩ := hsy.cells
    go_wp2_with fail
    refine (HWS.out _ _ HVY.out).mono ?_
    rintro r u4 ⟨rfl, hbq⟩
    have hbS := sbelow_step hbR hbq
    clear hbq hbR hsy k0 k1 k2
    go_wp2_with fail
    refine (HAS.out _).mono ?_
    rintro r u5 ⟨rfl, hbq⟩
    have hbT := sbelow_step hbS hbq
    clear hbq hbS
    go_wp2_with fail
    refine (known10_any _).mono ?_
    rintro r u6 ⟨rfl, hbq⟩
    go_wp2_with fail
    go_returns
    exact ⟨rfl, sbelow_step hbT hbq⟩
  · have hbre : (er == 0) = false := by simpa using hre
    clear hr hre
    by_cases hae : ea = 0
    · subst hae
      obtain ⟨g1, g2⟩ := readA_back hq2
      have HBS := hid fun w => back_any n3 q3 w (hid (show ackB n3 q3 = (s, 0) from ackB_ok g1 g2.symm))
      clear g1 g2 hq2
      have hb0 := sbelow_new w (.cells #[.int .i64 n, .int .i64 q, x] 39)
      have hs0 := BB.new w n q x
      have hv0 := hx.up hb0
      go_enter Try.func8, Try.ntmps8
      go_upto_region 1 with (fail)
      generalize w.alloc (.cells #[.int .i64 n, .int .i64 q, x] 39) = v0 at *
      have HV0 := hid hv0
      clear hv0 hx
      obtain ⟨k0, k1, k2⟩ := hs0.cells
      go_wp2_with fail
      refine (HFEW.out v0 HV0.out).mono ?_
      rintro r v1 ⟨rfl, hbq⟩
      have hb1 := sbelow_step hb0 hbq
      have hs1 := hs0.up hbq
      have HV1 := hid (HV0.out.up hbq)
      clear hbq hb0 hs0 HV0
      clear k0 k1 k2
      obtain ⟨k0, k1, k2⟩ := hs1.cells
      go_wp2_with fail
      refine (HW.out _ HV1.out).mono ?_
      rintro r v2 ⟨rfl, hbq⟩
      have hb2 := sbelow_step hb1 hbq
      have hs2 := hs1.up hbq
      have HV2 := hid (HV1.out.up hbq)
      clear hbq hb1 hs1 HV1
      clear k0 k1 k2
      go_wp2_with fail
      refine (HRW.out _).mono ?_
      rintro r u1 ⟨⟨vx, rfl, hvx⟩, hbq⟩
      obtain ⟨A1, p1, he1⟩ := hvx.slice
      have hb3 := sbelow_step (sbelow_step hb2 hbq) (sbelow_new u1 (.cells #[.int .i64 n, .int .i64 q, vx] 39))
      have hs3 := (hs2.up hbq).up (sbelow_new u1 (.cells #[.int .i64 n, .int .i64 q, vx] 39))
      have HV3 := hid ((HV2.out.up hbq).up (sbelow_new u1 (.cells #[.int .i64 n, .int .i64 q, vx] 39)))
      have hxx := hvx.up (sbelow_new u1 (.cells #[.int .i64 n, .int .i64 q, vx] 39))
      have hsx := BB.new u1 n q vx
      clear hbq hb2 hs2 HV2 hvx
      subst he1
      go_upto_region 6 with (fail)
      generalize u1.alloc (.cells #[.int .i64 n, .int .i64 q, .slice A1 L.length p1] 39) = v3 at *
      generalize (Value.slice A1 L.length p1) = vx at *
      go_wp2_with fail
      refine (HAW.out _).mono ?_
      rintro r v4 ⟨rfl, hbq⟩
      have hb4 := sbelow_step hb3 hbq
      have hs4 := hs3.up hbq
      have HV4 := hid (HV3.out.up hbq)
      have hxx := hxx.up hbq
      have hsx := hsx.up hbq
      clear hbq hb3 hs3 HV3
      obtain ⟨k0, k1, k2⟩ := hs4.cells
      obtain ⟨q0, q1, q2⟩ := hsx.cells
      go_wp2_with fail
      refine (d_bsame _ n q hxx HV4.out (by omega)).mono ?_
      rintro r v5 ⟨rfl, hbq⟩
      have hb5 := sbelow_step hb4 hbq
      have hs5 := hs4.up hbq
      have HV5 := hid (HV4.out.up hbq)
      clear hbq hb4 hs4 HV4 hxx hsx k0 k1 k2 q0 q1 q2
      go_wp2_with fail
      refine (HKW.out _).mono ?_
      rintro r uz ⟨rfl, rfl⟩
      obtain ⟨k0, k1, k2⟩ := hs5.cells
      go_wp2_with fail
      refine (HA.out _).mono ?_
      rintro r v6 ⟨rfl, hbq⟩
      have hb6 := sbelow_step hb5 hbq
      have hs6 := hs5.up hbq
      have HV6 := hid (HV5.out.up hbq)
      clear hbq hb5 hs5 HV5
      clear k0 k1 k2
      go_wp2_with fail
      refine (HRA.out _).mono ?_
      rintro r v7 ⟨rfl, hbq⟩
      have hb7 := sbelow_step hb6 hbq
      have hs7 := hs6.up hbq
      have HV7 := hid (HV6.out.up hbq)
      clear hbq hb6 hs6 HV6
      obtain ⟨k0, k1, k2⟩ := hs7.cells
      go_wp2_with fail
      refine (HKA.out _).mono ?_
      rintro r uz ⟨rfl, rfl⟩
      clear k0 k1 k2
      go_wp2_with fail
      refine (HRS.out _).mono ?_
      rintro r u2 ⟨⟨vy, rfl, hvy⟩, hbq⟩
      obtain ⟨A2, p2, he2⟩ := hvy.slice
      have hbR := sbelow_step (sbelow_step hb7 hbq) (sbelow_new u2 (.cells #[.int .i64 n2, .int .i64 q2, vy] 39))
      have HVY := hid (hvy.up (sbelow_new u2 (.cells #[.int .i64 n2, .int .i64 q2, vy] 39)))
      have hsy := BB.new u2 n2 q2 vy
      clear hbq hb7 hs7 HV7 hvy
      subst he2
      go_upto_region 15 with (fail)
      generalize u2.alloc (.cells #[.int .i64 n2, .int .i64 q2, .slice A2 L2.length p2] 39) = u3 at *
      generalize (Value.slice A2 L2.length p2) = vy at *
      go_wp2_with fail
      refine (HAS.out _).mono ?_
      rintro r u5 ⟨rfl, hbq⟩
      have hbT := sbelow_step hbR hbq
      clear hbq hbR
      go_wp2_with fail
      refine (HBS.out _).mono ?_
      rintro r u6 ⟨rfl, hbq⟩
      have hbU := sbelow_step hbT hbq
      clear hbq hbT
      go_wp2_with fail
      refine (known10_any _).mono ?_
      rintro r u7 ⟨rfl, hbq⟩
      go_wp2_with fail
      go_returns
      exact ⟨rfl, sbelow_step hbU hbq⟩
    · have hbae : (ea == 0) = false := by simpa using hae
      clear hae hq2
      have hb0 := sbelow_new w (.cells #[.int .i64 n, .int .i64 q, x] 39)
      have hs0 := BB.new w n q x
      have hv0 := hx.up hb0
      go_enter Try.func8, Try.ntmps8
      go_upto_region 1 with (fail)
      generalize w.alloc (.cells #[.int .i64 n, .int .i64 q, x] 39) = v0 at *
      have HV0 := hid hv0
      clear hv0 hx
      obtain ⟨k0, k1, k2⟩ := hs0.cells
      go_wp2_with fail
      refine (HFEW.out v0 HV0.out).mono ?_
      rintro r v1 ⟨rfl, hbq⟩
      have hb1 := sbelow_step hb0 hbq
      have hs1 := hs0.up hbq
      have HV1 := hid (HV0.out.up hbq)
      clear hbq hb0 hs0 HV0
      clear k0 k1 k2
      obtain ⟨k0, k1, k2⟩ := hs1.cells
      go_wp2_with fail
      refine (HW.out _ HV1.out).mono ?_
      rintro r v2 ⟨rfl, hbq⟩
      have hb2 := sbelow_step hb1 hbq
      have hs2 := hs1.up hbq
      have HV2 := hid (HV1.out.up hbq)
      clear hbq hb1 hs1 HV1
      clear k0 k1 k2
      go_wp2_with fail
      refine (HRW.out _).mono ?_
      rintro r u1 ⟨⟨vx, rfl, hvx⟩, hbq⟩
      obtain ⟨A1, p1, he1⟩ := hvx.slice
      have hb3 := sbelow_step (sbelow_step hb2 hbq) (sbelow_new u1 (.cells #[.int .i64 n, .int .i64 q, vx] 39))
      have hs3 := (hs2.up hbq).up (sbelow_new u1 (.cells #[.int .i64 n, .int .i64 q, vx] 39))
      have HV3 := hid ((HV2.out.up hbq).up (sbelow_new u1 (.cells #[.int .i64 n, .int .i64 q, vx] 39)))
      have hxx := hvx.up (sbelow_new u1 (.cells #[.int .i64 n, .int .i64 q, vx] 39))
      have hsx := BB.new u1 n q vx
      clear hbq hb2 hs2 HV2 hvx
      subst he1
      go_upto_region 6 with (fail)
      generalize u1.alloc (.cells #[.int .i64 n, .int .i64 q, .slice A1 L.length p1] 39) = v3 at *
      generalize (Value.slice A1 L.length p1) = vx at *
      go_wp2_with fail
      refine (HAW.out _).mono ?_
      rintro r v4 ⟨rfl, hbq⟩
      have hb4 := sbelow_step hb3 hbq
      have hs4 := hs3.up hbq
      have HV4 := hid (HV3.out.up hbq)
      have hxx := hxx.up hbq
      have hsx := hsx.up hbq
      clear hbq hb3 hs3 HV3
      obtain ⟨k0, k1, k2⟩ := hs4.cells
      obtain ⟨q0, q1, q2⟩ := hsx.cells
      go_wp2_with fail
      refine (d_bsame _ n q hxx HV4.out (by omega)).mono ?_
      rintro r v5 ⟨rfl, hbq⟩
      have hb5 := sbelow_step hb4 hbq
      have hs5 := hs4.up hbq
      have HV5 := hid (HV4.out.up hbq)
      clear hbq hb4 hs4 HV4 hxx hsx k0 k1 k2 q0 q1 q2
      go_wp2_with fail
      refine (HKW.out _).mono ?_
      rintro r uz ⟨rfl, rfl⟩
      obtain ⟨k0, k1, k2⟩ := hs5.cells
      go_wp2_with fail
      refine (HA.out _).mono ?_
      rintro r v6 ⟨rfl, hbq⟩
      have hb6 := sbelow_step hb5 hbq
      have hs6 := hs5.up hbq
      have HV6 := hid (HV5.out.up hbq)
      clear hbq hb5 hs5 HV5
      clear k0 k1 k2
      go_wp2_with fail
      refine (HRA.out _).mono ?_
      rintro r v7 ⟨rfl, hbq⟩
      have hb7 := sbelow_step hb6 hbq
      have hs7 := hs6.up hbq
      have HV7 := hid (HV6.out.up hbq)
      clear hbq hb6 hs6 HV6
      obtain ⟨k0, k1, k2⟩ := hs7.cells
      go_wp2_with fail
      refine (HKA.out _).mono ?_
      rintro r uz ⟨rfl, rfl⟩
      clear k0 k1 k2
      go_wp2_with fail
      refine (HRS.out _).mono ?_
      rintro r u2 ⟨⟨vy, rfl, hvy⟩, hbq⟩
      obtain ⟨A2, p2, he2⟩ := hvy.slice
      have hbR := sbelow_step (sbelow_step hb7 hbq) (sbelow_new u2 (.cells #[.int .i64 n2, .int .i64 q2, vy] 39))
      have HVY := hid (hvy.up (sbelow_new u2 (.cells #[.int .i64 n2, .int .i64 q2, vy] 39)))
      have hsy := BB.new u2 n2 q2 vy
      clear hbq hb7 hs7 HV7 hvy
      subst he2
      go_upto_region 15 with (fail)
      generalize u2.alloc (.cells #[.int .i64 n2, .int .i64 q2, .slice A2 L2.length p2] 39) = u3 at *
      generalize (Value.slice A2 L2.length p2) = vy at *
      go_wp2_with fail
      refine (HAS.out _).mono ?_
      rintro r u5 ⟨rfl, hbq⟩
      have hbT := sbelow_step hbR hbq
      clear hbq hbR
      go_wp2_with fail
      refine (known10_any _).mono ?_
      rintro r u7 ⟨rfl, hbq⟩
      go_wp2_with fail
      go_returns
      exact ⟨rfl, sbelow_step hbT hbq⟩
set_option maxRecDepth 100000 in
set_option maxHeartbeats 16000000 in
theorem batchBack_no (n q : Nat) (x : Value) (L : List Sp) (s : List UInt8) (hL : okL L) (hs : s.length ≤ 140737488351232) (w : World) (hx : SV w x L) (hz : fewB L = true) (hl : s.length ≤ 3000) (hi : inR n q = true) (hc : chkB n q L ≠ 0) :
    Calls Try.prog 8 #[.agg #[.int .i64 n, .int .i64 q, x], .string (bs s)] w fun e w' => e = .returned (.bool true) ∧ Below w.heap.size w w' := by
  have hnot := snot
  have hL40 := few_small hz
  have HFEW := hid fun w (h : SV w x L) => d_bfew w n q h hL (hid hz)
  clear hz
  obtain ⟨n2, q2, L2, er, hr⟩ : ∃ a b c d, readB s = (a, b, c, d) := ⟨_, _, _, _, rfl⟩
  obtain ⟨n3, q3, ea, hq2⟩ : ∃ a b c, readA s = (a, b, c) := ⟨_, _, _, rfl⟩
  have HRS := hid fun w => d_bread s w hs (hid hr)
  have HAS := hid fun w => breadack_any s w hs (hid hq2)
  obtain ⟨cw, hcw⟩ : ∃ c, chkB n q L = c := ⟨_, rfl⟩
  have HW := hid fun w (h : SV w x L) => d_bwrite w n q h hL (hid (show writeB n q L = ([], cw) by rw [writeB, if_neg hc, hcw]))
  have hbw : (cw == 0) = false := by rw [← hcw]; simpa using hc
  clear hcw hc
  have hin := hi
  rw [inR, decide_eq_true_eq] at hin
  obtain ⟨ta, hta⟩ : ∃ t, sealS (mkA ++ (vput n ++ vput q)) = t := ⟨_, rfl⟩
  have htal : ta.length ≤ 140737488351232 := by
    rw [← hta, sealS_length]
    simp only [List.length_append]
    have := (vput_length_le n).2
    have := (vput_length_le q).2
    have : mkA.length = 3 := rfl
    omega
  have HA := hid fun w => back_any n q w (hid (ackB_ok hi hta))
  have HRA := hid fun w => breadack_any ta w htal (n := n) (q := q) (r := 0) (hid (by rw [← hta]; exact readA_ackB (n := n) (q := q) hi))
  have HKA := hid fun w => kind_any ta w htal (k := 2) (hid (by rw [← hta]; exact kind_ackB _))
  clear hin hta hi
  by_cases hre : er = 0
  · subst hre
    obtain ⟨g1, g2, g3⟩ := readB_back hr
    have hna := readB_not_A hr
    rw [hna] at hq2
    simp only [Prod.mk.injEq] at hq2
    obtain ⟨rfl, rfl, rfl⟩ := hq2
    have HWS := hid fun (VV : Value) w (h : SV w VV L2) => d_bwrite w n2 q2 h (fun s' hs' => ⟨by have := nameB_len (chkS_ok (g3 s' hs').1).2.1; omega, (g3 s' hs').2⟩) (hid (show writeB n2 q2 L2 = (s, 0) by rw [writeB, if_pos g1, ← g2]))
    clear g1 g2 g3 hna hr
    have hb0 := sbelow_new w (.cells #[.int .i64 n, .int .i64 q, x] 39)
    have hs0 := BB.new w n q x
    have hv0 := hx.up hb0
    go_enter Try.func8, Try.ntmps8
    go_upto_region 1 with (fail)
    generalize w.alloc (.cells #[.int .i64 n, .int .i64 q, x] 39) = v0 at *
    have HV0 := hid hv0
    clear hv0 hx
    obtain ⟨k0, k1, k2⟩ := hs0.cells
    go_wp2_with fail
    refine (HFEW.out v0 HV0.out).mono ?_
    rintro r v1 ⟨rfl, hbq⟩
    have hb1 := sbelow_step hb0 hbq
    have hs1 := hs0.up hbq
    have HV1 := hid (HV0.out.up hbq)
    clear hbq hb0 hs0 HV0
    clear k0 k1 k2
    obtain ⟨k0, k1, k2⟩ := hs1.cells
    go_wp2_with fail
    refine (HW.out _ HV1.out).mono ?_
    rintro r v2 ⟨rfl, hbq⟩
    have hb2 := sbelow_step hb1 hbq
    have hs2 := hs1.up hbq
    have HV2 := hid (HV1.out.up hbq)
    clear hbq hb1 hs1 HV1
    clear k0 k1 k2
    obtain ⟨k0, k1, k2⟩ := hs2.cells
    go_wp2_with fail
    refine (HA.out _).mono ?_
    rintro r v3 ⟨rfl, hbq⟩
    have hb3 := sbelow_step hb2 hbq
    have hs3 := hs2.up hbq
    have HV3 := hid (HV2.out.up hbq)
    clear hbq hb2 hs2 HV2
    clear k0 k1 k2
    go_wp2_with fail
    refine (HRA.out _).mono ?_
    rintro r v4 ⟨rfl, hbq⟩
    have hb4 := sbelow_step hb3 hbq
    have hs4 := hs3.up hbq
    have HV4 := hid (HV3.out.up hbq)
    clear hbq hb3 hs3 HV3
    obtain ⟨k0, k1, k2⟩ := hs4.cells
    go_wp2_with fail
    refine (HKA.out _).mono ?_
    rintro r uz ⟨rfl, rfl⟩
    clear k0 k1 k2
    go_wp2_with fail
    refine (HRS.out _).mono ?_
    rintro r u2 ⟨⟨vy, rfl, hvy⟩, hbq⟩
    obtain ⟨A2, p2, he2⟩ := hvy.slice
    have hbR := sbelow_step (sbelow_step hb4 hbq) (sbelow_new u2 (.cells #[.int .i64 n2, .int .i64 q2, vy] 39))
    have HVY := hid (hvy.up (sbelow_new u2 (.cells #[.int .i64 n2, .int .i64 q2, vy] 39)))
    have hsy := BB.new u2 n2 q2 vy
    clear hbq hb4 hs4 HV4 hvy
    subst he2
    go_upto_region 15 with (fail)
    generalize u2.alloc (.cells #[.int .i64 n2, .int .i64 q2, .slice A2 L2.length p2] 39) = u3 at *
    generalize (Value.slice A2 L2.length p2) = vy at *
    obtain ⟨k0, k1, k2⟩ := hsy.cells
    go_wp2_with fail
    refine (HWS.out _ _ HVY.out).mono ?_
    rintro r u4 ⟨rfl, hbq⟩
    have hbS := sbelow_step hbR hbq
    clear hbq hbR hsy k0 k1 k2
    go_wp2_with fail
    refine (HAS.out _).mono ?_
    rintro r u5 ⟨rfl, hbq⟩
    have hbT := sbelow_step hbS hbq
    clear hbq hbS
    go_wp2_with fail
    refine (known10_any _).mono ?_
    rintro r u6 ⟨rfl, hbq⟩
    go_wp2_with fail
    go_returns
    exact ⟨rfl, sbelow_step hbT hbq⟩
  · have hbre : (er == 0) = false := by simpa using hre
    clear hr hre
    by_cases hae : ea = 0
    · subst hae
      obtain ⟨g1, g2⟩ := readA_back hq2
      have HBS := hid fun w => back_any n3 q3 w (hid (show ackB n3 q3 = (s, 0) from ackB_ok g1 g2.symm))
      clear g1 g2 hq2
      have hb0 := sbelow_new w (.cells #[.int .i64 n, .int .i64 q, x] 39)
      have hs0 := BB.new w n q x
      have hv0 := hx.up hb0
      go_enter Try.func8, Try.ntmps8
      go_upto_region 1 with (fail)
      generalize w.alloc (.cells #[.int .i64 n, .int .i64 q, x] 39) = v0 at *
      have HV0 := hid hv0
      clear hv0 hx
      obtain ⟨k0, k1, k2⟩ := hs0.cells
      go_wp2_with fail
      refine (HFEW.out v0 HV0.out).mono ?_
      rintro r v1 ⟨rfl, hbq⟩
      have hb1 := sbelow_step hb0 hbq
      have hs1 := hs0.up hbq
      have HV1 := hid (HV0.out.up hbq)
      clear hbq hb0 hs0 HV0
      clear k0 k1 k2
      obtain ⟨k0, k1, k2⟩ := hs1.cells
      go_wp2_with fail
      refine (HW.out _ HV1.out).mono ?_
      rintro r v2 ⟨rfl, hbq⟩
      have hb2 := sbelow_step hb1 hbq
      have hs2 := hs1.up hbq
      have HV2 := hid (HV1.out.up hbq)
      clear hbq hb1 hs1 HV1
      clear k0 k1 k2
      obtain ⟨k0, k1, k2⟩ := hs2.cells
      go_wp2_with fail
      refine (HA.out _).mono ?_
      rintro r v3 ⟨rfl, hbq⟩
      have hb3 := sbelow_step hb2 hbq
      have hs3 := hs2.up hbq
      have HV3 := hid (HV2.out.up hbq)
      clear hbq hb2 hs2 HV2
      clear k0 k1 k2
      go_wp2_with fail
      refine (HRA.out _).mono ?_
      rintro r v4 ⟨rfl, hbq⟩
      have hb4 := sbelow_step hb3 hbq
      have hs4 := hs3.up hbq
      have HV4 := hid (HV3.out.up hbq)
      clear hbq hb3 hs3 HV3
      obtain ⟨k0, k1, k2⟩ := hs4.cells
      go_wp2_with fail
      refine (HKA.out _).mono ?_
      rintro r uz ⟨rfl, rfl⟩
      clear k0 k1 k2
      go_wp2_with fail
      refine (HRS.out _).mono ?_
      rintro r u2 ⟨⟨vy, rfl, hvy⟩, hbq⟩
      obtain ⟨A2, p2, he2⟩ := hvy.slice
      have hbR := sbelow_step (sbelow_step hb4 hbq) (sbelow_new u2 (.cells #[.int .i64 n2, .int .i64 q2, vy] 39))
      have HVY := hid (hvy.up (sbelow_new u2 (.cells #[.int .i64 n2, .int .i64 q2, vy] 39)))
      have hsy := BB.new u2 n2 q2 vy
      clear hbq hb4 hs4 HV4 hvy
      subst he2
      go_upto_region 15 with (fail)
      generalize u2.alloc (.cells #[.int .i64 n2, .int .i64 q2, .slice A2 L2.length p2] 39) = u3 at *
      generalize (Value.slice A2 L2.length p2) = vy at *
      go_wp2_with fail
      refine (HAS.out _).mono ?_
      rintro r u5 ⟨rfl, hbq⟩
      have hbT := sbelow_step hbR hbq
      clear hbq hbR
      go_wp2_with fail
      refine (HBS.out _).mono ?_
      rintro r u6 ⟨rfl, hbq⟩
      have hbU := sbelow_step hbT hbq
      clear hbq hbT
      go_wp2_with fail
      refine (known10_any _).mono ?_
      rintro r u7 ⟨rfl, hbq⟩
      go_wp2_with fail
      go_returns
      exact ⟨rfl, sbelow_step hbU hbq⟩
    · have hbae : (ea == 0) = false := by simpa using hae
      clear hae hq2
      have hb0 := sbelow_new w (.cells #[.int .i64 n, .int .i64 q, x] 39)
      have hs0 := BB.new w n q x
      have hv0 := hx.up hb0
      go_enter Try.func8, Try.ntmps8
      go_upto_region 1 with (fail)
      generalize w.alloc (.cells #[.int .i64 n, .int .i64 q, x] 39) = v0 at *
      have HV0 := hid hv0
      clear hv0 hx
      obtain ⟨k0, k1, k2⟩ := hs0.cells
      go_wp2_with fail
      refine (HFEW.out v0 HV0.out).mono ?_
      rintro r v1 ⟨rfl, hbq⟩
      have hb1 := sbelow_step hb0 hbq
      have hs1 := hs0.up hbq
      have HV1 := hid (HV0.out.up hbq)
      clear hbq hb0 hs0 HV0
      clear k0 k1 k2
      obtain ⟨k0, k1, k2⟩ := hs1.cells
      go_wp2_with fail
      refine (HW.out _ HV1.out).mono ?_
      rintro r v2 ⟨rfl, hbq⟩
      have hb2 := sbelow_step hb1 hbq
      have hs2 := hs1.up hbq
      have HV2 := hid (HV1.out.up hbq)
      clear hbq hb1 hs1 HV1
      clear k0 k1 k2
      obtain ⟨k0, k1, k2⟩ := hs2.cells
      go_wp2_with fail
      refine (HA.out _).mono ?_
      rintro r v3 ⟨rfl, hbq⟩
      have hb3 := sbelow_step hb2 hbq
      have hs3 := hs2.up hbq
      have HV3 := hid (HV2.out.up hbq)
      clear hbq hb2 hs2 HV2
      clear k0 k1 k2
      go_wp2_with fail
      refine (HRA.out _).mono ?_
      rintro r v4 ⟨rfl, hbq⟩
      have hb4 := sbelow_step hb3 hbq
      have hs4 := hs3.up hbq
      have HV4 := hid (HV3.out.up hbq)
      clear hbq hb3 hs3 HV3
      obtain ⟨k0, k1, k2⟩ := hs4.cells
      go_wp2_with fail
      refine (HKA.out _).mono ?_
      rintro r uz ⟨rfl, rfl⟩
      clear k0 k1 k2
      go_wp2_with fail
      refine (HRS.out _).mono ?_
      rintro r u2 ⟨⟨vy, rfl, hvy⟩, hbq⟩
      obtain ⟨A2, p2, he2⟩ := hvy.slice
      have hbR := sbelow_step (sbelow_step hb4 hbq) (sbelow_new u2 (.cells #[.int .i64 n2, .int .i64 q2, vy] 39))
      have HVY := hid (hvy.up (sbelow_new u2 (.cells #[.int .i64 n2, .int .i64 q2, vy] 39)))
      have hsy := BB.new u2 n2 q2 vy
      clear hbq hb4 hs4 HV4 hvy
      subst he2
      go_upto_region 15 with (fail)
      generalize u2.alloc (.cells #[.int .i64 n2, .int .i64 q2, .slice A2 L2.length p2] 39) = u3 at *
      generalize (Value.slice A2 L2.length p2) = vy at *
      go_wp2_with fail
      refine (HAS.out _).mono ?_
      rintro r u5 ⟨rfl, hbq⟩
      have hbT := sbelow_step hbR hbq
      clear hbq hbR
      go_wp2_with fail
      refine (known10_any _).mono ?_
      rintro r u7 ⟨rfl, hbq⟩
      go_wp2_with fail
      go_returns
      exact ⟨rfl, sbelow_step hbT hbq⟩
set_option maxRecDepth 100000 in
set_option maxHeartbeats 16000000 in
theorem batchBack_nn (n q : Int) (x : Value) (L : List Sp) (s : List UInt8) (hL : okL L) (hs : s.length ≤ 140737488351232) (w : World) (hx : SV w x L) (hz : fewB L = true) (hl : s.length ≤ 3000) (hi : inR n q = false) (hc : chkB n q L ≠ 0) :
    Calls Try.prog 8 #[.agg #[.int .i64 n, .int .i64 q, x], .string (bs s)] w fun e w' => e = .returned (.bool true) ∧ Below w.heap.size w w' := by
  have hnot := snot
  have hL40 := few_small hz
  have HFEW := hid fun w (h : SV w x L) => d_bfew w n q h hL (hid hz)
  clear hz
  obtain ⟨n2, q2, L2, er, hr⟩ : ∃ a b c d, readB s = (a, b, c, d) := ⟨_, _, _, _, rfl⟩
  obtain ⟨n3, q3, ea, hq2⟩ : ∃ a b c, readA s = (a, b, c) := ⟨_, _, _, rfl⟩
  have HRS := hid fun w => d_bread s w hs (hid hr)
  have HAS := hid fun w => breadack_any s w hs (hid hq2)
  obtain ⟨cw, hcw⟩ : ∃ c, chkB n q L = c := ⟨_, rfl⟩
  have HW := hid fun w (h : SV w x L) => d_bwrite w n q h hL (hid (show writeB n q L = ([], cw) by rw [writeB, if_neg hc, hcw]))
  have hbw : (cw == 0) = false := by rw [← hcw]; simpa using hc
  clear hcw hc
  have HA := hid fun w => back_any n q w (hid (ackB_no hi))
  clear hi
  by_cases hre : er = 0
  · subst hre
    obtain ⟨g1, g2, g3⟩ := readB_back hr
    have hna := readB_not_A hr
    rw [hna] at hq2
    simp only [Prod.mk.injEq] at hq2
    obtain ⟨rfl, rfl, rfl⟩ := hq2
    have HWS := hid fun (VV : Value) w (h : SV w VV L2) => d_bwrite w n2 q2 h (fun s' hs' => ⟨by have := nameB_len (chkS_ok (g3 s' hs').1).2.1; omega, (g3 s' hs').2⟩) (hid (show writeB n2 q2 L2 = (s, 0) by rw [writeB, if_pos g1, ← g2]))
    clear g1 g2 g3 hna hr
    have hb0 := sbelow_new w (.cells #[.int .i64 n, .int .i64 q, x] 39)
    have hs0 := BB.new w n q x
    have hv0 := hx.up hb0
    go_enter Try.func8, Try.ntmps8
    go_upto_region 1 with (fail)
    generalize w.alloc (.cells #[.int .i64 n, .int .i64 q, x] 39) = v0 at *
    have HV0 := hid hv0
    clear hv0 hx
    obtain ⟨k0, k1, k2⟩ := hs0.cells
    go_wp2_with fail
    refine (HFEW.out v0 HV0.out).mono ?_
    rintro r v1 ⟨rfl, hbq⟩
    have hb1 := sbelow_step hb0 hbq
    have hs1 := hs0.up hbq
    have HV1 := hid (HV0.out.up hbq)
    clear hbq hb0 hs0 HV0
    clear k0 k1 k2
    obtain ⟨k0, k1, k2⟩ := hs1.cells
    go_wp2_with fail
    refine (HW.out _ HV1.out).mono ?_
    rintro r v2 ⟨rfl, hbq⟩
    have hb2 := sbelow_step hb1 hbq
    have hs2 := hs1.up hbq
    have HV2 := hid (HV1.out.up hbq)
    clear hbq hb1 hs1 HV1
    clear k0 k1 k2
    obtain ⟨k0, k1, k2⟩ := hs2.cells
    go_wp2_with fail
    refine (HA.out _).mono ?_
    rintro r v3 ⟨rfl, hbq⟩
    have hb3 := sbelow_step hb2 hbq
    have hs3 := hs2.up hbq
    have HV3 := hid (HV2.out.up hbq)
    clear hbq hb2 hs2 HV2
    clear k0 k1 k2
    go_wp2_with fail
    refine (HRS.out _).mono ?_
    rintro r u2 ⟨⟨vy, rfl, hvy⟩, hbq⟩
    obtain ⟨A2, p2, he2⟩ := hvy.slice
    have hbR := sbelow_step (sbelow_step hb3 hbq) (sbelow_new u2 (.cells #[.int .i64 n2, .int .i64 q2, vy] 39))
    have HVY := hid (hvy.up (sbelow_new u2 (.cells #[.int .i64 n2, .int .i64 q2, vy] 39)))
    have hsy := BB.new u2 n2 q2 vy
    clear hbq hb3 hs3 HV3 hvy
    subst he2
    go_upto_region 15 with (fail)
    generalize u2.alloc (.cells #[.int .i64 n2, .int .i64 q2, .slice A2 L2.length p2] 39) = u3 at *
    generalize (Value.slice A2 L2.length p2) = vy at *
    obtain ⟨k0, k1, k2⟩ := hsy.cells
    go_wp2_with fail
    refine (HWS.out _ _ HVY.out).mono ?_
    rintro r u4 ⟨rfl, hbq⟩
    have hbS := sbelow_step hbR hbq
    clear hbq hbR hsy k0 k1 k2
    go_wp2_with fail
    refine (HAS.out _).mono ?_
    rintro r u5 ⟨rfl, hbq⟩
    have hbT := sbelow_step hbS hbq
    clear hbq hbS
    go_wp2_with fail
    refine (known10_any _).mono ?_
    rintro r u6 ⟨rfl, hbq⟩
    go_wp2_with fail
    go_returns
    exact ⟨rfl, sbelow_step hbT hbq⟩
  · have hbre : (er == 0) = false := by simpa using hre
    clear hr hre
    by_cases hae : ea = 0
    · subst hae
      obtain ⟨g1, g2⟩ := readA_back hq2
      have HBS := hid fun w => back_any n3 q3 w (hid (show ackB n3 q3 = (s, 0) from ackB_ok g1 g2.symm))
      clear g1 g2 hq2
      have hb0 := sbelow_new w (.cells #[.int .i64 n, .int .i64 q, x] 39)
      have hs0 := BB.new w n q x
      have hv0 := hx.up hb0
      go_enter Try.func8, Try.ntmps8
      go_upto_region 1 with (fail)
      generalize w.alloc (.cells #[.int .i64 n, .int .i64 q, x] 39) = v0 at *
      have HV0 := hid hv0
      clear hv0 hx
      obtain ⟨k0, k1, k2⟩ := hs0.cells
      go_wp2_with fail
      refine (HFEW.out v0 HV0.out).mono ?_
      rintro r v1 ⟨rfl, hbq⟩
      have hb1 := sbelow_step hb0 hbq
      have hs1 := hs0.up hbq
      have HV1 := hid (HV0.out.up hbq)
      clear hbq hb0 hs0 HV0
      clear k0 k1 k2
      obtain ⟨k0, k1, k2⟩ := hs1.cells
      go_wp2_with fail
      refine (HW.out _ HV1.out).mono ?_
      rintro r v2 ⟨rfl, hbq⟩
      have hb2 := sbelow_step hb1 hbq
      have hs2 := hs1.up hbq
      have HV2 := hid (HV1.out.up hbq)
      clear hbq hb1 hs1 HV1
      clear k0 k1 k2
      obtain ⟨k0, k1, k2⟩ := hs2.cells
      go_wp2_with fail
      refine (HA.out _).mono ?_
      rintro r v3 ⟨rfl, hbq⟩
      have hb3 := sbelow_step hb2 hbq
      have hs3 := hs2.up hbq
      have HV3 := hid (HV2.out.up hbq)
      clear hbq hb2 hs2 HV2
      clear k0 k1 k2
      go_wp2_with fail
      refine (HRS.out _).mono ?_
      rintro r u2 ⟨⟨vy, rfl, hvy⟩, hbq⟩
      obtain ⟨A2, p2, he2⟩ := hvy.slice
      have hbR := sbelow_step (sbelow_step hb3 hbq) (sbelow_new u2 (.cells #[.int .i64 n2, .int .i64 q2, vy] 39))
      have HVY := hid (hvy.up (sbelow_new u2 (.cells #[.int .i64 n2, .int .i64 q2, vy] 39)))
      have hsy := BB.new u2 n2 q2 vy
      clear hbq hb3 hs3 HV3 hvy
      subst he2
      go_upto_region 15 with (fail)
      generalize u2.alloc (.cells #[.int .i64 n2, .int .i64 q2, .slice A2 L2.length p2] 39) = u3 at *
      generalize (Value.slice A2 L2.length p2) = vy at *
      go_wp2_with fail
      refine (HAS.out _).mono ?_
      rintro r u5 ⟨rfl, hbq⟩
      have hbT := sbelow_step hbR hbq
      clear hbq hbR
      go_wp2_with fail
      refine (HBS.out _).mono ?_
      rintro r u6 ⟨rfl, hbq⟩
      have hbU := sbelow_step hbT hbq
      clear hbq hbT
      go_wp2_with fail
      refine (known10_any _).mono ?_
      rintro r u7 ⟨rfl, hbq⟩
      go_wp2_with fail
      go_returns
      exact ⟨rfl, sbelow_step hbU hbq⟩
    · have hbae : (ea == 0) = false := by simpa using hae
      clear hae hq2
      have hb0 := sbelow_new w (.cells #[.int .i64 n, .int .i64 q, x] 39)
      have hs0 := BB.new w n q x
      have hv0 := hx.up hb0
      go_enter Try.func8, Try.ntmps8
      go_upto_region 1 with (fail)
      generalize w.alloc (.cells #[.int .i64 n, .int .i64 q, x] 39) = v0 at *
      have HV0 := hid hv0
      clear hv0 hx
      obtain ⟨k0, k1, k2⟩ := hs0.cells
      go_wp2_with fail
      refine (HFEW.out v0 HV0.out).mono ?_
      rintro r v1 ⟨rfl, hbq⟩
      have hb1 := sbelow_step hb0 hbq
      have hs1 := hs0.up hbq
      have HV1 := hid (HV0.out.up hbq)
      clear hbq hb0 hs0 HV0
      clear k0 k1 k2
      obtain ⟨k0, k1, k2⟩ := hs1.cells
      go_wp2_with fail
      refine (HW.out _ HV1.out).mono ?_
      rintro r v2 ⟨rfl, hbq⟩
      have hb2 := sbelow_step hb1 hbq
      have hs2 := hs1.up hbq
      have HV2 := hid (HV1.out.up hbq)
      clear hbq hb1 hs1 HV1
      clear k0 k1 k2
      obtain ⟨k0, k1, k2⟩ := hs2.cells
      go_wp2_with fail
      refine (HA.out _).mono ?_
      rintro r v3 ⟨rfl, hbq⟩
      have hb3 := sbelow_step hb2 hbq
      have hs3 := hs2.up hbq
      have HV3 := hid (HV2.out.up hbq)
      clear hbq hb2 hs2 HV2
      clear k0 k1 k2
      go_wp2_with fail
      refine (HRS.out _).mono ?_
      rintro r u2 ⟨⟨vy, rfl, hvy⟩, hbq⟩
      obtain ⟨A2, p2, he2⟩ := hvy.slice
      have hbR := sbelow_step (sbelow_step hb3 hbq) (sbelow_new u2 (.cells #[.int .i64 n2, .int .i64 q2, vy] 39))
      have HVY := hid (hvy.up (sbelow_new u2 (.cells #[.int .i64 n2, .int .i64 q2, vy] 39)))
      have hsy := BB.new u2 n2 q2 vy
      clear hbq hb3 hs3 HV3 hvy
      subst he2
      go_upto_region 15 with (fail)
      generalize u2.alloc (.cells #[.int .i64 n2, .int .i64 q2, .slice A2 L2.length p2] 39) = u3 at *
      generalize (Value.slice A2 L2.length p2) = vy at *
      go_wp2_with fail
      refine (HAS.out _).mono ?_
      rintro r u5 ⟨rfl, hbq⟩
      have hbT := sbelow_step hbR hbq
      clear hbq hbR
      go_wp2_with fail
      refine (known10_any _).mono ?_
      rintro r u7 ⟨rfl, hbq⟩
      go_wp2_with fail
      go_returns
      exact ⟨rfl, sbelow_step hbT hbq⟩
theorem batchBack_walk (n q : Int) (x : Value) (L : List Sp) (s : List UInt8) (hL : okL L) (hs : s.length ≤ 140737488351232) (w : World) (hx : SV w x L) :
    Calls Try.prog 8 #[.agg #[.int .i64 n, .int .i64 q, x], .string (bs s)] w fun e w' => e = .returned (.bool true) ∧ Below w.heap.size w w' := by
  by_cases hz : fewB L = true ∧ s.length ≤ 3000
  rotate_left
  · refine batchBack_few n q x L s hL hs w hx ?_
    cases hf : fewB L
    · exact Or.inl rfl
    · exact Or.inr ⟨rfl, by simp only [hf, true_and] at hz; omega⟩
  obtain ⟨hz, hl⟩ := hz
  cases hi : inR n q
  · exact batchBack_nn n q x L s hL hs w hx hz hl hi (by rw [chkB, if_pos hi]; omega)
  · have hr := hi
    rw [inR, decide_eq_true_eq] at hr
    obtain ⟨n, rfl⟩ := Int.eq_ofNat_of_zero_le hr.1
    obtain ⟨q, rfl⟩ := Int.eq_ofNat_of_zero_le hr.2.2.1
    by_cases hc : chkB n q L = 0
    · exact batchBack_oo n q x L s hL hs w hx hz hl hi hc
    · exact batchBack_no n q x L s hL hs w hx hz hl hi hc
end Go.Proofs.Ytgpioafkahoahaa
