import Derived.Test.YtgpioafkahoahaaBi
import Derived.Deep.Cut
import Derived.Deep.RegionHeld3
namespace Go.Proofs.Ytgpioafkahoahaa
set_option linter.unusedVariables false
set_option linter.unusedSimpArgs false
open Go.RowKit Go.Joins

theorem few_small {L : List Sp} (h : fewB L = true) : L.length ≤ 40 := (fewB_ok h).1
set_option maxRecDepth 100000 in
set_option maxHeartbeats 8000000 in
theorem batchWrites_walk (n q : Int) (x : Value) (L : List Sp) (hL : okL L) (w : World) (hx : SV w x L) :
    Calls Try.prog 6 #[.agg #[.int .i64 n, .int .i64 q, x]] w fun e w' => e = .returned (.bool true) ∧ Below w.heap.size w w' := by
  have hnot := snot
  obtain ⟨z, hz⟩ : ∃ z, fewB L = z := ⟨_, rfl⟩
  have HFEW := hid fun w (h : SV w x L) => d_bfew w n q h hL (hid hz)
  cases z
  · clear hz
    have hb0 := sbelow_new w (.cells #[.int .i64 n, .int .i64 q, x] 39)
    have hs0 := BB.new w n q x
    have hv0 := hx.up hb0
    go_enter Try.func6, Try.ntmps6
    go_upto_region 1 with (fail)
    generalize w.alloc (.cells #[.int .i64 n, .int .i64 q, x] 39) = v0 at *
    have HV0 := hid hv0
    clear hv0 hx
    obtain ⟨k0, k1, k2⟩ := hs0.cells
    go_wp2_with fail
    refine (HFEW.out v0 HV0.out).mono ?_
    rintro r v1 ⟨rfl, hbq⟩
    have hb1 := sbelow_step hb0 hbq
    have hs1 := hs0.up hbq
    have HV1 := hid (HV0.out.up hbq)
    clear hbq hb0 hs0 HV0
    clear k0 k1 k2
    go_wp2_with fail
    refine (known10_any _).mono ?_
    rintro r vz ⟨rfl, hbq⟩
    go_wp2_with fail
    go_returns
    exact ⟨rfl, sbelow_step hb1 hbq⟩
  clear hz
  obtain ⟨t, r, hw⟩ : ∃ t r, writeB n q L = (t, r) := ⟨_, _, rfl⟩
  obtain ⟨ta, ra, hwa⟩ : ∃ t r, ackB n q = (t, r) := ⟨_, _, rfl⟩
  obtain ⟨c, hc⟩ : ∃ c, chkB n q L = c := ⟨_, rfl⟩
  have H1 := hid fun w (h : SV w x L) => d_bwrite w n q h hL (hid hw)
  have H2 := hid fun w (h : SV w x L) => d_rbwrite w n q h hL (hid hw)
  have H3 := hid fun w => back_any n q w (hid hwa)
  have H4 := hid fun w => rback_any n q w (hid hwa)
  have H5 := hid fun w (h : SV w x L) => d_bcheck w n q h hL (hid hc)
  have H6 := hid fun w (h : SV w x L) => d_rbcheck w n q h hL (hid hc)
  clear hw hwa hc
  have hb0 := sbelow_new w (.cells #[.int .i64 n, .int .i64 q, x] 39)
  have hs0 := BB.new w n q x
  have hv0 := hx.up hb0
  go_enter Try.func6, Try.ntmps6
  go_upto_region 1 with (fail)
  generalize w.alloc (.cells #[.int .i64 n, .int .i64 q, x] 39) = v0 at *
  have HV0 := hid hv0
  clear hv0 hx
  obtain ⟨k0, k1, k2⟩ := hs0.cells
  go_wp2_with fail
  refine (HFEW.out v0 HV0.out).mono ?_
  rintro r v1 ⟨rfl, hbq⟩
  have hb1 := sbelow_step hb0 hbq
  have hs1 := hs0.up hbq
  have HV1 := hid (HV0.out.up hbq)
  clear hbq hb0 hs0 HV0
  clear k0 k1 k2
  obtain ⟨k0, k1, k2⟩ := hs1.cells
  go_wp2_with fail
  refine (H1.out _ HV1.out).mono ?_
  rintro r v2 ⟨rfl, hbq⟩
  have hb2 := sbelow_step hb1 hbq
  have hs2 := hs1.up hbq
  have HV2 := hid (HV1.out.up hbq)
  clear hbq hb1 hs1 HV1
  clear k0 k1 k2
  obtain ⟨k0, k1, k2⟩ := hs2.cells
  go_wp2_with fail
  refine (H2.out _ HV2.out).mono ?_
  rintro r v3 ⟨rfl, hbq⟩
  have hb3 := sbelow_step hb2 hbq
  have hs3 := hs2.up hbq
  have HV3 := hid (HV2.out.up hbq)
  clear hbq hb2 hs2 HV2
  clear k0 k1 k2
  obtain ⟨k0, k1, k2⟩ := hs3.cells
  go_wp2_with fail
  refine (H3.out _).mono ?_
  rintro r v4 ⟨rfl, hbq⟩
  have hb4 := sbelow_step hb3 hbq
  have hs4 := hs3.up hbq
  have HV4 := hid (HV3.out.up hbq)
  clear hbq hb3 hs3 HV3
  clear k0 k1 k2
  obtain ⟨k0, k1, k2⟩ := hs4.cells
  go_wp2_with fail
  refine (H4.out _).mono ?_
  rintro r v5 ⟨rfl, hbq⟩
  have hb5 := sbelow_step hb4 hbq
  have hs5 := hs4.up hbq
  have HV5 := hid (HV4.out.up hbq)
  clear hbq hb4 hs4 HV4
  clear k0 k1 k2
  go_wp2_with fail
  have hz : Below v5.heap.size v5 v5.drew := (Below.refl _ _).drew
  go_region_held3 (fun w' => w'.cell? ⟨w.heap.size, 0, none⟩ = some (.int .i64 n) ∧ w'.cell? ⟨w.heap.size, 1, none⟩ = some (.int .i64 q) ∧ w'.cell? ⟨w.heap.size, 2, none⟩ = some x ∧ Below v5.heap.size v5 w') (first | (with_reducible exact keepBB hs5 hz) | (with_reducible exact keepBB hs5 (hz.trans (Below.mono (by assumption) hz.size)))) (first
    | (go_at_call 23
       ((with_reducible refine (H5.out _ (HV5.out.up hz)).mono ?_); rintro e w5 ⟨rfl, hy⟩)
       have hz := hz.trans (hy.mono hz.size))
    | (go_at_call 24
       ((with_reducible refine (H6.out _ (HV5.out.up hz)).mono ?_); rintro e w5 ⟨rfl, hy⟩)
       have hz := hz.trans (hy.mono hz.size))
    | (go_at_call 18
       ((with_reducible refine (known10_any _).mono ?_); rintro e w5 ⟨rfl, hy⟩)
       have hz := hz.trans (hy.mono hz.size)))
  all_goals
    go_wp2_with fail
    go_returns
    exact ⟨rfl, sbelow_step hb5 hz⟩
theorem SV.slice {w : World} {v : Value} {L : List Sp} (h : SV w v L) : ∃ A c, v = .slice A L.length c := by
  obtain ⟨A, c, e, _⟩ := h
  exact ⟨A, c, e⟩
set_option maxRecDepth 100000 in
set_option maxHeartbeats 8000000 in
theorem batchReads_walk (s : List UInt8) (hs : s.length ≤ 140737488351232) (w : World) :
    Calls Try.prog 7 #[.string (bs s)] w fun e w' => e = .returned (.bool true) ∧ Below w.heap.size w w' := by
  by_cases hl : (s.length : Int) > 3000
  · go_enter Try.func7, Try.ntmps7
    go_wp2_with fail
    refine (known10_any _).mono ?_
    rintro r v1 ⟨rfl, hb1⟩
    go_wp2_with fail
    go_returns
    exact ⟨rfl, hb1⟩
  obtain ⟨n, q, L, e, hr⟩ : ∃ n q L e, readB s = (n, q, L, e) := ⟨_, _, _, _, rfl⟩
  obtain ⟨n2, q2, e2, ha⟩ : ∃ n q e, readA s = (n, q, e) := ⟨_, _, _, rfl⟩
  obtain ⟨k, hk⟩ : ∃ k, kindB s = k := ⟨_, rfl⟩
  have hL16 := readB_few hr
  have H1 := hid fun w => d_bread s w hs (hid hr)
  have H2 := hid fun w => d_rbread s w hs (hid hr)
  have H3 := hid fun w => breadack_any s w hs (hid ha)
  have H4 := hid fun w => rbreadack_any s w hs (hid ha)
  have H5 := hid fun w => kind_any s w hs (hid hk)
  have H6 := hid fun w => rkind_any s w hs (hid hk)
  clear hr ha hk
  go_enter Try.func7, Try.ntmps7
  go_wp2_with fail
  refine (H1.out _).mono ?_
  rintro r w1 ⟨⟨va, rfl, hva⟩, hb1⟩
  obtain ⟨A1, p1, he1⟩ := hva.slice
  have hb2 := sbelow_step hb1 (sbelow_new w1 (.cells #[.int .i64 n, .int .i64 q, va] 39))
  have ha2 := hva.up (sbelow_new w1 (.cells #[.int .i64 n, .int .i64 q, va] 39))
  have hs2 := BB.new w1 n q va
  clear hb1 hva
  subst he1
  go_upto_region 4 with (fail)
  generalize w1.alloc (.cells #[.int .i64 n, .int .i64 q, .slice A1 L.length p1] 39) = w2 at *
  generalize (Value.slice A1 L.length p1) = va at *
  go_wp2_with fail
  refine (H2.out _).mono ?_
  rintro r w3 ⟨⟨vb, rfl, hvb⟩, hb3⟩
  obtain ⟨A2, p2, he2⟩ := hvb.slice
  have hb4 := sbelow_step (sbelow_step hb2 hb3) (sbelow_new w3 (.cells #[.int .i64 n, .int .i64 q, vb] 39))
  have ha4 := (ha2.up hb3).up (sbelow_new w3 (.cells #[.int .i64 n, .int .i64 q, vb] 39))
  have hbv4 := hvb.up (sbelow_new w3 (.cells #[.int .i64 n, .int .i64 q, vb] 39))
  have hs4 := (hs2.up hb3).up (sbelow_new w3 (.cells #[.int .i64 n, .int .i64 q, vb] 39))
  have ht4 := BB.new w3 n q vb
  clear hb2 hb3 ha2 hs2 hvb
  subst he2
  go_upto_region 5 with (fail)
  generalize w3.alloc (.cells #[.int .i64 n, .int .i64 q, .slice A2 L.length p2] 39) = w4 at *
  generalize (Value.slice A2 L.length p2) = vb at *
  go_wp2_with fail
  refine (H3.out _).mono ?_
  rintro r w5 ⟨rfl, hb5⟩
  have G5 := hid (And.intro (sbelow_step hb4 hb5) (And.intro (ha4.up hb5) (And.intro (hbv4.up hb5) (And.intro (hs4.up hb5) (ht4.up hb5)))))
  clear hb4 hb5 ha4 hbv4 hs4 ht4
  go_wp2_with fail
  refine (H4.out _).mono ?_
  rintro r w6 ⟨rfl, hb6⟩
  have G6 := hid (And.intro (sbelow_step G5.out.1 hb6) (And.intro (G5.out.2.1.up hb6) (And.intro (G5.out.2.2.1.up hb6) (And.intro (G5.out.2.2.2.1.up hb6) (G5.out.2.2.2.2.up hb6)))))
  clear hb6
  obtain ⟨k0, k1, k2⟩ := G6.out.2.2.2.1.cells
  obtain ⟨q0, q1, q2⟩ := G6.out.2.2.2.2.cells
  go_wp2_with fail
  refine (d_bsame _ n q G6.out.2.1 G6.out.2.2.1 (by omega)).mono ?_
  rintro r w7 ⟨rfl, hb7⟩
  have hb8 := sbelow_step G6.out.1 hb7
  clear hb7 k0 k1 k2 q0 q1 q2
  go_wp2_with fail
  refine (H5.out _).mono ?_
  rintro r w8 ⟨rfl, rfl⟩
  go_wp2_with fail
  refine (H6.out _).mono ?_
  rintro r w8 ⟨rfl, rfl⟩
  go_wp2_with fail
  refine (known10_any _).mono ?_
  rintro r w9 ⟨rfl, hb9⟩
  go_wp2_with fail
  go_returns
  exact ⟨rfl, sbelow_step hb8 hb9⟩
end Go.Proofs.Ytgpioafkahoahaa
