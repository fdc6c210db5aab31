import Derived.Test.YtgpioafkahoahaaSb
import Derived.BigQuiet
import Derived.Handy
import Derived.Deep.RegionHeld3
namespace Go.Proofs.Ytgpioafkahoahaa
set_option linter.unusedVariables false
set_option linter.unusedSimpArgs false
open Go.RowKit Go.Joins

set_option maxRecDepth 100000 in
set_option maxHeartbeats 16000000 in
theorem rspwrite_ok (a b c d : Nat) (nm : List UInt8) (st sq kd : Int) (sh : Bool) (x y : Int) (w : World) (wd : Hid (a < 18446744073709551616 ∧ b < 18446744073709551616 ∧ c < 18446744073709551616 ∧ d < 18446744073709551616)) (hc : chkS ⟨a, b, c, d, nm, st, sq, kd, sh, x, y⟩ = 0) :
    Calls Try.prog 12 #[.agg #[.int .u64 (a : Int), .int .u64 (b : Int), .int .u64 (c : Int), .int .u64 (d : Int), .string (bs nm), .int .i64 st, .int .i64 sq, .int .i64 kd, .bool sh, .int .i64 x, .int .i64 y]] w fun e w' => e = .returned (.tuple #[.string (bs (writeS ⟨a, b, c, d, nm, st, sq, kd, sh, x, y⟩).1), .int .i64 0]) ∧ Below w.heap.size w w' := by
  obtain ⟨_, hn0, hr⟩ := chkS_ok hc
  have hnl : nm.length ≤ 32 := nameB_len hn0
  clear hn0
  rw [rngS, decide_eq_true_eq] at hr
  obtain ⟨r1, r2, r3, r4, r5, r6, r7, r8, r9, r10⟩ := hr
  simp only at r1 r2 r3 r4 r5 r6 r7 r8 r9 r10
  obtain ⟨n1, rfl⟩ := Int.eq_ofNat_of_zero_le r1
  obtain ⟨n2, rfl⟩ := Int.eq_ofNat_of_zero_le r3
  obtain ⟨n3, rfl⟩ := Int.eq_ofNat_of_zero_le r5
  obtain ⟨n4, rfl⟩ := Int.eq_ofNat_of_zero_le r7
  obtain ⟨n5, hn5⟩ : ∃ n5 : Nat, y - (n4 : Int) = n5 := ⟨(y - (n4 : Int)).toNat, by omega⟩
  have ln5 : n5 ≤ 1099511627776 := by omega
  have hsub : IntKind.i64.wrap (y - (n4 : Int)) = (n5 : Int) := by rw [hn5]; exact IntWalk.i64_in _ (by omega)
  obtain ⟨wa, wb, wc, wdd⟩ := wd.out
  obtain ⟨ta, hta⟩ : ∃ t, be 8 a = t := ⟨_, rfl⟩
  obtain ⟨tb, htb⟩ : ∃ t, be 8 b = t := ⟨_, rfl⟩
  obtain ⟨tc, htc⟩ : ∃ t, be 8 c = t := ⟨_, rfl⟩
  obtain ⟨td, htd⟩ : ∃ t, be 8 d = t := ⟨_, rfl⟩
  obtain ⟨tn, htn⟩ : ∃ t, textS nm = t := ⟨_, rfl⟩
  obtain ⟨t1, ht1⟩ : ∃ t, vput n1 = t := ⟨_, rfl⟩
  obtain ⟨t2, ht2⟩ : ∃ t, vput n2 = t := ⟨_, rfl⟩
  obtain ⟨t3, ht3⟩ : ∃ t, vput n3 = t := ⟨_, rfl⟩
  obtain ⟨ts, hts⟩ : ∃ t, shB sh = t := ⟨_, rfl⟩
  obtain ⟨t4, ht4⟩ : ∃ t, vput n4 = t := ⟨_, rfl⟩
  obtain ⟨t5, ht5⟩ : ∃ t, vput n5 = t := ⟨_, rfl⟩
  have lta : ta.length ≤ 8 := by rw [← hta, be_length]; omega
  have ltb : tb.length ≤ 8 := by rw [← htb, be_length]; omega
  have ltc : tc.length ≤ 8 := by rw [← htc, be_length]; omega
  have ltd : td.length ≤ 8 := by rw [← htd, be_length]; omega
  have ltn : tn.length ≤ 42 := by rw [← htn, textS, List.length_append]; have := (vput_length_le nm.length).2; omega
  have lt1 : t1.length ≤ 10 := by rw [← ht1]; exact (vput_length_le _).2
  have lt2 : t2.length ≤ 10 := by rw [← ht2]; exact (vput_length_le _).2
  have lt3 : t3.length ≤ 10 := by rw [← ht3]; exact (vput_length_le _).2
  have lts : ts.length ≤ 1 := by rw [← hts]; exact Nat.le_refl 1
  have lt4 : t4.length ≤ 10 := by rw [← ht4]; exact (vput_length_le _).2
  have lt5 : t5.length ≤ 10 := by rw [← ht5]; exact (vput_length_le _).2
  have HW := hid (show writeS ⟨a, b, c, d, nm, (n1 : Int), (n2 : Int), (n3 : Int), sh, (n4 : Int), y⟩ = (ta ++ (tb ++ (tc ++ (td ++ (tn ++ (t1 ++ (t2 ++ (t3 ++ (ts ++ (t4 ++ t5))))))))), 0) by
    rw [writeS, if_pos hc]
    simp only [bytesS, Int.toNat_natCast, hn5, hta, htb, htc, htd, htn, ht1, ht2, ht3, hts, ht4, ht5])
  have Pa := hid (show putS a 8 = (ta, 0) by rw [← hta]; exact put8 wa)
  have Pb := hid (show putS b 8 = (tb, 0) by rw [← htb]; exact put8 wb)
  have Pc := hid (show putS c 8 = (tc, 0) by rw [← htc]; exact put8 wc)
  have Pd := hid (show putS d 8 = (td, 0) by rw [← htd]; exact put8 wdd)
  have Pn := hid htn
  have P1 := hid ht1
  have P2 := hid ht2
  have P3 := hid ht3
  have P4 := hid ht4
  have P5 := hid ht5
  have Ps := hid hts
  have HC := hid hc
  clear hc hn5 hta htb htc htd htn ht1 ht2 ht3 hts ht4 ht5
  have GA := hid wa
  have GB := hid wb
  have GC := hid wc
  have GD := hid wdd
  have H1 := hid (show n1 < 18446744073709551616 by omega)
  have H2 := hid (show n2 < 18446744073709551616 by omega)
  have H3 := hid (show n3 < 18446744073709551616 by omega)
  have H4 := hid (show n4 < 18446744073709551616 by omega)
  have H5 := hid (show n5 < 18446744073709551616 by omega)
  have q1 := wrap_u64_nat n1 H1.out
  have q2 := wrap_u64_nat n2 H2.out
  have q3 := wrap_u64_nat n3 H3.out
  have q4 := wrap_u64_nat n4 H4.out
  have q5 := wrap_u64_nat n5 H5.out
  clear wa wb wc wdd wd
  cases sh
  · have hb0 := sbelow_new w (.cells #[.int .u64 (a : Int), .int .u64 (b : Int), .int .u64 (c : Int), .int .u64 (d : Int), .string (bs nm), .int .i64 (n1 : Int), .int .i64 (n2 : Int), .int .i64 (n3 : Int), .bool false, .int .i64 (n4 : Int), .int .i64 y] 26)
    have hs0 := SB.new w a b c d nm n1 n2 n3 false n4 y
    have PB := hid (show [UInt8.ofNat (0 % 256)] = ts by rw [← Ps.out]; rfl)
    go_enter Try.func12, Try.ntmps12
    go_wp2_with fail
    generalize w.alloc (.cells #[.int .u64 (a : Int), .int .u64 (b : Int), .int .u64 (c : Int), .int .u64 (d : Int), .string (bs nm), .int .i64 (n1 : Int), .int .i64 (n2 : Int), .int .i64 (n3 : Int), .bool false, .int .i64 (n4 : Int), .int .i64 y] 26) = v0 at *
    obtain ⟨k0, k1, k2, k3, k4, k5, k6, k7, k8, k9, k10⟩ := hs0.cells
    go_wp2_with fail
    refine (rspcheck_at a b c d nm n1 n2 n3 false n4 y _ (by omega) HC).mono ?_
    rintro e w1 ⟨rfl, hb1⟩
    have hs1 := hs0.up hb1
    have hb2 := sbelow_step hb0 hb1
    clear k0 k1 k2 k3 k4 k5 k6 k7 k8 k9 k10
    obtain ⟨k0, k1, k2, k3, k4, k5, k6, k7, k8, k9, k10⟩ := hs1.cells
    clear hb0 hb1 hs0
    go_wp2_with fail
    clear k0 k1 k2 k3 k4 k5 k6 k7 k8 k9 k10
    have hz : Below w1.heap.size w1 w1.drew := (Below.refl _ _).drew
    have u1 : ¬ 9223372036854775807 < ta.length + tb.length := by omega
    have u2 : ¬ 9223372036854775807 < ta.length + tb.length + tc.length := by omega
    have u3 : ¬ 9223372036854775807 < ta.length + (tb.length + tc.length) + td.length := by omega
    have u4 : ¬ 9223372036854775807 < ta.length + (tb.length + (tc.length + td.length)) + tn.length := by omega
    have u5 : ¬ 9223372036854775807 < ta.length + (tb.length + (tc.length + (td.length + tn.length))) + t1.length := by omega
    have u6 : ¬ 9223372036854775807 < ta.length + (tb.length + (tc.length + (td.length + (tn.length + t1.length)))) + t2.length := by omega
    have u7 : ¬ 9223372036854775807 < ta.length + (tb.length + (tc.length + (td.length + (tn.length + (t1.length + t2.length))))) + t3.length := by omega
    have u8 : ¬ 9223372036854775807 < ta.length + (tb.length + (tc.length + (td.length + (tn.length + (t1.length + (t2.length + t3.length)))))) + ts.length := by omega
    have u9 : ¬ 9223372036854775807 < ta.length + (tb.length + (tc.length + (td.length + (tn.length + (t1.length + (t2.length + (t3.length + ts.length))))))) + t4.length := by omega
    have u10 : ¬ 9223372036854775807 < ta.length + (tb.length + (tc.length + (td.length + (tn.length + (t1.length + (t2.length + (t3.length + (ts.length + t4.length)))))))) + t5.length := by omega
    go_region_held3 (fun w' => w'.cell? ⟨w.heap.size, 0, none⟩ = some (.int .u64 (a : Int)) ∧ w'.cell? ⟨w.heap.size, 1, none⟩ = some (.int .u64 (b : Int)) ∧ w'.cell? ⟨w.heap.size, 2, none⟩ = some (.int .u64 (c : Int)) ∧ w'.cell? ⟨w.heap.size, 3, none⟩ = some (.int .u64 (d : Int)) ∧ w'.cell? ⟨w.heap.size, 4, none⟩ = some (.string (bs nm)) ∧ w'.cell? ⟨w.heap.size, 5, none⟩ = some (.int .i64 (n1 : Int)) ∧ w'.cell? ⟨w.heap.size, 6, none⟩ = some (.int .i64 (n2 : Int)) ∧ w'.cell? ⟨w.heap.size, 7, none⟩ = some (.int .i64 (n3 : Int)) ∧ w'.cell? ⟨w.heap.size, 8, none⟩ = some (.bool false) ∧ w'.cell? ⟨w.heap.size, 9, none⟩ = some (.int .i64 (n4 : Int)) ∧ w'.cell? ⟨w.heap.size, 10, none⟩ = some (.int .i64 y) ∧ Below w1.heap.size w1 w') (first | exact keepAll hs1 hz | exact keepAll hs1 (hz.trans (Below.mono (by assumption) hz.size))) (first
      | (go_at_call 36
         first
           | ((with_reducible refine (eight_at a _ GA Pa).mono ?_); rintro e w5 ⟨rfl, hy⟩)
           | ((with_reducible refine (eight_at b _ GB Pb).mono ?_); rintro e w5 ⟨rfl, hy⟩)
           | ((with_reducible refine (eight_at c _ GC Pc).mono ?_); rintro e w5 ⟨rfl, hy⟩)
           | ((with_reducible refine (eight_at d _ GD Pd).mono ?_); rintro e w5 ⟨rfl, hy⟩)
         have hz := hz.trans (hy.mono hz.size))
      | (go_at_call 37
         ((with_reducible refine (srvtext_at nm _ (by omega) Pn).mono ?_); rintro e w5 ⟨rfl, hy⟩)
         have hz := hz.trans (hy.mono hz.size))
      | (go_at_call 39
         ((with_reducible refine (sbyte0 _ PB).mono ?_); rintro e w5 ⟨rfl, hy⟩)
         have hz := hz.trans (hy.mono hz.size))
      | (go_at_call 38
         first
           | ((with_reducible refine (srvput_at n1 _ H1 P1).mono ?_); rintro e w5 ⟨rfl, hy⟩)
           | ((with_reducible refine (srvput_at n2 _ H2 P2).mono ?_); rintro e w5 ⟨rfl, hy⟩)
           | ((with_reducible refine (srvput_at n3 _ H3 P3).mono ?_); rintro e w5 ⟨rfl, hy⟩)
           | ((with_reducible refine (srvput_at n4 _ H4 P4).mono ?_); rintro e w5 ⟨rfl, hy⟩)
           | ((with_reducible refine (srvput_at n5 _ H5 P5).mono ?_); rintro e w5 ⟨rfl, hy⟩)
         have hz := hz.trans (hy.mono hz.size)))
    all_goals
      go_wp2_with fail
      go_returns
      exact ⟨by rw [HW.out]; rfl, sbelow_step hb2 hz⟩
  · have hb0 := sbelow_new w (.cells #[.int .u64 (a : Int), .int .u64 (b : Int), .int .u64 (c : Int), .int .u64 (d : Int), .string (bs nm), .int .i64 (n1 : Int), .int .i64 (n2 : Int), .int .i64 (n3 : Int), .bool true, .int .i64 (n4 : Int), .int .i64 y] 26)
    have hs0 := SB.new w a b c d nm n1 n2 n3 true n4 y
    have PB := hid (show [UInt8.ofNat (1 % 256)] = ts by rw [← Ps.out]; rfl)
    go_enter Try.func12, Try.ntmps12
    go_wp2_with fail
    generalize w.alloc (.cells #[.int .u64 (a : Int), .int .u64 (b : Int), .int .u64 (c : Int), .int .u64 (d : Int), .string (bs nm), .int .i64 (n1 : Int), .int .i64 (n2 : Int), .int .i64 (n3 : Int), .bool true, .int .i64 (n4 : Int), .int .i64 y] 26) = v0 at *
    obtain ⟨k0, k1, k2, k3, k4, k5, k6, k7, k8, k9, k10⟩ := hs0.cells
    go_wp2_with fail
    refine (rspcheck_at a b c d nm n1 n2 n3 true n4 y _ (by omega) HC).mono ?_
    rintro e w1 ⟨rfl, hb1⟩
    have hs1 := hs0.up hb1
    have hb2 := sbelow_step hb0 hb1
    clear k0 k1 k2 k3 k4 k5 k6 k7 k8 k9 k10
    obtain ⟨k0, k1, k2, k3, k4, k5, k6, k7, k8, k9, k10⟩ := hs1.cells
    clear hb0 hb1 hs0
    go_wp2_with fail
    clear k0 k1 k2 k3 k4 k5 k6 k7 k8 k9 k10
    have hz : Below w1.heap.size w1 w1.drew := (Below.refl _ _).drew
    have u1 : ¬ 9223372036854775807 < ta.length + tb.length := by omega
    have u2 : ¬ 9223372036854775807 < ta.length + tb.length + tc.length := by omega
    have u3 : ¬ 9223372036854775807 < ta.length + (tb.length + tc.length) + td.length := by omega
    have u4 : ¬ 9223372036854775807 < ta.length + (tb.length + (tc.length + td.length)) + tn.length := by omega
    have u5 : ¬ 9223372036854775807 < ta.length + (tb.length + (tc.length + (td.length + tn.length))) + t1.length := by omega
    have u6 : ¬ 9223372036854775807 < ta.length + (tb.length + (tc.length + (td.length + (tn.length + t1.length)))) + t2.length := by omega
    have u7 : ¬ 9223372036854775807 < ta.length + (tb.length + (tc.length + (td.length + (tn.length + (t1.length + t2.length))))) + t3.length := by omega
    have u8 : ¬ 9223372036854775807 < ta.length + (tb.length + (tc.length + (td.length + (tn.length + (t1.length + (t2.length + t3.length)))))) + ts.length := by omega
    have u9 : ¬ 9223372036854775807 < ta.length + (tb.length + (tc.length + (td.length + (tn.length + (t1.length + (t2.length + (t3.length + ts.length))))))) + t4.length := by omega
    have u10 : ¬ 9223372036854775807 < ta.length + (tb.length + (tc.length + (td.length + (tn.length + (t1.length + (t2.length + (t3.length + (ts.length + t4.length)))))))) + t5.length := by omega
    go_region_held3 (fun w' => w'.cell? ⟨w.heap.size, 0, none⟩ = some (.int .u64 (a : Int)) ∧ w'.cell? ⟨w.heap.size, 1, none⟩ = some (.int .u64 (b : Int)) ∧ w'.cell? ⟨w.heap.size, 2, none⟩ = some (.int .u64 (c : Int)) ∧ w'.cell? ⟨w.heap.size, 3, none⟩ = some (.int .u64 (d : Int)) ∧ w'.cell? ⟨w.heap.size, 4, none⟩ = some (.string (bs nm)) ∧ w'.cell? ⟨w.heap.size, 5, none⟩ = some (.int .i64 (n1 : Int)) ∧ w'.cell? ⟨w.heap.size, 6, none⟩ = some (.int .i64 (n2 : Int)) ∧ w'.cell? ⟨w.heap.size, 7, none⟩ = some (.int .i64 (n3 : Int)) ∧ w'.cell? ⟨w.heap.size, 8, none⟩ = some (.bool true) ∧ w'.cell? ⟨w.heap.size, 9, none⟩ = some (.int .i64 (n4 : Int)) ∧ w'.cell? ⟨w.heap.size, 10, none⟩ = some (.int .i64 y) ∧ Below w1.heap.size w1 w') (first | exact keepAll hs1 hz | exact keepAll hs1 (hz.trans (Below.mono (by assumption) hz.size))) (first
      | (go_at_call 36
         first
           | ((with_reducible refine (eight_at a _ GA Pa).mono ?_); rintro e w5 ⟨rfl, hy⟩)
           | ((with_reducible refine (eight_at b _ GB Pb).mono ?_); rintro e w5 ⟨rfl, hy⟩)
           | ((with_reducible refine (eight_at c _ GC Pc).mono ?_); rintro e w5 ⟨rfl, hy⟩)
           | ((with_reducible refine (eight_at d _ GD Pd).mono ?_); rintro e w5 ⟨rfl, hy⟩)
         have hz := hz.trans (hy.mono hz.size))
      | (go_at_call 37
         ((with_reducible refine (srvtext_at nm _ (by omega) Pn).mono ?_); rintro e w5 ⟨rfl, hy⟩)
         have hz := hz.trans (hy.mono hz.size))
      | (go_at_call 39
         ((with_reducible refine (sbyte1 _ PB).mono ?_); rintro e w5 ⟨rfl, hy⟩)
         have hz := hz.trans (hy.mono hz.size))
      | (go_at_call 38
         first
           | ((with_reducible refine (srvput_at n1 _ H1 P1).mono ?_); rintro e w5 ⟨rfl, hy⟩)
           | ((with_reducible refine (srvput_at n2 _ H2 P2).mono ?_); rintro e w5 ⟨rfl, hy⟩)
           | ((with_reducible refine (srvput_at n3 _ H3 P3).mono ?_); rintro e w5 ⟨rfl, hy⟩)
           | ((with_reducible refine (srvput_at n4 _ H4 P4).mono ?_); rintro e w5 ⟨rfl, hy⟩)
           | ((with_reducible refine (srvput_at n5 _ H5 P5).mono ?_); rintro e w5 ⟨rfl, hy⟩)
         have hz := hz.trans (hy.mono hz.size)))
    all_goals
      go_wp2_with fail
      go_returns
      exact ⟨by rw [HW.out]; rfl, sbelow_step hb2 hz⟩
end Go.Proofs.Ytgpioafkahoahaa
