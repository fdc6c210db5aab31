import Derived.Test.YtgpioafkahoahaaSa
import Derived.BigQuiet
import Derived.Handy
import Derived.Deep.RegionHeld3
namespace Go.Proofs.Ytgpioafkahoahaa
set_option linter.unusedVariables false
set_option linter.unusedSimpArgs false
open Go.RowKit Go.Joins

theorem put8 {n : Nat} (h : n < 18446744073709551616) : putS n 8 = (be 8 n, 0) := putX_ok (by omega) (by omega) (Nat.div_eq_of_lt (by rw [show (8 : Int).toNat = 8 from rfl, pow8]; exact h))
theorem oput_at (n : Nat) (wd : Int) (w : World) {t : List UInt8} {r : Int} (H : Hid (putS n wd = (t, r))) :
    Calls Try.prog 75 #[.int .u64 n, .int .i64 wd] w fun e w' => e = .returned (.tuple #[.string (bs t), .int .i64 r]) ∧ Below w.heap.size w w' :=
  (oput_any n wd w (by omega)).mono fun e w' ⟨h1, h2⟩ => ⟨by rw [Int.toNat_natCast, H.out] at h1; exact h1, h2⟩
theorem srput_at (n : Nat) (wd : Int) (w : World) (hn : Hid (n < 18446744073709551616)) {t : List UInt8} {r : Int} (H : Hid (putS n wd = (t, r))) :
    Calls Try.prog 64 #[.int .u64 n, .int .i64 wd] w fun e w' => e = .returned (.tuple #[.string (bs t), .int .i64 r]) ∧ Below w.heap.size w w' :=
  (rput_any n wd w (by omega) (hid (by rw [Int.toNat_natCast]; exact hn.out))).mono fun e w' ⟨h1, h2⟩ => ⟨by rw [Int.toNat_natCast, H.out] at h1; exact h1, h2⟩
theorem spoct_at (n : Nat) (wd : Int) (w : World) {t : List UInt8} {r : Int} (H : Hid (putS n wd = (t, r))) :
    Calls Try.prog 62 #[.int .u64 n, .int .i64 wd] w fun e w' => e = .returned (.string (bs t)) ∧ Below w.heap.size w w' := by
  go_enter Try.func62, Try.ntmps62
  go_wp2_with fail
  refine (oput_at n wd _ H).mono ?_
  rintro e w1 ⟨rfl, hb1⟩
  go_wp2_with fail
  go_ret
  exact ⟨rfl, hb1⟩
theorem spwide_at (n : Nat) (w : World) {t : List UInt8} {r : Int} (H : Hid (putS n 8 = (t, r))) :
    Calls Try.prog 32 #[.int .u64 n] w fun e w' => e = .returned (.string (bs t)) ∧ Below w.heap.size w w' := by
  go_enter Try.func32, Try.ntmps32
  go_wp2_with fail
  refine (spoct_at n 8 _ H).mono ?_
  rintro e w1 ⟨rfl, hb1⟩
  go_wp2_with fail
  go_ret
  exact ⟨rfl, hb1⟩
theorem eight_at (n : Nat) (w : World) (hn : Hid (n < 18446744073709551616)) {t : List UInt8} {r : Int} (H : Hid (putS n 8 = (t, r))) :
    Calls Try.prog 36 #[.int .u64 n] w fun e w' => e = .returned (.string (bs t)) ∧ Below w.heap.size w w' := by
  go_enter Try.func36, Try.ntmps36
  go_wp2_with fail
  refine (srput_at n 8 _ hn H).mono ?_
  rintro e w1 ⟨rfl, hb1⟩
  go_wp2_with fail
  go_ret
  exact ⟨rfl, hb1⟩
theorem spnum_at (n : Nat) (w : World) (hn : n ≤ 1099511627776) {t : List UInt8} (H : Hid (vput n = t)) :
    Calls Try.prog 34 #[.int .i64 (n : Int)] w fun e w' => e = .returned (.string (bs t)) ∧ Below w.heap.size w w' := by
  have HN := hid (show n < 18446744073709551616 by omega)
  have hw := wrap_u64_nat n HN.out
  go_enter Try.func34, Try.ntmps34
  go_wp2_with fail
  refine (vput_any n _ HN).mono ?_
  rintro e w1 ⟨rfl, hb1⟩
  go_wp2_with fail
  go_ret
  exact ⟨by rw [H.out]; rfl, hb1⟩
theorem svput_at (n : Nat) (w : World) (hn : Hid (n < 18446744073709551616)) {t : List UInt8} (H : Hid (vput n = t)) :
    Calls Try.prog 63 #[.int .u64 n] w fun e w' => e = .returned (.string (bs t)) ∧ Below w.heap.size w w' :=
  (vput_any n w hn).mono fun e w' ⟨h1, h2⟩ => ⟨by rw [← H.out]; exact h1, h2⟩
theorem srvput_at (n : Nat) (w : World) (hn : Hid (n < 18446744073709551616)) {t : List UInt8} (H : Hid (vput n = t)) :
    Calls Try.prog 38 #[.int .u64 n] w fun e w' => e = .returned (.string (bs t)) ∧ Below w.heap.size w w' :=
  (rvput_any 9 n w (by omega) (hid ⟨Nat.lt_of_lt_of_le hn.out (by decide), hn.out⟩)).mono fun e w' ⟨h1, h2⟩ => ⟨by rw [← H.out]; exact h1, h2⟩
theorem svtext_at (l : List UInt8) (w : World) (hs : l.length ≤ 140737488351232) {t : List UInt8} (H : Hid (textS l = t)) :
    Calls Try.prog 33 #[.string (bs l)] w fun e w' => e = .returned (.string (bs t)) ∧ Below w.heap.size w w' :=
  (vtext_any l w hs).mono fun e w' ⟨h1, h2⟩ => ⟨by rw [← H.out]; exact h1, h2⟩
theorem srvtext_at (l : List UInt8) (w : World) (hs : l.length ≤ 140737488351232) {t : List UInt8} (H : Hid (textS l = t)) :
    Calls Try.prog 37 #[.string (bs l)] w fun e w' => e = .returned (.string (bs t)) ∧ Below w.heap.size w w' :=
  (rvtext_any l w hs).mono fun e w' ⟨h1, h2⟩ => ⟨by rw [← H.out]; exact h1, h2⟩
theorem sbyte_at (n : Nat) (w : World) {t : List UInt8} (H : Hid ([UInt8.ofNat (n % 256)] = t)) :
    Calls Try.prog 39 #[.int .u64 (n : Int)] w fun e w' => e = .returned (.string (bs t)) ∧ Below w.heap.size w w' :=
  (byte_any n w (by omega)).mono fun e w' ⟨h1, h2⟩ => ⟨by rw [← H.out]; exact h1, h2⟩
theorem sbyte0 (w : World) {t : List UInt8} (H : Hid ([UInt8.ofNat (0 % 256)] = t)) :
    Calls Try.prog 39 #[.int .u64 0] w fun e w' => e = .returned (.string (bs t)) ∧ Below w.heap.size w w' := sbyte_at 0 w H
theorem sbyte1 (w : World) {t : List UInt8} (H : Hid ([UInt8.ofNat (1 % 256)] = t)) :
    Calls Try.prog 39 #[.int .u64 1] w fun e w' => e = .returned (.string (bs t)) ∧ Below w.heap.size w w' := sbyte_at 1 w H
theorem spshade_at (z : Bool) (w : World) {t : List UInt8} (H : Hid (shB z = t)) :
    Calls Try.prog 35 #[.bool z] w fun e w' => e = .returned (.string (bs t)) ∧ Below w.heap.size w w' := by
  cases z
  · have H0 := hid (show putS 0 1 = (t, 0) by rw [← H.out]; rfl)
    have h0 := fun w => spoct_at 0 1 w H0
    go_enter Try.func35, Try.ntmps35
    go_wp2_with fail
    refine (h0 _).mono ?_
    rintro e w1 ⟨rfl, hb1⟩
    go_wp2_with fail
    go_ret
    exact ⟨rfl, hb1⟩
  · have H0 := hid (show putS 1 1 = (t, 0) by rw [← H.out]; rfl)
    have h0 := fun w => spoct_at 1 1 w H0
    go_enter Try.func35, Try.ntmps35
    go_wp2_with fail
    refine (h0 _).mono ?_
    rintro e w1 ⟨rfl, hb1⟩
    go_wp2_with fail
    go_ret
    exact ⟨rfl, hb1⟩
theorem keepA {w1 w' : World} {g : Nat} {a b c d : Nat} {nm : List UInt8} {st sq kd : Int} {sh : Bool} {x y : Int} (h : SB w1 g a b c d nm st sq kd sh x y) (hb : Below w1.heap.size w1 w') : w'.cell? ⟨g, 0, none⟩ = some (.int .u64 (a : Int)) ∧ w'.cell? ⟨g, 1, none⟩ = some (.int .u64 (b : Int)) ∧ w'.cell? ⟨g, 2, none⟩ = some (.int .u64 (c : Int)) ∧ w'.cell? ⟨g, 3, none⟩ = some (.int .u64 (d : Int)) ∧ w'.cell? ⟨g, 4, none⟩ = some (.string (bs nm)) ∧ Below w1.heap.size w1 w' := by
  have h1 := h.up hb
  exact ⟨Blk.cell h1 0, Blk.cell h1 1, Blk.cell h1 2, Blk.cell h1 3, Blk.cell h1 4, hb⟩
theorem keepB {w1 w' : World} {g : Nat} {a b c d : Nat} {nm : List UInt8} {st sq kd : Int} {sh : Bool} {x y : Int} (h : SB w1 g a b c d nm st sq kd sh x y) (hb : Below w1.heap.size w1 w') : w'.cell? ⟨g, 5, none⟩ = some (.int .i64 st) ∧ w'.cell? ⟨g, 6, none⟩ = some (.int .i64 sq) ∧ w'.cell? ⟨g, 7, none⟩ = some (.int .i64 kd) ∧ w'.cell? ⟨g, 8, none⟩ = some (.bool sh) ∧ Below w1.heap.size w1 w' := by
  have h1 := h.up hb
  exact ⟨Blk.cell h1 5, Blk.cell h1 6, Blk.cell h1 7, Blk.cell h1 8, hb⟩
theorem keepC {w1 w' : World} {g : Nat} {a b c d : Nat} {nm : List UInt8} {st sq kd : Int} {sh : Bool} {x y : Int} (h : SB w1 g a b c d nm st sq kd sh x y) (hb : Below w1.heap.size w1 w') : w'.cell? ⟨g, 9, none⟩ = some (.int .i64 x) ∧ w'.cell? ⟨g, 10, none⟩ = some (.int .i64 y) ∧ Below w1.heap.size w1 w' := by
  have h1 := h.up hb
  exact ⟨Blk.cell h1 9, Blk.cell h1 10, hb⟩
theorem keepAll {w1 w' : World} {g : Nat} {a b c d : Nat} {nm : List UInt8} {st sq kd : Int} {sh : Bool} {x y : Int} (h : SB w1 g a b c d nm st sq kd sh x y) (hb : Below w1.heap.size w1 w') : w'.cell? ⟨g, 0, none⟩ = some (.int .u64 (a : Int)) ∧ w'.cell? ⟨g, 1, none⟩ = some (.int .u64 (b : Int)) ∧ w'.cell? ⟨g, 2, none⟩ = some (.int .u64 (c : Int)) ∧ w'.cell? ⟨g, 3, none⟩ = some (.int .u64 (d : Int)) ∧ w'.cell? ⟨g, 4, none⟩ = some (.string (bs nm)) ∧ w'.cell? ⟨g, 5, none⟩ = some (.int .i64 st) ∧ w'.cell? ⟨g, 6, none⟩ = some (.int .i64 sq) ∧ w'.cell? ⟨g, 7, none⟩ = some (.int .i64 kd) ∧ w'.cell? ⟨g, 8, none⟩ = some (.bool sh) ∧ w'.cell? ⟨g, 9, none⟩ = some (.int .i64 x) ∧ w'.cell? ⟨g, 10, none⟩ = some (.int .i64 y) ∧ Below w1.heap.size w1 w' := by
  have h1 := h.up hb
  exact ⟨Blk.cell h1 0, Blk.cell h1 1, Blk.cell h1 2, Blk.cell h1 3, Blk.cell h1 4, Blk.cell h1 5, Blk.cell h1 6, Blk.cell h1 7, Blk.cell h1 8, Blk.cell h1 9, Blk.cell h1 10, hb⟩
set_option maxRecDepth 100000 in
set_option maxHeartbeats 8000000 in
theorem spwrite_ok (a b c d : Nat) (nm : List UInt8) (st sq kd : Int) (sh : Bool) (x y : Int) (w : World) (wd : Hid (a < 18446744073709551616 ∧ b < 18446744073709551616 ∧ c < 18446744073709551616 ∧ d < 18446744073709551616)) (hc : chkS ⟨a, b, c, d, nm, st, sq, kd, sh, x, y⟩ = 0) :
    Calls Try.prog 11 #[.agg #[.int .u64 (a : Int), .int .u64 (b : Int), .int .u64 (c : Int), .int .u64 (d : Int), .string (bs nm), .int .i64 st, .int .i64 sq, .int .i64 kd, .bool sh, .int .i64 x, .int .i64 y]] w fun e w' => e = .returned (.tuple #[.string (bs (writeS ⟨a, b, c, d, nm, st, sq, kd, sh, x, y⟩).1), .int .i64 0]) ∧ Below w.heap.size w w' := by
  obtain ⟨_, hn0, hr⟩ := chkS_ok hc
  have hnl : nm.length ≤ 32 := nameB_len hn0
  clear hn0
  rw [rngS, decide_eq_true_eq] at hr
  obtain ⟨r1, r2, r3, r4, r5, r6, r7, r8, r9, r10⟩ := hr
  simp only at r1 r2 r3 r4 r5 r6 r7 r8 r9 r10
  obtain ⟨n1, rfl⟩ := Int.eq_ofNat_of_zero_le r1
  obtain ⟨n2, rfl⟩ := Int.eq_ofNat_of_zero_le r3
  obtain ⟨n3, rfl⟩ := Int.eq_ofNat_of_zero_le r5
  obtain ⟨n4, rfl⟩ := Int.eq_ofNat_of_zero_le r7
  obtain ⟨n5, hn5⟩ : ∃ n5 : Nat, y - (n4 : Int) = n5 := ⟨(y - (n4 : Int)).toNat, by omega⟩
  have ln5 : n5 ≤ 1099511627776 := by omega
  have hsub : IntKind.i64.wrap (y - (n4 : Int)) = (n5 : Int) := by rw [hn5]; exact IntWalk.i64_in _ (by omega)
  obtain ⟨wa, wb, wc, wdd⟩ := wd.out
  obtain ⟨ta, hta⟩ : ∃ t, be 8 a = t := ⟨_, rfl⟩
  obtain ⟨tb, htb⟩ : ∃ t, be 8 b = t := ⟨_, rfl⟩
  obtain ⟨tc, htc⟩ : ∃ t, be 8 c = t := ⟨_, rfl⟩
  obtain ⟨td, htd⟩ : ∃ t, be 8 d = t := ⟨_, rfl⟩
  obtain ⟨tn, htn⟩ : ∃ t, textS nm = t := ⟨_, rfl⟩
  obtain ⟨t1, ht1⟩ : ∃ t, vput n1 = t := ⟨_, rfl⟩
  obtain ⟨t2, ht2⟩ : ∃ t, vput n2 = t := ⟨_, rfl⟩
  obtain ⟨t3, ht3⟩ : ∃ t, vput n3 = t := ⟨_, rfl⟩
  obtain ⟨ts, hts⟩ : ∃ t, shB sh = t := ⟨_, rfl⟩
  obtain ⟨t4, ht4⟩ : ∃ t, vput n4 = t := ⟨_, rfl⟩
  obtain ⟨t5, ht5⟩ : ∃ t, vput n5 = t := ⟨_, rfl⟩
  have lta : ta.length ≤ 8 := by rw [← hta, be_length]; omega
  have ltb : tb.length ≤ 8 := by rw [← htb, be_length]; omega
  have ltc : tc.length ≤ 8 := by rw [← htc, be_length]; omega
  have ltd : td.length ≤ 8 := by rw [← htd, be_length]; omega
  have ltn : tn.length ≤ 42 := by rw [← htn, textS, List.length_append]; have := (vput_length_le nm.length).2; omega
  have lt1 : t1.length ≤ 10 := by rw [← ht1]; exact (vput_length_le _).2
  have lt2 : t2.length ≤ 10 := by rw [← ht2]; exact (vput_length_le _).2
  have lt3 : t3.length ≤ 10 := by rw [← ht3]; exact (vput_length_le _).2
  have lts : ts.length ≤ 1 := by rw [← hts]; exact Nat.le_refl 1
  have lt4 : t4.length ≤ 10 := by rw [← ht4]; exact (vput_length_le _).2
  have lt5 : t5.length ≤ 10 := by rw [← ht5]; exact (vput_length_le _).2
  have HW := hid (show writeS ⟨a, b, c, d, nm, (n1 : Int), (n2 : Int), (n3 : Int), sh, (n4 : Int), y⟩ = (ta ++ (tb ++ (tc ++ (td ++ (tn ++ (t1 ++ (t2 ++ (t3 ++ (ts ++ (t4 ++ t5))))))))), 0) by
    rw [writeS, if_pos hc]
    simp only [bytesS, Int.toNat_natCast, hn5, hta, htb, htc, htd, htn, ht1, ht2, ht3, hts, ht4, ht5])
  have Pa := hid (show putS a 8 = (ta, 0) by rw [← hta]; exact put8 wa)
  have Pb := hid (show putS b 8 = (tb, 0) by rw [← htb]; exact put8 wb)
  have Pc := hid (show putS c 8 = (tc, 0) by rw [← htc]; exact put8 wc)
  have Pd := hid (show putS d 8 = (td, 0) by rw [← htd]; exact put8 wdd)
  have Pn := hid htn
  have P1 := hid ht1
  have P2 := hid ht2
  have P3 := hid ht3
  have P4 := hid ht4
  have P5 := hid ht5
  have Ps := hid hts
  have HC := hid hc
  clear hc hn5 hta htb htc htd htn ht1 ht2 ht3 hts ht4 ht5
  have hb0 := sbelow_new w (.cells #[.int .u64 (a : Int), .int .u64 (b : Int), .int .u64 (c : Int), .int .u64 (d : Int), .string (bs nm), .int .i64 (n1 : Int), .int .i64 (n2 : Int), .int .i64 (n3 : Int), .bool sh, .int .i64 (n4 : Int), .int .i64 y] 26)
  have hs0 := SB.new w a b c d nm n1 n2 n3 sh n4 y
  go_enter Try.func11, Try.ntmps11
  go_wp2_with fail
  generalize w.alloc (.cells #[.int .u64 (a : Int), .int .u64 (b : Int), .int .u64 (c : Int), .int .u64 (d : Int), .string (bs nm), .int .i64 (n1 : Int), .int .i64 (n2 : Int), .int .i64 (n3 : Int), .bool sh, .int .i64 (n4 : Int), .int .i64 y] 26) = v0 at *
  obtain ⟨k0, k1, k2, k3, k4, k5, k6, k7, k8, k9, k10⟩ := hs0.cells
  go_wp2_with fail
  refine (spcheck_at a b c d nm n1 n2 n3 sh n4 y _ (by omega) HC).mono ?_
  rintro e w1 ⟨rfl, hb1⟩
  have hs1 := hs0.up hb1
  have hb2 := sbelow_step hb0 hb1
  clear k0 k1 k2 k3 k4 k5 k6 k7 k8 k9 k10 hb0 hb1 hs0
  go_wp2_with fail
  have hz : Below w1.heap.size w1 w1.drew := (Below.refl _ _).drew
  have u1 : ¬ 9223372036854775807 < ta.length + tb.length := by omega
  have u2 : ¬ 9223372036854775807 < ta.length + tb.length + tc.length := by omega
  have u3 : ¬ 9223372036854775807 < ta.length + (tb.length + tc.length) + td.length := by omega
  have u4 : ¬ 9223372036854775807 < ta.length + (tb.length + (tc.length + td.length)) + tn.length := by omega
  go_region_held3 (fun w' => w'.cell? ⟨w.heap.size, 0, none⟩ = some (.int .u64 (a : Int)) ∧ w'.cell? ⟨w.heap.size, 1, none⟩ = some (.int .u64 (b : Int)) ∧ w'.cell? ⟨w.heap.size, 2, none⟩ = some (.int .u64 (c : Int)) ∧ w'.cell? ⟨w.heap.size, 3, none⟩ = some (.int .u64 (d : Int)) ∧ w'.cell? ⟨w.heap.size, 4, none⟩ = some (.string (bs nm)) ∧ Below w1.heap.size w1 w') (first | exact keepA hs1 hz | exact keepA hs1 (hz.trans (Below.mono (by assumption) hz.size))) (first
    | (go_at_call 32
       first
         | ((with_reducible refine (spwide_at a _ Pa).mono ?_); rintro e w3 ⟨rfl, hy⟩)
         | ((with_reducible refine (spwide_at b _ Pb).mono ?_); rintro e w3 ⟨rfl, hy⟩)
         | ((with_reducible refine (spwide_at c _ Pc).mono ?_); rintro e w3 ⟨rfl, hy⟩)
         | ((with_reducible refine (spwide_at d _ Pd).mono ?_); rintro e w3 ⟨rfl, hy⟩)
       have hz := hz.trans (hy.mono hz.size))
    | (go_at_call 33
       ((with_reducible refine (svtext_at nm _ (by omega) Pn).mono ?_); rintro e w3 ⟨rfl, hy⟩)
       have hz := hz.trans (hy.mono hz.size)))
  all_goals
    have hs2 := hs1.up hz
    have hb3 := sbelow_step hb2 hz
    have lwho : (ta ++ (tb ++ (tc ++ (td ++ tn)))).length ≤ 100 := by simp only [List.length_append]; omega
    have HW2 := hid (show writeS ⟨a, b, c, d, nm, (n1 : Int), (n2 : Int), (n3 : Int), sh, (n4 : Int), y⟩ = ((ta ++ (tb ++ (tc ++ (td ++ tn)))) ++ (t1 ++ (t2 ++ (t3 ++ (ts ++ (t4 ++ t5))))), 0) by rw [HW.out]; simp)
    clear hz hb2 hs1 HW u1 u2 u3 u4 Pa Pb Pc Pd Pn
    generalize ta ++ (tb ++ (tc ++ (td ++ tn))) = who at *
    go_wp2_with fail
    have hz : Below w3.heap.size w3 w3.drew := (Below.refl _ _).drew
    have u1 : ¬ 9223372036854775807 < t1.length + t2.length := by omega
    have u2 : ¬ 9223372036854775807 < t1.length + t2.length + t3.length := by omega
    have u3 : ¬ 9223372036854775807 < t1.length + (t2.length + t3.length) + ts.length := by omega
    go_region_held3 (fun w' => w'.cell? ⟨w.heap.size, 5, none⟩ = some (.int .i64 (n1 : Int)) ∧ w'.cell? ⟨w.heap.size, 6, none⟩ = some (.int .i64 (n2 : Int)) ∧ w'.cell? ⟨w.heap.size, 7, none⟩ = some (.int .i64 (n3 : Int)) ∧ w'.cell? ⟨w.heap.size, 8, none⟩ = some (.bool sh) ∧ Below w3.heap.size w3 w') (first | exact keepB hs2 hz | exact keepB hs2 (hz.trans (Below.mono (by assumption) hz.size))) (first
      | (go_at_call 34
         first
           | ((with_reducible refine (spnum_at n1 _ (by omega) P1).mono ?_); rintro e w4 ⟨rfl, hy⟩)
           | ((with_reducible refine (spnum_at n2 _ (by omega) P2).mono ?_); rintro e w4 ⟨rfl, hy⟩)
           | ((with_reducible refine (spnum_at n3 _ (by omega) P3).mono ?_); rintro e w4 ⟨rfl, hy⟩)
         have hz := hz.trans (hy.mono hz.size))
      | (go_at_call 35
         ((with_reducible refine (spshade_at sh _ Ps).mono ?_); rintro e w4 ⟨rfl, hy⟩)
         have hz := hz.trans (hy.mono hz.size)))
    all_goals
      have hs3 := hs2.up hz
      have hb4 := sbelow_step hb3 hz
      have lwhat : (t1 ++ (t2 ++ (t3 ++ ts))).length ≤ 100 := by simp only [List.length_append]; omega
      have HW3 := hid (show writeS ⟨a, b, c, d, nm, (n1 : Int), (n2 : Int), (n3 : Int), sh, (n4 : Int), y⟩ = ((who ++ (t1 ++ (t2 ++ (t3 ++ ts)))) ++ (t4 ++ t5), 0) by rw [HW2.out]; simp)
      clear hz hb3 hs2 HW2 u1 u2 u3 P1 P2 P3 Ps
      generalize t1 ++ (t2 ++ (t3 ++ ts)) = what at *
      go_wp2_with fail
      have hz : Below w4.heap.size w4 w4.drew := (Below.refl _ _).drew
      have HW4 := hid (show writeS ⟨a, b, c, d, nm, (n1 : Int), (n2 : Int), (n3 : Int), sh, (n4 : Int), y⟩ = (who ++ (what ++ (t4 ++ t5)), 0) by rw [HW3.out]; simp)
      have u1 : ¬ 9223372036854775807 < who.length + what.length := by omega
      have u2 : ¬ 9223372036854775807 < who.length + what.length + t4.length := by omega
      have u3 : ¬ 9223372036854775807 < who.length + (what.length + t4.length) + t5.length := by omega
      go_region_held3 (fun w' => w'.cell? ⟨w.heap.size, 9, none⟩ = some (.int .i64 (n4 : Int)) ∧ w'.cell? ⟨w.heap.size, 10, none⟩ = some (.int .i64 y) ∧ Below w4.heap.size w4 w') (first | exact keepC hs3 hz | exact keepC hs3 (hz.trans (Below.mono (by assumption) hz.size))) (first
        | (go_at_call 34
           first
             | ((with_reducible refine (spnum_at n4 _ (by omega) P4).mono ?_); rintro e w5 ⟨rfl, hy⟩)
             | ((with_reducible refine (spnum_at n5 _ (by omega) P5).mono ?_); rintro e w5 ⟨rfl, hy⟩)
           have hz := hz.trans (hy.mono hz.size)))
      all_goals
        go_wp2_with fail
        go_returns
        exact ⟨by rw [HW4.out]; rfl, sbelow_step hb4 hz⟩
end Go.Proofs.Ytgpioafkahoahaa
