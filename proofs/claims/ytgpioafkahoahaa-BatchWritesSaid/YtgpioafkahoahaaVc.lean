import Derived.Test.YtgpioafkahoahaaVb
namespace Go.Proofs.Ytgpioafkahoahaa
set_option linter.unusedVariables false
open Go.RowKit

theorem vgetS_arg {l : List UInt8} {a : Int} (h : a < 0) : vgetS l a = (0, 0, 2) := by rw [vgetS, if_pos h]
theorem vgetS_far {l : List UInt8} {a : Int} (h : ¬ a < 0) (h2 : (l.length : Int) < a) : vgetS l a = (0, 0, 5) := by rw [vgetS, if_neg h, if_pos h2]
theorem vgetS_in {l : List UInt8} {a : Nat} (h : a ≤ l.length) {n s : Nat} {e : Int} (hv : vg 0 0 (l.drop a) = (n, s, e)) : vgetS l a = if e = 0 then (n, ((a + s : Nat) : Int), 0) else (0, 0, e) := by
  rw [vgetS, if_neg (by omega), if_neg (by omega), Int.toNat_natCast, hv]
  simp
theorem vgetS_cases (l : List UInt8) (a : Int) : ((vgetS l a).2.2 = 0 ∧ 0 ≤ a ∧ a < (vgetS l a).2.1 ∧ (vgetS l a).2.1 ≤ l.length ∧ (vgetS l a).2.1 ≤ a + 10) ∨ vgetS l a = (0, 0, 2) ∨ vgetS l a = (0, 0, 3) ∨ vgetS l a = (0, 0, 5) := by
  by_cases h : a < 0
  · exact Or.inr (Or.inl (vgetS_arg h))
  · by_cases h2 : (l.length : Int) < a
    · exact Or.inr (Or.inr (Or.inr (vgetS_far h h2)))
    · obtain ⟨a, rfl⟩ := Int.eq_ofNat_of_zero_le (show 0 ≤ a by omega)
      have hv : vg 0 0 (l.drop a) = ((vg 0 0 (l.drop a)).1, (vg 0 0 (l.drop a)).2.1, (vg 0 0 (l.drop a)).2.2) := rfl
      rw [vgetS_in (by omega) hv]
      rcases vg_cases (l.drop a) 0 0 (by omega) with ⟨g1, g2, g3, g4⟩ | g | g
      · left
        rw [if_pos g1]
        rw [List.length_drop] at g3
        refine ⟨rfl, by omega, ?_, ?_, ?_⟩ <;> simp <;> omega
      · rw [g]; right; right; left; rfl
      · rw [g]; right; right; right; rfl

set_option maxRecDepth 100000 in
set_option maxHeartbeats 1000000 in
theorem vget_any (l : List UInt8) (at' : Int) (w : World) (hs : l.length ≤ 9223372036854775807) :
    Calls Try.prog 80 #[.string (bs l), .int .i64 at'] w fun e w' => e = .returned (.tuple #[.int .u64 (vgetS l at').1, .int .i64 (vgetS l at').2.1, .int .i64 (vgetS l at').2.2]) ∧ w = w' := by
  by_cases h : at' < 0
  · rw [vgetS_arg h]
    go_enter Try.func80, Try.ntmps80
    go_wp2_with fail
    go_ret3
    exact ⟨rfl, rfl⟩
  by_cases h2 : (l.length : Int) < at'
  · rw [vgetS_far h h2]
    go_enter Try.func80, Try.ntmps80
    go_wp2_with fail
    go_ret3
    exact ⟨rfl, rfl⟩
  obtain ⟨at', rfl⟩ := Int.eq_ofNat_of_zero_le (show 0 ≤ at' by omega)
  have h3 : at' ≤ l.length := by omega
  clear h h2
  obtain ⟨n, s, e0, hv⟩ : ∃ n s e0, vg 0 0 (l.drop at') = (n, s, e0) := ⟨_, _, _, rfl⟩
  have hle : e0 = 0 → s + at' ≤ l.length := by
    intro h0; subst h0
    rcases vg_cases (l.drop at') 0 0 (by omega) with ⟨g1, g2, g3, g4⟩ | g | g
    · rw [hv] at g3; rw [List.length_drop] at g3; simp at g3; omega
    · rw [hv] at g; simp at g
    · rw [hv] at g; simp at g
  rw [vgetS_in h3 hv]
  have hx : (bs l).extract at' l.length = bs (l.drop at') := by rw [bs_extract, List.take_of_length_le (by simp)]
  have HV := hid hv
  clear hv
  by_cases he : e0 = 0
  · subst he
    have hle' := hle rfl
    have hle2 : (at' : Int) + (s : Int) ≤ 9223372036854775807 := by omega
    clear hle
    rw [if_pos rfl]
    go_enter Try.func80, Try.ntmps80
    go_wp2_with fail
    refine (first_any _ _ (by rw [List.length_drop]; omega)).mono ?_
    rintro e w1 ⟨⟨n', rfl, hn⟩, rfl⟩
    have hn' := hn (by rw [HV.out])
    rw [hn', HV.out]
    clear hn hn'
    go_wp2_with fail
    go_ret3
    refine ⟨?_, rfl⟩
    show Ending.returned (.tuple #[.int .u64 n, .int .i64 ((at' : Int) + s), .int .i64 0]) = _
    rw [Int.natCast_add]
  · rw [if_neg he]
    have hb : (e0 == 0) = false := by simpa using he
    have hb2 : (e0 != 0) = true := by simpa using he
    clear hle he
    go_enter Try.func80, Try.ntmps80
    go_wp2_with fail
    refine (first_any _ _ (by rw [List.length_drop]; omega)).mono ?_
    rintro e w1 ⟨⟨n', rfl, hn⟩, rfl⟩
    rw [HV.out]
    clear hn
    go_wp2_with fail
    go_ret3
    exact ⟨rfl, rfl⟩

theorem leafR_err {l : List UInt8} {a : Nat} (h : a ≤ l.length) {e : Int} (hv : vg 0 0 (l.drop a) = (0, 0, e)) (he : e ≠ 0) : vgetS l a = (0, 0, e) := by rw [vgetS_in h hv, if_neg he]
theorem leafR_ok {l : List UInt8} {a : Nat} (h : a ≤ l.length) {n s : Nat} (hv : vg 0 0 (l.drop a) = (n, s, 0)) : vgetS l a = (n, ((a + s : Nat) : Int), 0) := by rw [vgetS_in h hv, if_pos rfl]
theorem ret_ok {X Y : Int} {n s : Nat} (hx : X = n) (hy : Y = s) : Ending.returned (.tuple #[.int .u64 X, .int .i64 Y, .int .i64 0]) = .returned (.tuple #[.int .u64 n, .int .i64 s, .int .i64 0]) := by rw [hx, hy]
theorem B_bound {k : Nat} (h : k ≤ 9) : 128 ^ k ≤ 9223372036854775808 := by
  have h1 : 128 ^ k ≤ 128 ^ 9 := pow_128_le h
  have h2 : (128 : Nat) ^ 9 = 9223372036854775808 := by decide
  omega
theorem rstep {m B c k : Nat} (hB : B = 128 ^ k) (hm : m < 128 ^ k) (hk : k ≤ 9) (hc : c < 128) (hc9 : k = 9 → c ≤ 1) :
    IntKind.u64.wrap ((m : Int) + IntKind.u64.wrap ((B : Int) * (c : Int))) = ((m + 128 ^ k * c : Nat) : Int) := by
  subst hB
  have hb := B_bound hk
  have h1 : 128 ^ k * c ≤ 9223372036854775808 := by
    by_cases h9 : k = 9
    · have := hc9 h9
      have h2 : 128 ^ k * c ≤ 128 ^ k * 1 := Nat.mul_le_mul_left _ this
      omega
    · have h2 : 128 ^ k ≤ 128 ^ 8 := pow_128_le (by omega)
      have h3 : (128 : Nat) ^ 8 = 72057594037927936 := by decide
      have h4 : 128 ^ k * c ≤ 72057594037927936 * 127 := Nat.mul_le_mul (by omega) (by omega)
      omega
  rw [← Int.natCast_mul, wrap_u64_nat _ (by omega), ← Int.natCast_add, wrap_u64_nat _ (by omega)]
theorem rstep0 {m c k : Nat} (hm : m < 128 ^ k) (hk : k ≤ 9) (hc : c = 0) : IntKind.u64.wrap (m : Int) = ((m + 128 ^ k * c : Nat) : Int) := by
  subst hc
  have hb := B_bound hk
  rw [wrap_u64_nat _ (by omega)]; simp
theorem rstep2 {m B c k : Nat} (hB : B = 128 ^ k) (hm : m < 128 ^ k) (hk : k ≤ 8) (hc : 128 ≤ c) (hc2 : c < 256) :
    IntKind.u64.wrap ((m : Int) + IntKind.u64.wrap ((B : Int) * ((c : Int) - 128))) = ((m + 128 ^ k * (c - 128) : Nat) : Int) := by
  rw [← rstep hB hm (by omega) (show c - 128 < 128 by omega) (by omega), show ((c - 128 : Nat) : Int) = (c : Int) - 128 from by omega]
theorem rstepB {B k : Nat} (hB : B = 128 ^ k) (hk : k ≤ 8) : IntKind.u64.wrap ((B : Int) * 128) = ((128 ^ (k + 1) : Nat) : Int) := by
  subst hB
  have hb := B_bound (k := k + 1) (by omega)
  rw [show ((128 ^ k : Nat) : Int) * 128 = ((128 ^ (k + 1) : Nat) : Int) from by rw [Nat.pow_succ]; simp, wrap_u64_nat _ (by omega)]

set_option maxRecDepth 100000 in
set_option maxHeartbeats 4000000 in
theorem rvget_any (l : List UInt8) (at' : Int) (w : World) (hs : l.length ≤ 9223372036854775807) (ha : at' ≤ 9223372036854775807) :
    Calls Try.prog 73 #[.string (bs l), .int .i64 at'] w fun e w' => e = .returned (.tuple #[.int .u64 (vgetS l at').1, .int .i64 (vgetS l at').2.1, .int .i64 (vgetS l at').2.2]) ∧ w = w' := by
  by_cases h : at' < 0
  · rw [vgetS_arg h]
    go_enter Try.func73, Try.ntmps73
    go_wp2_with fail
    go_ret3
    exact ⟨rfl, rfl⟩
  obtain ⟨at', rfl⟩ := Int.eq_ofNat_of_zero_le (show 0 ≤ at' by omega)
  clear h
  by_cases h2 : l.length < at'
  · rw [vgetS_far (by omega) (by omega)]
    go_enter Try.func73, Try.ntmps73
    go_wp2_with fail
    refine wp_loop_rounds 1 ?_
    rw [rounds_succ]
    go_wp2_with fail
    go_ret3
    exact ⟨rfl, rfl⟩
  have h3 : at' ≤ l.length := by omega
  clear h2
  have H3 := hid h3
  go_enter Try.func73, Try.ntmps73
  go_wp2_with fail
  go_loop [7, 8, 9] (fun n0 b0 i => ∃ k m B : Nat, k ≤ 9 ∧ Hid (B = 128 ^ k ∧ m < 128 ^ k ∧ vg k m (l.drop (at' + k)) = vg 0 0 (l.drop at')) ∧ n0 = .int .u64 m ∧ b0 = .int .u64 B ∧ i = .int .i64 k) (fun _ _ i => 10 - (intOf i).toNat)
  case atStart => exact ⟨0, 0, 1, by omega, hid ⟨rfl, by decide, rfl⟩, rfl, rfl, rfl⟩
  case round =>
    obtain ⟨k, m, B, hk, Hm, rfl, rfl, rfl⟩ := hrel
    by_cases hlt : at' + k < l.length
    · have Hd : Hid (vg k m (l.drop (at' + k)) = vg k m (l[at' + k] :: l.drop (at' + k + 1))) := hid (vg_drop l (at' + k) k m hlt)
      have hc := UInt8.toNat_lt l[at' + k]
      go_wp2_with fail
      all_goals first
        | (go_round
           case rel => exact ⟨k + 1, m + 128 ^ k * (l[at' + k].toNat - 128), 128 ^ (k + 1), by omega, hid ⟨rfl, vg_lt_step Hm.out.2.1 (by omega), by rw [← Hm.out.2.2, Hd.out, vg_more (by omega) (by omega) (by omega)]; rfl⟩, by rw [rstep2 Hm.out.1 Hm.out.2.1 (by omega) (by omega) hc], by rw [rstepB Hm.out.1 (by omega)], by go_num⟩
           case measure => simp [intOf]; omega)
        | (go_ret3
           exact ⟨by rw [leafR_err H3.out (by rw [← Hm.out.2.2, Hd.out, vg_form (by omega)]) (by decide)]; rfl, rfl⟩)
        | (go_ret3
           exact ⟨by rw [leafR_ok H3.out (by rw [← Hm.out.2.2, Hd.out, vg_end (by omega) (by omega)])]; exact ret_ok (rstep Hm.out.1 Hm.out.2.1 hk (by omega) (by omega)) (by omega), rfl⟩)
        | (go_ret3
           exact ⟨by rw [leafR_ok H3.out (by rw [← Hm.out.2.2, Hd.out, vg_end (by omega) (by omega)])]; exact ret_ok (rstep0 Hm.out.2.1 hk (by omega)) (by omega), rfl⟩)
    · have Hd : Hid (l.drop (at' + k) = []) := hid (List.drop_eq_nil_of_le (by omega))
      go_wp2_with fail
      all_goals
        go_ret3
        exact ⟨by rw [leafR_err H3.out (by rw [← Hm.out.2.2, Hd.out, vg_nil]) (by decide)]; rfl, rfl⟩

/-- Text, Take, as the document says. -/
def textS (l : List UInt8) : List UInt8 := vput l.length ++ l
def takeS (l : List UInt8) (a most : Int) : List UInt8 × Int × Int :=
  if (vgetS l a).2.2 ≠ 0 then ([], 0, (vgetS l a).2.2)
  else if most < 0 ∨ most < (vgetS l a).1 then ([], 0, 6)
  else if (l.length : Int) - (vgetS l a).2.1 < (vgetS l a).1 then ([], 0, 5)
  else ((l.drop (vgetS l a).2.1.toNat).take (vgetS l a).1, (vgetS l a).2.1 + (vgetS l a).1, 0)

set_option maxRecDepth 100000 in
set_option maxHeartbeats 1000000 in
theorem vtext_any (l : List UInt8) (w : World) (hs : l.length ≤ 140737488351232) :
    Calls Try.prog 33 #[.string (bs l)] w fun e w' => e = .returned (.string (bs (textS l))) ∧ Below w.heap.size w w' := by
  have hl := vput_length_le l.length
  go_enter Try.func33, Try.ntmps33
  go_wp2_with fail
  refine (vput_any _ _ (hid (by omega))).mono ?_
  rintro e w1 ⟨rfl, hb1⟩
  go_wp2_with fail
  go_ret
  exact ⟨rfl, hb1⟩

set_option maxRecDepth 100000 in
set_option maxHeartbeats 1000000 in
theorem rvtext_any (l : List UInt8) (w : World) (hs : l.length ≤ 140737488351232) :
    Calls Try.prog 37 #[.string (bs l)] w fun e w' => e = .returned (.string (bs (textS l))) ∧ Below w.heap.size w w' := by
  have hl := vput_length_le l.length
  go_enter Try.func37, Try.ntmps37
  go_wp2_with fail
  refine (rvput_any 9 _ _ (by omega) (hid ⟨Nat.lt_of_le_of_lt hs (by decide), by omega⟩)).mono ?_
  rintro e w1 ⟨rfl, hb1⟩
  rw [show vf 9 l.length = vput l.length from rfl]
  go_wp2_with fail
  go_ret
  exact ⟨rfl, hb1⟩

set_option maxRecDepth 100000 in
set_option maxHeartbeats 2000000 in
theorem vtake_any (l : List UInt8) (a most : Int) (w : World) (hs : l.length ≤ 140737488351232) (ha : a ≤ 9223372036854775807) (hm : most ≤ 9223372036854775807) :
    Calls Try.prog 86 #[.string (bs l), .int .i64 a, .int .i64 most] w fun e w' => e = .returned (.tuple #[.string (bs (takeS l a most).1), .int .i64 (takeS l a most).2.1, .int .i64 (takeS l a most).2.2]) ∧ w = w' := by
  have hc := vgetS_cases l a
  obtain ⟨n, x, e0, hv⟩ : ∃ n x e0, vgetS l a = (n, x, e0) := ⟨_, _, _, rfl⟩
  rw [hv] at hc
  simp only [Prod.mk.injEq] at hc
  have hts : takeS l a most = if e0 ≠ 0 then ([], 0, e0) else if most < 0 ∨ most < n then ([], 0, 6) else if (l.length : Int) - x < n then ([], 0, 5) else ((l.drop x.toNat).take n, x + n, 0) := by rw [takeS, hv]
  have HV := hid hv
  clear hv
  by_cases he : e0 = 0
  · have hx : 0 ≤ a ∧ a < x ∧ x ≤ l.length := by omega
    subst he
    obtain ⟨x, rfl⟩ := Int.eq_ofNat_of_zero_le (show 0 ≤ x by omega)
    obtain ⟨hx1, hx2, hx3⟩ := hx
    clear hc
    rw [if_neg (by simp)] at hts
    by_cases h1 : most < 0 ∨ most < n
    · rw [if_pos h1] at hts
      rw [hts]
      clear hts
      go_enter Try.func86, Try.ntmps86
      go_wp2_with fail
      refine (vget_any _ _ _ (by omega)).mono ?_
      rintro e w1 ⟨rfl, rfl⟩
      rw [HV.out]
      go_wp2_with fail
      all_goals
        go_ret3
        exact ⟨rfl, rfl⟩
    · rw [if_neg h1] at hts
      have h1' : 0 ≤ most ∧ (n : Int) ≤ most := by omega
      obtain ⟨h2, h3⟩ := h1'
      clear h1
      by_cases h4 : (l.length : Int) - x < n
      · rw [if_pos h4] at hts
        rw [hts]
        clear hts
        go_enter Try.func86, Try.ntmps86
        go_wp2_with fail
        refine (vget_any _ _ _ (by omega)).mono ?_
        rintro e w1 ⟨rfl, rfl⟩
        rw [HV.out]
        go_wp2_with fail
        all_goals
          go_ret3
          exact ⟨rfl, rfl⟩
      · rw [if_neg h4] at hts
        rw [hts, Int.toNat_natCast]
        clear hts
        have h5 : x + n ≤ l.length := by omega
        have hcut : (bs l).extract x (x + n) = bs ((l.drop x).take n) := by rw [bs_extract]; congr 2; omega
        have HC := hid hcut
        clear hcut
        go_enter Try.func86, Try.ntmps86
        go_wp2_with fail
        refine (vget_any _ _ _ (by omega)).mono ?_
        rintro e w1 ⟨rfl, rfl⟩
        rw [HV.out]
        go_wp2_with fail
        all_goals
          go_ret3
          exact ⟨by rw [← HC.out]; rfl, rfl⟩
  · rw [if_pos he] at hts
    rw [hts]
    have hb : (e0 == 0) = false := by simpa using he
    have hb2 : (e0 != 0) = true := by simpa using he
    clear hts he hc
    go_enter Try.func86, Try.ntmps86
    go_wp2_with fail
    refine (vget_any _ _ _ (by omega)).mono ?_
    rintro e w1 ⟨rfl, rfl⟩
    rw [HV.out]
    go_wp2_with fail
    all_goals
      go_ret3
      exact ⟨rfl, rfl⟩

set_option maxRecDepth 100000 in
set_option maxHeartbeats 2000000 in
theorem rvtake_any (l : List UInt8) (a most : Int) (w : World) (hs : l.length ≤ 140737488351232) (ha : a ≤ 9223372036854775807) (hm : most ≤ 9223372036854775807) :
    Calls Try.prog 47 #[.string (bs l), .int .i64 a, .int .i64 most] w fun e w' => e = .returned (.tuple #[.string (bs (takeS l a most).1), .int .i64 (takeS l a most).2.1, .int .i64 (takeS l a most).2.2]) ∧ w = w' := by
  have hc := vgetS_cases l a
  obtain ⟨n, x, e0, hv⟩ : ∃ n x e0, vgetS l a = (n, x, e0) := ⟨_, _, _, rfl⟩
  rw [hv] at hc
  simp only [Prod.mk.injEq] at hc
  have hts : takeS l a most = if e0 ≠ 0 then ([], 0, e0) else if most < 0 ∨ most < n then ([], 0, 6) else if (l.length : Int) - x < n then ([], 0, 5) else ((l.drop x.toNat).take n, x + n, 0) := by rw [takeS, hv]
  have HV := hid hv
  clear hv
  by_cases he : e0 = 0
  · have hx : 0 ≤ a ∧ a < x ∧ x ≤ l.length := by omega
    subst he
    obtain ⟨x, rfl⟩ := Int.eq_ofNat_of_zero_le (show 0 ≤ x by omega)
    obtain ⟨hx1, hx2, hx3⟩ := hx
    clear hc
    rw [if_neg (by simp)] at hts
    by_cases h1 : most < 0 ∨ most < n
    · rw [if_pos h1] at hts
      rw [hts]
      clear hts
      go_enter Try.func47, Try.ntmps47
      go_wp2_with fail
      refine (rvget_any _ _ _ (by omega) ha).mono ?_
      rintro e w1 ⟨rfl, rfl⟩
      rw [HV.out]
      go_wp2_with fail
      all_goals
        go_ret3
        exact ⟨rfl, rfl⟩
    · rw [if_neg h1] at hts
      have h1' : 0 ≤ most ∧ (n : Int) ≤ most := by omega
      obtain ⟨h2, h3⟩ := h1'
      clear h1
      by_cases h4 : (l.length : Int) - x < n
      · rw [if_pos h4] at hts
        rw [hts]
        clear hts
        go_enter Try.func47, Try.ntmps47
        go_wp2_with fail
        refine (rvget_any _ _ _ (by omega) ha).mono ?_
        rintro e w1 ⟨rfl, rfl⟩
        rw [HV.out]
        go_wp2_with fail
        all_goals
          go_ret3
          exact ⟨rfl, rfl⟩
      · rw [if_neg h4] at hts
        rw [hts, Int.toNat_natCast]
        clear hts
        have h5 : x + n ≤ l.length := by omega
        have hcut : (bs l).extract x (x + n) = bs ((l.drop x).take n) := by rw [bs_extract]; congr 2; omega
        have HC := hid hcut
        clear hcut
        go_enter Try.func47, Try.ntmps47
        go_wp2_with fail
        refine (rvget_any _ _ _ (by omega) ha).mono ?_
        rintro e w1 ⟨rfl, rfl⟩
        rw [HV.out]
        go_wp2_with fail
        all_goals
          go_ret3
          exact ⟨by rw [← HC.out]; rfl, rfl⟩
  · rw [if_pos he] at hts
    rw [hts]
    have hb : (e0 == 0) = false := by simpa using he
    have hb2 : (e0 != 0) = true := by simpa using he
    clear hts he hc
    go_enter Try.func47, Try.ntmps47
    go_wp2_with fail
    refine (rvget_any _ _ _ (by omega) ha).mono ?_
    rintro e w1 ⟨rfl, rfl⟩
    rw [HV.out]
    go_wp2_with fail
    all_goals
      go_ret3
      exact ⟨rfl, rfl⟩
end Go.Proofs.Ytgpioafkahoahaa
