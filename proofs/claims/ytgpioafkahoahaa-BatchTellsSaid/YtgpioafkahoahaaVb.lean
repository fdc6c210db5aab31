import Derived.Test.YtgpioafkahoahaaVa
namespace Go.Proofs.Ytgpioafkahoahaa
set_option linter.unusedVariables false
open Go.RowKit

theorem ofNat_mod256 (m : Nat) : UInt8.ofNat (m % 256) = UInt8.ofNat m := by
  apply UInt8.toNat_inj.1; rw [UInt8.toNat_ofNat', UInt8.toNat_ofNat']; omega
set_option maxRecDepth 100000 in
set_option maxHeartbeats 1000000 in
theorem rvput_any (k : Nat) : ∀ (n : Nat) (w : World), k ≤ 9 → Hid (n < 128 ^ (k + 1) ∧ n < 18446744073709551616) →
    Calls Try.prog 38 #[.int .u64 n] w fun e w' => e = .returned (.string (bs (vf k n))) ∧ Below w.heap.size w w' := by
  induction k with
  | zero =>
    intro n w _ hn
    have hlt : n < 128 := by have := hn.out.1; omega
    rw [vf_short hlt]
    go_enter Try.func38, Try.ntmps38
    go_wp2_with fail
    refine (byte_any _ _ (by omega)).mono ?_
    rintro e w1 ⟨rfl, hb1⟩
    rw [Int.toNat_natCast, ofNat_mod256]
    go_wp2_with fail
    go_ret
    exact ⟨rfl, hb1⟩
  | succ k ih =>
    intro n w hk hn
    by_cases hlt : n < 128
    · rw [vf_short hlt]
      clear ih
      go_enter Try.func38, Try.ntmps38
      go_wp2_with fail
      refine (byte_any _ _ (by omega)).mono ?_
      rintro e w1 ⟨rfl, hb1⟩
      rw [Int.toNat_natCast, ofNat_mod256]
      go_wp2_with fail
      go_ret
      exact ⟨rfl, hb1⟩
    · rw [vf_long hlt]
      have IH := hid ih
      clear ih
      have hn64 : n ≤ 18446744073709551615 := by have := hn.out.2; omega
      go_enter Try.func38, Try.ntmps38
      go_wp2_with fail
      refine (byte_any _ _ (by omega)).mono ?_
      rintro e w1 ⟨rfl, hb1⟩
      go_wp2_with fail
      refine (IH.out (n / 128) _ (by omega) (hid ⟨?_, ?_⟩)).mono ?_
      · have := hn.out.1; rw [Nat.pow_succ] at this; exact Nat.div_lt_of_lt_mul (by rw [Nat.mul_comm]; exact this)
      · have := hn.out.2; omega
      rintro e w2 ⟨rfl, hb2⟩
      have hlen : (vf k (n / 128)).length ≤ 10 := by have := vf_length_le k (n / 128); omega
      go_wp2_with fail
      go_ret
      refine ⟨?_, hb1.trans (hb2.mono hb1.size)⟩
      show Ending.returned (.string (bs (UInt8.ofNat ((128 + n % 128) % 256) :: vf k (n / 128)))) = _
      rw [ofNat_mod256]

def FirstPost (l : List UInt8) (w : World) (e : Ending) (w' : World) : Prop :=
  (∃ n : Nat, e = .returned (.tuple #[.int .u64 n, .int .i64 (vg 0 0 l).2.1, .int .i64 (vg 0 0 l).2.2]) ∧ ((vg 0 0 l).2.2 = 0 → n = (vg 0 0 l).1)) ∧ w = w'
theorem leaf_any (l : List UInt8) (w : World) {N S E : Int} (n s : Nat) (h : vg 0 0 l = (if E = 0 then n else 0, s, E)) (hN : N = n) (hS : S = s) :
    FirstPost l w (.returned (.tuple #[.int .u64 N, .int .i64 S, .int .i64 E])) w := by
  subst hN hS
  refine ⟨⟨n, by rw [h], fun h0 => ?_⟩, rfl⟩
  rw [h] at h0 ⊢
  rw [if_pos h0]
set_option maxRecDepth 100000 in
set_option maxHeartbeats 4000000 in
theorem first_any (l : List UInt8) (w : World) (hs : l.length ≤ 9223372036854775807) :
    Calls Try.prog 92 #[.string (bs l)] w (FirstPost l w) := by
  go_enter Try.func92, Try.ntmps92
  go_wp2_with fail
  go_step3
  go_wp2_with fail
  go_step3
  go_wp2_with fail
  · go_loop [5, 6, 7, 13] (fun n0 s0 e0 i => ∃ k m : Nat, k ≤ 10 ∧ k ≤ 9 ∧ Hid (vg k m (l.drop k) = vg 0 0 l ∧ m < 128 ^ k) ∧ n0 = .int .u64 m ∧ s0 = .int .i64 0 ∧ e0 = .int .i64 5 ∧ i = .int .i64 k) (fun _ _ _ i => 10 - (intOf i).toNat)
    case atStart => exact ⟨0, 0, by omega, by omega, hid ⟨rfl, by decide⟩, rfl, rfl, rfl, rfl⟩
    case round =>
      obtain ⟨k, m, hk, hk9, Hm, rfl, rfl, rfl, rfl⟩ := hrel
      by_cases hlt : k < 10
      · have hll : k < l.length := by omega
        have Hd : Hid (vg k m (l.drop k) = vg k m (l[k] :: l.drop (k + 1))) := hid (vg_drop l k k m hll)
        have hc := UInt8.toNat_lt l[k]
        by_cases hA : k = 9 ∧ 1 < l[k].toNat
        · obtain ⟨hA1, hA2⟩ := hA
          have ha1 : ((k : Int) == 9) = true := by simp; omega
          have HA1 := hid hA1
          clear hA1
          go_wp2_with fail
          (try rw [Exit.noGoto_ret])
          go_ret3
          exact leaf_any l w m 0 (by rw [← Hm.out.1, Hd.out, vg_form (Or.inl ⟨HA1.out, hA2⟩)]; simp) rfl rfl
        have HA := hid hA
        by_cases hB : 0 < k ∧ l[k].toNat = 0
        · obtain ⟨hB1, hB2⟩ := hB
          have hb2 : (((l[k].toNat : Nat) : Int) == 0) = true := by simp; omega
          have hb3 : l[k].toNat ≤ 1 := by omega
          have HB2 := hid hB2
          clear hB2 hA
          by_cases h9 : k = 9
          · have ha1 : ((k : Int) == 9) = true := by simp; omega
            have h0' : 0 < k := by omega
            have H9 := hid h9
            clear h9
            go_wp2_with fail
            (try rw [Exit.noGoto_ret])
            go_ret3
            exact leaf_any l w m 0 (by rw [← Hm.out.1, Hd.out, vg_form (Or.inr ⟨hB1, HB2.out⟩)]; simp) rfl rfl
          · have ha1 : ((k : Int) == 9) = false := by simp; omega
            go_wp2_with fail
            (try rw [Exit.noGoto_ret])
            go_ret3
            exact leaf_any l w m 0 (by rw [← Hm.out.1, Hd.out, vg_form (Or.inr ⟨hB1, HB2.out⟩)]; simp) rfl rfl
        have HB := hid hB
        by_cases hC : l[k].toNat < 128
        · have ho := shlor7' m l[k].toNat k Hm.out.2 hk9 hC (fun h => by omega)
          have HO := hid ho
          clear ho hA hB
          have HV : Hid (vg 0 0 l = (m + 128 ^ k * l[k].toNat, k + 1, 0)) := hid (by rw [← Hm.out.1, Hd.out, vg_end (by rintro (h | h); exact HA.out h; exact HB.out h) hC])
          by_cases h9 : k = 9
          · have ha1 : ((k : Int) == 9) = true := by simp; omega
            have hc1 : l[k].toNat ≤ 1 := by have := HA.out; omega
            have hb2 : (((l[k].toNat : Nat) : Int) == 0) = false := by have := HB.out; simp; omega
            have h0' : 0 < k := by omega
            have H9 := hid h9
            clear h9
            go_wp2_with fail
            (try rw [Exit.noGoto_ret])
            go_ret3
            exact leaf_any l w (m + 128 ^ k * l[k].toNat) (k + 1) (by rw [HV.out]; simp) HO.out rfl
          · have ha1 : ((k : Int) == 9) = false := by simp; omega
            by_cases h0 : k = 0
            · have H0 := hid h0
              have h0' : k ≤ 0 := by omega
              clear h0
              go_wp2_with fail
              (try rw [Exit.noGoto_ret])
              go_ret3
              exact leaf_any l w (m + 128 ^ k * l[k].toNat) (k + 1) (by rw [HV.out]; simp) HO.out rfl
            · have hb2 : (((l[k].toNat : Nat) : Int) == 0) = false := by have := HB.out; simp; omega
              have h0' : 0 < k := by omega
              clear h0
              go_wp2_with fail
              (try rw [Exit.noGoto_ret])
              go_ret3
              exact leaf_any l w (m + 128 ^ k * l[k].toNat) (k + 1) (by rw [HV.out]; simp) HO.out rfl
        · have h9 : ¬ k = 9 := fun h => hA ⟨h, by omega⟩
          have ha1 : ((k : Int) == 9) = false := by simp; omega
          have hb2 : (((l[k].toNat : Nat) : Int) == 0) = false := by simp; omega
          have ho := shlor7s m l[k].toNat k Hm.out.2 (by omega) (by omega) hc
          have HO := hid ho
          clear ho hA hB
          go_wp2_with fail
          all_goals
            go_round
            case rel => exact ⟨k + 1, m + 128 ^ k * (l[k].toNat - 128), by omega, by omega, hid ⟨by rw [← Hm.out.1, Hd.out, vg_more (by rintro (h | h); exact HA.out h; exact HB.out h) hC h9], vg_lt_step Hm.out.2 (by omega)⟩, by rw [HO.out], rfl, rfl, by go_num⟩
            case measure => simp [intOf]; omega
      · exact absurd hlt (by omega)
  · go_loop [5, 6, 7, 13] (fun n0 s0 e0 i => ∃ k m : Nat, k ≤ l.length ∧ k ≤ 9 ∧ Hid (vg k m (l.drop k) = vg 0 0 l ∧ m < 128 ^ k) ∧ n0 = .int .u64 m ∧ s0 = .int .i64 0 ∧ e0 = .int .i64 5 ∧ i = .int .i64 k) (fun _ _ _ i => l.length - (intOf i).toNat)
    case atStart => exact ⟨0, 0, by omega, by omega, hid ⟨rfl, by decide⟩, rfl, rfl, rfl, rfl⟩
    case round =>
      obtain ⟨k, m, hk, hk9, Hm, rfl, rfl, rfl, rfl⟩ := hrel
      by_cases hlt : k < l.length
      · have hll : k < l.length := by omega
        have Hd : Hid (vg k m (l.drop k) = vg k m (l[k] :: l.drop (k + 1))) := hid (vg_drop l k k m hll)
        have hc := UInt8.toNat_lt l[k]
        by_cases hA : k = 9 ∧ 1 < l[k].toNat
        · obtain ⟨hA1, hA2⟩ := hA
          have ha1 : ((k : Int) == 9) = true := by simp; omega
          have HA1 := hid hA1
          clear hA1
          go_wp2_with fail
          (try rw [Exit.noGoto_ret])
          go_ret3
          exact leaf_any l w m 0 (by rw [← Hm.out.1, Hd.out, vg_form (Or.inl ⟨HA1.out, hA2⟩)]; simp) rfl rfl
        have HA := hid hA
        by_cases hB : 0 < k ∧ l[k].toNat = 0
        · obtain ⟨hB1, hB2⟩ := hB
          have hb2 : (((l[k].toNat : Nat) : Int) == 0) = true := by simp; omega
          have hb3 : l[k].toNat ≤ 1 := by omega
          have HB2 := hid hB2
          clear hB2 hA
          by_cases h9 : k = 9
          · have ha1 : ((k : Int) == 9) = true := by simp; omega
            have h0' : 0 < k := by omega
            have H9 := hid h9
            clear h9
            go_wp2_with fail
            (try rw [Exit.noGoto_ret])
            go_ret3
            exact leaf_any l w m 0 (by rw [← Hm.out.1, Hd.out, vg_form (Or.inr ⟨hB1, HB2.out⟩)]; simp) rfl rfl
          · have ha1 : ((k : Int) == 9) = false := by simp; omega
            go_wp2_with fail
            (try rw [Exit.noGoto_ret])
            go_ret3
            exact leaf_any l w m 0 (by rw [← Hm.out.1, Hd.out, vg_form (Or.inr ⟨hB1, HB2.out⟩)]; simp) rfl rfl
        have HB := hid hB
        by_cases hC : l[k].toNat < 128
        · have ho := shlor7' m l[k].toNat k Hm.out.2 hk9 hC (fun h => by omega)
          have HO := hid ho
          clear ho hA hB
          have HV : Hid (vg 0 0 l = (m + 128 ^ k * l[k].toNat, k + 1, 0)) := hid (by rw [← Hm.out.1, Hd.out, vg_end (by rintro (h | h); exact HA.out h; exact HB.out h) hC])
          by_cases h9 : k = 9
          · have ha1 : ((k : Int) == 9) = true := by simp; omega
            have hc1 : l[k].toNat ≤ 1 := by have := HA.out; omega
            have hb2 : (((l[k].toNat : Nat) : Int) == 0) = false := by have := HB.out; simp; omega
            have h0' : 0 < k := by omega
            have H9 := hid h9
            clear h9
            go_wp2_with fail
            (try rw [Exit.noGoto_ret])
            go_ret3
            exact leaf_any l w (m + 128 ^ k * l[k].toNat) (k + 1) (by rw [HV.out]; simp) HO.out rfl
          · have ha1 : ((k : Int) == 9) = false := by simp; omega
            by_cases h0 : k = 0
            · have H0 := hid h0
              have h0' : k ≤ 0 := by omega
              clear h0
              go_wp2_with fail
              (try rw [Exit.noGoto_ret])
              go_ret3
              exact leaf_any l w (m + 128 ^ k * l[k].toNat) (k + 1) (by rw [HV.out]; simp) HO.out rfl
            · have hb2 : (((l[k].toNat : Nat) : Int) == 0) = false := by have := HB.out; simp; omega
              have h0' : 0 < k := by omega
              clear h0
              go_wp2_with fail
              (try rw [Exit.noGoto_ret])
              go_ret3
              exact leaf_any l w (m + 128 ^ k * l[k].toNat) (k + 1) (by rw [HV.out]; simp) HO.out rfl
        · have h9 : ¬ k = 9 := fun h => hA ⟨h, by omega⟩
          have ha1 : ((k : Int) == 9) = false := by simp; omega
          have hb2 : (((l[k].toNat : Nat) : Int) == 0) = false := by simp; omega
          have ho := shlor7s m l[k].toNat k Hm.out.2 (by omega) (by omega) hc
          have HO := hid ho
          clear ho hA hB
          go_wp2_with fail
          all_goals
            go_round
            case rel => exact ⟨k + 1, m + 128 ^ k * (l[k].toNat - 128), by omega, by omega, hid ⟨by rw [← Hm.out.1, Hd.out, vg_more (by rintro (h | h); exact HA.out h; exact HB.out h) hC h9], vg_lt_step Hm.out.2 (by omega)⟩, by rw [HO.out], rfl, rfl, by go_num⟩
            case measure => simp [intOf]; omega
      · obtain rfl : k = l.length := by omega
        have Hv : Hid (vg 0 0 l = (0, 0, 5)) := hid (by rw [← Hm.out.1, List.drop_length, vg_nil])
        go_wp2_with fail
        (try rw [Exit.noGoto_ret])
        go_ret3
        exact leaf_any l w m 0 (by rw [Hv.out]; simp) rfl rfl
end Go.Proofs.Ytgpioafkahoahaa
