import Derived.Test.YtgpioafkahoahaaOa
namespace Go.Proofs.Ytgpioafkahoahaa
set_option linter.unusedVariables false
open Go.RowKit
set_option maxHeartbeats 400000 in
theorem oget_any (s : ByteArray) (at' wd : Int) (w : World) (hs : s.size ≤ maxLen) (ha : at' ≤ 9223372036854775807) :
    Calls Try.prog 90 #[.string s, .int .i64 at', .int .i64 wd] w fun e w' => e = .returned (.tuple #[.int .u64 (getS s.data.toList at' wd).1, .int .i64 (getS s.data.toList at' wd).2]) ∧ w = w' := by
  by_cases h1 : wd < 1 ∨ 8 < wd ∨ at' < 0
  · rw [getS_arg h1]
    go_enter Try.func90, Try.ntmps90
    go_wp2_with fail
    all_goals (go_ret2; exact ⟨rfl, rfl⟩)
  obtain ⟨l, rfl⟩ : ∃ l, s = bs l := ⟨_, bs_of s⟩
  rw [bs_data]
  rw [bs_size] at hs
  unfold maxLen at hs
  by_cases h2 : (l.length : Int) - at' < wd
  · rw [getS_short h1 h2]
    have h1' : 1 ≤ wd ∧ wd ≤ 8 ∧ 0 ≤ at' := by omega
    go_enter Try.func90, Try.ntmps90
    go_wp2_with fail
    all_goals (go_ret2; exact ⟨rfl, rfl⟩)
  · rw [getS_ok h1 h2]
    obtain ⟨h3, h4, h5⟩ : 1 ≤ wd ∧ wd ≤ 8 ∧ 0 ≤ at' := by omega
    obtain ⟨wd, rfl⟩ := Int.eq_ofNat_of_zero_le (show 0 ≤ wd by omega)
    obtain ⟨at', rfl⟩ := Int.eq_ofNat_of_zero_le (show 0 ≤ at' by omega)
    have hle : at' + wd ≤ l.length := by omega
    clear h1 h2
    rw [Int.toNat_natCast, Int.toNat_natCast]
    go_enter Try.func90, Try.ntmps90
    go_wp2_with fail
    go_loop [8, 27] (fun n0 i => ∃ k m : Nat, k ≤ wd ∧ Hid (m = val ((l.drop at').take k)) ∧ i = .int .i64 k ∧ n0 = .int .u64 m) (fun _ i => wd - (intOf i).toNat)
    case atStart => exact ⟨0, 0, Nat.zero_le _, hid (by simp [val]), rfl, rfl⟩
    case round =>
      obtain ⟨k, m, hk, Hm, rfl, rfl⟩ := hrel
      by_cases hlt : k < wd
      · go_wp2
        go_round
        case rel => exact ⟨k + 1, m * 256 + (l[at' + k]).toNat, by omega, hid (by rw [cut_snoc _ _ _ (by omega), val_snoc, ← Hm.out]), by go_num, by rw [shlor8 _ _ (by rw [Hm.out]; exact val_cut_lt _ _ _ (by omega)) (UInt8.toNat_lt _)]⟩
        case measure => simp [intOf]; omega
      · go_wp2
        go_ret2
        obtain rfl : k = wd := by omega
        have := Hm.out
        subst this
        exact ⟨rfl, rfl⟩

theorem unhexS_bad {l : List UInt8} (h : l.length < 1 ∨ 16 < l.length) : unhexS l = (0, 3) := by rw [unhexS, if_pos h]
theorem unhexS_none {l : List UInt8} (h : ¬ (l.length < 1 ∨ 16 < l.length)) (h2 : uh 0 l = none) : unhexS l = (0, 3) := by rw [unhexS, if_neg h, h2]
theorem unhexS_some {l : List UInt8} {n : Nat} (h : ¬ (l.length < 1 ∨ 16 < l.length)) (h2 : uh 0 l = some n) : unhexS l = (n, 0) := by rw [unhexS, if_neg h, h2]
end Go.Proofs.Ytgpioafkahoahaa
