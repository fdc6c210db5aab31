import Derived.Test.YtgpioafkahoahaaOb
namespace Go.Proofs.Ytgpioafkahoahaa
set_option linter.unusedVariables false
open Go.RowKit

theorem nat_div_zero (a b : Nat) (h : b = 0) : a / b = 0 := by subst h; simp
set_option maxHeartbeats 400000 in
theorem rfits_any (n b wd : Nat) (w : World) (hb : 1 ≤ b) (hw : wd ≤ 100) (hn : Hid (n < 18446744073709551616)) :
    Calls Try.prog 84 #[.int .u64 n, .int .u64 b, .int .i64 wd] w fun e w' => e = .returned (.bool (n / b ^ wd == 0)) ∧ w = w' := by
  go_enter Try.func84, Try.ntmps84
  go_wp2_with fail
  go_loop [0, 7] (fun n0 i => ∃ k m : Nat, k ≤ wd ∧ Hid (m = n / b ^ k) ∧ i = .int .i64 k ∧ n0 = .int .u64 m) (fun _ i => wd - (intOf i).toNat)
  case atStart => exact ⟨0, n, Nat.zero_le _, hid (by simp), rfl, rfl⟩
  case round =>
    obtain ⟨k, m, hk, Hm, rfl, rfl⟩ := hrel
    by_cases hlt : k < wd
    · go_wp2_with fail
      go_round
      case rel => exact ⟨k + 1, m / b, by omega, hid (by rw [Hm.out, div_step]), by go_num, by rw [wrap_div _ _ (div_lt Hm.out hn.out)]⟩
      case measure => simp [intOf]; omega
    · go_wp2_with fail
      go_ret
      obtain rfl : k = wd := by omega
      have := Hm.out
      subst this
      refine ⟨?_, rfl⟩
      show Ending.returned (.bool (((n / b ^ k : Nat) : Int) == 0)) = _
      congr 2
      rw [Bool.eq_iff_iff, beq_iff_eq, beq_iff_eq]; omega

set_option maxHeartbeats 400000 in
theorem rput_any (n wd : Int) (w : World) (h0 : 0 ≤ n) (hn : Hid (n.toNat < 18446744073709551616)) :
    Calls Try.prog 64 #[.int .u64 n, .int .i64 wd] w fun e w' => e = .returned (.tuple #[.string (bs (putS n.toNat wd).1), .int .i64 (putS n.toNat wd).2]) ∧ Below w.heap.size w w' := by
  obtain ⟨n, rfl⟩ := Int.eq_ofNat_of_zero_le h0
  rw [Int.toNat_natCast] at hn ⊢
  by_cases hw : wd < 1 ∨ 8 < wd
  · rw [putS, putX_arg hw]
    go_enter Try.func64, Try.ntmps64
    go_wp2_with fail
    all_goals (go_ret2; exact ⟨rfl, Below.refl _ _⟩)
  obtain ⟨hw1, hw2⟩ : 1 ≤ wd ∧ wd ≤ 8 := by omega
  obtain ⟨wd, rfl⟩ := Int.eq_ofNat_of_zero_le (show 0 ≤ wd by omega)
  clear hw
  by_cases hf : n / 256 ^ wd = 0
  · rw [putS, putX_ok (by omega) (by omega) hf, Int.toNat_natCast]
    show Calls _ _ _ _ fun e w' => e = .returned (.tuple #[.string (bs (be wd n)), .int .i64 0]) ∧ Below w.heap.size w w'
    have Hf := hid hf
    clear hf
    go_enter Try.func64, Try.ntmps64
    go_wp2_with fail
    refine (rfits_any n 256 wd _ (by omega) (by omega) hn).mono ?_
    rintro e w' ⟨rfl, rfl⟩
    rw [beq_iff_eq.2 Hf.out]
    go_wp2_with fail
    go_loopw [0, 6, 7] (fun n0 s0 i wr => ∃ k m : Nat, k ≤ wd ∧ Hid (m = n / 256 ^ k) ∧ i = .int .i64 k ∧ n0 = .int .u64 m ∧ s0 = .string (bs (be k n)) ∧ Below w.heap.size w wr) (fun _ _ i _ => wd - (intOf i).toNat)
    case atStart => exact ⟨0, n, Nat.zero_le _, hid (by simp), rfl, rfl, rfl, Below.refl _ _⟩
    case round =>
      obtain ⟨k, m, hk, Hm, rfl, rfl, rfl, hb⟩ := hrel
      by_cases hlt : k < wd
      · go_wp2_with fail
        refine (byte_any _ _ (by omega)).mono ?_
        rintro e w1 ⟨rfl, hb1⟩
        rw [Int.toNat_natCast]
        have hlb := be_length k n
        have Hl := hid hlb
        have hsz : (be k n).length ≤ 8 := by rw [Hl.out]; omega
        clear hlb
        go_wp2_with fail
        go_roundw
        case rel => exact ⟨k + 1, m / 256, by omega, hid (by rw [Hm.out, div_step]), by go_num, by rw [show (256 : Int) = ((256 : Nat) : Int) from rfl, wrap_div _ _ (div_lt Hm.out hn.out)], by rw [be_cons, ← Hm.out], hb.trans (hb1.mono hb.size)⟩
        case measure => simp [intOf]; omega
      · go_wp2_with fail
        go_ret2
        obtain rfl : k = wd := by omega
        exact ⟨rfl, hb⟩
  · rw [putS, putX_range (by omega) (by omega) hf]
    have Hf := hid hf
    clear hf
    go_enter Try.func64, Try.ntmps64
    go_wp2_with fail
    refine (rfits_any n 256 wd _ (by omega) (by omega) hn).mono ?_
    rintro e w' ⟨rfl, rfl⟩
    rw [beq_eq_false_iff_ne.2 Hf.out]
    go_wp2_with fail
    go_ret2
    exact ⟨rfl, Below.refl _ _⟩

set_option maxHeartbeats 400000 in
theorem rget_any (s : ByteArray) (at' wd : Int) (w : World) (hs : s.size ≤ maxLen) (ha : at' ≤ 9223372036854775807) :
    Calls Try.prog 72 #[.string s, .int .i64 at', .int .i64 wd] w fun e w' => e = .returned (.tuple #[.int .u64 (getS s.data.toList at' wd).1, .int .i64 (getS s.data.toList at' wd).2]) ∧ w = w' := by
  by_cases h1 : wd < 1 ∨ 8 < wd ∨ at' < 0
  · rw [getS_arg h1]
    go_enter Try.func72, Try.ntmps72
    go_wp2_with fail
    all_goals (go_ret2; exact ⟨rfl, rfl⟩)
  obtain ⟨l, rfl⟩ : ∃ l, s = bs l := ⟨_, bs_of s⟩
  rw [bs_data]
  rw [bs_size] at hs
  unfold maxLen at hs
  by_cases h2 : (l.length : Int) - at' < wd
  · rw [getS_short h1 h2]
    have h1' : 1 ≤ wd ∧ wd ≤ 8 ∧ 0 ≤ at' := by omega
    go_enter Try.func72, Try.ntmps72
    go_wp2_with fail
    all_goals (go_ret2; exact ⟨rfl, rfl⟩)
  · rw [getS_ok h1 h2]
    obtain ⟨h3, h4, h5⟩ : 1 ≤ wd ∧ wd ≤ 8 ∧ 0 ≤ at' := by omega
    obtain ⟨wd, rfl⟩ := Int.eq_ofNat_of_zero_le (show 0 ≤ wd by omega)
    obtain ⟨at', rfl⟩ := Int.eq_ofNat_of_zero_le (show 0 ≤ at' by omega)
    have hle : at' + wd ≤ l.length := by omega
    clear h1 h2
    rw [Int.toNat_natCast, Int.toNat_natCast]
    go_enter Try.func72, Try.ntmps72
    have hd1 : decide (l.length ≤ at') = false := by simp; omega
    have hd2 : decide ((l.length : Int) - at' < wd) = false := by simp; omega
    go_wp2_with fail
    go_loop [8, 9] (fun n0 i => ∃ k m : Nat, k ≤ wd ∧ Hid (m = val ((l.drop at').take k)) ∧ i = .int .i64 k ∧ n0 = .int .u64 m) (fun _ i => wd - (intOf i).toNat)
    case atStart => exact ⟨0, 0, Nat.zero_le _, hid (by simp [val]), rfl, rfl⟩
    case round =>
      obtain ⟨k, m, hk, Hm, rfl, rfl⟩ := hrel
      by_cases hlt : k < wd
      · have hm : m < 72057594037927936 := by rw [Hm.out]; exact val_cut_lt _ _ _ (by omega)
        go_wp2
        go_round
        case rel =>
          exact ⟨k + 1, m * 256 + (l[at' + k]).toNat, by omega, hid (by rw [cut_snoc _ _ _ (by omega), val_snoc, ← Hm.out]), by go_num, by rw [muladd256 _ _ hm (UInt8.toNat_lt _)]⟩
        case measure => simp [intOf]; omega
      · go_wp2
        go_ret2
        obtain rfl : k = wd := by omega
        have := Hm.out
        subst this
        exact ⟨rfl, rfl⟩
end Go.Proofs.Ytgpioafkahoahaa
