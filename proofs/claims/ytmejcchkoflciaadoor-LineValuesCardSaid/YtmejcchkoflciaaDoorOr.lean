import Derived.Test.YtmejcchkoflciaaDoorOb
namespace Go.Proofs.YtmejcchkoflciaaDoor
set_option linter.unusedVariables false
open Go.RowKit

theorem nat_div_zero (a b : Nat) (h : b = 0) : a / b = 0 := by subst h; simp
set_option maxHeartbeats 400000 in
theorem rfits_any (n b wd : Nat) (w : World) (hb : 1 ≤ b) (hw : wd ≤ 100) (hn : Hid (n < 18446744073709551616)) :
    Calls Tryd.prog 57 #[.int .u64 n, .int .u64 b, .int .i64 wd] w fun e w' => e = .returned (.bool (n / b ^ wd == 0)) ∧ w = w' := by
  go_enter Tryd.func57, Tryd.ntmps57
  go_wp2_with fail
  go_loop [0, 7] (fun n0 i => ∃ k m : Nat, k ≤ wd ∧ Hid (m = n / b ^ k) ∧ i = .int .i64 k ∧ n0 = .int .u64 m) (fun _ i => wd - (intOf i).toNat)
  case atStart => exact ⟨0, n, Nat.zero_le _, hid (by simp), rfl, rfl⟩
  case round =>
    obtain ⟨k, m, hk, Hm, rfl, rfl⟩ := hrel
    by_cases hlt : k < wd
    · go_wp2_with fail
      go_round
      case rel => exact ⟨k + 1, m / b, by omega, hid (by rw [Hm.out, div_step]), by go_num, by rw [wrap_div _ _ (div_lt Hm.out hn.out)]⟩
      case measure => simp [intOf]; omega
    · go_wp2_with fail
      go_ret
      obtain rfl : k = wd := by omega
      have := Hm.out
      subst this
      refine ⟨?_, rfl⟩
      show Ending.returned (.bool (((n / b ^ k : Nat) : Int) == 0)) = _
      congr 2
      rw [Bool.eq_iff_iff, beq_iff_eq, beq_iff_eq]; omega

set_option maxHeartbeats 400000 in
theorem rhex_any (n wd : Int) (w : World) (h0 : 0 ≤ n) (hn : Hid (n.toNat < 18446744073709551616)) :
    Calls Tryd.prog 39 #[.int .u64 n, .int .i64 wd] w fun e w' => e = .returned (.tuple #[.string (bs (hexS n.toNat wd).1), .int .i64 (hexS n.toNat wd).2]) ∧ Below w.heap.size w w' := by
  obtain ⟨n, rfl⟩ := Int.eq_ofNat_of_zero_le h0
  rw [Int.toNat_natCast] at hn ⊢
  by_cases hw : wd < 1 ∨ 16 < wd
  · rw [hexS, putX_arg hw]
    go_enter Tryd.func39, Tryd.ntmps39
    go_wp2_with fail
    all_goals (go_ret2; exact ⟨rfl, Below.refl _ _⟩)
  obtain ⟨hw1, hw2⟩ : 1 ≤ wd ∧ wd ≤ 16 := by omega
  obtain ⟨wd, rfl⟩ := Int.eq_ofNat_of_zero_le (show 0 ≤ wd by omega)
  clear hw
  by_cases hf : n / 16 ^ wd = 0
  · rw [hexS, putX_ok (by omega) (by omega) hf, Int.toNat_natCast]
    show Calls _ _ _ _ fun e w' => e = .returned (.tuple #[.string (bs (hx wd n)), .int .i64 0]) ∧ Below w.heap.size w w'
    have Hf := hid hf
    clear hf
    go_enter Tryd.func39, Tryd.ntmps39
    go_wp2_with fail
    refine (rfits_any n 16 wd _ (by omega) (by omega) hn).mono ?_
    rintro e w' ⟨rfl, rfl⟩
    rw [beq_iff_eq.2 Hf.out]
    go_wp2_with fail
    go_loopw [0, 7, 8] (fun n0 s0 i wr => ∃ k m : Nat, k ≤ wd ∧ Hid (m = n / 16 ^ k) ∧ i = .int .i64 k ∧ n0 = .int .u64 m ∧ s0 = .string (bs (hx k n)) ∧ Below w.heap.size w wr) (fun _ _ i _ => wd - (intOf i).toNat)
    case atStart => exact ⟨0, n, Nat.zero_le _, hid (by simp), rfl, rfl, rfl, Below.refl _ _⟩
    case round =>
      obtain ⟨k, m, hk, Hm, rfl, rfl, rfl, hb⟩ := hrel
      by_cases hlt : k < wd
      · have hlb := hx_length k n
        have Hl := hid hlb
        have hsz : (hx k n).length ≤ 16 := by rw [Hl.out]; omega
        clear hlb
        have hxc := hex_cut (m % 16) (by omega)
        go_wp2_with fail
        go_roundw
        case rel => exact ⟨k + 1, m / 16, by omega, hid (by rw [Hm.out, div_step]), by go_num, by rw [show (16 : Int) = ((16 : Nat) : Int) from rfl, wrap_div _ _ (div_lt Hm.out hn.out)], by rw [hx_cons, ← Hm.out], hb⟩
        case measure => simp [intOf]; omega
      · go_wp2_with fail
        go_ret2
        obtain rfl : k = wd := by omega
        exact ⟨rfl, hb⟩
  · rw [hexS, putX_range (by omega) (by omega) hf]
    have Hf := hid hf
    clear hf
    go_enter Tryd.func39, Tryd.ntmps39
    go_wp2_with fail
    refine (rfits_any n 16 wd _ (by omega) (by omega) hn).mono ?_
    rintro e w' ⟨rfl, rfl⟩
    rw [beq_eq_false_iff_ne.2 Hf.out]
    go_wp2_with fail
    go_ret2
    exact ⟨rfl, Below.refl _ _⟩

end Go.Proofs.YtmejcchkoflciaaDoor
