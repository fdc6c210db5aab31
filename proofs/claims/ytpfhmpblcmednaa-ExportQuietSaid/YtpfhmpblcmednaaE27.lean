/- Texts put together: Ca. -/
import Derived.Test.YtpfhmpblcmednaaE02
import Derived.Test.YtpfhmpblcmednaaE01
import Derived.Laws.BitsAllLaws
namespace Go.Proofs.Ytpfhmpblcmednaa
set_option linter.unusedVariables false
open Go.RowKit

theorem u32xor (a b : Nat) (ha : a < 4294967296) (hb : b < 4294967296) : bits .xor .u32 (a : Int) (b : Int) = ((a ^^^ b : Nat) : Int) := u32_xor_nat a b ha hb
theorem and1_true {m : Nat} (hm : m < 4294967296) (h : m % 2 = 1) : (bits .and .u32 (m : Int) 1 == 1) = true := by
  rw [show bits .and .u32 (m : Int) 1 = ((m &&& 1 : Nat) : Int) from u32_and_nat m 1 hm (by omega), Nat.and_one_is_mod, h]; rfl
theorem and1_false {m : Nat} (hm : m < 4294967296) (h : ¬ m % 2 = 1) : (bits .and .u32 (m : Int) 1 == 1) = false := by
  rw [show bits .and .u32 (m : Int) 1 = ((m &&& 1 : Nat) : Int) from u32_and_nat m 1 hm (by omega), Nat.and_one_is_mod, show m % 2 = 0 from by omega]; rfl
theorem sA_odd' {m : Nat} (hm : m < 4294967296) (h : m % 2 = 1) : bits .xor .u32 ((m : Int) / 2) 3988292384 = (sA m : Nat) := by
  rw [sA_odd h]; exact u32xor (m / 2) 3988292384 (by omega) (by omega)
theorem sA_even' {m : Nat} (h : ¬ m % 2 = 1) : ((m : Int) / 2) = (sA m : Nat) := by rw [sA_even h]; rfl
set_option maxHeartbeats 400000 in
theorem shifted_any (b : Nat) (w : World) (hb : b < 256) :
    Calls Try.prog 154 #[.int .u8 b] w fun e w' => e = .returned (.int .u32 (tab b : Nat)) ∧ w = w' := by
  go_enter Try.func154, Try.ntmps154
  go_wp2_with fail
  go_loop [3, 7] (fun r i => ∃ k m : Nat, k ≤ 8 ∧ m < 4294967296 ∧ Hid (m = itA k b) ∧ i = .int .i64 k ∧ r = .int .u32 m) (fun _ i => 8 - (intOf i).toNat)
  case atStart => exact ⟨0, b, by omega, by omega, hid rfl, rfl, rfl⟩
  case round =>
    obtain ⟨k, m, hk, hm, Hm, rfl, rfl⟩ := hrel
    by_cases hlt : k < 8
    · by_cases ho : m % 2 = 1
      · have ha := and1_true hm ho
        have Ho := hid ho
        clear ho
        go_wp2
        go_round
        case rel => exact ⟨k + 1, sA m, by omega, sA_lt hm, hid (by rw [Hm.out, itA_succ]), by go_num, by rw [sA_odd' hm Ho.out]⟩
        case measure => simp [intOf]; omega
      · have ha := and1_false hm ho
        have Ho := hid ho
        clear ho
        go_wp2
        go_round
        case rel => exact ⟨k + 1, sA m, by omega, sA_lt hm, hid (by rw [Hm.out, itA_succ]), by go_num, by rw [sA_even' Ho.out]⟩
        case measure => simp [intOf]; omega
    · go_wp2
      go_ret
      obtain rfl : k = 8 := by omega
      exact ⟨by rw [Hm.out]; rfl, rfl⟩
theorem stepC_eq' (r : Nat) (c : UInt8) (hr : r < 4294967296) : bits .xor .u32 ((r : Int) / 256) ((tab (r % 256 ^^^ c.toNat) : Nat) : Int) = (stepC r c.toNat : Nat) := by
  rw [stepC_eq _ _ (UInt8.toNat_lt c)]
  exact u32xor (r / 256) _ (by omega) (tab_lt (Nat.xor_lt_two_pow (n := 8) (by omega) (UInt8.toNat_lt c)))
theorem idx_eq (r : Nat) (c : UInt8) : bits .xor .u8 ((r : Int) % 256) (c.toNat : Int) = ((r % 256 ^^^ c.toNat : Nat) : Int) :=
  u8_xor_nat (r % 256) _ (by omega) (UInt8.toNat_lt c)
set_option maxHeartbeats 400000 in
theorem cof_any (l : List UInt8) (w : World) (hs : l.length ≤ 140737488351232) :
    Calls Try.prog 150 #[.string (bs l)] w fun e w' => e = .returned (.int .u32 (crcS l : Nat)) ∧ w = w' := by
  go_enter Try.func150, Try.ntmps150
  go_wp2_with fail
  go_loop [3, 7] (fun r i => ∃ k m : Nat, k ≤ l.length ∧ m < 4294967296 ∧ Hid (m = regC 4294967295 (l.take k)) ∧ i = .int .i64 k ∧ r = .int .u32 m) (fun _ i => l.length - (intOf i).toNat)
  case atStart => exact ⟨0, 4294967295, by omega, by omega, hid (by simp [regC]), rfl, rfl⟩
  case round =>
    obtain ⟨k, m, hk, hm, Hm, rfl, rfl⟩ := hrel
    by_cases hlt : k < l.length
    · go_wp2_with fail
      rw [idx_eq]
      refine (shifted_any _ _ (Nat.xor_lt_two_pow (n := 8) (by omega) (UInt8.toNat_lt _))).mono ?_
      rintro e w' ⟨rfl, rfl⟩
      go_wp2_with fail
      go_round
      case rel => exact ⟨k + 1, stepC m (l[k]).toNat, by omega, stepC_lt hm (UInt8.toNat_lt _), hid (by rw [take_snoc _ _ hlt, regC_snoc, ← Hm.out]), by go_num, by rw [← stepC_eq' _ _ hm]⟩
      case measure => simp [intOf]; omega
    · go_wp2
      go_ret
      obtain rfl : k = l.length := by omega
      refine ⟨?_, rfl⟩
      rw [crcS, ← u32xor _ _ (regC_lt _ (by omega)) (by omega), Hm.out, List.take_length]; rfl
set_option maxHeartbeats 400000 in
theorem cseal_any (l : List UInt8) (w : World) (hs : l.length ≤ 140737488351232) :
    Calls Try.prog 140 #[.string (bs l)] w fun e w' => e = .returned (.string (bs (sealS l))) ∧ Below w.heap.size w w' := by
  have hc := crcS_lt l
  have hp : putS (crcS l) 4 = (be 4 (crcS l), 0) := by
    rw [putS, putX_ok (by omega) (by omega) (Nat.div_eq_of_lt (Nat.lt_of_lt_of_le hc (by decide)))]; rfl
  have HP := hid hp
  clear hp
  have hlen := be_length 4 (crcS l)
  go_enter Try.func140, Try.ntmps140
  go_wp2_with fail
  refine (cof_any l _ hs).mono ?_
  rintro e w' ⟨rfl, rfl⟩
  go_wp2_with fail
  refine (oput_any _ _ _ (by omega)).mono ?_
  rintro e w1 ⟨rfl, hb1⟩
  rw [Int.toNat_natCast, HP.out]
  go_wp2_with fail
  go_ret
  exact ⟨rfl, hb1⟩
theorem ne_cast (q c j : Nat) : ((q : Int) % 2 != (c : Int) / 2 ^ j % 2) = decide (q % 2 ≠ c / 2 ^ j % 2) := by
  have h1 : (q : Int) % 2 = ((q % 2 : Nat) : Int) := by omega
  have h2 : (c : Int) / 2 ^ j % 2 = ((c / 2 ^ j % 2 : Nat) : Int) := by simp
  rw [h1, h2, Bool.eq_iff_iff]
  simp only [bne_iff_ne, decide_eq_true_eq, ne_eq]
  omega
set_option maxHeartbeats 1000000 in
theorem rof_any (l : List UInt8) (w : World) (hs : l.length ≤ 140737488351232) :
    Calls Try.prog 118 #[.string (bs l)] w fun e w' => e = .returned (.int .u32 (crcS l : Nat)) ∧ w = w' := by
  go_enter Try.func118, Try.ntmps118
  go_wp2_with fail
  go_loop [3, 4] (fun r i => ∃ k m : Nat, k ≤ l.length ∧ m < 4294967296 ∧ Hid (m = regC 4294967295 (l.take k)) ∧ i = .int .i64 k ∧ r = .int .u32 m) (fun _ i => l.length - (intOf i).toNat)
  case atStart => exact ⟨0, 4294967295, by omega, by omega, hid (by simp [regC]), rfl, rfl⟩
  case round =>
    obtain ⟨k, m, hk, hm, Hm, rfl, rfl⟩ := hrel
    by_cases hlt : k < l.length
    · have hc := UInt8.toNat_lt l[k]
      go_wp2_with fail
      go_loop [3, 5] (fun r i => ∃ j q : Nat, j ≤ 8 ∧ q < 4294967296 ∧ Hid (q = refB m l[k].toNat j) ∧ i = .int .i64 j ∧ r = .int .u32 q) (fun _ i => 8 - (intOf i).toNat)
      case atStart => exact ⟨0, m, by omega, hm, hid rfl, rfl, rfl⟩
      case round =>
        obtain ⟨j, q, hj, hq, Hq, rfl, rfl⟩ := hrel
        by_cases hjl : j < 8
        · by_cases hd : q % 2 ≠ l[k].toNat / 2 ^ j % 2
          · have hb := (ne_cast q l[k].toNat j).trans (decide_eq_true hd)
            have HD := hid hd
            clear hd
            go_wp2_with fail
            go_round
            case rel => exact ⟨j + 1, (q / 2) ^^^ 3988292384, by omega, Nat.xor_lt_two_pow (n := 32) (by omega) (by omega), hid (by simp only [refB]; rw [← Hq.out, if_pos HD.out]), by go_num, by rw [← u32xor (q / 2) 3988292384 (by omega) (by omega)]; rfl⟩
            case measure => simp [intOf]; omega
          · have hb := (ne_cast q l[k].toNat j).trans (decide_eq_false hd)
            have HD := hid hd
            clear hd
            go_wp2_with fail
            go_round
            case rel => exact ⟨j + 1, q / 2, by omega, by omega, hid (by simp only [refB]; rw [← Hq.out, if_neg HD.out]), by go_num, rfl⟩
            case measure => simp [intOf]; omega
        · obtain rfl : j = 8 := by omega
          go_wp2_with fail
          go_round
          case rel => exact ⟨k + 1, q, by omega, hq, hid (by rw [take_snoc _ _ hlt, regC_snoc, ← Hm.out, Hq.out, refB_8 _ _ hc]), by go_num, rfl⟩
          case measure => simp [intOf]; omega
    · go_wp2
      go_ret
      obtain rfl : k = l.length := by omega
      refine ⟨?_, rfl⟩
      have hmm : m = regC 4294967295 l := by rw [Hm.out, List.take_length]
      rw [crcS, xor_ones _ (regC_lt _ (by omega)), ← hmm]
      exact congrArg (fun z => Ending.returned (Value.int .u32 z)) (by omega)
set_option maxHeartbeats 400000 in
theorem rseal_any (l : List UInt8) (w : World) (hs : l.length ≤ 140737488351232) :
    Calls Try.prog 81 #[.string (bs l)] w fun e w' => e = .returned (.string (bs (sealS l))) ∧ Below w.heap.size w w' := by
  have hc := crcS_lt l
  have hp : putS (crcS l) 4 = (be 4 (crcS l), 0) := by
    rw [putS, putX_ok (by omega) (by omega) (Nat.div_eq_of_lt (Nat.lt_of_lt_of_le hc (by decide)))]; rfl
  have HP := hid hp
  clear hp
  have hlen := be_length 4 (crcS l)
  go_enter Try.func81, Try.ntmps81
  go_wp2_with fail
  refine (rof_any l _ hs).mono ?_
  rintro e w' ⟨rfl, rfl⟩
  go_wp2_with fail
  refine (rput_any _ _ _ (by omega) (hid (by rw [Int.toNat_natCast]; omega))).mono ?_
  rintro e w1 ⟨rfl, hb1⟩
  rw [Int.toNat_natCast, HP.out]
  go_wp2_with fail
  go_ret
  exact ⟨rfl, hb1⟩
set_option maxHeartbeats 1000000 in
theorem ropen_any (l : List UInt8) (w : World) (hs : l.length ≤ 140737488351232) :
    Calls Try.prog 90 #[.string (bs l)] w fun e w' => e = .returned (.tuple #[.string (bs (openS l).1), .int .i64 (openS l).2]) ∧ Below w.heap.size w w' := by
  by_cases h : l.length < 4
  · rw [openS_short h]
    go_enter Try.func90, Try.ntmps90
    go_wp2_with fail
    go_ret2
    exact ⟨rfl, Below.refl _ _⟩
  · have hcut : (bs l).extract 0 (l.length - 4) = bs (l.take (l.length - 4)) := by rw [bs_extract]; simp
    have HC := hid hcut
    clear hcut
    have h4 : 4 ≤ l.length := by omega
    have hlen : (l.take (l.length - 4)).length ≤ 140737488351232 := by simp; omega
    have hi := seal_take_iff l h
    by_cases hv : val (l.drop (l.length - 4)) = crcS (l.take (l.length - 4))
    · rw [openS_ok h hv]
      have HI := hid (hi.2 hv)
      clear hv hi
      go_enter Try.func90, Try.ntmps90
      go_wp2_with fail
      rw [HC.out]
      refine (rseal_any _ _ hlen).mono ?_
      rintro e w' ⟨rfl, hb⟩
      rw [HI.out]
      go_wp2_with fail
      go_ret2
      exact ⟨by rw [← HC.out]; rfl, hb⟩
    · rw [openS_bad h hv]
      have hne : sealS (l.take (l.length - 4)) ≠ l := fun e => hv (hi.1 e)
      have hb2 : (sealS (l.take (l.length - 4)) == l) = false := by simpa using hne
      clear hv hi hne
      go_enter Try.func90, Try.ntmps90
      go_wp2_with fail
      rw [HC.out]
      refine (rseal_any _ _ hlen).mono ?_
      rintro e w' ⟨rfl, hb⟩
      go_wp2_with fail
      go_ret2
      exact ⟨rfl, hb⟩
end Go.Proofs.Ytpfhmpblcmednaa
