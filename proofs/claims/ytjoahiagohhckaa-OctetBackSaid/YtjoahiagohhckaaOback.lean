import Derived.Test.YtjoahiagohhckaaOlaws
namespace Go.Proofs.Ytjoahiagohhckaa
set_option linter.unusedVariables false
open Go.RowKit

theorem hx_len16 (k n : Nat) (h : k ≤ 16) : (hx k n).length ≤ 16 := by rw [hx_length]; exact h

set_option maxHeartbeats 1600000 in
theorem octetBack_000 (n : Nat) (wd : Int) (la lb : List UInt8) (hn : Hid (n < 18446744073709551616)) (ha : la.length ≤ 140737488351232) (hb : lb.length ≤ 140737488351232)
    (h1 : ¬ (1 ≤ wd ∧ wd ≤ 8 ∧ n / 256 ^ wd.toNat = 0)) (h2 : ¬ (1 ≤ wd ∧ wd ≤ 16 ∧ n / 16 ^ wd.toNat = 0)) (h3 : (unhexS la).2 = 3) (w : World) :
    Calls Try.prog 6 #[.int .u64 n, .int .i64 wd, .string (bs la), .string (bs lb)] w fun e w' => e = .returned (.bool true) ∧ Below w.heap.size w w' := by
  have H1 := hid h1
  have H2 := hid h2
  have H3 := hid h3
  clear h1 h2 h3
  have hp1 : ((putS n wd).2 == 0) = false := by rcases putX_snd_ne H1.out with h | h <;> (rw [putS, h]; decide)
  have hp2 : ((hexS n wd).2 == 0) = false := by rcases putX_snd_ne H2.out with h | h <;> (rw [hexS, h]; decide)
  have hsa : (bs la).size ≤ maxLen := by rw [bs_size]; unfold maxLen; omega
  have SA := hid hsa
  clear hsa
  go_enter Try.func6, Try.ntmps6
  go_wp2_with fail
  refine (oput_any _ _ _ (by omega)).mono ?_
  rintro e w1 ⟨rfl, hb1⟩
  rw [Int.toNat_natCast]
  go_wp2_with fail
  refine (ohex_any _ _ _ (by omega)).mono ?_
  rintro e w3 ⟨rfl, hb3⟩
  rw [Int.toNat_natCast]
  go_wp2_with fail
  refine (ounhex_any _ _ SA.out).mono ?_
  rintro e w5 ⟨rfl, rfl⟩
  rw [bs_data, H3.out]
  go_wp2_with fail
  refine (known1_any _).mono ?_
  rintro e w7 ⟨rfl, hb7⟩
  go_wp2_with fail
  go_ret
  have e1 := hb1.trans (hb3.mono hb1.size)
  exact ⟨rfl, e1.trans (hb7.mono e1.size)⟩

set_option maxHeartbeats 1600000 in
theorem octetBack_001 (n : Nat) (wd : Int) (la lb : List UInt8) (hn : Hid (n < 18446744073709551616)) (ha : la.length ≤ 140737488351232) (hb : lb.length ≤ 140737488351232)
    (h1 : ¬ (1 ≤ wd ∧ wd ≤ 8 ∧ n / 256 ^ wd.toNat = 0)) (h2 : ¬ (1 ≤ wd ∧ wd ≤ 16 ∧ n / 16 ^ wd.toNat = 0)) (h3 : (unhexS la).2 = 0) (w : World) :
    Calls Try.prog 6 #[.int .u64 n, .int .i64 wd, .string (bs la), .string (bs lb)] w fun e w' => e = .returned (.bool true) ∧ Below w.heap.size w w' := by
  have H1 := hid h1
  have H2 := hid h2
  have H3 := hid h3
  clear h1 h2 h3
  have hp1 : ((putS n wd).2 == 0) = false := by rcases putX_snd_ne H1.out with h | h <;> (rw [putS, h]; decide)
  have hp2 : ((hexS n wd).2 == 0) = false := by rcases putX_snd_ne H2.out with h | h <;> (rw [hexS, h]; decide)
  have hsa : (bs la).size ≤ maxLen := by rw [bs_size]; unfold maxLen; omega
  have SA := hid hsa
  clear hsa
  go_enter Try.func6, Try.ntmps6
  go_wp2_with fail
  refine (oput_any _ _ _ (by omega)).mono ?_
  rintro e w1 ⟨rfl, hb1⟩
  rw [Int.toNat_natCast]
  go_wp2_with fail
  refine (ohex_any _ _ _ (by omega)).mono ?_
  rintro e w3 ⟨rfl, hb3⟩
  rw [Int.toNat_natCast]
  go_wp2_with fail
  refine (ounhex_any _ _ SA.out).mono ?_
  rintro e w5 ⟨rfl, rfl⟩
  rw [bs_data, H3.out]
  go_wp2_with fail
  refine (ohex_any _ _ _ (by omega)).mono ?_
  rintro e w6 ⟨rfl, hb6⟩
  rw [Int.toNat_natCast, hexS_unhexS la H3.out]
  go_wp2_with fail
  refine (known1_any _).mono ?_
  rintro e w7 ⟨rfl, hb7⟩
  go_wp2_with fail
  go_ret
  have e1 := hb1.trans (hb3.mono hb1.size)
  have e2 := e1.trans (hb6.mono e1.size)
  exact ⟨rfl, e2.trans (hb7.mono e2.size)⟩

set_option maxHeartbeats 1600000 in
theorem octetBack_010 (n : Nat) (wd : Int) (la lb : List UInt8) (hn : Hid (n < 18446744073709551616)) (ha : la.length ≤ 140737488351232) (hb : lb.length ≤ 140737488351232)
    (h1 : ¬ (1 ≤ wd ∧ wd ≤ 8 ∧ n / 256 ^ wd.toNat = 0)) (h2 : 1 ≤ wd ∧ wd ≤ 16 ∧ n / 16 ^ wd.toNat = 0) (h3 : (unhexS la).2 = 3) (w : World) :
    Calls Try.prog 6 #[.int .u64 n, .int .i64 wd, .string (bs la), .string (bs lb)] w fun e w' => e = .returned (.bool true) ∧ Below w.heap.size w w' := by
  have H1 := hid h1
  have H2 := hid h2
  have H3 := hid h3
  clear h1 h2 h3
  have hp1 : ((putS n wd).2 == 0) = false := by rcases putX_snd_ne H1.out with h | h <;> (rw [putS, h]; decide)
  have hp2 : hexS n wd = (hx wd.toNat n, 0) := putX_ok H2.out.1 H2.out.2.1 H2.out.2.2
  have hg2 := unhexS_hexS n wd.toNat (by have := H2.out; omega) (by have := H2.out; omega) H2.out.2.2
  have hbl2 : (hx wd.toNat n).length = wd.toNat := hx_length _ _
  have hwd2 : (wd.toNat : Int) = wd := by have := H2.out; omega
  have P2 := hid hp2
  have G2 := hid hg2
  have hle2 : (((hx wd.toNat n).length : Int) == wd) = true := by rw [hbl2, hwd2]; simp
  have hln2 : (((hx wd.toNat n).length : Int) != wd) = false := by rw [hbl2, hwd2]; simp
  have hsz2 : (bs (hx wd.toNat n)).size ≤ maxLen := by rw [bs_size, hbl2]; unfold maxLen; have := H2.out; omega
  have SZ2 := hid hsz2
  clear hp2 hg2 hbl2 hwd2 hsz2
  have hsa : (bs la).size ≤ maxLen := by rw [bs_size]; unfold maxLen; omega
  have SA := hid hsa
  clear hsa
  go_enter Try.func6, Try.ntmps6
  go_wp2_with fail
  refine (oput_any _ _ _ (by omega)).mono ?_
  rintro e w1 ⟨rfl, hb1⟩
  rw [Int.toNat_natCast]
  go_wp2_with fail
  refine (ohex_any _ _ _ (by omega)).mono ?_
  rintro e w3 ⟨rfl, hb3⟩
  rw [Int.toNat_natCast]
  rw [P2.out]
  go_wp2_with fail
  refine (ounhex_any _ _ SZ2.out).mono ?_
  rintro e w4 ⟨rfl, rfl⟩
  rw [bs_data, G2.out]
  go_wp2_with fail
  refine (ounhex_any _ _ SA.out).mono ?_
  rintro e w5 ⟨rfl, rfl⟩
  rw [bs_data, H3.out]
  go_wp2_with fail
  refine (known1_any _).mono ?_
  rintro e w7 ⟨rfl, hb7⟩
  go_wp2_with fail
  go_ret
  have e1 := hb1.trans (hb3.mono hb1.size)
  exact ⟨rfl, e1.trans (hb7.mono e1.size)⟩

set_option maxHeartbeats 1600000 in
theorem octetBack_011 (n : Nat) (wd : Int) (la lb : List UInt8) (hn : Hid (n < 18446744073709551616)) (ha : la.length ≤ 140737488351232) (hb : lb.length ≤ 140737488351232)
    (h1 : ¬ (1 ≤ wd ∧ wd ≤ 8 ∧ n / 256 ^ wd.toNat = 0)) (h2 : 1 ≤ wd ∧ wd ≤ 16 ∧ n / 16 ^ wd.toNat = 0) (h3 : (unhexS la).2 = 0) (w : World) :
    Calls Try.prog 6 #[.int .u64 n, .int .i64 wd, .string (bs la), .string (bs lb)] w fun e w' => e = .returned (.bool true) ∧ Below w.heap.size w w' := by
  have H1 := hid h1
  have H2 := hid h2
  have H3 := hid h3
  clear h1 h2 h3
  have hp1 : ((putS n wd).2 == 0) = false := by rcases putX_snd_ne H1.out with h | h <;> (rw [putS, h]; decide)
  have hp2 : hexS n wd = (hx wd.toNat n, 0) := putX_ok H2.out.1 H2.out.2.1 H2.out.2.2
  have hg2 := unhexS_hexS n wd.toNat (by have := H2.out; omega) (by have := H2.out; omega) H2.out.2.2
  have hbl2 : (hx wd.toNat n).length = wd.toNat := hx_length _ _
  have hwd2 : (wd.toNat : Int) = wd := by have := H2.out; omega
  have P2 := hid hp2
  have G2 := hid hg2
  have hle2 : (((hx wd.toNat n).length : Int) == wd) = true := by rw [hbl2, hwd2]; simp
  have hln2 : (((hx wd.toNat n).length : Int) != wd) = false := by rw [hbl2, hwd2]; simp
  have hsz2 : (bs (hx wd.toNat n)).size ≤ maxLen := by rw [bs_size, hbl2]; unfold maxLen; have := H2.out; omega
  have SZ2 := hid hsz2
  clear hp2 hg2 hbl2 hwd2 hsz2
  have hsa : (bs la).size ≤ maxLen := by rw [bs_size]; unfold maxLen; omega
  have SA := hid hsa
  clear hsa
  go_enter Try.func6, Try.ntmps6
  go_wp2_with fail
  refine (oput_any _ _ _ (by omega)).mono ?_
  rintro e w1 ⟨rfl, hb1⟩
  rw [Int.toNat_natCast]
  go_wp2_with fail
  refine (ohex_any _ _ _ (by omega)).mono ?_
  rintro e w3 ⟨rfl, hb3⟩
  rw [Int.toNat_natCast]
  rw [P2.out]
  go_wp2_with fail
  refine (ounhex_any _ _ SZ2.out).mono ?_
  rintro e w4 ⟨rfl, rfl⟩
  rw [bs_data, G2.out]
  go_wp2_with fail
  refine (ounhex_any _ _ SA.out).mono ?_
  rintro e w5 ⟨rfl, rfl⟩
  rw [bs_data, H3.out]
  go_wp2_with fail
  refine (ohex_any _ _ _ (by omega)).mono ?_
  rintro e w6 ⟨rfl, hb6⟩
  rw [Int.toNat_natCast, hexS_unhexS la H3.out]
  go_wp2_with fail
  refine (known1_any _).mono ?_
  rintro e w7 ⟨rfl, hb7⟩
  go_wp2_with fail
  go_ret
  have e1 := hb1.trans (hb3.mono hb1.size)
  have e2 := e1.trans (hb6.mono e1.size)
  exact ⟨rfl, e2.trans (hb7.mono e2.size)⟩

set_option maxHeartbeats 1600000 in
theorem octetBack_100 (n : Nat) (wd : Int) (la lb : List UInt8) (hn : Hid (n < 18446744073709551616)) (ha : la.length ≤ 140737488351232) (hb : lb.length ≤ 140737488351232)
    (h1 : 1 ≤ wd ∧ wd ≤ 8 ∧ n / 256 ^ wd.toNat = 0) (h2 : ¬ (1 ≤ wd ∧ wd ≤ 16 ∧ n / 16 ^ wd.toNat = 0)) (h3 : (unhexS la).2 = 3) (w : World) :
    Calls Try.prog 6 #[.int .u64 n, .int .i64 wd, .string (bs la), .string (bs lb)] w fun e w' => e = .returned (.bool true) ∧ Below w.heap.size w w' := by
  have H1 := hid h1
  have H2 := hid h2
  have H3 := hid h3
  clear h1 h2 h3
  have hp1 : putS n wd = (be wd.toNat n, 0) := putX_ok H1.out.1 H1.out.2.1 H1.out.2.2
  have hg1 := getS_putS n wd.toNat la lb (by have := H1.out; omega) (by have := H1.out; omega) H1.out.2.2
  have hbl : (be wd.toNat n).length = wd.toNat := be_length _ _
  have hwd : (wd.toNat : Int) = wd := by have := H1.out; omega
  have hwb : 1 ≤ wd ∧ wd ≤ 8 := ⟨H1.out.1, H1.out.2.1⟩
  have P1 := hid hp1
  have G1 := hid hg1
  have L1 := hid hbl
  have hlb : (be wd.toNat n).length ≤ 8 := by rw [hbl]; omega
  have HW := hid hwd
  have hle : (((be wd.toNat n).length : Int) == wd) = true := by rw [hbl, hwd]; simp
  have hln : (((be wd.toNat n).length : Int) != wd) = false := by rw [hbl, hwd]; simp
  clear hp1 hg1 hbl hwd
  have hp2 : ((hexS n wd).2 == 0) = false := by rcases putX_snd_ne H2.out with h | h <;> (rw [hexS, h]; decide)
  have hsa : (bs la).size ≤ maxLen := by rw [bs_size]; unfold maxLen; omega
  have SA := hid hsa
  clear hsa
  go_enter Try.func6, Try.ntmps6
  go_wp2_with fail
  refine (oput_any _ _ _ (by omega)).mono ?_
  rintro e w1 ⟨rfl, hb1⟩
  rw [Int.toNat_natCast]
  rw [P1.out]
  go_wp2_with fail
  refine (oget_any _ _ _ _ ?_ ?_).mono ?_
  · rw [bs_size]; simp; unfold maxLen; omega
  · omega
  rintro e w2 ⟨rfl, rfl⟩
  rw [bs_data]
  rw [show getS (la ++ (be wd.toNat n ++ lb)) la.length wd = (n, 0) from by rw [← List.append_assoc, ← G1.out, HW.out]]
  go_wp2_with fail
  refine (ohex_any _ _ _ (by omega)).mono ?_
  rintro e w3 ⟨rfl, hb3⟩
  rw [Int.toNat_natCast]
  go_wp2_with fail
  refine (ounhex_any _ _ SA.out).mono ?_
  rintro e w5 ⟨rfl, rfl⟩
  rw [bs_data, H3.out]
  go_wp2_with fail
  refine (known1_any _).mono ?_
  rintro e w7 ⟨rfl, hb7⟩
  go_wp2_with fail
  go_ret
  have e1 := hb1.trans (hb3.mono hb1.size)
  exact ⟨rfl, e1.trans (hb7.mono e1.size)⟩

set_option maxHeartbeats 1600000 in
theorem octetBack_101 (n : Nat) (wd : Int) (la lb : List UInt8) (hn : Hid (n < 18446744073709551616)) (ha : la.length ≤ 140737488351232) (hb : lb.length ≤ 140737488351232)
    (h1 : 1 ≤ wd ∧ wd ≤ 8 ∧ n / 256 ^ wd.toNat = 0) (h2 : ¬ (1 ≤ wd ∧ wd ≤ 16 ∧ n / 16 ^ wd.toNat = 0)) (h3 : (unhexS la).2 = 0) (w : World) :
    Calls Try.prog 6 #[.int .u64 n, .int .i64 wd, .string (bs la), .string (bs lb)] w fun e w' => e = .returned (.bool true) ∧ Below w.heap.size w w' := by
  have H1 := hid h1
  have H2 := hid h2
  have H3 := hid h3
  clear h1 h2 h3
  have hp1 : putS n wd = (be wd.toNat n, 0) := putX_ok H1.out.1 H1.out.2.1 H1.out.2.2
  have hg1 := getS_putS n wd.toNat la lb (by have := H1.out; omega) (by have := H1.out; omega) H1.out.2.2
  have hbl : (be wd.toNat n).length = wd.toNat := be_length _ _
  have hwd : (wd.toNat : Int) = wd := by have := H1.out; omega
  have hwb : 1 ≤ wd ∧ wd ≤ 8 := ⟨H1.out.1, H1.out.2.1⟩
  have P1 := hid hp1
  have G1 := hid hg1
  have L1 := hid hbl
  have hlb : (be wd.toNat n).length ≤ 8 := by rw [hbl]; omega
  have HW := hid hwd
  have hle : (((be wd.toNat n).length : Int) == wd) = true := by rw [hbl, hwd]; simp
  have hln : (((be wd.toNat n).length : Int) != wd) = false := by rw [hbl, hwd]; simp
  clear hp1 hg1 hbl hwd
  have hp2 : ((hexS n wd).2 == 0) = false := by rcases putX_snd_ne H2.out with h | h <;> (rw [hexS, h]; decide)
  have hsa : (bs la).size ≤ maxLen := by rw [bs_size]; unfold maxLen; omega
  have SA := hid hsa
  clear hsa
  go_enter Try.func6, Try.ntmps6
  go_wp2_with fail
  refine (oput_any _ _ _ (by omega)).mono ?_
  rintro e w1 ⟨rfl, hb1⟩
  rw [Int.toNat_natCast]
  rw [P1.out]
  go_wp2_with fail
  refine (oget_any _ _ _ _ ?_ ?_).mono ?_
  · rw [bs_size]; simp; unfold maxLen; omega
  · omega
  rintro e w2 ⟨rfl, rfl⟩
  rw [bs_data]
  rw [show getS (la ++ (be wd.toNat n ++ lb)) la.length wd = (n, 0) from by rw [← List.append_assoc, ← G1.out, HW.out]]
  go_wp2_with fail
  refine (ohex_any _ _ _ (by omega)).mono ?_
  rintro e w3 ⟨rfl, hb3⟩
  rw [Int.toNat_natCast]
  go_wp2_with fail
  refine (ounhex_any _ _ SA.out).mono ?_
  rintro e w5 ⟨rfl, rfl⟩
  rw [bs_data, H3.out]
  go_wp2_with fail
  refine (ohex_any _ _ _ (by omega)).mono ?_
  rintro e w6 ⟨rfl, hb6⟩
  rw [Int.toNat_natCast, hexS_unhexS la H3.out]
  go_wp2_with fail
  refine (known1_any _).mono ?_
  rintro e w7 ⟨rfl, hb7⟩
  go_wp2_with fail
  go_ret
  have e1 := hb1.trans (hb3.mono hb1.size)
  have e2 := e1.trans (hb6.mono e1.size)
  exact ⟨rfl, e2.trans (hb7.mono e2.size)⟩

set_option maxHeartbeats 1600000 in
theorem octetBack_110 (n : Nat) (wd : Int) (la lb : List UInt8) (hn : Hid (n < 18446744073709551616)) (ha : la.length ≤ 140737488351232) (hb : lb.length ≤ 140737488351232)
    (h1 : 1 ≤ wd ∧ wd ≤ 8 ∧ n / 256 ^ wd.toNat = 0) (h2 : 1 ≤ wd ∧ wd ≤ 16 ∧ n / 16 ^ wd.toNat = 0) (h3 : (unhexS la).2 = 3) (w : World) :
    Calls Try.prog 6 #[.int .u64 n, .int .i64 wd, .string (bs la), .string (bs lb)] w fun e w' => e = .returned (.bool true) ∧ Below w.heap.size w w' := by
  have H1 := hid h1
  have H2 := hid h2
  have H3 := hid h3
  clear h1 h2 h3
  have hp1 : putS n wd = (be wd.toNat n, 0) := putX_ok H1.out.1 H1.out.2.1 H1.out.2.2
  have hg1 := getS_putS n wd.toNat la lb (by have := H1.out; omega) (by have := H1.out; omega) H1.out.2.2
  have hbl : (be wd.toNat n).length = wd.toNat := be_length _ _
  have hwd : (wd.toNat : Int) = wd := by have := H1.out; omega
  have hwb : 1 ≤ wd ∧ wd ≤ 8 := ⟨H1.out.1, H1.out.2.1⟩
  have P1 := hid hp1
  have G1 := hid hg1
  have L1 := hid hbl
  have hlb : (be wd.toNat n).length ≤ 8 := by rw [hbl]; omega
  have HW := hid hwd
  have hle : (((be wd.toNat n).length : Int) == wd) = true := by rw [hbl, hwd]; simp
  have hln : (((be wd.toNat n).length : Int) != wd) = false := by rw [hbl, hwd]; simp
  clear hp1 hg1 hbl hwd
  have hp2 : hexS n wd = (hx wd.toNat n, 0) := putX_ok H2.out.1 H2.out.2.1 H2.out.2.2
  have hg2 := unhexS_hexS n wd.toNat (by have := H2.out; omega) (by have := H2.out; omega) H2.out.2.2
  have hbl2 : (hx wd.toNat n).length = wd.toNat := hx_length _ _
  have hwd2 : (wd.toNat : Int) = wd := by have := H2.out; omega
  have P2 := hid hp2
  have G2 := hid hg2
  have hle2 : (((hx wd.toNat n).length : Int) == wd) = true := by rw [hbl2, hwd2]; simp
  have hln2 : (((hx wd.toNat n).length : Int) != wd) = false := by rw [hbl2, hwd2]; simp
  have hsz2 : (bs (hx wd.toNat n)).size ≤ maxLen := by rw [bs_size, hbl2]; unfold maxLen; have := H2.out; omega
  have SZ2 := hid hsz2
  clear hp2 hg2 hbl2 hwd2 hsz2
  have hsa : (bs la).size ≤ maxLen := by rw [bs_size]; unfold maxLen; omega
  have SA := hid hsa
  clear hsa
  go_enter Try.func6, Try.ntmps6
  go_wp2_with fail
  refine (oput_any _ _ _ (by omega)).mono ?_
  rintro e w1 ⟨rfl, hb1⟩
  rw [Int.toNat_natCast]
  rw [P1.out]
  go_wp2_with fail
  refine (oget_any _ _ _ _ ?_ ?_).mono ?_
  · rw [bs_size]; simp; unfold maxLen; omega
  · omega
  rintro e w2 ⟨rfl, rfl⟩
  rw [bs_data]
  rw [show getS (la ++ (be wd.toNat n ++ lb)) la.length wd = (n, 0) from by rw [← List.append_assoc, ← G1.out, HW.out]]
  go_wp2_with fail
  refine (ohex_any _ _ _ (by omega)).mono ?_
  rintro e w3 ⟨rfl, hb3⟩
  rw [Int.toNat_natCast]
  rw [P2.out]
  go_wp2_with fail
  refine (ounhex_any _ _ SZ2.out).mono ?_
  rintro e w4 ⟨rfl, rfl⟩
  rw [bs_data, G2.out]
  go_wp2_with fail
  refine (ounhex_any _ _ SA.out).mono ?_
  rintro e w5 ⟨rfl, rfl⟩
  rw [bs_data, H3.out]
  go_wp2_with fail
  refine (known1_any _).mono ?_
  rintro e w7 ⟨rfl, hb7⟩
  go_wp2_with fail
  go_ret
  have e1 := hb1.trans (hb3.mono hb1.size)
  exact ⟨rfl, e1.trans (hb7.mono e1.size)⟩

set_option maxHeartbeats 1600000 in
theorem octetBack_111 (n : Nat) (wd : Int) (la lb : List UInt8) (hn : Hid (n < 18446744073709551616)) (ha : la.length ≤ 140737488351232) (hb : lb.length ≤ 140737488351232)
    (h1 : 1 ≤ wd ∧ wd ≤ 8 ∧ n / 256 ^ wd.toNat = 0) (h2 : 1 ≤ wd ∧ wd ≤ 16 ∧ n / 16 ^ wd.toNat = 0) (h3 : (unhexS la).2 = 0) (w : World) :
    Calls Try.prog 6 #[.int .u64 n, .int .i64 wd, .string (bs la), .string (bs lb)] w fun e w' => e = .returned (.bool true) ∧ Below w.heap.size w w' := by
  have H1 := hid h1
  have H2 := hid h2
  have H3 := hid h3
  clear h1 h2 h3
  have hp1 : putS n wd = (be wd.toNat n, 0) := putX_ok H1.out.1 H1.out.2.1 H1.out.2.2
  have hg1 := getS_putS n wd.toNat la lb (by have := H1.out; omega) (by have := H1.out; omega) H1.out.2.2
  have hbl : (be wd.toNat n).length = wd.toNat := be_length _ _
  have hwd : (wd.toNat : Int) = wd := by have := H1.out; omega
  have hwb : 1 ≤ wd ∧ wd ≤ 8 := ⟨H1.out.1, H1.out.2.1⟩
  have P1 := hid hp1
  have G1 := hid hg1
  have L1 := hid hbl
  have hlb : (be wd.toNat n).length ≤ 8 := by rw [hbl]; omega
  have HW := hid hwd
  have hle : (((be wd.toNat n).length : Int) == wd) = true := by rw [hbl, hwd]; simp
  have hln : (((be wd.toNat n).length : Int) != wd) = false := by rw [hbl, hwd]; simp
  clear hp1 hg1 hbl hwd
  have hp2 : hexS n wd = (hx wd.toNat n, 0) := putX_ok H2.out.1 H2.out.2.1 H2.out.2.2
  have hg2 := unhexS_hexS n wd.toNat (by have := H2.out; omega) (by have := H2.out; omega) H2.out.2.2
  have hbl2 : (hx wd.toNat n).length = wd.toNat := hx_length _ _
  have hwd2 : (wd.toNat : Int) = wd := by have := H2.out; omega
  have P2 := hid hp2
  have G2 := hid hg2
  have hle2 : (((hx wd.toNat n).length : Int) == wd) = true := by rw [hbl2, hwd2]; simp
  have hln2 : (((hx wd.toNat n).length : Int) != wd) = false := by rw [hbl2, hwd2]; simp
  have hsz2 : (bs (hx wd.toNat n)).size ≤ maxLen := by rw [bs_size, hbl2]; unfold maxLen; have := H2.out; omega
  have SZ2 := hid hsz2
  clear hp2 hg2 hbl2 hwd2 hsz2
  have hsa : (bs la).size ≤ maxLen := by rw [bs_size]; unfold maxLen; omega
  have SA := hid hsa
  clear hsa
  go_enter Try.func6, Try.ntmps6
  go_wp2_with fail
  refine (oput_any _ _ _ (by omega)).mono ?_
  rintro e w1 ⟨rfl, hb1⟩
  rw [Int.toNat_natCast]
  rw [P1.out]
  go_wp2_with fail
  refine (oget_any _ _ _ _ ?_ ?_).mono ?_
  · rw [bs_size]; simp; unfold maxLen; omega
  · omega
  rintro e w2 ⟨rfl, rfl⟩
  rw [bs_data]
  rw [show getS (la ++ (be wd.toNat n ++ lb)) la.length wd = (n, 0) from by rw [← List.append_assoc, ← G1.out, HW.out]]
  go_wp2_with fail
  refine (ohex_any _ _ _ (by omega)).mono ?_
  rintro e w3 ⟨rfl, hb3⟩
  rw [Int.toNat_natCast]
  rw [P2.out]
  go_wp2_with fail
  refine (ounhex_any _ _ SZ2.out).mono ?_
  rintro e w4 ⟨rfl, rfl⟩
  rw [bs_data, G2.out]
  go_wp2_with fail
  refine (ounhex_any _ _ SA.out).mono ?_
  rintro e w5 ⟨rfl, rfl⟩
  rw [bs_data, H3.out]
  go_wp2_with fail
  refine (ohex_any _ _ _ (by omega)).mono ?_
  rintro e w6 ⟨rfl, hb6⟩
  rw [Int.toNat_natCast, hexS_unhexS la H3.out]
  go_wp2_with fail
  refine (known1_any _).mono ?_
  rintro e w7 ⟨rfl, hb7⟩
  go_wp2_with fail
  go_ret
  have e1 := hb1.trans (hb3.mono hb1.size)
  have e2 := e1.trans (hb6.mono e1.size)
  exact ⟨rfl, e2.trans (hb7.mono e2.size)⟩

theorem octetBack_walk (n wd : Int) (a b : ByteArray) (w0 : (Lit.int .u64 n).wf = true) (_w1 : (Lit.int .i64 wd).wf = true) (w2 : a.data.toList.length ≤ reachBytes) (w3 : b.data.toList.length ≤ reachBytes) (w : World) :
    Calls Try.prog 6 #[.int .u64 n, .int .i64 wd, .string a, .string b] w fun e w' => e = .returned (.bool true) ∧ Below w.heap.size w w' := by
  obtain ⟨h0, hn⟩ := u64_bd w0
  obtain ⟨n, rfl⟩ := Int.eq_ofNat_of_zero_le h0
  rw [Int.toNat_natCast] at hn
  obtain ⟨la, rfl⟩ : ∃ l, a = bs l := ⟨_, bs_of a⟩
  obtain ⟨lb, rfl⟩ : ∃ l, b = bs l := ⟨_, bs_of b⟩
  rw [bs_data] at w2 w3
  have ha : la.length ≤ 140737488351232 := w2
  have hb : lb.length ≤ 140737488351232 := w3
  by_cases h1 : 1 ≤ wd ∧ wd ≤ 8 ∧ n / 256 ^ wd.toNat = 0
  · by_cases h2 : 1 ≤ wd ∧ wd ≤ 16 ∧ n / 16 ^ wd.toNat = 0
    · rcases unhexS_snd la with h3 | h3
      · exact octetBack_111 n wd la lb hn ha hb h1 h2 h3 w
      · exact octetBack_110 n wd la lb hn ha hb h1 h2 h3 w
    · rcases unhexS_snd la with h3 | h3
      · exact octetBack_101 n wd la lb hn ha hb h1 h2 h3 w
      · exact octetBack_100 n wd la lb hn ha hb h1 h2 h3 w
  · by_cases h2 : 1 ≤ wd ∧ wd ≤ 16 ∧ n / 16 ^ wd.toNat = 0
    · rcases unhexS_snd la with h3 | h3
      · exact octetBack_011 n wd la lb hn ha hb h1 h2 h3 w
      · exact octetBack_010 n wd la lb hn ha hb h1 h2 h3 w
    · rcases unhexS_snd la with h3 | h3
      · exact octetBack_001 n wd la lb hn ha hb h1 h2 h3 w
      · exact octetBack_000 n wd la lb hn ha hb h1 h2 h3 w
end Go.Proofs.Ytjoahiagohhckaa
