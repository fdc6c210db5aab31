/- Texts put together: Oa Ob Or Va Vb Vc Vq Sp Aa Bm. -/
import Derived.Test.YtpfhmpblcmednaaRows
import Derived.Test.YtpfhmpblcmednaaD01
import Derived.Lib.SmallJoins
import Derived.WalkLawsBesides
namespace Go.Proofs.Ytpfhmpblcmednaa
set_option linter.unusedVariables false
open Go.RowKit

set_option maxHeartbeats 400000 in
theorem fits_any (n b : Int) (w : World) (h0 : 0 ≤ b) (h1 : b ≤ 64) :
    Calls Try.prog 153 #[.int .u64 n, .int .i64 b] w fun e w' => e = .returned (.bool (n / 2 ^ b.toNat == 0)) ∧ w = w' := by
  go_enter Try.func153, Try.ntmps153
  go_wp2
  go_ret
  exact ⟨rfl, rfl⟩

theorem conv_bytes (w : World) (b : Nat) (l : List UInt8) (n c : Nat) (hn : l.length = n) (h : ∀ j (hj : j < l.length), w.cell? ⟨b, j, none⟩ = some (.int .u8 (l[j].toNat : Int))) :
    (convert 69 9 (.slice (some ⟨b, 0, none⟩) n c)).run Try.prog w = .ok (.string (bs l)) w := by
  subst hn
  exact run_convert_bytes_back (P := Try.prog) w 69 9 5 ⟨b, 0, none⟩ c l Try.underlying69 Try.underlying5 Try.underlying9 (fun j hj => by rw [Addr.add_lit, Nat.zero_add]; exact h j hj)

theorem conv_new (w : World) (l : List UInt8) (n c : Nat) (hn : l.length = n) :
    (convert 69 9 (.slice (some ⟨w.heap.size, 0, none⟩) n c)).run Try.prog (w.alloc (.cells (cellsOf l) 5)) = .ok (.string (bs l)) (w.alloc (.cells (cellsOf l) 5)) :=
  conv_bytes _ _ l n c hn fun j hj => by simp [cellsOf_at l j hj]

theorem conv1 (w : World) (x : Int) : (convert 69 9 (.slice (some ⟨w.heap.size, 0, none⟩) 1 1)).run Try.prog (w.alloc (.cells #[.int .u8 x] 5)) = .ok (.string (bs [UInt8.ofNat x.toNat])) (w.alloc (.cells #[.int .u8 x] 5)) := by
  rw [run_convert_bytes_arg (P := Try.prog) _ 69 5 Try.underlying69 Try.underlying5 _ 0 1 1 [x] rfl _ 9 Try.underlying9]
  · rfl
  · intro i hi
    obtain rfl : i = 0 := by omega
    simp

set_option maxHeartbeats 400000 in
theorem byte_any (n : Int) (w : World) (h0 : 0 ≤ n) :
    Calls Try.prog 114 #[.int .u64 n] w fun e w' => e = .returned (.string (bs [UInt8.ofNat (n.toNat % 256)])) ∧ Below w.heap.size w w' := by
  have hc := conv1
  obtain ⟨n, rfl⟩ := Int.eq_ofNat_of_zero_le h0
  go_enter Try.func114, Try.ntmps114
  go_wp2
  go_ret
  exact ⟨rfl, (Below.refl _ _).alloc (Nat.le_refl _) _⟩

theorem info5 : (Try.prog.info? 5).map (fun i => (i.zero, i.size, i.bytes)) = some (some (.int .u8 0), 1, 1) := by kernel_rfl
theorem madeCells_u8 (n : Nat) : madeCells (Value.cells (.int .u8 0)) (n * 1) = cellsOf (filled n []) := by
  apply Array.ext
  · simp [madeCells, cellsOf, filled]
  · intro i h1 h2
    simp [madeCells, cellsOf, filled, Value.cells, Nat.mod_one]
theorem make_bytes (w : World) (n : Nat) (h : n ≤ 1000) :
    (Instr.makeSlice 69 (.int .i64 (n : Int)) (.int .i64 (n : Int))).run Try.prog w = .ok (.slice (some ⟨w.heap.size, 0, none⟩) n n) (w.alloc (.cells (cellsOf (filled n [])) 5)) := by
  obtain ⟨i, hi, hz, hs, hb⟩ := info_parts info5
  have := run_make (P := Try.prog) w 69 5 i _ Try.underlying69 hi hz .i64 .i64 n n (by omega) (by omega) (by rw [hb]; omega) (by omega)
  rw [this, hs, Int.toNat_natCast, madeCells_u8]


set_option maxHeartbeats 400000 in
theorem oput_any (n wd : Int) (w : World) (h0 : 0 ≤ n) :
    Calls Try.prog 149 #[.int .u64 n, .int .i64 wd] w fun e w' => e = .returned (.tuple #[.string (bs (putS n.toNat wd).1), .int .i64 (putS n.toNat wd).2]) ∧ Below w.heap.size w w' := by
  obtain ⟨n, rfl⟩ := Int.eq_ofNat_of_zero_le h0
  rw [Int.toNat_natCast]
  by_cases hw : wd < 1 ∨ 8 < wd
  · rw [putS, putX_arg hw]
    go_enter Try.func149, Try.ntmps149
    go_wp2_with fail
    all_goals (go_ret2; exact ⟨rfl, Below.refl _ _⟩)
  obtain ⟨hw1, hw2⟩ : 1 ≤ wd ∧ wd ≤ 8 := by omega
  obtain ⟨wd, rfl⟩ := Int.eq_ofNat_of_zero_le (show 0 ≤ wd by omega)
  clear hw
  by_cases hf : n / 256 ^ wd = 0
  · rw [putS, putX_ok (by omega) (by omega) hf, Int.toNat_natCast]
    show Calls _ _ _ _ fun e w' => e = .returned (.tuple #[.string (bs (be wd n)), .int .i64 0]) ∧ Below w.heap.size w w'
    have Hf := hid hf
    clear hf
    have hmk : ∀ w, (Instr.makeSlice 69 (.int .i64 (wd : Int)) (.int .i64 (wd : Int))).run Try.prog w = .ok (.slice (some ⟨w.heap.size, 0, none⟩) wd wd) (w.alloc (.cells (cellsOf (filled wd [])) 5)) := fun w => make_bytes w wd (by omega)
    go_enter Try.func149, Try.ntmps149
    go_wp2_with fail
    refine (fits_any _ _ _ (by omega) (by omega)).mono ?_
    rintro e w' ⟨rfl, rfl⟩
    rw [fits_true (c := 8) (b := 8 * (wd : Int)) rfl Hf.out]
    go_wp2_with fail
    go_loopw [0, 22] (fun n0 i wr => ∃ k m : Nat, k ≤ wd ∧ Hid (m = n / 256 ^ k) ∧ i = .int .i64 k ∧ n0 = .int .u64 m ∧ wr = w.alloc (.cells (cellsOf (filled wd (be k n))) 5)) (fun _ i _ => wd - (intOf i).toNat)
    case atStart => exact ⟨0, n, Nat.zero_le _, hid (by simp), rfl, rfl, rfl⟩
    case round =>
      obtain ⟨k, m, hk, Hm, rfl, rfl, rfl⟩ := hrel
      have hlen : (filled wd (be k n)).length = wd := filled_length (by rw [be_length]; exact hk)
      have Hlen := hid hlen
      clear hlen
      by_cases hlt : k < wd
      · have hcell : ∃ v, (cellsOf (filled wd (be k n)))[wd - 1 - k]? = some v := ⟨_, cellsOf_at _ _ (by rw [Hlen.out]; omega)⟩
        obtain ⟨v, hcell⟩ := hcell
        go_wp2
        go_roundw
        case rel => exact ⟨k + 1, m / 256, by omega, hid (by rw [Hm.out, div_step]), by go_num, by go_num, by rw [← u8_cast, cellsOf_set, be_set wd k n m hlt Hm.out]⟩
        case measure => simp [intOf]; omega
      · have hcv := conv_new w (filled wd (be k n)) wd wd Hlen.out
        go_wp2
        go_ret2
        obtain rfl : k = wd := by omega
        refine ⟨?_, (Below.refl _ _).alloc (Nat.le_refl _) _⟩
        simp [filled, be_length]
  · rw [putS, putX_range (by omega) (by omega) hf]
    have Hf := hid hf
    clear hf
    go_enter Try.func149, Try.ntmps149
    go_wp2_with fail
    refine (fits_any _ _ _ (by omega) (by omega)).mono ?_
    rintro e w' ⟨rfl, rfl⟩
    rw [fits_false (c := 8) (b := 8 * (wd : Int)) rfl Hf.out]
    go_wp2_with fail
    go_ret2
    exact ⟨rfl, Below.refl _ _⟩

end Go.Proofs.Ytpfhmpblcmednaa
namespace Go.Proofs.Ytpfhmpblcmednaa
set_option linter.unusedVariables false
open Go.RowKit
theorem unhexS_bad {l : List UInt8} (h : l.length < 1 ∨ 16 < l.length) : unhexS l = (0, 3) := by rw [unhexS, if_pos h]
theorem unhexS_none {l : List UInt8} (h : ¬ (l.length < 1 ∨ 16 < l.length)) (h2 : uh 0 l = none) : unhexS l = (0, 3) := by rw [unhexS, if_neg h, h2]
theorem unhexS_some {l : List UInt8} {n : Nat} (h : ¬ (l.length < 1 ∨ 16 < l.length)) (h2 : uh 0 l = some n) : unhexS l = (n, 0) := by rw [unhexS, if_neg h, h2]
end Go.Proofs.Ytpfhmpblcmednaa
namespace Go.Proofs.Ytpfhmpblcmednaa
set_option linter.unusedVariables false
open Go.RowKit

theorem nat_div_zero (a b : Nat) (h : b = 0) : a / b = 0 := by subst h; simp
set_option maxHeartbeats 400000 in
theorem rfits_any (n b wd : Nat) (w : World) (hb : 1 ≤ b) (hw : wd ≤ 100) (hn : Hid (n < 18446744073709551616)) :
    Calls Try.prog 136 #[.int .u64 n, .int .u64 b, .int .i64 wd] w fun e w' => e = .returned (.bool (n / b ^ wd == 0)) ∧ w = w' := by
  go_enter Try.func136, Try.ntmps136
  go_wp2_with fail
  go_loop [0, 7] (fun n0 i => ∃ k m : Nat, k ≤ wd ∧ Hid (m = n / b ^ k) ∧ i = .int .i64 k ∧ n0 = .int .u64 m) (fun _ i => wd - (intOf i).toNat)
  case atStart => exact ⟨0, n, Nat.zero_le _, hid (by simp), rfl, rfl⟩
  case round =>
    obtain ⟨k, m, hk, Hm, rfl, rfl⟩ := hrel
    by_cases hlt : k < wd
    · go_wp2_with fail
      go_round
      case rel => exact ⟨k + 1, m / b, by omega, hid (by rw [Hm.out, div_step]), by go_num, by rw [wrap_div _ _ (div_lt Hm.out hn.out)]⟩
      case measure => simp [intOf]; omega
    · go_wp2_with fail
      go_ret
      obtain rfl : k = wd := by omega
      have := Hm.out
      subst this
      refine ⟨?_, rfl⟩
      show Ending.returned (.bool (((n / b ^ k : Nat) : Int) == 0)) = _
      congr 2
      rw [Bool.eq_iff_iff, beq_iff_eq, beq_iff_eq]; omega

set_option maxHeartbeats 400000 in
theorem rput_any (n wd : Int) (w : World) (h0 : 0 ≤ n) (hn : Hid (n.toNat < 18446744073709551616)) :
    Calls Try.prog 117 #[.int .u64 n, .int .i64 wd] w fun e w' => e = .returned (.tuple #[.string (bs (putS n.toNat wd).1), .int .i64 (putS n.toNat wd).2]) ∧ Below w.heap.size w w' := by
  obtain ⟨n, rfl⟩ := Int.eq_ofNat_of_zero_le h0
  rw [Int.toNat_natCast] at hn ⊢
  by_cases hw : wd < 1 ∨ 8 < wd
  · rw [putS, putX_arg hw]
    go_enter Try.func117, Try.ntmps117
    go_wp2_with fail
    all_goals (go_ret2; exact ⟨rfl, Below.refl _ _⟩)
  obtain ⟨hw1, hw2⟩ : 1 ≤ wd ∧ wd ≤ 8 := by omega
  obtain ⟨wd, rfl⟩ := Int.eq_ofNat_of_zero_le (show 0 ≤ wd by omega)
  clear hw
  by_cases hf : n / 256 ^ wd = 0
  · rw [putS, putX_ok (by omega) (by omega) hf, Int.toNat_natCast]
    show Calls _ _ _ _ fun e w' => e = .returned (.tuple #[.string (bs (be wd n)), .int .i64 0]) ∧ Below w.heap.size w w'
    have Hf := hid hf
    clear hf
    go_enter Try.func117, Try.ntmps117
    go_wp2_with fail
    refine (rfits_any n 256 wd _ (by omega) (by omega) hn).mono ?_
    rintro e w' ⟨rfl, rfl⟩
    rw [beq_iff_eq.2 Hf.out]
    go_wp2_with fail
    go_loopw [0, 6, 7] (fun n0 s0 i wr => ∃ k m : Nat, k ≤ wd ∧ Hid (m = n / 256 ^ k) ∧ i = .int .i64 k ∧ n0 = .int .u64 m ∧ s0 = .string (bs (be k n)) ∧ Below w.heap.size w wr) (fun _ _ i _ => wd - (intOf i).toNat)
    case atStart => exact ⟨0, n, Nat.zero_le _, hid (by simp), rfl, rfl, rfl, Below.refl _ _⟩
    case round =>
      obtain ⟨k, m, hk, Hm, rfl, rfl, rfl, hb⟩ := hrel
      by_cases hlt : k < wd
      · go_wp2_with fail
        refine (byte_any _ _ (by omega)).mono ?_
        rintro e w1 ⟨rfl, hb1⟩
        rw [Int.toNat_natCast]
        have hlb := be_length k n
        have Hl := hid hlb
        have hsz : (be k n).length ≤ 8 := by rw [Hl.out]; omega
        clear hlb
        go_wp2_with fail
        go_roundw
        case rel => exact ⟨k + 1, m / 256, by omega, hid (by rw [Hm.out, div_step]), by go_num, by rw [show (256 : Int) = ((256 : Nat) : Int) from rfl, wrap_div _ _ (div_lt Hm.out hn.out)], by rw [be_cons, ← Hm.out], hb.trans (hb1.mono hb.size)⟩
        case measure => simp [intOf]; omega
      · go_wp2_with fail
        go_ret2
        obtain rfl : k = wd := by omega
        exact ⟨rfl, hb⟩
  · rw [putS, putX_range (by omega) (by omega) hf]
    have Hf := hid hf
    clear hf
    go_enter Try.func117, Try.ntmps117
    go_wp2_with fail
    refine (rfits_any n 256 wd _ (by omega) (by omega) hn).mono ?_
    rintro e w' ⟨rfl, rfl⟩
    rw [beq_eq_false_iff_ne.2 Hf.out]
    go_wp2_with fail
    go_ret2
    exact ⟨rfl, Below.refl _ _⟩

set_option maxHeartbeats 400000 in
theorem rget_any (s : ByteArray) (at' wd : Int) (w : World) (hs : s.size ≤ maxLen) (ha : at' ≤ 9223372036854775807) :
    Calls Try.prog 130 #[.string s, .int .i64 at', .int .i64 wd] w fun e w' => e = .returned (.tuple #[.int .u64 (getS s.data.toList at' wd).1, .int .i64 (getS s.data.toList at' wd).2]) ∧ w = w' := by
  by_cases h1 : wd < 1 ∨ 8 < wd ∨ at' < 0
  · rw [getS_arg h1]
    go_enter Try.func130, Try.ntmps130
    go_wp2_with fail
    all_goals (go_ret2; exact ⟨rfl, rfl⟩)
  obtain ⟨l, rfl⟩ : ∃ l, s = bs l := ⟨_, bs_of s⟩
  rw [bs_data]
  rw [bs_size] at hs
  unfold maxLen at hs
  by_cases h2 : (l.length : Int) - at' < wd
  · rw [getS_short h1 h2]
    have h1' : 1 ≤ wd ∧ wd ≤ 8 ∧ 0 ≤ at' := by omega
    go_enter Try.func130, Try.ntmps130
    go_wp2_with fail
    all_goals (go_ret2; exact ⟨rfl, rfl⟩)
  · rw [getS_ok h1 h2]
    obtain ⟨h3, h4, h5⟩ : 1 ≤ wd ∧ wd ≤ 8 ∧ 0 ≤ at' := by omega
    obtain ⟨wd, rfl⟩ := Int.eq_ofNat_of_zero_le (show 0 ≤ wd by omega)
    obtain ⟨at', rfl⟩ := Int.eq_ofNat_of_zero_le (show 0 ≤ at' by omega)
    have hle : at' + wd ≤ l.length := by omega
    clear h1 h2
    rw [Int.toNat_natCast, Int.toNat_natCast]
    go_enter Try.func130, Try.ntmps130
    have hd1 : decide (l.length ≤ at') = false := by simp; omega
    have hd2 : decide ((l.length : Int) - at' < wd) = false := by simp; omega
    go_wp2_with fail
    go_loop [8, 9] (fun n0 i => ∃ k m : Nat, k ≤ wd ∧ Hid (m = val ((l.drop at').take k)) ∧ i = .int .i64 k ∧ n0 = .int .u64 m) (fun _ i => wd - (intOf i).toNat)
    case atStart => exact ⟨0, 0, Nat.zero_le _, hid (by simp [val]), rfl, rfl⟩
    case round =>
      obtain ⟨k, m, hk, Hm, rfl, rfl⟩ := hrel
      by_cases hlt : k < wd
      · have hm : m < 72057594037927936 := by rw [Hm.out]; exact val_cut_lt _ _ _ (by omega)
        go_wp2
        go_round
        case rel =>
          exact ⟨k + 1, m * 256 + (l[at' + k]).toNat, by omega, hid (by rw [cut_snoc _ _ _ (by omega), val_snoc, ← Hm.out]), by go_num, by rw [muladd256 _ _ hm (UInt8.toNat_lt _)]⟩
        case measure => simp [intOf]; omega
      · go_wp2
        go_ret2
        obtain rfl : k = wd := by omega
        have := Hm.out
        subst this
        exact ⟨rfl, rfl⟩
end Go.Proofs.Ytpfhmpblcmednaa
namespace Go.Proofs.Ytpfhmpblcmednaa
set_option linter.unusedVariables false
open Go.RowKit Go.Joins

def bvals (l : List UInt8) : List Value := l.map fun b => Value.int .u8 (b.toNat : Int)
theorem bvals_snoc (l : List UInt8) (b : UInt8) : bvals l ++ [.int .u8 (b.toNat : Int)] = bvals (l ++ [b]) := by simp [bvals]
theorem bvals_length (l : List UInt8) : (bvals l).length = l.length := by simp [bvals]
/-- A slice of bytes that the call itself has made, holding l. -/
def Buf (w : World) (base : Nat) (v : Value) (l : List UInt8) : Prop := w.ownsRow base 5 1 v l.length (bvals l)
theorem conv_buf {w : World} {base : Nat} {v : Value} {l : List UInt8} (h : Buf w base v l) : (convert 69 9 v).run Try.prog w = .ok (.string (bs l)) w := by
  rcases ownsRow_forms h with ⟨rfl, h0⟩ | ⟨g, cap, rfl⟩
  · have hl : l = [] := List.eq_nil_of_length_eq_zero h0
    subst hl
    have := run_convert_bytes_nil (P := Try.prog) w 69 5 Try.underlying69 Try.underlying5 0 0 9 Try.underlying9
    rw [this]; rfl
  · refine conv_bytes w g l _ _ rfl fun j hj => ?_
    have := World.ownsRow.cellAt h j (by omega)
    rw [this]
    simp [bvals, hj]
theorem buf_made (w : World) (n : Nat) (h : n ≤ 1000) : ∃ w', (Instr.makeSlice 69 (.int .i64 0) (.int .i64 (n : Int))).run Try.prog w = .ok (.slice (some ⟨w.heap.size, 0, none⟩) 0 n) w' ∧ Buf w' w.heap.size (.slice (some ⟨w.heap.size, 0, none⟩) 0 n) [] ∧ Below w.heap.size w w' := by
  obtain ⟨i, hi, hz, hs, hb⟩ := info_parts info5
  obtain ⟨w', h1, h2, h3⟩ := run_make_own (P := Try.prog) w w.heap.size 69 5 i _ 1 Try.underlying69 hi hz hs .i64 .i64 n (by rw [hb]; omega) (by unfold maxLen; omega) (Nat.le_refl _)
  exact ⟨w', h1, h2, (Below.refl _ _).grown h3 (Nat.le_refl _) (fun k hk => by cases hk)⟩

theorem ofNat_or (m : Nat) : ((UInt8.ofNat (128 + m % 128)).toNat : Int) = 128 + (m : Int) % 128 := by rw [UInt8.toNat_ofNat']; omega
theorem ofNat_small {m : Nat} (h : m < 128) : ((UInt8.ofNat m).toNat : Int) = (m : Int) := by rw [UInt8.toNat_ofNat']; omega

theorem one_cell_u8 (x : Int) : ∀ u ∈ [Value.int .u8 x], u.oneCell' = true := by intro u hu; simp at hu; subst hu; rfl
set_option maxHeartbeats 1000000 in
theorem vput_any (n : Nat) (w : World) (hn : Hid (n < 18446744073709551616)) :
    Calls Try.prog 144 #[.int .u64 n] w fun e w' => e = .returned (.string (bs (vput n))) ∧ Below w.heap.size w w' := by
  obtain ⟨i0, hi, hz0, hz1, hz2⟩ := info_parts info5
  have HI := hid hi
  have HZ0 := hid hz0
  have HZ1 := hid hz1
  have HZ2 := hid hz2
  clear hi hz0 hz1 hz2
  obtain ⟨w1, hmk, hbuf, hb1⟩ := buf_made w 10 (by omega)
  have HB1 := hid hbuf
  have HB2 := hid hb1
  clear hbuf hb1
  have hmk' : (Instr.makeSlice 69 (.int .i64 0) (.int .i64 10)).run Try.prog w = .ok (.slice (some ⟨w.heap.size, 0, none⟩) 0 10) w1 := hmk
  clear hmk
  go_enter Try.func144, Try.ntmps144
  go_wp2_with fail
  go_loopw [0, 3] (fun n0 f wr => ∃ (k m : Nat) (pre : List UInt8), k ≤ 9 ∧ Hid (vput n = pre ++ vf (9 - k) m ∧ m < 128 ^ (10 - k) ∧ pre.length = k ∧ m < 18446744073709551616) ∧ n0 = .int .u64 m ∧ Buf wr w.heap.size f pre ∧ Below w.heap.size w wr) (fun n0 _ _ => (intOf n0).toNat)
  case atStart => exact ⟨0, n, [], by omega, hid ⟨rfl, Nat.lt_of_lt_of_le hn.out (by decide), rfl, hn.out⟩, rfl, HB1.out, HB2.out⟩
  case round =>
    obtain ⟨k, m, pre, hk, Hm, rfl, hbuf, hb⟩ := hrel
    have HBUF := hid hbuf
    have HB := hid hb
    clear hbuf hb
    have HLEN : Hid (pre.length + 1 ≤ maxLen ∧ (pre.length + 1) * 1 ≤ 140737488355328) := hid ⟨by have := Hm.out.2.2.1; unfold maxLen; omega, by have := Hm.out.2.2.1; omega⟩
    have HSZ : Hid (∀ o, w.heap.size ≤ (wr.alloc o).heap.size) := hid fun o => by have := HB.out.size; simp; omega
    by_cases hlt : m < 128
    · have hlt' : decide ((128 : Int) ≤ (m : Int)) = false := by simp; omega
      go_wp2_with (at_builtin; refine wpList_append_own _ rfl _ _ 69 rfl w.heap.size 5 i0 (.int .u8 0) 1 1 Try.underlying69 HI.out HZ0.out HZ1.out HZ2.out rfl (by decide) _ _ _ rfl (World.ownsRow.alloc HBUF.out _) ⟨wr.heap.size, 0, none⟩ 1 1 [.int .u8 (m : Int)] rfl rfl (cell_one_new _ _ _) (one_cell_u8 _) (HLEN.out).1 (HLEN.out).2 (HSZ.out _) ?_)
      intro v' w2 hown hgrow _
      rw [← ofNat_small hlt, bvals_snoc] at hown
      have hc := conv_buf (l := pre ++ [UInt8.ofNat m]) (by unfold Buf; rw [List.length_append]; exact hown)
      have HG := hid hgrow
      clear hown hgrow
      go_wp2_with fail
      go_ret
      refine ⟨?_, ?_⟩
      · rw [Hm.out.1, vf_short hlt]; rfl
      · exact ((HB.out.alloc HB.out.size _)).grown HG.out (by have := HB.out.size; simp; omega) (fun k hk => (World.ownsRow.lt HBUF.out k hk).1)
    · have hlt' : decide ((128 : Int) ≤ (m : Int)) = true := by simp; omega
      have ho := or128 m
      go_wp2_with (at_builtin; refine wpList_append_own _ rfl _ _ 69 rfl w.heap.size 5 i0 (.int .u8 0) 1 1 Try.underlying69 HI.out HZ0.out HZ1.out HZ2.out rfl (by decide) _ _ _ rfl (World.ownsRow.alloc HBUF.out _) ⟨wr.heap.size, 0, none⟩ 1 1 [.int .u8 (128 + (m : Int) % 128)] rfl rfl (cell_one_new _ _ _) (one_cell_u8 _) (HLEN.out).1 (HLEN.out).2 (HSZ.out _) ?_)
      intro v' w2 hown hgrow _
      rw [← ofNat_or, bvals_snoc] at hown
      have HOWN := hid hown
      have HG := hid hgrow
      clear hown hgrow
      have hk9 : k < 9 := by
        by_cases h9 : k = 9
        · subst h9; have := Hm.out.2.1; omega
        · omega
      go_wp2_with fail
      go_roundw
      case rel =>
        refine ⟨k + 1, m / 128, pre ++ [UInt8.ofNat (128 + m % 128)], by omega, hid ⟨?_, ?_, ?_, ?_⟩, by go_num, ?_, ?_⟩
        · rw [Hm.out.1, show 9 - k = (9 - (k + 1)) + 1 from by omega, vf_long hlt]; simp
        · have := Hm.out.2.1; rw [show 10 - k = (10 - (k + 1)) + 1 from by omega, Nat.pow_succ] at this; exact Nat.div_lt_of_lt_mul (by rw [Nat.mul_comm]; exact this)
        · rw [List.length_append, Hm.out.2.2.1]; rfl
        · have := Hm.out.2.2.2; omega
        · unfold Buf; rw [List.length_append]; exact HOWN.out
        · exact (HB.out.alloc HB.out.size _).grown HG.out (by have := HB.out.size; simp; omega) (fun k hk => (World.ownsRow.lt HBUF.out k hk).1)
      case measure => simp [intOf]; omega
end Go.Proofs.Ytpfhmpblcmednaa
namespace Go.Proofs.Ytpfhmpblcmednaa
set_option linter.unusedVariables false
open Go.RowKit

theorem ofNat_mod256 (m : Nat) : UInt8.ofNat (m % 256) = UInt8.ofNat m := by
  apply UInt8.toNat_inj.1; rw [UInt8.toNat_ofNat', UInt8.toNat_ofNat']; omega
set_option maxRecDepth 100000 in
set_option maxHeartbeats 1000000 in
theorem rvput_any (k : Nat) : ∀ (n : Nat) (w : World), k ≤ 9 → Hid (n < 128 ^ (k + 1) ∧ n < 18446744073709551616) →
    Calls Try.prog 79 #[.int .u64 n] w fun e w' => e = .returned (.string (bs (vf k n))) ∧ Below w.heap.size w w' := by
  induction k with
  | zero =>
    intro n w _ hn
    have hlt : n < 128 := by have := hn.out.1; omega
    rw [vf_short hlt]
    go_enter Try.func79, Try.ntmps79
    go_wp2_with fail
    refine (byte_any _ _ (by omega)).mono ?_
    rintro e w1 ⟨rfl, hb1⟩
    rw [Int.toNat_natCast, ofNat_mod256]
    go_wp2_with fail
    go_ret
    exact ⟨rfl, hb1⟩
  | succ k ih =>
    intro n w hk hn
    by_cases hlt : n < 128
    · rw [vf_short hlt]
      clear ih
      go_enter Try.func79, Try.ntmps79
      go_wp2_with fail
      refine (byte_any _ _ (by omega)).mono ?_
      rintro e w1 ⟨rfl, hb1⟩
      rw [Int.toNat_natCast, ofNat_mod256]
      go_wp2_with fail
      go_ret
      exact ⟨rfl, hb1⟩
    · rw [vf_long hlt]
      have IH := hid ih
      clear ih
      have hn64 : n ≤ 18446744073709551615 := by have := hn.out.2; omega
      go_enter Try.func79, Try.ntmps79
      go_wp2_with fail
      refine (byte_any _ _ (by omega)).mono ?_
      rintro e w1 ⟨rfl, hb1⟩
      go_wp2_with fail
      refine (IH.out (n / 128) _ (by omega) (hid ⟨?_, ?_⟩)).mono ?_
      · have := hn.out.1; rw [Nat.pow_succ] at this; exact Nat.div_lt_of_lt_mul (by rw [Nat.mul_comm]; exact this)
      · have := hn.out.2; omega
      rintro e w2 ⟨rfl, hb2⟩
      have hlen : (vf k (n / 128)).length ≤ 10 := by have := vf_length_le k (n / 128); omega
      go_wp2_with fail
      go_ret
      refine ⟨?_, hb1.trans (hb2.mono hb1.size)⟩
      show Ending.returned (.string (bs (UInt8.ofNat ((128 + n % 128) % 256) :: vf k (n / 128)))) = _
      rw [ofNat_mod256]

def FirstPost (l : List UInt8) (w : World) (e : Ending) (w' : World) : Prop :=
  (∃ n : Nat, e = .returned (.tuple #[.int .u64 n, .int .i64 (vg 0 0 l).2.1, .int .i64 (vg 0 0 l).2.2]) ∧ ((vg 0 0 l).2.2 = 0 → n = (vg 0 0 l).1)) ∧ w = w'
theorem leaf_any (l : List UInt8) (w : World) {N S E : Int} (n s : Nat) (h : vg 0 0 l = (if E = 0 then n else 0, s, E)) (hN : N = n) (hS : S = s) :
    FirstPost l w (.returned (.tuple #[.int .u64 N, .int .i64 S, .int .i64 E])) w := by
  subst hN hS
  refine ⟨⟨n, by rw [h], fun h0 => ?_⟩, rfl⟩
  rw [h] at h0 ⊢
  rw [if_pos h0]
end Go.Proofs.Ytpfhmpblcmednaa
namespace Go.Proofs.Ytpfhmpblcmednaa
set_option linter.unusedVariables false
open Go.RowKit

theorem vgetS_arg {l : List UInt8} {a : Int} (h : a < 0) : vgetS l a = (0, 0, 2) := by rw [vgetS, if_pos h]
theorem vgetS_far {l : List UInt8} {a : Int} (h : ¬ a < 0) (h2 : (l.length : Int) < a) : vgetS l a = (0, 0, 5) := by rw [vgetS, if_neg h, if_pos h2]
theorem vgetS_in {l : List UInt8} {a : Nat} (h : a ≤ l.length) {n s : Nat} {e : Int} (hv : vg 0 0 (l.drop a) = (n, s, e)) : vgetS l a = if e = 0 then (n, ((a + s : Nat) : Int), 0) else (0, 0, e) := by
  rw [vgetS, if_neg (by omega), if_neg (by omega), Int.toNat_natCast, hv]
  simp
theorem vgetS_cases (l : List UInt8) (a : Int) : ((vgetS l a).2.2 = 0 ∧ 0 ≤ a ∧ a < (vgetS l a).2.1 ∧ (vgetS l a).2.1 ≤ l.length ∧ (vgetS l a).2.1 ≤ a + 10) ∨ vgetS l a = (0, 0, 2) ∨ vgetS l a = (0, 0, 3) ∨ vgetS l a = (0, 0, 5) := by
  by_cases h : a < 0
  · exact Or.inr (Or.inl (vgetS_arg h))
  · by_cases h2 : (l.length : Int) < a
    · exact Or.inr (Or.inr (Or.inr (vgetS_far h h2)))
    · obtain ⟨a, rfl⟩ := Int.eq_ofNat_of_zero_le (show 0 ≤ a by omega)
      have hv : vg 0 0 (l.drop a) = ((vg 0 0 (l.drop a)).1, (vg 0 0 (l.drop a)).2.1, (vg 0 0 (l.drop a)).2.2) := rfl
      rw [vgetS_in (by omega) hv]
      rcases vg_cases (l.drop a) 0 0 (by omega) with ⟨g1, g2, g3, g4⟩ | g | g
      · left
        rw [if_pos g1]
        rw [List.length_drop] at g3
        refine ⟨rfl, by omega, ?_, ?_, ?_⟩ <;> simp <;> omega
      · rw [g]; right; right; left; rfl
      · rw [g]; right; right; right; rfl

theorem leafR_err {l : List UInt8} {a : Nat} (h : a ≤ l.length) {e : Int} (hv : vg 0 0 (l.drop a) = (0, 0, e)) (he : e ≠ 0) : vgetS l a = (0, 0, e) := by rw [vgetS_in h hv, if_neg he]
theorem leafR_ok {l : List UInt8} {a : Nat} (h : a ≤ l.length) {n s : Nat} (hv : vg 0 0 (l.drop a) = (n, s, 0)) : vgetS l a = (n, ((a + s : Nat) : Int), 0) := by rw [vgetS_in h hv, if_pos rfl]
theorem ret_ok {X Y : Int} {n s : Nat} (hx : X = n) (hy : Y = s) : Ending.returned (.tuple #[.int .u64 X, .int .i64 Y, .int .i64 0]) = .returned (.tuple #[.int .u64 n, .int .i64 s, .int .i64 0]) := by rw [hx, hy]
theorem B_bound {k : Nat} (h : k ≤ 9) : 128 ^ k ≤ 9223372036854775808 := by
  have h1 : 128 ^ k ≤ 128 ^ 9 := pow_128_le h
  have h2 : (128 : Nat) ^ 9 = 9223372036854775808 := by decide
  omega
theorem rstep {m B c k : Nat} (hB : B = 128 ^ k) (hm : m < 128 ^ k) (hk : k ≤ 9) (hc : c < 128) (hc9 : k = 9 → c ≤ 1) :
    IntKind.u64.wrap ((m : Int) + IntKind.u64.wrap ((B : Int) * (c : Int))) = ((m + 128 ^ k * c : Nat) : Int) := by
  subst hB
  have hb := B_bound hk
  have h1 : 128 ^ k * c ≤ 9223372036854775808 := by
    by_cases h9 : k = 9
    · have := hc9 h9
      have h2 : 128 ^ k * c ≤ 128 ^ k * 1 := Nat.mul_le_mul_left _ this
      omega
    · have h2 : 128 ^ k ≤ 128 ^ 8 := pow_128_le (by omega)
      have h3 : (128 : Nat) ^ 8 = 72057594037927936 := by decide
      have h4 : 128 ^ k * c ≤ 72057594037927936 * 127 := Nat.mul_le_mul (by omega) (by omega)
      omega
  rw [← Int.natCast_mul, wrap_u64_nat _ (by omega), ← Int.natCast_add, wrap_u64_nat _ (by omega)]
theorem rstep0 {m c k : Nat} (hm : m < 128 ^ k) (hk : k ≤ 9) (hc : c = 0) : IntKind.u64.wrap (m : Int) = ((m + 128 ^ k * c : Nat) : Int) := by
  subst hc
  have hb := B_bound hk
  rw [wrap_u64_nat _ (by omega)]; simp
theorem rstep2 {m B c k : Nat} (hB : B = 128 ^ k) (hm : m < 128 ^ k) (hk : k ≤ 8) (hc : 128 ≤ c) (hc2 : c < 256) :
    IntKind.u64.wrap ((m : Int) + IntKind.u64.wrap ((B : Int) * ((c : Int) - 128))) = ((m + 128 ^ k * (c - 128) : Nat) : Int) := by
  rw [← rstep hB hm (by omega) (show c - 128 < 128 by omega) (by omega), show ((c - 128 : Nat) : Int) = (c : Int) - 128 from by omega]
theorem rstepB {B k : Nat} (hB : B = 128 ^ k) (hk : k ≤ 8) : IntKind.u64.wrap ((B : Int) * 128) = ((128 ^ (k + 1) : Nat) : Int) := by
  subst hB
  have hb := B_bound (k := k + 1) (by omega)
  rw [show ((128 ^ k : Nat) : Int) * 128 = ((128 ^ (k + 1) : Nat) : Int) from by rw [Nat.pow_succ]; simp, wrap_u64_nat _ (by omega)]

set_option maxRecDepth 100000 in
set_option maxHeartbeats 4000000 in
theorem rvget_any (l : List UInt8) (at' : Int) (w : World) (hs : l.length ≤ 9223372036854775807) (ha : at' ≤ 9223372036854775807) :
    Calls Try.prog 92 #[.string (bs l), .int .i64 at'] w fun e w' => e = .returned (.tuple #[.int .u64 (vgetS l at').1, .int .i64 (vgetS l at').2.1, .int .i64 (vgetS l at').2.2]) ∧ w = w' := by
  by_cases h : at' < 0
  · rw [vgetS_arg h]
    go_enter Try.func92, Try.ntmps92
    go_wp2_with fail
    go_ret3
    exact ⟨rfl, rfl⟩
  obtain ⟨at', rfl⟩ := Int.eq_ofNat_of_zero_le (show 0 ≤ at' by omega)
  clear h
  by_cases h2 : l.length < at'
  · rw [vgetS_far (by omega) (by omega)]
    go_enter Try.func92, Try.ntmps92
    go_wp2_with fail
    refine wp_loop_rounds 1 ?_
    rw [rounds_succ]
    go_wp2_with fail
    go_ret3
    exact ⟨rfl, rfl⟩
  have h3 : at' ≤ l.length := by omega
  clear h2
  have H3 := hid h3
  go_enter Try.func92, Try.ntmps92
  go_wp2_with fail
  go_loop [7, 8, 9] (fun n0 b0 i => ∃ k m B : Nat, k ≤ 9 ∧ Hid (B = 128 ^ k ∧ m < 128 ^ k ∧ vg k m (l.drop (at' + k)) = vg 0 0 (l.drop at')) ∧ n0 = .int .u64 m ∧ b0 = .int .u64 B ∧ i = .int .i64 k) (fun _ _ i => 10 - (intOf i).toNat)
  case atStart => exact ⟨0, 0, 1, by omega, hid ⟨rfl, by decide, rfl⟩, rfl, rfl, rfl⟩
  case round =>
    obtain ⟨k, m, B, hk, Hm, rfl, rfl, rfl⟩ := hrel
    by_cases hlt : at' + k < l.length
    · have Hd : Hid (vg k m (l.drop (at' + k)) = vg k m (l[at' + k] :: l.drop (at' + k + 1))) := hid (vg_drop l (at' + k) k m hlt)
      have hc := UInt8.toNat_lt l[at' + k]
      go_wp2_with fail
      all_goals first
        | (go_round
           case rel => exact ⟨k + 1, m + 128 ^ k * (l[at' + k].toNat - 128), 128 ^ (k + 1), by omega, hid ⟨rfl, vg_lt_step Hm.out.2.1 (by omega), by rw [← Hm.out.2.2, Hd.out, vg_more (by omega) (by omega) (by omega)]; rfl⟩, by rw [rstep2 Hm.out.1 Hm.out.2.1 (by omega) (by omega) hc], by rw [rstepB Hm.out.1 (by omega)], by go_num⟩
           case measure => simp [intOf]; omega)
        | (go_ret3
           exact ⟨by rw [leafR_err H3.out (by rw [← Hm.out.2.2, Hd.out, vg_form (by omega)]) (by decide)]; rfl, rfl⟩)
        | (go_ret3
           exact ⟨by rw [leafR_ok H3.out (by rw [← Hm.out.2.2, Hd.out, vg_end (by omega) (by omega)])]; exact ret_ok (rstep Hm.out.1 Hm.out.2.1 hk (by omega) (by omega)) (by omega), rfl⟩)
        | (go_ret3
           exact ⟨by rw [leafR_ok H3.out (by rw [← Hm.out.2.2, Hd.out, vg_end (by omega) (by omega)])]; exact ret_ok (rstep0 Hm.out.2.1 hk (by omega)) (by omega), rfl⟩)
    · have Hd : Hid (l.drop (at' + k) = []) := hid (List.drop_eq_nil_of_le (by omega))
      go_wp2_with fail
      all_goals
        go_ret3
        exact ⟨by rw [leafR_err H3.out (by rw [← Hm.out.2.2, Hd.out, vg_nil]) (by decide)]; rfl, rfl⟩

/-- Text, Take, as the document says. -/
def textS (l : List UInt8) : List UInt8 := vput l.length ++ l
def takeS (l : List UInt8) (a most : Int) : List UInt8 × Int × Int :=
  if (vgetS l a).2.2 ≠ 0 then ([], 0, (vgetS l a).2.2)
  else if most < 0 ∨ most < (vgetS l a).1 then ([], 0, 6)
  else if (l.length : Int) - (vgetS l a).2.1 < (vgetS l a).1 then ([], 0, 5)
  else ((l.drop (vgetS l a).2.1.toNat).take (vgetS l a).1, (vgetS l a).2.1 + (vgetS l a).1, 0)

set_option maxRecDepth 100000 in
set_option maxHeartbeats 1000000 in
theorem vtext_any (l : List UInt8) (w : World) (hs : l.length ≤ 140737488351232) :
    Calls Try.prog 146 #[.string (bs l)] w fun e w' => e = .returned (.string (bs (textS l))) ∧ Below w.heap.size w w' := by
  have hl := vput_length_le l.length
  go_enter Try.func146, Try.ntmps146
  go_wp2_with fail
  refine (vput_any _ _ (hid (by omega))).mono ?_
  rintro e w1 ⟨rfl, hb1⟩
  go_wp2_with fail
  go_ret
  exact ⟨rfl, hb1⟩

set_option maxRecDepth 100000 in
set_option maxHeartbeats 1000000 in
theorem rvtext_any (l : List UInt8) (w : World) (hs : l.length ≤ 140737488351232) :
    Calls Try.prog 116 #[.string (bs l)] w fun e w' => e = .returned (.string (bs (textS l))) ∧ Below w.heap.size w w' := by
  have hl := vput_length_le l.length
  go_enter Try.func116, Try.ntmps116
  go_wp2_with fail
  refine (rvput_any 9 _ _ (by omega) (hid ⟨Nat.lt_of_le_of_lt hs (by decide), by omega⟩)).mono ?_
  rintro e w1 ⟨rfl, hb1⟩
  rw [show vf 9 l.length = vput l.length from rfl]
  go_wp2_with fail
  go_ret
  exact ⟨rfl, hb1⟩

set_option maxRecDepth 100000 in
set_option maxHeartbeats 2000000 in
theorem rvtake_any (l : List UInt8) (a most : Int) (w : World) (hs : l.length ≤ 140737488351232) (ha : a ≤ 9223372036854775807) (hm : most ≤ 9223372036854775807) :
    Calls Try.prog 94 #[.string (bs l), .int .i64 a, .int .i64 most] w fun e w' => e = .returned (.tuple #[.string (bs (takeS l a most).1), .int .i64 (takeS l a most).2.1, .int .i64 (takeS l a most).2.2]) ∧ w = w' := by
  have hc := vgetS_cases l a
  obtain ⟨n, x, e0, hv⟩ : ∃ n x e0, vgetS l a = (n, x, e0) := ⟨_, _, _, rfl⟩
  rw [hv] at hc
  simp only [Prod.mk.injEq] at hc
  have hts : takeS l a most = if e0 ≠ 0 then ([], 0, e0) else if most < 0 ∨ most < n then ([], 0, 6) else if (l.length : Int) - x < n then ([], 0, 5) else ((l.drop x.toNat).take n, x + n, 0) := by rw [takeS, hv]
  have HV := hid hv
  clear hv
  by_cases he : e0 = 0
  · have hx : 0 ≤ a ∧ a < x ∧ x ≤ l.length := by omega
    subst he
    obtain ⟨x, rfl⟩ := Int.eq_ofNat_of_zero_le (show 0 ≤ x by omega)
    obtain ⟨hx1, hx2, hx3⟩ := hx
    clear hc
    rw [if_neg (by simp)] at hts
    by_cases h1 : most < 0 ∨ most < n
    · rw [if_pos h1] at hts
      rw [hts]
      clear hts
      go_enter Try.func94, Try.ntmps94
      go_wp2_with fail
      refine (rvget_any _ _ _ (by omega) ha).mono ?_
      rintro e w1 ⟨rfl, rfl⟩
      rw [HV.out]
      go_wp2_with fail
      all_goals
        go_ret3
        exact ⟨rfl, rfl⟩
    · rw [if_neg h1] at hts
      have h1' : 0 ≤ most ∧ (n : Int) ≤ most := by omega
      obtain ⟨h2, h3⟩ := h1'
      clear h1
      by_cases h4 : (l.length : Int) - x < n
      · rw [if_pos h4] at hts
        rw [hts]
        clear hts
        go_enter Try.func94, Try.ntmps94
        go_wp2_with fail
        refine (rvget_any _ _ _ (by omega) ha).mono ?_
        rintro e w1 ⟨rfl, rfl⟩
        rw [HV.out]
        go_wp2_with fail
        all_goals
          go_ret3
          exact ⟨rfl, rfl⟩
      · rw [if_neg h4] at hts
        rw [hts, Int.toNat_natCast]
        clear hts
        have h5 : x + n ≤ l.length := by omega
        have hcut : (bs l).extract x (x + n) = bs ((l.drop x).take n) := by rw [bs_extract]; congr 2; omega
        have HC := hid hcut
        clear hcut
        go_enter Try.func94, Try.ntmps94
        go_wp2_with fail
        refine (rvget_any _ _ _ (by omega) ha).mono ?_
        rintro e w1 ⟨rfl, rfl⟩
        rw [HV.out]
        go_wp2_with fail
        all_goals
          go_ret3
          exact ⟨by rw [← HC.out]; rfl, rfl⟩
  · rw [if_pos he] at hts
    rw [hts]
    have hb : (e0 == 0) = false := by simpa using he
    have hb2 : (e0 != 0) = true := by simpa using he
    clear hts he hc
    go_enter Try.func94, Try.ntmps94
    go_wp2_with fail
    refine (rvget_any _ _ _ (by omega) ha).mono ?_
    rintro e w1 ⟨rfl, rfl⟩
    rw [HV.out]
    go_wp2_with fail
    all_goals
      go_ret3
      exact ⟨rfl, rfl⟩
end Go.Proofs.Ytpfhmpblcmednaa
namespace Go.Proofs.Ytpfhmpblcmednaa
set_option linter.unusedVariables false
open Go Go.RowKit

theorem ofNat_toNat_lt {n : Nat} (h : n < 256) : (UInt8.ofNat n).toNat = n := by rw [UInt8.toNat_ofNat']; omega
theorem vg_vf (b : List UInt8) : ∀ (k i m n : Nat), i + k = 9 → (0 < i → 0 < n) → 128 ^ i * n < 18446744073709551616 → vg i m (vf k n ++ b) = (m + 128 ^ i * n, i + (vf k n).length, 0) := by
  intro k
  induction k with
  | zero =>
    intro i m n hi h0 hn
    obtain rfl : i = 9 := by omega
    have h9 : (128 : Nat) ^ 9 = 9223372036854775808 := by decide
    rw [h9] at hn
    have hn1 : n ≤ 1 := by omega
    have hn0 := h0 (by omega)
    have hc : (UInt8.ofNat n).toNat = n := ofNat_toNat_lt (by omega)
    show vg 9 m (UInt8.ofNat n :: b) = _
    rw [vg_end (by rw [hc]; omega) (by rw [hc]; omega), hc]
    rfl
  | succ k ih =>
    intro i m n hi h0 hn
    by_cases hlt : n < 128
    · have hc : (UInt8.ofNat n).toNat = n := ofNat_toNat_lt (by omega)
      rw [vf_short hlt]
      show vg i m (UInt8.ofNat n :: b) = _
      rw [vg_end (by rw [hc]; omega) (by rw [hc]; omega), hc]
      rfl
    · have hc : (UInt8.ofNat (128 + n % 128)).toNat = 128 + n % 128 := ofNat_toNat_lt (by omega)
      have hp : 128 ^ (i + 1) * (n / 128) ≤ 128 ^ i * n := by
        rw [Nat.pow_succ, Nat.mul_assoc]; exact Nat.mul_le_mul_left _ (Nat.mul_div_le n 128)
      rw [vf_long hlt, List.cons_append, vg_more (by rw [hc]; omega) (by rw [hc]; omega) (by omega), hc, ih (i + 1) _ (n / 128) (by omega) (by omega) (by omega)]
      refine Prod.ext ?_ (Prod.ext ?_ rfl)
      · show m + 128 ^ i * (128 + n % 128 - 128) + 128 ^ (i + 1) * (n / 128) = m + 128 ^ i * n
        rw [Nat.add_sub_cancel_left, Nat.add_assoc, Nat.pow_succ, Nat.mul_assoc, ← Nat.mul_add, Nat.mod_add_div]
      · show i + 1 + (vf k (n / 128)).length = i + (UInt8.ofNat (128 + n % 128) :: vf k (n / 128)).length
        rw [List.length_cons]; omega
theorem vgetS_vput (n : Nat) (a b : List UInt8) (hn : n < 18446744073709551616) : vgetS (a ++ (vput n ++ b)) a.length = (n, ((a.length + (vput n).length : Nat) : Int), 0) := by
  rw [leafR_ok (by simp) (n := n) (s := (vput n).length)]
  rw [List.drop_left, vput, vg_vf b 9 0 0 n rfl (by omega) (by omega)]
  simp
theorem vg_back (l : List UInt8) : ∀ (i m N S : Nat), i ≤ 9 → m < 128 ^ i → vg i m l = (N, S, 0) → N < 18446744073709551616 ∧ ∃ n, N = m + 128 ^ i * n ∧ vf (9 - i) n = l.take (S - i) ∧ (0 < i → 0 < n) := by
  induction l with
  | nil => intro i m N S _ _ h; rw [vg_nil] at h; simp at h
  | cons c r ih =>
    intro i m N S hi hm h
    have hc := c.toNat_lt
    by_cases hA : (i = 9 ∧ 1 < c.toNat) ∨ (0 < i ∧ c.toNat = 0)
    · rw [vg_form hA] at h; simp at h
    · by_cases hC : c.toNat < 128
      · rw [vg_end hA hC] at h
        simp only [Prod.mk.injEq] at h
        obtain ⟨rfl, rfl, _⟩ := h
        refine ⟨?_, c.toNat, rfl, ?_, by omega⟩
        · have := rstep (B := 128 ^ i) (m := m) (c := c.toNat) rfl hm hi hC (by omega)
          have hb := B_bound hi
          by_cases h9 : i = 9
          · subst h9
            have h9 : (128 : Nat) ^ 9 = 9223372036854775808 := by decide
            rw [h9] at hm ⊢
            have : c.toNat ≤ 1 := by omega
            omega
          · have := vg_lt_step hm hC
            have := B_bound (k := i + 1) (by omega)
            omega
        · rw [vf_short hC, show i + 1 - i = 1 from by omega]
          simp
      · have h9 : ¬ i = 9 := by omega
        rw [vg_more hA hC h9] at h
        obtain ⟨hN, n', h1, h2, h3⟩ := ih (i + 1) _ N S (by omega) (vg_lt_step hm (by omega)) h
        have hS : i + 1 < S := by
          have := vg_cases r (i + 1) (m + 128 ^ i * (c.toNat - 128)) (by omega)
          rw [h] at this
          simp at this
          omega
        have h0 := h3 (by omega)
        refine ⟨hN, (c.toNat - 128) + 128 * n', ?_, ?_, by omega⟩
        · rw [h1, Nat.pow_succ, Nat.mul_add, Nat.mul_assoc, Nat.add_assoc]
        · rw [show 9 - i = (9 - (i + 1)) + 1 from by omega, vf_long (by omega), show ((c.toNat - 128) + 128 * n') / 128 = n' from by omega, h2, show 128 + ((c.toNat - 128) + 128 * n') % 128 = c.toNat from by omega, UInt8.ofNat_toNat, show S - i = (S - (i + 1)) + 1 from by omega, List.take_succ_cons]
theorem vgetS_back {l : List UInt8} {n : Nat} {x : Int} (h : vgetS l 0 = (n, x, 0)) : n < 18446744073709551616 ∧ 1 ≤ x ∧ x ≤ l.length ∧ vput n = l.take x.toNat := by
  have hc := vgetS_cases l 0
  rw [h] at hc
  simp at hc
  obtain ⟨N, S, E, hv⟩ : ∃ N S E, vg 0 0 l = (N, S, E) := ⟨_, _, _, rfl⟩
  have h2 := vgetS_in (a := 0) (Nat.zero_le l.length) (n := N) (s := S) (e := E) (by rw [List.drop_zero]; exact hv)
  have e0 : ((0 : Nat) : Int) = 0 := rfl
  rw [e0, h] at h2
  by_cases h0 : E = 0
  · subst h0
    rw [if_pos rfl] at h2
    simp only [Prod.mk.injEq] at h2
    obtain ⟨h3, h4, _⟩ := h2
    obtain ⟨g1, n', g2, g3, _⟩ := vg_back l 0 0 _ _ (by omega) (by omega) hv
    refine ⟨by omega, by omega, by omega, ?_⟩
    have e1 : x.toNat = S := by omega
    have e2 : n = n' := by omega
    rw [e1, vput, e2]
    exact g3
  · rw [if_neg h0] at h2
    simp only [Prod.mk.injEq] at h2
    exact absurd h2.2.2.symm h0
theorem takeS_textS (a b : List UInt8) (hb : b.length < 18446744073709551616) : takeS (a ++ (textS b ++ a)) a.length b.length = (b, ((a.length + (textS b).length : Nat) : Int), 0) := by
  have hg : vgetS (a ++ (textS b ++ a)) a.length = (b.length, ((a.length + (vput b.length).length : Nat) : Int), 0) := by
    rw [textS, List.append_assoc, vgetS_vput _ _ _ hb]
  rw [takeS, hg]
  simp only
  rw [if_neg (by simp), if_neg (by omega), if_neg (by simp [textS]; omega)]
  refine Prod.ext ?_ (Prod.ext ?_ rfl)
  · show List.take b.length (List.drop (((a.length + (vput b.length).length : Nat) : Int)).toNat (a ++ (textS b ++ a))) = b
    rw [Int.toNat_natCast, List.drop_append, List.drop_eq_nil_of_le (by omega), textS, List.nil_append, Nat.add_sub_cancel_left, List.append_assoc, List.drop_left, List.take_left]
  · simp [textS]; omega
end Go.Proofs.Ytpfhmpblcmednaa
namespace Go.Proofs.Ytpfhmpblcmednaa
set_option linter.unusedVariables false

structure Sp where
  hi : Nat
  lo : Nat
  id : Nat
  up : Nat
  name : List UInt8
  status : Int
  seq : Int
  kids : Int
  shade : Bool
  start : Int
  fin : Int
def sp0 : Sp := ⟨0, 0, 0, 0, [], 0, 0, 0, false, 0, 0⟩
def rngS (s : Sp) : Bool := decide (0 ≤ s.status ∧ s.status ≤ 599 ∧ 0 ≤ s.seq ∧ s.seq ≤ 63 ∧ 0 ≤ s.kids ∧ s.kids ≤ 64 ∧ 0 ≤ s.start ∧ s.start ≤ 1099511627776 ∧ s.start ≤ s.fin ∧ s.fin ≤ 1099511627776)
def chkS (s : Sp) : Int := if (s.hi = 0 ∧ s.lo = 0) ∨ s.id = 0 then 11 else if nameB s.name = false then 7 else if rngS s = false then 12 else 0
def shB (b : Bool) : List UInt8 := [if b = true then 1 else 0]
/-- A span's bytes. -/
def bytesS (s : Sp) : List UInt8 := be 8 s.hi ++ (be 8 s.lo ++ (be 8 s.id ++ (be 8 s.up ++ (textS s.name ++ (vput s.status.toNat ++ (vput s.seq.toNat ++ (vput s.kids.toNat ++ (shB s.shade ++ (vput s.start.toNat ++ vput (s.fin - s.start).toNat)))))))))
def writeS (s : Sp) : List UInt8 × Int := if chkS s = 0 then (bytesS s, 0) else ([], chkS s)
/-- A part that is read at a place, where there was no error yet. -/
def octP (l : List UInt8) (wd a e : Int) : Nat × Int × Int := if e ≠ 0 then (0, a, e) else if (getS l a wd).2 = 0 then ((getS l a wd).1, a + wd, 0) else ((getS l a wd).1, a, (getS l a wd).2)
def numP (l : List UInt8) (a e : Int) : Nat × Int × Int := if e ≠ 0 then (0, a, e) else if (vgetS l a).2.2 ≠ 0 then (0, a, (vgetS l a).2.2) else if 1099511627776 < (vgetS l a).1 then (0, a, 12) else ((vgetS l a).1, (vgetS l a).2.1, 0)
def namP (l : List UInt8) (a e : Int) : List UInt8 × Int × Int := if e ≠ 0 then ([], a, e) else if (takeS l a 32).2.2 ≠ 0 then ((takeS l a 32).1, a, (takeS l a 32).2.2) else ((takeS l a 32).1, (takeS l a 32).2.1, 0)
def shaP (l : List UInt8) (a e : Int) : Bool × Int × Int := if 1 < (octP l 1 a e).1 then (false, (octP l 1 a e).2.1, 3) else (decide ((octP l 1 a e).1 = 1), (octP l 1 a e).2.1, (octP l 1 a e).2.2)
theorem octP_err {l : List UInt8} {wd a e : Int} (h : e ≠ 0) : octP l wd a e = (0, a, e) := by rw [octP, if_pos h]
theorem numP_err {l : List UInt8} {a e : Int} (h : e ≠ 0) : numP l a e = (0, a, e) := by rw [numP, if_pos h]
theorem namP_err {l : List UInt8} {a e : Int} (h : e ≠ 0) : namP l a e = ([], a, e) := by rw [namP, if_pos h]
theorem shaP_err {l : List UInt8} {a e : Int} (h : e ≠ 0) : shaP l a e = (false, a, e) := by rw [shaP, octP_err h]; rfl
theorem numP_le (l : List UInt8) (a e : Int) : (numP l a e).1 ≤ 1099511627776 := by
  unfold numP
  split
  · simp
  · split
    · simp
    · split
      · simp
      · simp only []; omega
/-- All parts, one behind the other. -/
def runS (l : List UInt8) (a : Int) : Sp × Int × Int :=
  let p1 := octP l 8 a 0
  let p2 := octP l 8 p1.2.1 p1.2.2
  let p3 := octP l 8 p2.2.1 p2.2.2
  let p4 := octP l 8 p3.2.1 p3.2.2
  let p5 := namP l p4.2.1 p4.2.2
  let p6 := numP l p5.2.1 p5.2.2
  let p7 := numP l p6.2.1 p6.2.2
  let p8 := numP l p7.2.1 p7.2.2
  let p9 := shaP l p8.2.1 p8.2.2
  let p10 := numP l p9.2.1 p9.2.2
  let p11 := numP l p10.2.1 p10.2.2
  (⟨p1.1, p2.1, p3.1, p4.1, p5.1, p6.1, p7.1, p8.1, p9.1, p10.1, (p10.1 : Int) + p11.1⟩, p11.2.1, p11.2.2)
def readS (l : List UInt8) (a : Int) : Sp × Int × Int :=
  if (runS l a).2.2 ≠ 0 then (sp0, 0, (runS l a).2.2) else if chkS (runS l a).1 ≠ 0 then (sp0, 0, chkS (runS l a).1) else runS l a
theorem runS_eq {l : List UInt8} {a : Int} {hi lo id up st sq kd s0 s1 : Nat} {nm : List UInt8} {sh : Bool} {a1 a2 a3 a4 a5 a6 a7 a8 a9 a10 a11 e1 e2 e3 e4 e5 e6 e7 e8 e9 e10 e11 : Int}
    (h1 : octP l 8 a 0 = (hi, a1, e1)) (h2 : octP l 8 a1 e1 = (lo, a2, e2)) (h3 : octP l 8 a2 e2 = (id, a3, e3)) (h4 : octP l 8 a3 e3 = (up, a4, e4)) (h5 : namP l a4 e4 = (nm, a5, e5))
    (h6 : numP l a5 e5 = (st, a6, e6)) (h7 : numP l a6 e6 = (sq, a7, e7)) (h8 : numP l a7 e7 = (kd, a8, e8)) (h9 : shaP l a8 e8 = (sh, a9, e9)) (h10 : numP l a9 e9 = (s0, a10, e10)) (h11 : numP l a10 e10 = (s1, a11, e11)) :
    runS l a = (⟨hi, lo, id, up, nm, st, sq, kd, sh, s0, (s0 : Int) + s1⟩, a11, e11) := by
  simp only [runS, h1, h2, h3, h4, h5, h6, h7, h8, h9, h10, h11]
theorem readS_err {l : List UInt8} {a : Int} {s : Sp} {b e : Int} (h : runS l a = (s, b, e)) (he : e ≠ 0) : readS l a = (sp0, 0, e) := by rw [readS, h, if_pos he]
theorem readS_chk {l : List UInt8} {a : Int} {s : Sp} {b : Int} (h : runS l a = (s, b, 0)) (hc : chkS s ≠ 0) : readS l a = (sp0, 0, chkS s) := by rw [readS, h, if_neg (by simp), if_pos hc]
theorem readS_ok {l : List UInt8} {a : Int} {s : Sp} {b : Int} (h : runS l a = (s, b, 0)) (hc : chkS s = 0) : readS l a = (s, b, 0) := by rw [readS, h, if_neg (by simp), if_neg (by simpa using hc)]
/-- Forward: what stands at a place. -/
def At (l : List UInt8) (a : Int) (x : List UInt8) : Prop := 0 ≤ a ∧ a ≤ l.length ∧ l.drop a.toNat = x
theorem At.step {l : List UInt8} {a : Int} {p x : List UInt8} (h : At l a (p ++ x)) : At l (a + p.length) x := by
  obtain ⟨h0, h1, h2⟩ := h
  have hl := congrArg List.length h2
  rw [List.length_drop, List.length_append] at hl
  refine ⟨by omega, by omega, ?_⟩
  rw [show (a + p.length).toNat = a.toNat + p.length by omega, ← List.drop_drop, h2, List.drop_left]
theorem At.split {l : List UInt8} {a : Int} {x : List UInt8} (h : At l a x) : l = l.take a.toNat ++ x ∧ a = ((l.take a.toNat).length : Int) := by
  obtain ⟨h0, h1, h2⟩ := h
  refine ⟨by rw [← h2, List.take_append_drop], ?_⟩
  rw [List.length_take]; omega
theorem At.mk' (p x : List UInt8) : At (p ++ x) p.length x := ⟨by omega, by simp; omega, by rw [Int.toNat_natCast, List.drop_left]⟩
theorem pow8 : (256 : Nat) ^ 8 = 18446744073709551616 := by decide
theorem oct_at {l : List UInt8} {a : Int} {n wd : Nat} {x : List UInt8} (h : At l a (be wd n ++ x)) (h1 : 1 ≤ wd) (h8 : wd ≤ 8) (hn : n < 256 ^ wd) : octP l wd a 0 = (n, a + wd, 0) := by
  obtain ⟨e1, e2⟩ := h.split
  have hg := getS_putS n wd (l.take a.toNat) x h1 h8 (Nat.div_eq_of_lt hn)
  rw [List.append_assoc, ← e1, ← e2] at hg
  rw [octP, hg, if_neg (by simp), if_pos rfl]
theorem num_at {l : List UInt8} {a : Int} {n : Nat} {x : List UInt8} (h : At l a (vput n ++ x)) (hn : n ≤ 1099511627776) : numP l a 0 = (n, a + (vput n).length, 0) := by
  obtain ⟨e1, e2⟩ := h.split
  have hg := vgetS_vput n (l.take a.toNat) x (by omega)
  rw [← e1, ← e2] at hg
  have e3 : (((l.take a.toNat).length + (vput n).length : Nat) : Int) = a + (vput n).length := by omega
  rw [e3] at hg
  rw [numP, hg, if_neg (by simp), if_neg (by simp), if_neg (by simp only []; omega)]
theorem nam_at {l : List UInt8} {a : Int} {b : List UInt8} {x : List UInt8} (h : At l a (textS b ++ x)) (hb : b.length ≤ 32) : namP l a 0 = (b, a + (textS b).length, 0) := by
  have h' := h
  rw [textS, List.append_assoc] at h'
  obtain ⟨e1, e2⟩ := h'.split
  have hg := vgetS_vput b.length (l.take a.toNat) (b ++ x) (by omega)
  rw [← e1, ← e2] at hg
  have e3 : (((l.take a.toNat).length + (vput b.length).length : Nat) : Int) = a + (vput b.length).length := by omega
  rw [e3] at hg
  obtain ⟨k0, k1, k2⟩ := h'.step
  have hl := congrArg List.length k2
  rw [List.length_drop, List.length_append] at hl
  have ht : takeS l a 32 = (b, a + (textS b).length, 0) := by
    rw [takeS, hg]
    simp only
    rw [if_neg (by simp), if_neg (by omega), if_neg (by omega), k2, List.take_left, textS, List.length_append]
    refine Prod.ext rfl (Prod.ext ?_ rfl)
    simp only []; omega
  rw [namP, ht, if_neg (by simp), if_neg (by simp)]
theorem sha_at {l : List UInt8} {a : Int} {b : Bool} {x : List UInt8} (h : At l a (shB b ++ x)) : shaP l a 0 = (b, a + 1, 0) := by
  have e : shB b = be 1 (if b = true then 1 else 0) := by cases b <;> rfl
  rw [e] at h
  have ho := oct_at h (by omega) (by omega) (by cases b <;> decide)
  have ho' : octP l 1 a 0 = ((if b = true then 1 else 0), a + 1, 0) := ho
  rw [shaP, ho']
  cases b <;> simp
theorem chkS_ok {s : Sp} (h : chkS s = 0) : ¬ ((s.hi = 0 ∧ s.lo = 0) ∨ s.id = 0) ∧ nameB s.name = true ∧ rngS s = true := by
  unfold chkS at h
  split at h
  · omega
  · split at h
    · omega
    · split at h
      · omega
      · rename_i h1 h2 h3; exact ⟨h1, by simpa using h2, by simpa using h3⟩
theorem nameB_len {l : List UInt8} (h : nameB l = true) : l.length ≤ 32 := by
  simp only [nameB, Bool.and_eq_true, decide_eq_true_eq] at h
  exact h.2.1
/-- What a span's numbers of eight bytes may be. -/
def wideS (s : Sp) : Prop := s.hi < 18446744073709551616 ∧ s.lo < 18446744073709551616 ∧ s.id < 18446744073709551616 ∧ s.up < 18446744073709551616
theorem runS_at {l : List UInt8} {a : Int} {s : Sp} {x : List UInt8} (h : At l a (bytesS s ++ x)) (hc : chkS s = 0) (hw : wideS s) : runS l a = (s, a + (bytesS s).length, 0) := by
  obtain ⟨_, hn0, hr⟩ := chkS_ok hc
  have hn := nameB_len hn0
  clear hn0
  rw [rngS, decide_eq_true_eq] at hr
  obtain ⟨w1, w2, w3, w4⟩ := hw
  obtain ⟨hi, lo, id, up, name, status, seq, kids, shade, start, fin⟩ := s
  simp only at hn hr w1 w2 w3 w4
  obtain ⟨r1, r2, r3, r4, r5, r6, r7, r8, r9, r10⟩ := hr
  obtain ⟨st, rfl⟩ := Int.eq_ofNat_of_zero_le r1
  obtain ⟨sq, rfl⟩ := Int.eq_ofNat_of_zero_le r3
  obtain ⟨kd, rfl⟩ := Int.eq_ofNat_of_zero_le r5
  obtain ⟨s0, rfl⟩ := Int.eq_ofNat_of_zero_le r7
  obtain ⟨s1, rfl⟩ : ∃ s1 : Nat, fin = (s0 : Int) + s1 := ⟨(fin - s0).toNat, by omega⟩
  have hlen : (bytesS ⟨hi, lo, id, up, name, st, sq, kd, shade, s0, (s0 : Int) + s1⟩).length = 8 + 8 + 8 + 8 + (textS name).length + (vput st).length + (vput sq).length + (vput kd).length + 1 + (vput s0).length + (vput s1).length := by
    simp only [bytesS, List.length_append, be_length, shB, List.length_singleton, Int.toNat_natCast, show ((s0 : Int) + s1 - s0).toNat = s1 by omega]
    omega
  simp only [bytesS, List.append_assoc, Int.toNat_natCast, show ((s0 : Int) + s1 - s0).toNat = s1 by omega] at h
  have b8 : ∀ n, ((be 8 n).length : Int) = 8 := fun n => by rw [be_length]; rfl
  have g1 := oct_at h (by omega) (by omega) (by rw [pow8]; exact w1)
  have h := h.step
  rw [b8] at h
  have g2 := oct_at h (by omega) (by omega) (by rw [pow8]; exact w2)
  have h := h.step
  rw [b8] at h
  have g3 := oct_at h (by omega) (by omega) (by rw [pow8]; exact w3)
  have h := h.step
  rw [b8] at h
  have g4 := oct_at h (by omega) (by omega) (by rw [pow8]; exact w4)
  have h := h.step
  rw [b8] at h
  have g5 := nam_at h hn
  have h := h.step
  have g6 := num_at h (by omega)
  have h := h.step
  have g7 := num_at h (by omega)
  have h := h.step
  have g8 := num_at h (by omega)
  have h := h.step
  have g9 := sha_at h
  have h := h.step
  rw [show ((shB shade).length : Int) = 1 from rfl] at h
  have g10 := num_at h (by omega)
  have h := h.step
  have g11 := num_at h (by omega)
  rw [runS_eq g1 g2 g3 g4 g5 g6 g7 g8 g9 g10 g11, hlen]
  refine Prod.ext rfl (Prod.ext ?_ rfl)
  simp only []; omega
theorem readS_bytesS (p x : List UInt8) (s : Sp) (hc : chkS s = 0) (hw : wideS s) : readS (p ++ (bytesS s ++ x)) p.length = (s, ((p.length + (bytesS s).length : Nat) : Int), 0) := by
  rw [readS_ok (runS_at (At.mk' p _) hc hw) hc, Int.natCast_add]
/-- Backward: the bytes between two places. -/
def seg (l : List UInt8) (a b : Int) : List UInt8 := (l.drop a.toNat).take (b - a).toNat
theorem seg_append {l : List UInt8} {a b c : Int} (h0 : 0 ≤ a) (h1 : a ≤ b) (h2 : b ≤ c) : seg l a b ++ seg l b c = seg l a c := by
  unfold seg
  rw [show (c - a).toNat = (b - a).toNat + (c - b).toNat by omega, List.take_add, List.drop_drop, show a.toNat + (b - a).toNat = b.toNat by omega]
theorem be_val (l : List UInt8) : be l.length (val l) = l := by
  induction l using List.reverseRecOn' with
  | nil => rfl
  | snoc l c ih =>
    have hc := c.toNat_lt
    rw [List.length_append, List.length_singleton, val_snoc]
    show be l.length ((val l * 256 + c.toNat) / 256) ++ [UInt8.ofNat ((val l * 256 + c.toNat) % 256)] = l ++ [c]
    rw [show (val l * 256 + c.toNat) / 256 = val l by omega, show (val l * 256 + c.toNat) % 256 = c.toNat by omega, ih, UInt8.ofNat_toNat]
theorem oct_back {l : List UInt8} {a b : Int} {n wd : Nat} (h0 : 0 ≤ a) (h1 : 1 ≤ wd) (h8 : wd ≤ 8) (h : octP l wd a 0 = (n, b, 0)) : b = a + wd ∧ b ≤ l.length ∧ n < 256 ^ wd ∧ be wd n = seg l a b := by
  rw [octP, if_neg (by simp)] at h
  by_cases hs : (l.length : Int) - a < wd
  · rw [getS_short (by omega) hs, if_neg (by simp)] at h
    simp at h
  · rw [getS_ok (by omega) hs, if_pos rfl] at h
    simp only [Prod.mk.injEq] at h
    obtain ⟨rfl, rfl, _⟩ := h
    have hl : ((l.drop a.toNat).take wd).length = wd := by rw [List.length_take, List.length_drop]; omega
    rw [Int.toNat_natCast]
    refine ⟨rfl, by omega, ?_, ?_⟩
    · have := val_lt ((l.drop a.toNat).take wd); rwa [hl] at this
    · have := be_val ((l.drop a.toNat).take wd)
      rw [hl] at this
      rw [this, seg, show (a + (wd : Int) - a).toNat = wd by omega]
theorem vget_back {l : List UInt8} {a : Int} {n : Nat} {b : Int} (h : vgetS l a = (n, b, 0)) : 0 ≤ a ∧ a < b ∧ b ≤ l.length ∧ n < 18446744073709551616 ∧ vput n = seg l a b := by
  have hc := vgetS_cases l a
  rw [h] at hc
  simp at hc
  obtain ⟨h0, h1, h2, h3⟩ := hc
  obtain ⟨k, rfl⟩ := Int.eq_ofNat_of_zero_le h0
  have hk : k ≤ l.length := by omega
  obtain ⟨N, S, E, hv⟩ : ∃ N S E, vg 0 0 (l.drop k) = (N, S, E) := ⟨_, _, _, rfl⟩
  rw [vgetS_in hk hv] at h
  by_cases hE : E = 0
  · subst hE
    rw [if_pos rfl] at h
    simp only [Prod.mk.injEq] at h
    obtain ⟨rfl, rfl, _⟩ := h
    have h2' := vgetS_in (a := 0) (Nat.zero_le (l.drop k).length) (n := N) (s := S) (e := 0) (by rw [List.drop_zero]; exact hv)
    rw [if_pos rfl] at h2'
    obtain ⟨g1, _, _, g4⟩ := vgetS_back h2'
    refine ⟨h0, h1, h2, g1, ?_⟩
    rw [g4, seg, Int.toNat_natCast]
    congr 1; omega
  · rw [if_neg hE] at h
    simp only [Prod.mk.injEq] at h
    exact absurd h.2.2 hE
theorem num_back {l : List UInt8} {a b : Int} {n : Nat} (h : numP l a 0 = (n, b, 0)) : a ≤ b ∧ b ≤ l.length ∧ n ≤ 1099511627776 ∧ vput n = seg l a b := by
  rw [numP, if_neg (by simp)] at h
  obtain ⟨N, B, E, hv⟩ : ∃ N B E, vgetS l a = (N, B, E) := ⟨_, _, _, rfl⟩
  rw [hv] at h
  simp only at h
  split at h
  · rename_i hE; simp only [Prod.mk.injEq] at h; exact absurd h.2.2 hE
  · rename_i hE
    split at h
    · simp at h
    · simp only [Prod.mk.injEq] at h
      obtain ⟨rfl, rfl, _⟩ := h
      have : E = 0 := by simpa using hE
      subst this
      obtain ⟨g1, g2, g3, g4, g5⟩ := vget_back hv
      exact ⟨by omega, g3, by omega, g5⟩
theorem nam_back {l : List UInt8} {a b : Int} {n : List UInt8} (h : namP l a 0 = (n, b, 0)) : a ≤ b ∧ b ≤ l.length ∧ n.length ≤ 32 ∧ textS n = seg l a b := by
  rw [namP, if_neg (by simp)] at h
  obtain ⟨N, B, E, hv⟩ : ∃ N B E, vgetS l a = (N, B, E) := ⟨_, _, _, rfl⟩
  by_cases hE : E = 0
  · subst hE
    obtain ⟨g1, g2, g3, g4, g5⟩ := vget_back hv
    rw [takeS, hv] at h
    simp only at h
    rw [if_neg (show ¬ (0 : Int) ≠ 0 by simp)] at h
    by_cases h1 : (32 : Int) < 0 ∨ (32 : Int) < N
    · rw [if_pos h1] at h; simp at h
    · rw [if_neg h1] at h
      by_cases h2 : (l.length : Int) - B < N
      · rw [if_pos h2] at h; simp at h
      · rw [if_neg h2] at h
        simp only [ne_eq, not_true_eq_false, if_false, Prod.mk.injEq] at h
        obtain ⟨rfl, rfl, _⟩ := h
        have hl : ((l.drop B.toNat).take N).length = N := by rw [List.length_take, List.length_drop]; omega
        refine ⟨by omega, by omega, by omega, ?_⟩
        rw [textS, hl, g5, ← seg_append (l := l) (a := a) (b := B) (c := B + N) g1 (by omega) (by omega)]
        congr 1
        rw [seg]; congr 1; omega
  · rw [takeS, hv] at h
    simp only at h
    rw [if_pos hE, if_pos hE] at h
    simp only [Prod.mk.injEq] at h
    exact absurd h.2.2 hE
theorem sha_back {l : List UInt8} {a b : Int} {n : Bool} (h0 : 0 ≤ a) (h : shaP l a 0 = (n, b, 0)) : b = a + 1 ∧ b ≤ l.length ∧ shB n = seg l a b := by
  rw [shaP] at h
  obtain ⟨N, B, E, hv⟩ : ∃ N B E, octP l 1 a 0 = (N, B, E) := ⟨_, _, _, rfl⟩
  rw [hv] at h
  simp only at h
  split at h
  · simp at h
  · rename_i h1
    simp only [Prod.mk.injEq] at h
    obtain ⟨rfl, rfl, rfl⟩ := h
    obtain ⟨g1, g2, g3, g4⟩ := oct_back (wd := 1) h0 (by omega) (by omega) hv
    refine ⟨g1, g2, ?_⟩
    rw [← g4]
    have : N = 0 ∨ N = 1 := by omega
    rcases this with rfl | rfl <;> rfl
theorem octE {l : List UInt8} {wd a e b : Int} {n : Nat} (h : octP l wd a e = (n, b, 0)) : e = 0 := by
  by_cases he : e = 0
  · exact he
  · rw [octP_err he] at h; simp only [Prod.mk.injEq] at h; exact h.2.2
theorem numE {l : List UInt8} {a e b : Int} {n : Nat} (h : numP l a e = (n, b, 0)) : e = 0 := by
  by_cases he : e = 0
  · exact he
  · rw [numP_err he] at h; simp only [Prod.mk.injEq] at h; exact h.2.2
theorem namE {l : List UInt8} {a e b : Int} {n : List UInt8} (h : namP l a e = (n, b, 0)) : e = 0 := by
  by_cases he : e = 0
  · exact he
  · rw [namP_err he] at h; simp only [Prod.mk.injEq] at h; exact h.2.2
theorem shaE {l : List UInt8} {a e b : Int} {n : Bool} (h : shaP l a e = (n, b, 0)) : e = 0 := by
  by_cases he : e = 0
  · exact he
  · rw [shaP_err he] at h; simp only [Prod.mk.injEq] at h; exact h.2.2
theorem oct_neg {l : List UInt8} {a : Int} (h : a < 0) : octP l 8 a 0 = (0, a, 2) := by
  rw [octP, getS_arg (by omega), if_neg (by simp), if_neg (by simp)]
theorem runS_back {l : List UInt8} {a b : Int} {s : Sp} (h : runS l a = (s, b, 0)) : 0 ≤ a ∧ a ≤ b ∧ b ≤ l.length ∧ wideS s ∧ bytesS s = seg l a b := by
  obtain ⟨hi, a1, e1, h1⟩ : ∃ hi a1 e1, octP l 8 a 0 = (hi, a1, e1) := ⟨_, _, _, rfl⟩
  obtain ⟨lo, a2, e2, h2⟩ : ∃ x y z, octP l 8 a1 e1 = (x, y, z) := ⟨_, _, _, rfl⟩
  obtain ⟨id, a3, e3, h3⟩ : ∃ x y z, octP l 8 a2 e2 = (x, y, z) := ⟨_, _, _, rfl⟩
  obtain ⟨up, a4, e4, h4⟩ : ∃ x y z, octP l 8 a3 e3 = (x, y, z) := ⟨_, _, _, rfl⟩
  obtain ⟨nm, a5, e5, h5⟩ : ∃ x y z, namP l a4 e4 = (x, y, z) := ⟨_, _, _, rfl⟩
  obtain ⟨st, a6, e6, h6⟩ : ∃ x y z, numP l a5 e5 = (x, y, z) := ⟨_, _, _, rfl⟩
  obtain ⟨sq, a7, e7, h7⟩ : ∃ x y z, numP l a6 e6 = (x, y, z) := ⟨_, _, _, rfl⟩
  obtain ⟨kd, a8, e8, h8⟩ : ∃ x y z, numP l a7 e7 = (x, y, z) := ⟨_, _, _, rfl⟩
  obtain ⟨sh, a9, e9, h9⟩ : ∃ x y z, shaP l a8 e8 = (x, y, z) := ⟨_, _, _, rfl⟩
  obtain ⟨s0, a10, e10, h10⟩ : ∃ x y z, numP l a9 e9 = (x, y, z) := ⟨_, _, _, rfl⟩
  obtain ⟨s1, a11, e11, h11⟩ : ∃ x y z, numP l a10 e10 = (x, y, z) := ⟨_, _, _, rfl⟩
  rw [runS_eq h1 h2 h3 h4 h5 h6 h7 h8 h9 h10 h11] at h
  simp only [Prod.mk.injEq] at h
  obtain ⟨rfl, rfl, rfl⟩ := h
  obtain rfl := numE h11
  obtain rfl := numE h10
  obtain rfl := shaE h9
  obtain rfl := numE h8
  obtain rfl := numE h7
  obtain rfl := numE h6
  obtain rfl := namE h5
  obtain rfl := octE h4
  obtain rfl := octE h3
  obtain rfl := octE h2
  have h0 : 0 ≤ a := by
    by_cases h0 : a < 0
    · rw [oct_neg h0] at h1; simp at h1
    · omega
  obtain ⟨g1, g1', w1, q1⟩ := oct_back (wd := 8) h0 (by omega) (by omega) h1
  obtain ⟨g2, g2', w2, q2⟩ := oct_back (wd := 8) (by omega) (by omega) (by omega) h2
  obtain ⟨g3, g3', w3, q3⟩ := oct_back (wd := 8) (by omega) (by omega) (by omega) h3
  obtain ⟨g4, g4', w4, q4⟩ := oct_back (wd := 8) (by omega) (by omega) (by omega) h4
  obtain ⟨g5, g5', _, q5⟩ := nam_back h5
  obtain ⟨g6, g6', _, q6⟩ := num_back h6
  obtain ⟨g7, g7', _, q7⟩ := num_back h7
  obtain ⟨g8, g8', _, q8⟩ := num_back h8
  obtain ⟨g9, g9', q9⟩ := sha_back (by omega) h9
  obtain ⟨g10, g10', _, q10⟩ := num_back h10
  obtain ⟨g11, g11', _, q11⟩ := num_back h11
  rw [pow8] at w1 w2 w3 w4
  refine ⟨h0, by omega, g11', ⟨w1, w2, w3, w4⟩, ?_⟩
  simp only [bytesS, Int.toNat_natCast, show ((s0 : Int) + s1 - s0).toNat = s1 by omega]
  rw [q1, q2, q3, q4, q5, q6, q7, q8, q9, q10, q11]
  rw [seg_append (by omega) (by omega) (by omega), seg_append (by omega) (by omega) (by omega), seg_append (by omega) (by omega) (by omega), seg_append (by omega) (by omega) (by omega), seg_append (by omega) (by omega) (by omega), seg_append (by omega) (by omega) (by omega), seg_append (by omega) (by omega) (by omega), seg_append (by omega) (by omega) (by omega), seg_append (by omega) (by omega) (by omega), seg_append (by omega) (by omega) (by omega)]
theorem readS_back {l : List UInt8} {a b : Int} {s : Sp} (h : readS l a = (s, b, 0)) : 0 ≤ a ∧ a ≤ b ∧ b ≤ l.length ∧ wideS s ∧ chkS s = 0 ∧ bytesS s = seg l a b := by
  rw [readS] at h
  split at h
  · rename_i he; simp only [Prod.mk.injEq] at h; exact absurd h.2.2 he
  · split at h
    · rename_i hc; simp only [Prod.mk.injEq] at h; exact absurd h.2.2 hc
    · rename_i he hc
      obtain ⟨g1, g2, g3, g4, g5⟩ := runS_back h
      rw [h] at hc
      exact ⟨g1, g2, g3, g4, by simpa using hc, g5⟩
theorem bytesS_len (s : Sp) (h : chkS s = 0) : (bytesS s).length ≤ 150 ∧ 1 ≤ (bytesS s).length := by
  obtain ⟨_, hn, _⟩ := chkS_ok h
  have hn := nameB_len hn
  simp only [bytesS, List.length_append, be_length, shB, List.length_singleton, textS]
  have := vput_length_le s.name.length
  have := vput_length_le s.status.toNat
  have := vput_length_le s.seq.toNat
  have := vput_length_le s.kids.toNat
  have := vput_length_le s.start.toNat
  have := vput_length_le (s.fin - s.start).toNat
  omega
end Go.Proofs.Ytpfhmpblcmednaa
namespace Go.Proofs.Ytpfhmpblcmednaa
set_option linter.unusedVariables false
set_option linter.unusedSimpArgs false

/-- A span that is open, under its number. -/
abbrev Opn : Type := Int × Sp
/-- The place of the first one of a number; the length, where there is none. -/
def opAt (l : List Opn) (no : Int) : Nat := l.findIdx fun o => decide (o.1 = no)
def opEnd (s : Sp) (st kd now : Int) : Sp := { s with status := st, kids := kd, fin := max now s.start }
def opStart (l : List Opn) (no : Int) (s : Sp) : List Opn × Int := if opAt l no < l.length then ([], 10) else if 256 ≤ l.length then ([], 8) else (l ++ [(no, s)], 0)
def opFin (l : List Opn) (no st kd now : Int) : List Opn × Sp × Int := if h : opAt l no < l.length then (l.eraseIdx (opAt l no), opEnd l[opAt l no].2 st kd now, 0) else ([], sp0, 9)
def opFind (l : List Opn) (no : Int) : Sp × Bool := if h : opAt l no < l.length then (l[opAt l no].2, true) else (sp0, false)
theorem opAt_le (l : List Opn) (no : Int) : opAt l no ≤ l.length := List.findIdx_le_length
theorem opAt_is {l : List Opn} {no : Int} (h : opAt l no < l.length) : l[opAt l no].1 = no := by
  have := List.findIdx_getElem (w := h)
  exact of_decide_eq_true this
theorem opAt_not {l : List Opn} {no : Int} {j : Nat} (hj : j < l.length) (h : j < opAt l no) : l[j].1 ≠ no := by
  have := List.not_of_lt_findIdx (p := fun o : Opn => decide (o.1 = no)) (xs := l) h
  simpa using this
/-- Where the place is, told by what is there and ahead. -/
theorem opAt_eq {l : List Opn} {no : Int} {k : Nat} (hk : k < l.length) (h1 : l[k].1 = no) (h2 : ∀ j (hj : j < k), l[j].1 ≠ no) : opAt l no = k := by
  unfold opAt
  rw [List.findIdx_eq hk]
  exact ⟨by simpa using h1, fun j hj => by simpa using h2 j hj⟩
theorem opAt_miss {l : List Opn} {no : Int} (h : ∀ o ∈ l, o.1 ≠ no) : opAt l no = l.length := by
  unfold opAt
  exact List.findIdx_eq_length.2 fun o ho => by simpa using h o ho
theorem opAt_none {l : List Opn} {no : Int} (h : ¬ opAt l no < l.length) : ∀ o ∈ l, o.1 ≠ no := fun o ho => by
  have h1 : opAt l no = l.length := by have := opAt_le l no; omega
  have := List.findIdx_eq_length.1 h1 o ho
  simpa using this
theorem opStart_ok {l : List Opn} {no : Int} {s : Sp} {a : List Opn} (h : opStart l no s = (a, 0)) : ¬ opAt l no < l.length ∧ l.length < 256 ∧ a = l ++ [(no, s)] := by
  unfold opStart at h
  split at h
  · exact absurd (congrArg Prod.snd h) (by simp)
  · split at h
    · exact absurd (congrArg Prod.snd h) (by simp)
    · rename_i h1 h2
      exact ⟨h1, by omega, (congrArg Prod.fst h).symm⟩
theorem opStart_err {l : List Opn} {no : Int} {s : Sp} (h : (opStart l no s).2 ≠ 0) : (opStart l no s).1 = [] := by
  unfold opStart at h ⊢
  split
  · rfl
  · split
    · rfl
    · rename_i h1 h2
      rw [if_neg h1, if_neg h2] at h
      exact absurd rfl h
theorem opAt_put {l : List Opn} {no : Int} {s : Sp} (h : ¬ opAt l no < l.length) : opAt (l ++ [(no, s)]) no = l.length := by
  refine opAt_eq (by simp) (by simp) fun j hj => ?_
  rw [List.getElem_append_left hj]
  exact opAt_none h _ (List.getElem_mem hj)
/-- What was started is found, and finished once. -/
theorem opBack {l : List Opn} {no : Int} {s : Sp} {a : List Opn} (h : opStart l no s = (a, 0)) (st kd now : Int) :
    opFind a no = (s, true) ∧ opFin a no st kd now = (l, opEnd s st kd now, 0) ∧ opFind l no = (sp0, false) ∧ opFin l no st kd now = ([], sp0, 9) := by
  obtain ⟨h1, h2, rfl⟩ := opStart_ok h
  have hp := opAt_put (s := s) h1
  have hlt : opAt (l ++ [(no, s)]) no < (l ++ [(no, s)]).length := by rw [hp]; simp
  have hat : (l ++ [(no, s)])[opAt (l ++ [(no, s)]) no] = (no, s) := by
    have : (l ++ [(no, s)])[opAt (l ++ [(no, s)]) no]? = some (no, s) := by rw [hp]; simp
    exact (List.getElem?_eq_some_iff.1 this).2
  refine ⟨?_, ?_, ?_, ?_⟩
  · unfold opFind
    rw [dif_pos hlt, hat]
  · unfold opFin
    rw [dif_pos hlt, hat, hp, List.eraseIdx_append_of_length_le (Nat.le_refl _)]
    simp
  · unfold opFind
    rw [dif_neg h1]
  · unfold opFin
    rw [dif_neg h1]
/-- Where another one's place is, when one is gone. -/
theorem opAt_erase {l : List Opn} {a b : Int} (hab : a ≠ b) (ha : opAt l a < l.length) (hb : opAt l b < l.length) :
    opAt l a ≠ opAt l b ∧ opAt (l.eraseIdx (opAt l a)) b = if opAt l b < opAt l a then opAt l b else opAt l b - 1 := by
  have ea := opAt_is ha
  have eb := opAt_is hb
  have hne : opAt l a ≠ opAt l b := fun e => hab (by
    have : l[opAt l a].1 = l[opAt l b].1 := by simp only [e]
    rw [← ea, this, eb])
  refine ⟨hne, ?_⟩
  have hl := List.length_eraseIdx_of_lt ha
  split
  · rename_i h
    refine opAt_eq (by rw [hl]; omega) ?_ fun j hj => ?_
    · rw [List.getElem_eraseIdx_of_lt (h' := h)]; exact eb
    · rw [List.getElem_eraseIdx_of_lt (h' := (by omega))]
      exact opAt_not (by omega) hj
  · rename_i h
    refine opAt_eq (by rw [hl]; omega) ?_ fun j hj => ?_
    · rw [List.getElem_eraseIdx_of_ge (h' := (by omega))]
      have e : opAt l b - 1 + 1 = opAt l b := by omega
      simp only [e]
      exact eb
    · by_cases hj2 : j < opAt l a
      · rw [List.getElem_eraseIdx_of_lt (h' := hj2)]
        exact opAt_not (by omega) (by omega)
      · rw [List.getElem_eraseIdx_of_ge (h' := (by omega))]
        exact opAt_not (by omega) (by omega)
theorem erase_swap {α : Type} : ∀ (l : List α) (i j : Nat), i < j → (l.eraseIdx i).eraseIdx (j - 1) = (l.eraseIdx j).eraseIdx i
  | [], _, _, _ => by simp
  | x :: l, 0, j + 1, _ => by simp
  | x :: l, i + 1, j + 1, h => by
    have h1 : i < j := by omega
    rw [List.eraseIdx_cons_succ, List.eraseIdx_cons_succ, show j + 1 - 1 = (j - 1) + 1 by omega, List.eraseIdx_cons_succ, List.eraseIdx_cons_succ, erase_swap l i j h1]
/-- Two spans of unlike numbers end in either order just the same. -/
theorem opApart {l : List Opn} {a b : Int} (hab : a ≠ b) (ha : opAt l a < l.length) (hb : opAt l b < l.length) (st kd now : Int) :
    (opFin (opFin l a st kd now).1 b st kd now) = ((opFin (opFin l b st kd now).1 a st kd now).1, (opFin l b st kd now).2.1, 0) ∧ (opFin (opFin l b st kd now).1 a st kd now).2 = ((opFin l a st kd now).2.1, 0) ∧ (opFin (opFin l a st kd now).1 b st kd now).1.length + 2 = l.length := by
  obtain ⟨hne, e1⟩ := opAt_erase hab ha hb
  obtain ⟨-, e2⟩ := opAt_erase (Ne.symm hab) hb ha
  have la := List.length_eraseIdx_of_lt ha
  have lb := List.length_eraseIdx_of_lt hb
  have fa : (opFin l a st kd now) = (l.eraseIdx (opAt l a), opEnd l[opAt l a].2 st kd now, 0) := by unfold opFin; rw [dif_pos ha]
  have fb : (opFin l b st kd now) = (l.eraseIdx (opAt l b), opEnd l[opAt l b].2 st kd now, 0) := by unfold opFin; rw [dif_pos hb]
  rw [fa, fb]
  simp only
  have hb2 : opAt (l.eraseIdx (opAt l a)) b < (l.eraseIdx (opAt l a)).length := by rw [e1, la]; split <;> omega
  have ha2 : opAt (l.eraseIdx (opAt l b)) a < (l.eraseIdx (opAt l b)).length := by rw [e2, lb]; split <;> omega
  have gb : (l.eraseIdx (opAt l a))[opAt (l.eraseIdx (opAt l a)) b] = l[opAt l b] := by
    by_cases h : opAt l b < opAt l a
    · simp only [e1, if_pos h]
      rw [List.getElem_eraseIdx_of_lt (h' := h)]
    · simp only [e1, if_neg h]
      rw [List.getElem_eraseIdx_of_ge (h' := (by omega))]
      have e : opAt l b - 1 + 1 = opAt l b := by omega
      simp only [e]
  have ga : (l.eraseIdx (opAt l b))[opAt (l.eraseIdx (opAt l b)) a] = l[opAt l a] := by
    by_cases h : opAt l a < opAt l b
    · simp only [e2, if_pos h]
      rw [List.getElem_eraseIdx_of_lt (h' := h)]
    · simp only [e2, if_neg h]
      rw [List.getElem_eraseIdx_of_ge (h' := (by omega))]
      have e : opAt l a - 1 + 1 = opAt l a := by omega
      simp only [e]
  have hsw : (l.eraseIdx (opAt l a)).eraseIdx (opAt (l.eraseIdx (opAt l a)) b) = (l.eraseIdx (opAt l b)).eraseIdx (opAt (l.eraseIdx (opAt l b)) a) := by
    rw [e1, e2]
    by_cases h : opAt l b < opAt l a
    · rw [if_pos h, if_neg (by omega)]
      exact (erase_swap l _ _ h).symm
    · rw [if_neg h, if_pos (by omega)]
      exact erase_swap l _ _ (by omega)
  have f1 : opFin (l.eraseIdx (opAt l a)) b st kd now = ((l.eraseIdx (opAt l a)).eraseIdx (opAt (l.eraseIdx (opAt l a)) b), opEnd l[opAt l b].2 st kd now, 0) := by
    unfold opFin; rw [dif_pos hb2, gb]
  have f2 : opFin (l.eraseIdx (opAt l b)) a st kd now = ((l.eraseIdx (opAt l b)).eraseIdx (opAt (l.eraseIdx (opAt l b)) a), opEnd l[opAt l a].2 st kd now, 0) := by
    unfold opFin; rw [dif_pos ha2, ga]
  rw [f1, f2]
  refine ⟨by rw [hsw], rfl, ?_⟩
  have := List.length_eraseIdx_of_lt hb2
  simp only
  omega
end Go.Proofs.Ytpfhmpblcmednaa
namespace Go.Proofs.Ytpfhmpblcmednaa
set_option linter.unusedVariables false
set_option linter.unusedSimpArgs false

/-- What waits, and how many were lost. -/
abbrev Bfr : Type := List Sp × Nat
def bfRoom (r : Int) : Nat := (max 1 (min r 64)).toNat
theorem bfRoom_pos (r : Int) : 1 ≤ bfRoom r ∧ bfRoom r ≤ 64 := by unfold bfRoom; omega
def bfPut (room : Nat) (b : Bfr) (s : Sp) : Bfr × Bool := if b.1.length < room then ((b.1 ++ [s], b.2), true) else ((b.1, min (b.2 + 1) 1099511627776), false)
/-- How many are taken. -/
def bfN (b : Bfr) (n : Int) : Nat := (max 0 (min n (b.1.length : Int))).toNat
def bfTake (b : Bfr) (n : Int) : Bfr × List Sp := ((b.1.drop (bfN b n), b.2), b.1.take (bfN b n))
theorem bfN_le (b : Bfr) (n : Int) : bfN b n ≤ b.1.length := by unfold bfN; omega
/-- There never wait more than there is room for. -/
theorem bfPut_room {room : Nat} {b : Bfr} (s : Sp) (h : b.1.length ≤ room) : (bfPut room b s).1.1.length ≤ room := by
  unfold bfPut
  split
  · simp; omega
  · exact h
theorem bfTake_room {room : Nat} {b : Bfr} (n : Int) (h : b.1.length ≤ room) : (bfTake b n).1.1.length ≤ room := by
  unfold bfTake
  simp only [List.length_drop]
  omega
/-- What was taken, and what waits, is what was put. -/
def bfOnce (room : Nat) (b : Bfr) (inn out : List Sp) (lost : Nat) : Prop := out ++ b.1 = inn ∧ b.2 = lost ∧ b.1.length ≤ room
theorem bfOnce_new (room : Nat) : bfOnce room ([], 0) [] [] 0 := ⟨rfl, rfl, Nat.zero_le _⟩
theorem bfOnce_take {room : Nat} {b : Bfr} {inn out : List Sp} {lost : Nat} (n : Int) (h : bfOnce room b inn out lost) : bfOnce room (bfTake b n).1 inn (out ++ (bfTake b n).2) lost := by
  obtain ⟨h1, h2, h3⟩ := h
  refine ⟨?_, h2, bfTake_room n h3⟩
  unfold bfTake
  simp only [List.append_assoc, List.take_append_drop]
  exact h1
theorem bfOnce_put {room : Nat} {b : Bfr} {inn out : List Sp} {lost : Nat} (s : Sp) (h : bfOnce room b inn out lost) (hr : b.1.length < room) : (bfPut room b s).2 = true ∧ bfOnce room (bfPut room b s).1 (inn ++ [s]) out lost := by
  obtain ⟨h1, h2, h3⟩ := h
  unfold bfPut
  rw [if_pos hr]
  refine ⟨rfl, ?_, h2, by simp; omega⟩
  simp only [← List.append_assoc, h1]
theorem bfOnce_lost {room : Nat} {b : Bfr} {inn out : List Sp} {lost : Nat} (s : Sp) (h : bfOnce room b inn out lost) (hr : ¬ b.1.length < room) (hl : lost < 1000000) : (bfPut room b s).2 = false ∧ bfOnce room (bfPut room b s).1 inn out (lost + 1) := by
  obtain ⟨h1, h2, h3⟩ := h
  unfold bfPut
  rw [if_neg hr]
  exact ⟨rfl, h1, by simp only [h2]; omega, h3⟩
/-- Two pieces are what is taken at once. -/
theorem bfPieces (b : Bfr) (n m : Int) (hn : 0 ≤ n) (hm : 0 ≤ m) :
    (bfTake b n).2 ++ (bfTake (bfTake b n).1 m).2 = (bfTake b (n + m)).2 ∧ (bfTake (bfTake b n).1 m).1 = (bfTake b (n + m)).1 := by
  obtain ⟨l, k⟩ := b
  have e : bfN (l, k) (n + m) = bfN (l, k) n + bfN ((bfTake (l, k) n).1) m := by
    unfold bfTake bfN
    simp only [List.length_drop]
    omega
  have ht : ∀ i j : Nat, l.take i ++ (l.drop i).take j = l.take (i + j) := fun i j => by rw [List.take_add]
  have hd : ∀ i j : Nat, (l.drop i).drop j = l.drop (i + j) := fun i j => by rw [List.drop_drop]
  constructor
  · show l.take _ ++ (l.drop _).take _ = l.take (bfN (l, k) (n + m))
    rw [e, ← ht]
  · show ((l.drop _).drop _, k) = (l.drop (bfN (l, k) (n + m)), k)
    rw [e, ← hd]
end Go.Proofs.Ytpfhmpblcmednaa
