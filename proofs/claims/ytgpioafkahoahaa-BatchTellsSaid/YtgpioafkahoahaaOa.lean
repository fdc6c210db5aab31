import Derived.Test.YtgpioafkahoahaaRows
import Derived.Test.YtgpioafkahoahaaPlain
import Derived.Lib.SmallJoins
import Derived.WalkLawsBesides

namespace Go.Proofs.Ytgpioafkahoahaa
set_option linter.unusedVariables false
open Go.RowKit

set_option maxHeartbeats 400000 in
theorem fits_any (n b : Int) (w : World) (h0 : 0 ≤ b) (h1 : b ≤ 64) :
    Calls Try.prog 88 #[.int .u64 n, .int .i64 b] w fun e w' => e = .returned (.bool (n / 2 ^ b.toNat == 0)) ∧ w = w' := by
  go_enter Try.func88, Try.ntmps88
  go_wp2
  go_ret
  exact ⟨rfl, rfl⟩

theorem conv_bytes (w : World) (b : Nat) (l : List UInt8) (n c : Nat) (hn : l.length = n) (h : ∀ j (hj : j < l.length), w.cell? ⟨b, j, none⟩ = some (.int .u8 (l[j].toNat : Int))) :
    (convert 52 9 (.slice (some ⟨b, 0, none⟩) n c)).run Try.prog w = .ok (.string (bs l)) w := by
  subst hn
  exact run_convert_bytes_back (P := Try.prog) w 52 9 5 ⟨b, 0, none⟩ c l Try.underlying52 Try.underlying5 Try.underlying9 (fun j hj => by rw [Addr.add_lit, Nat.zero_add]; exact h j hj)

theorem conv_new (w : World) (l : List UInt8) (n c : Nat) (hn : l.length = n) :
    (convert 52 9 (.slice (some ⟨w.heap.size, 0, none⟩) n c)).run Try.prog (w.alloc (.cells (cellsOf l) 5)) = .ok (.string (bs l)) (w.alloc (.cells (cellsOf l) 5)) :=
  conv_bytes _ _ l n c hn fun j hj => by simp [cellsOf_at l j hj]

theorem conv1 (w : World) (x : Int) : (convert 52 9 (.slice (some ⟨w.heap.size, 0, none⟩) 1 1)).run Try.prog (w.alloc (.cells #[.int .u8 x] 5)) = .ok (.string (bs [UInt8.ofNat x.toNat])) (w.alloc (.cells #[.int .u8 x] 5)) := by
  rw [run_convert_bytes_arg (P := Try.prog) _ 52 5 Try.underlying52 Try.underlying5 _ 0 1 1 [x] rfl _ 9 Try.underlying9]
  · rfl
  · intro i hi
    obtain rfl : i = 0 := by omega
    simp

set_option maxHeartbeats 400000 in
theorem byte_any (n : Int) (w : World) (h0 : 0 ≤ n) :
    Calls Try.prog 39 #[.int .u64 n] w fun e w' => e = .returned (.string (bs [UInt8.ofNat (n.toNat % 256)])) ∧ Below w.heap.size w w' := by
  have hc := conv1
  obtain ⟨n, rfl⟩ := Int.eq_ofNat_of_zero_le h0
  go_enter Try.func39, Try.ntmps39
  go_wp2
  go_ret
  exact ⟨rfl, (Below.refl _ _).alloc (Nat.le_refl _) _⟩

theorem info5 : (Try.prog.info? 5).map (fun i => (i.zero, i.size, i.bytes)) = some (some (.int .u8 0), 1, 1) := by kernel_rfl
theorem madeCells_u8 (n : Nat) : madeCells (Value.cells (.int .u8 0)) (n * 1) = cellsOf (filled n []) := by
  apply Array.ext
  · simp [madeCells, cellsOf, filled]
  · intro i h1 h2
    simp [madeCells, cellsOf, filled, Value.cells, Nat.mod_one]
theorem make_bytes (w : World) (n : Nat) (h : n ≤ 1000) :
    (Instr.makeSlice 52 (.int .i64 (n : Int)) (.int .i64 (n : Int))).run Try.prog w = .ok (.slice (some ⟨w.heap.size, 0, none⟩) n n) (w.alloc (.cells (cellsOf (filled n [])) 5)) := by
  obtain ⟨i, hi, hz, hs, hb⟩ := info_parts info5
  have := run_make (P := Try.prog) w 52 5 i _ Try.underlying52 hi hz .i64 .i64 n n (by omega) (by omega) (by rw [hb]; omega) (by omega)
  rw [this, hs, Int.toNat_natCast, madeCells_u8]


set_option maxHeartbeats 400000 in
theorem oput_any (n wd : Int) (w : World) (h0 : 0 ≤ n) :
    Calls Try.prog 75 #[.int .u64 n, .int .i64 wd] w fun e w' => e = .returned (.tuple #[.string (bs (putS n.toNat wd).1), .int .i64 (putS n.toNat wd).2]) ∧ Below w.heap.size w w' := by
  obtain ⟨n, rfl⟩ := Int.eq_ofNat_of_zero_le h0
  rw [Int.toNat_natCast]
  by_cases hw : wd < 1 ∨ 8 < wd
  · rw [putS, putX_arg hw]
    go_enter Try.func75, Try.ntmps75
    go_wp2_with fail
    all_goals (go_ret2; exact ⟨rfl, Below.refl _ _⟩)
  obtain ⟨hw1, hw2⟩ : 1 ≤ wd ∧ wd ≤ 8 := by omega
  obtain ⟨wd, rfl⟩ := Int.eq_ofNat_of_zero_le (show 0 ≤ wd by omega)
  clear hw
  by_cases hf : n / 256 ^ wd = 0
  · rw [putS, putX_ok (by omega) (by omega) hf, Int.toNat_natCast]
    show Calls _ _ _ _ fun e w' => e = .returned (.tuple #[.string (bs (be wd n)), .int .i64 0]) ∧ Below w.heap.size w w'
    have Hf := hid hf
    clear hf
    have hmk : ∀ w, (Instr.makeSlice 52 (.int .i64 (wd : Int)) (.int .i64 (wd : Int))).run Try.prog w = .ok (.slice (some ⟨w.heap.size, 0, none⟩) wd wd) (w.alloc (.cells (cellsOf (filled wd [])) 5)) := fun w => make_bytes w wd (by omega)
    go_enter Try.func75, Try.ntmps75
    go_wp2_with fail
    refine (fits_any _ _ _ (by omega) (by omega)).mono ?_
    rintro e w' ⟨rfl, rfl⟩
    rw [fits_true (c := 8) (b := 8 * (wd : Int)) rfl Hf.out]
    go_wp2_with fail
    go_loopw [0, 22] (fun n0 i wr => ∃ k m : Nat, k ≤ wd ∧ Hid (m = n / 256 ^ k) ∧ i = .int .i64 k ∧ n0 = .int .u64 m ∧ wr = w.alloc (.cells (cellsOf (filled wd (be k n))) 5)) (fun _ i _ => wd - (intOf i).toNat)
    case atStart => exact ⟨0, n, Nat.zero_le _, hid (by simp), rfl, rfl, rfl⟩
    case round =>
      obtain ⟨k, m, hk, Hm, rfl, rfl, rfl⟩ := hrel
      have hlen : (filled wd (be k n)).length = wd := filled_length (by rw [be_length]; exact hk)
      have Hlen := hid hlen
      clear hlen
      by_cases hlt : k < wd
      · have hcell : ∃ v, (cellsOf (filled wd (be k n)))[wd - 1 - k]? = some v := ⟨_, cellsOf_at _ _ (by rw [Hlen.out]; omega)⟩
        obtain ⟨v, hcell⟩ := hcell
        go_wp2
        go_roundw
        case rel => exact ⟨k + 1, m / 256, by omega, hid (by rw [Hm.out, div_step]), by go_num, by go_num, by rw [← u8_cast, cellsOf_set, be_set wd k n m hlt Hm.out]⟩
        case measure => simp [intOf]; omega
      · have hcv := conv_new w (filled wd (be k n)) wd wd Hlen.out
        go_wp2
        go_ret2
        obtain rfl : k = wd := by omega
        refine ⟨?_, (Below.refl _ _).alloc (Nat.le_refl _) _⟩
        simp [filled, be_length]
  · rw [putS, putX_range (by omega) (by omega) hf]
    have Hf := hid hf
    clear hf
    go_enter Try.func75, Try.ntmps75
    go_wp2_with fail
    refine (fits_any _ _ _ (by omega) (by omega)).mono ?_
    rintro e w' ⟨rfl, rfl⟩
    rw [fits_false (c := 8) (b := 8 * (wd : Int)) rfl Hf.out]
    go_wp2_with fail
    go_ret2
    exact ⟨rfl, Below.refl _ _⟩

end Go.Proofs.Ytgpioafkahoahaa
