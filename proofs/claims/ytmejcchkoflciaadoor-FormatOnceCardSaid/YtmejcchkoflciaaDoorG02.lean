/- Texts put together: Oa Ob Or Va. -/
import Derived.Test.YtmejcchkoflciaaDoorRows
import Derived.Test.YtmejcchkoflciaaDoorG01
import Derived.Lib.SmallJoins
import Derived.WalkLawsBesides
namespace Go.Proofs.YtmejcchkoflciaaDoor
set_option linter.unusedVariables false
open Go.RowKit

theorem conv_bytes (w : World) (b : Nat) (l : List UInt8) (n c : Nat) (hn : l.length = n) (h : ∀ j (hj : j < l.length), w.cell? ⟨b, j, none⟩ = some (.int .u8 (l[j].toNat : Int))) :
    (convert 80 9 (.slice (some ⟨b, 0, none⟩) n c)).run Tryd.prog w = .ok (.string (bs l)) w := by
  subst hn
  exact run_convert_bytes_back (P := Tryd.prog) w 80 9 5 ⟨b, 0, none⟩ c l Tryd.underlying80 Tryd.underlying5 Tryd.underlying9 (fun j hj => by rw [Addr.add_lit, Nat.zero_add]; exact h j hj)

theorem conv_new (w : World) (l : List UInt8) (n c : Nat) (hn : l.length = n) :
    (convert 80 9 (.slice (some ⟨w.heap.size, 0, none⟩) n c)).run Tryd.prog (w.alloc (.cells (cellsOf l) 5)) = .ok (.string (bs l)) (w.alloc (.cells (cellsOf l) 5)) :=
  conv_bytes _ _ l n c hn fun j hj => by simp [cellsOf_at l j hj]

theorem conv1 (w : World) (x : Int) : (convert 80 9 (.slice (some ⟨w.heap.size, 0, none⟩) 1 1)).run Tryd.prog (w.alloc (.cells #[.int .u8 x] 5)) = .ok (.string (bs [UInt8.ofNat x.toNat])) (w.alloc (.cells #[.int .u8 x] 5)) := by
  rw [run_convert_bytes_arg (P := Tryd.prog) _ 80 5 Tryd.underlying80 Tryd.underlying5 _ 0 1 1 [x] rfl _ 9 Tryd.underlying9]
  · rfl
  · intro i hi
    obtain rfl : i = 0 := by omega
    simp

set_option maxHeartbeats 400000 in
theorem byte_any (n : Int) (w : World) (h0 : 0 ≤ n) :
    Calls Tryd.prog 61 #[.int .u64 n] w fun e w' => e = .returned (.string (bs [UInt8.ofNat (n.toNat % 256)])) ∧ Below w.heap.size w w' := by
  have hc := conv1
  obtain ⟨n, rfl⟩ := Int.eq_ofNat_of_zero_le h0
  go_enter Tryd.func61, Tryd.ntmps61
  go_wp2
  go_ret
  exact ⟨rfl, (Below.refl _ _).alloc (Nat.le_refl _) _⟩

theorem info5 : (Tryd.prog.info? 5).map (fun i => (i.zero, i.size, i.bytes)) = some (some (.int .u8 0), 1, 1) := by kernel_rfl
theorem madeCells_u8 (n : Nat) : madeCells (Value.cells (.int .u8 0)) (n * 1) = cellsOf (filled n []) := by
  apply Array.ext
  · simp [madeCells, cellsOf, filled]
  · intro i h1 h2
    simp [madeCells, cellsOf, filled, Value.cells, Nat.mod_one]
theorem make_bytes (w : World) (n : Nat) (h : n ≤ 1000) :
    (Instr.makeSlice 80 (.int .i64 (n : Int)) (.int .i64 (n : Int))).run Tryd.prog w = .ok (.slice (some ⟨w.heap.size, 0, none⟩) n n) (w.alloc (.cells (cellsOf (filled n [])) 5)) := by
  obtain ⟨i, hi, hz, hs, hb⟩ := info_parts info5
  have := run_make (P := Tryd.prog) w 80 5 i _ Tryd.underlying80 hi hz .i64 .i64 n n (by omega) (by omega) (by rw [hb]; omega) (by omega)
  rw [this, hs, Int.toNat_natCast, madeCells_u8]


end Go.Proofs.YtmejcchkoflciaaDoor
namespace Go.Proofs.YtmejcchkoflciaaDoor
set_option linter.unusedVariables false
open Go.RowKit
theorem unhexS_bad {l : List UInt8} (h : l.length < 1 ∨ 16 < l.length) : unhexS l = (0, 3) := by rw [unhexS, if_pos h]
theorem unhexS_none {l : List UInt8} (h : ¬ (l.length < 1 ∨ 16 < l.length)) (h2 : uh 0 l = none) : unhexS l = (0, 3) := by rw [unhexS, if_neg h, h2]
theorem unhexS_some {l : List UInt8} {n : Nat} (h : ¬ (l.length < 1 ∨ 16 < l.length)) (h2 : uh 0 l = some n) : unhexS l = (n, 0) := by rw [unhexS, if_neg h, h2]
end Go.Proofs.YtmejcchkoflciaaDoor
namespace Go.Proofs.YtmejcchkoflciaaDoor
set_option linter.unusedVariables false
open Go.RowKit

theorem nat_div_zero (a b : Nat) (h : b = 0) : a / b = 0 := by subst h; simp
set_option maxHeartbeats 400000 in
theorem rfits_any (n b wd : Nat) (w : World) (hb : 1 ≤ b) (hw : wd ≤ 100) (hn : Hid (n < 18446744073709551616)) :
    Calls Tryd.prog 57 #[.int .u64 n, .int .u64 b, .int .i64 wd] w fun e w' => e = .returned (.bool (n / b ^ wd == 0)) ∧ w = w' := by
  go_enter Tryd.func57, Tryd.ntmps57
  go_wp2_with fail
  go_loop [0, 7] (fun n0 i => ∃ k m : Nat, k ≤ wd ∧ Hid (m = n / b ^ k) ∧ i = .int .i64 k ∧ n0 = .int .u64 m) (fun _ i => wd - (intOf i).toNat)
  case atStart => exact ⟨0, n, Nat.zero_le _, hid (by simp), rfl, rfl⟩
  case round =>
    obtain ⟨k, m, hk, Hm, rfl, rfl⟩ := hrel
    by_cases hlt : k < wd
    · go_wp2_with fail
      go_round
      case rel => exact ⟨k + 1, m / b, by omega, hid (by rw [Hm.out, div_step]), by go_num, by rw [wrap_div _ _ (div_lt Hm.out hn.out)]⟩
      case measure => simp [intOf]; omega
    · go_wp2_with fail
      go_ret
      obtain rfl : k = wd := by omega
      have := Hm.out
      subst this
      refine ⟨?_, rfl⟩
      show Ending.returned (.bool (((n / b ^ k : Nat) : Int) == 0)) = _
      congr 2
      rw [Bool.eq_iff_iff, beq_iff_eq, beq_iff_eq]; omega

set_option maxHeartbeats 400000 in
theorem rhex_any (n wd : Int) (w : World) (h0 : 0 ≤ n) (hn : Hid (n.toNat < 18446744073709551616)) :
    Calls Tryd.prog 39 #[.int .u64 n, .int .i64 wd] w fun e w' => e = .returned (.tuple #[.string (bs (hexS n.toNat wd).1), .int .i64 (hexS n.toNat wd).2]) ∧ Below w.heap.size w w' := by
  obtain ⟨n, rfl⟩ := Int.eq_ofNat_of_zero_le h0
  rw [Int.toNat_natCast] at hn ⊢
  by_cases hw : wd < 1 ∨ 16 < wd
  · rw [hexS, putX_arg hw]
    go_enter Tryd.func39, Tryd.ntmps39
    go_wp2_with fail
    all_goals (go_ret2; exact ⟨rfl, Below.refl _ _⟩)
  obtain ⟨hw1, hw2⟩ : 1 ≤ wd ∧ wd ≤ 16 := by omega
  obtain ⟨wd, rfl⟩ := Int.eq_ofNat_of_zero_le (show 0 ≤ wd by omega)
  clear hw
  by_cases hf : n / 16 ^ wd = 0
  · rw [hexS, putX_ok (by omega) (by omega) hf, Int.toNat_natCast]
    show Calls _ _ _ _ fun e w' => e = .returned (.tuple #[.string (bs (hx wd n)), .int .i64 0]) ∧ Below w.heap.size w w'
    have Hf := hid hf
    clear hf
    go_enter Tryd.func39, Tryd.ntmps39
    go_wp2_with fail
    refine (rfits_any n 16 wd _ (by omega) (by omega) hn).mono ?_
    rintro e w' ⟨rfl, rfl⟩
    rw [beq_iff_eq.2 Hf.out]
    go_wp2_with fail
    go_loopw [0, 7, 8] (fun n0 s0 i wr => ∃ k m : Nat, k ≤ wd ∧ Hid (m = n / 16 ^ k) ∧ i = .int .i64 k ∧ n0 = .int .u64 m ∧ s0 = .string (bs (hx k n)) ∧ Below w.heap.size w wr) (fun _ _ i _ => wd - (intOf i).toNat)
    case atStart => exact ⟨0, n, Nat.zero_le _, hid (by simp), rfl, rfl, rfl, Below.refl _ _⟩
    case round =>
      obtain ⟨k, m, hk, Hm, rfl, rfl, rfl, hb⟩ := hrel
      by_cases hlt : k < wd
      · have hlb := hx_length k n
        have Hl := hid hlb
        have hsz : (hx k n).length ≤ 16 := by rw [Hl.out]; omega
        clear hlb
        have hxc := hex_cut (m % 16) (by omega)
        go_wp2_with fail
        go_roundw
        case rel => exact ⟨k + 1, m / 16, by omega, hid (by rw [Hm.out, div_step]), by go_num, by rw [show (16 : Int) = ((16 : Nat) : Int) from rfl, wrap_div _ _ (div_lt Hm.out hn.out)], by rw [hx_cons, ← Hm.out], hb⟩
        case measure => simp [intOf]; omega
      · go_wp2_with fail
        go_ret2
        obtain rfl : k = wd := by omega
        exact ⟨rfl, hb⟩
  · rw [hexS, putX_range (by omega) (by omega) hf]
    have Hf := hid hf
    clear hf
    go_enter Tryd.func39, Tryd.ntmps39
    go_wp2_with fail
    refine (rfits_any n 16 wd _ (by omega) (by omega) hn).mono ?_
    rintro e w' ⟨rfl, rfl⟩
    rw [beq_eq_false_iff_ne.2 Hf.out]
    go_wp2_with fail
    go_ret2
    exact ⟨rfl, Below.refl _ _⟩

end Go.Proofs.YtmejcchkoflciaaDoor
namespace Go.Proofs.YtmejcchkoflciaaDoor
set_option linter.unusedVariables false
open Go.RowKit Go.Joins

def bvals (l : List UInt8) : List Value := l.map fun b => Value.int .u8 (b.toNat : Int)
theorem bvals_snoc (l : List UInt8) (b : UInt8) : bvals l ++ [.int .u8 (b.toNat : Int)] = bvals (l ++ [b]) := by simp [bvals]
theorem bvals_length (l : List UInt8) : (bvals l).length = l.length := by simp [bvals]
/-- A slice of bytes that the call itself has made, holding l. -/
def Buf (w : World) (base : Nat) (v : Value) (l : List UInt8) : Prop := w.ownsRow base 5 1 v l.length (bvals l)
theorem conv_buf {w : World} {base : Nat} {v : Value} {l : List UInt8} (h : Buf w base v l) : (convert 80 9 v).run Tryd.prog w = .ok (.string (bs l)) w := by
  rcases ownsRow_forms h with ⟨rfl, h0⟩ | ⟨g, cap, rfl⟩
  · have hl : l = [] := List.eq_nil_of_length_eq_zero h0
    subst hl
    have := run_convert_bytes_nil (P := Tryd.prog) w 80 5 Tryd.underlying80 Tryd.underlying5 0 0 9 Tryd.underlying9
    rw [this]; rfl
  · refine conv_bytes w g l _ _ rfl fun j hj => ?_
    have := World.ownsRow.cellAt h j (by omega)
    rw [this]
    simp [bvals, hj]
theorem buf_made (w : World) (n : Nat) (h : n ≤ 1000) : ∃ w', (Instr.makeSlice 80 (.int .i64 0) (.int .i64 (n : Int))).run Tryd.prog w = .ok (.slice (some ⟨w.heap.size, 0, none⟩) 0 n) w' ∧ Buf w' w.heap.size (.slice (some ⟨w.heap.size, 0, none⟩) 0 n) [] ∧ Below w.heap.size w w' := by
  obtain ⟨i, hi, hz, hs, hb⟩ := info_parts info5
  obtain ⟨w', h1, h2, h3⟩ := run_make_own (P := Tryd.prog) w w.heap.size 80 5 i _ 1 Tryd.underlying80 hi hz hs .i64 .i64 n (by rw [hb]; omega) (by unfold maxLen; omega) (Nat.le_refl _)
  exact ⟨w', h1, h2, (Below.refl _ _).grown h3 (Nat.le_refl _) (fun k hk => by cases hk)⟩

theorem ofNat_or (m : Nat) : ((UInt8.ofNat (128 + m % 128)).toNat : Int) = 128 + (m : Int) % 128 := by rw [UInt8.toNat_ofNat']; omega
theorem ofNat_small {m : Nat} (h : m < 128) : ((UInt8.ofNat m).toNat : Int) = (m : Int) := by rw [UInt8.toNat_ofNat']; omega

theorem one_cell_u8 (x : Int) : ∀ u ∈ [Value.int .u8 x], u.oneCell' = true := by intro u hu; simp at hu; subst hu; rfl
end Go.Proofs.YtmejcchkoflciaaDoor
