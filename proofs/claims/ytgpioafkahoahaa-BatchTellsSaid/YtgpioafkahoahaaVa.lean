import Derived.Test.YtgpioafkahoahaaOa
import Derived.Test.YtgpioafkahoahaaVp
namespace Go.Proofs.Ytgpioafkahoahaa
set_option linter.unusedVariables false
open Go.RowKit Go.Joins

def bvals (l : List UInt8) : List Value := l.map fun b => Value.int .u8 (b.toNat : Int)
theorem bvals_snoc (l : List UInt8) (b : UInt8) : bvals l ++ [.int .u8 (b.toNat : Int)] = bvals (l ++ [b]) := by simp [bvals]
theorem bvals_length (l : List UInt8) : (bvals l).length = l.length := by simp [bvals]
/-- A slice of bytes that the call itself has made, holding l. -/
def Buf (w : World) (base : Nat) (v : Value) (l : List UInt8) : Prop := w.ownsRow base 5 1 v l.length (bvals l)
theorem conv_buf {w : World} {base : Nat} {v : Value} {l : List UInt8} (h : Buf w base v l) : (convert 52 9 v).run Try.prog w = .ok (.string (bs l)) w := by
  rcases ownsRow_forms h with ⟨rfl, h0⟩ | ⟨g, cap, rfl⟩
  · have hl : l = [] := List.eq_nil_of_length_eq_zero h0
    subst hl
    have := run_convert_bytes_nil (P := Try.prog) w 52 5 Try.underlying52 Try.underlying5 0 0 9 Try.underlying9
    rw [this]; rfl
  · refine conv_bytes w g l _ _ rfl fun j hj => ?_
    have := World.ownsRow.cellAt h j (by omega)
    rw [this]
    simp [bvals, hj]
theorem buf_made (w : World) (n : Nat) (h : n ≤ 1000) : ∃ w', (Instr.makeSlice 52 (.int .i64 0) (.int .i64 (n : Int))).run Try.prog w = .ok (.slice (some ⟨w.heap.size, 0, none⟩) 0 n) w' ∧ Buf w' w.heap.size (.slice (some ⟨w.heap.size, 0, none⟩) 0 n) [] ∧ Below w.heap.size w w' := by
  obtain ⟨i, hi, hz, hs, hb⟩ := info_parts info5
  obtain ⟨w', h1, h2, h3⟩ := run_make_own (P := Try.prog) w w.heap.size 52 5 i _ 1 Try.underlying52 hi hz hs .i64 .i64 n (by rw [hb]; omega) (by unfold maxLen; omega) (Nat.le_refl _)
  exact ⟨w', h1, h2, (Below.refl _ _).grown h3 (Nat.le_refl _) (fun k hk => by cases hk)⟩

theorem ofNat_or (m : Nat) : ((UInt8.ofNat (128 + m % 128)).toNat : Int) = 128 + (m : Int) % 128 := by rw [UInt8.toNat_ofNat']; omega
theorem ofNat_small {m : Nat} (h : m < 128) : ((UInt8.ofNat m).toNat : Int) = (m : Int) := by rw [UInt8.toNat_ofNat']; omega

theorem one_cell_u8 (x : Int) : ∀ u ∈ [Value.int .u8 x], u.oneCell' = true := by intro u hu; simp at hu; subst hu; rfl
set_option maxHeartbeats 1000000 in
theorem vput_any (n : Nat) (w : World) (hn : Hid (n < 18446744073709551616)) :
    Calls Try.prog 63 #[.int .u64 n] w fun e w' => e = .returned (.string (bs (vput n))) ∧ Below w.heap.size w w' := by
  obtain ⟨i0, hi, hz0, hz1, hz2⟩ := info_parts info5
  have HI := hid hi
  have HZ0 := hid hz0
  have HZ1 := hid hz1
  have HZ2 := hid hz2
  clear hi hz0 hz1 hz2
  obtain ⟨w1, hmk, hbuf, hb1⟩ := buf_made w 10 (by omega)
  have HB1 := hid hbuf
  have HB2 := hid hb1
  clear hbuf hb1
  have hmk' : (Instr.makeSlice 52 (.int .i64 0) (.int .i64 10)).run Try.prog w = .ok (.slice (some ⟨w.heap.size, 0, none⟩) 0 10) w1 := hmk
  clear hmk
  go_enter Try.func63, Try.ntmps63
  go_wp2_with fail
  go_loopw [0, 3] (fun n0 f wr => ∃ (k m : Nat) (pre : List UInt8), k ≤ 9 ∧ Hid (vput n = pre ++ vf (9 - k) m ∧ m < 128 ^ (10 - k) ∧ pre.length = k ∧ m < 18446744073709551616) ∧ n0 = .int .u64 m ∧ Buf wr w.heap.size f pre ∧ Below w.heap.size w wr) (fun n0 _ _ => (intOf n0).toNat)
  case atStart => exact ⟨0, n, [], by omega, hid ⟨rfl, Nat.lt_of_lt_of_le hn.out (by decide), rfl, hn.out⟩, rfl, HB1.out, HB2.out⟩
  case round =>
    obtain ⟨k, m, pre, hk, Hm, rfl, hbuf, hb⟩ := hrel
    have HBUF := hid hbuf
    have HB := hid hb
    clear hbuf hb
    have HLEN : Hid (pre.length + 1 ≤ maxLen ∧ (pre.length + 1) * 1 ≤ 140737488355328) := hid ⟨by have := Hm.out.2.2.1; unfold maxLen; omega, by have := Hm.out.2.2.1; omega⟩
    have HSZ : Hid (∀ o, w.heap.size ≤ (wr.alloc o).heap.size) := hid fun o => by have := HB.out.size; simp; omega
    by_cases hlt : m < 128
    · have hlt' : decide ((128 : Int) ≤ (m : Int)) = false := by simp; omega
      go_wp2_with (at_builtin; refine wpList_append_own _ rfl _ _ 52 rfl w.heap.size 5 i0 (.int .u8 0) 1 1 Try.underlying52 HI.out HZ0.out HZ1.out HZ2.out rfl (by decide) _ _ _ rfl (World.ownsRow.alloc HBUF.out _) ⟨wr.heap.size, 0, none⟩ 1 1 [.int .u8 (m : Int)] rfl rfl (cell_one_new _ _ _) (one_cell_u8 _) (HLEN.out).1 (HLEN.out).2 (HSZ.out _) ?_)
      intro v' w2 hown hgrow _
      rw [← ofNat_small hlt, bvals_snoc] at hown
      have hc := conv_buf (l := pre ++ [UInt8.ofNat m]) (by unfold Buf; rw [List.length_append]; exact hown)
      have HG := hid hgrow
      clear hown hgrow
      go_wp2_with fail
      go_ret
      refine ⟨?_, ?_⟩
      · rw [Hm.out.1, vf_short hlt]; rfl
      · exact ((HB.out.alloc HB.out.size _)).grown HG.out (by have := HB.out.size; simp; omega) (fun k hk => (World.ownsRow.lt HBUF.out k hk).1)
    · have hlt' : decide ((128 : Int) ≤ (m : Int)) = true := by simp; omega
      have ho := or128 m
      go_wp2_with (at_builtin; refine wpList_append_own _ rfl _ _ 52 rfl w.heap.size 5 i0 (.int .u8 0) 1 1 Try.underlying52 HI.out HZ0.out HZ1.out HZ2.out rfl (by decide) _ _ _ rfl (World.ownsRow.alloc HBUF.out _) ⟨wr.heap.size, 0, none⟩ 1 1 [.int .u8 (128 + (m : Int) % 128)] rfl rfl (cell_one_new _ _ _) (one_cell_u8 _) (HLEN.out).1 (HLEN.out).2 (HSZ.out _) ?_)
      intro v' w2 hown hgrow _
      rw [← ofNat_or, bvals_snoc] at hown
      have HOWN := hid hown
      have HG := hid hgrow
      clear hown hgrow
      have hk9 : k < 9 := by
        by_cases h9 : k = 9
        · subst h9; have := Hm.out.2.1; omega
        · omega
      go_wp2_with fail
      go_roundw
      case rel =>
        refine ⟨k + 1, m / 128, pre ++ [UInt8.ofNat (128 + m % 128)], by omega, hid ⟨?_, ?_, ?_, ?_⟩, by go_num, ?_, ?_⟩
        · rw [Hm.out.1, show 9 - k = (9 - (k + 1)) + 1 from by omega, vf_long hlt]; simp
        · have := Hm.out.2.1; rw [show 10 - k = (10 - (k + 1)) + 1 from by omega, Nat.pow_succ] at this; exact Nat.div_lt_of_lt_mul (by rw [Nat.mul_comm]; exact this)
        · rw [List.length_append, Hm.out.2.2.1]; rfl
        · have := Hm.out.2.2.2; omega
        · unfold Buf; rw [List.length_append]; exact HOWN.out
        · exact (HB.out.alloc HB.out.size _).grown HG.out (by have := HB.out.size; simp; omega) (fun k hk => (World.ownsRow.lt HBUF.out k hk).1)
      case measure => simp [intOf]; omega
end Go.Proofs.Ytgpioafkahoahaa
