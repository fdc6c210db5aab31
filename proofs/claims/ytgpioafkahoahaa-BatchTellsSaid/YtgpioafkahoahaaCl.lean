import Derived.Test.YtgpioafkahoahaaCk
import Derived.Lib.ConvBytes
import Derived.OpenShut
namespace Go.Proofs.Ytgpioafkahoahaa
set_option linter.unusedVariables false
set_option linter.unusedSimpArgs false
open Go.RowKit

abbrev bw (w : World) (l : List UInt8) : World := Go.Lib.bytesWorld w 5 (bs l)
theorem conv_to_bytes (w : World) (l : List UInt8) : (convert 9 52 (.string (bs l))).run Try.prog w = .ok (.slice (some ⟨w.heap.size, 0, none⟩) l.length (grownCap w l.length 0 5)) (Go.Lib.bytesWorld w 5 (bs l)) := by
  have h := Go.Lib.run_convert_string_bytes (P := Try.prog) w 9 52 5 (bs l) Try.underlying9 Try.underlying52 Try.underlying5
  rwa [bs_size] at h
theorem bw_cell (w : World) (l : List UInt8) (j : Nat) (h : j < l.length) : (Go.Lib.bytesWorld w 5 (bs l)).cell? ⟨w.heap.size, j, none⟩ = some (.int .u8 (l[j].toNat : Int)) := by
  rw [Go.Lib.bytesWorld_cell w _ (bs l) j (by rw [bs_size]; exact h), bs_data]
  simp [List.getD, h]
theorem bw_frozen (w : World) (l : List UInt8) (j : Nat) (h : j < l.length) : (Go.Lib.bytesWorld w 5 (bs l)).frozen? ⟨w.heap.size, j, none⟩ = false := by
  have hs : j < (Go.Lib.bytesCells w 5 (bs l)).size := by
    simp [Go.Lib.bytesCells, bs]; omega
  simp [World.frozen?, Go.Lib.bytesWorld_at_new]
  omega
theorem bw_below (w : World) (l : List UInt8) : Below w.heap.size w (Go.Lib.bytesWorld w 5 (bs l)) :=
  ⟨rfl, rfl, rfl, by rw [Go.Lib.bytesWorld_size]; omega, fun k hk => Go.Lib.bytesWorld_at_old w _ _ k hk⟩
theorem u8_bd {n : Int} (h : (Lit.int .u8 n).wf = true) : 0 ≤ n ∧ n < 256 := by
  have := bounds_u8 h; omega
theorem xor_u8_ne {a b : Nat} (ha : a < 256) (hb : b < 256) (h : b ≠ 0) : UInt8.ofNat a ≠ UInt8.ofNat (a ^^^ b) := by
  intro e
  have h1 := congrArg UInt8.toNat e
  have h2 : a ^^^ b < 2 ^ 8 := Nat.xor_lt_two_pow ha hb
  rw [UInt8.toNat_ofNat', UInt8.toNat_ofNat', Nat.mod_eq_of_lt ha, Nat.mod_eq_of_lt h2] at h1
  exact h (xor_cancel_left (a := a) (b := b) (c := 0) (by rw [← h1, Nat.xor_zero]))
end Go.Proofs.Ytgpioafkahoahaa
