import Derived.Test.YtddmmpjamnjilaaDoorRows
import Derived.Test.YtddmmpjamnjilaaDoorPlain
import Derived.Lib.SmallJoins
import Derived.WalkLawsBesides

namespace Go.Proofs.YtddmmpjamnjilaaDoor
set_option linter.unusedVariables false
open Go.RowKit

set_option maxHeartbeats 400000 in
theorem fits_any (n b : Int) (w : World) (h0 : 0 ≤ b) (h1 : b ≤ 64) :
    Calls Tryd.prog 59 #[.int .u64 n, .int .i64 b] w fun e w' => e = .returned (.bool (n / 2 ^ b.toNat == 0)) ∧ w = w' := by
  go_enter Tryd.func59, Tryd.ntmps59
  go_wp2
  go_ret
  exact ⟨rfl, rfl⟩

theorem conv_bytes (w : World) (b : Nat) (l : List UInt8) (n c : Nat) (hn : l.length = n) (h : ∀ j (hj : j < l.length), w.cell? ⟨b, j, none⟩ = some (.int .u8 (l[j].toNat : Int))) :
    (convert 76 9 (.slice (some ⟨b, 0, none⟩) n c)).run Tryd.prog w = .ok (.string (bs l)) w := by
  subst hn
  exact run_convert_bytes_back (P := Tryd.prog) w 76 9 5 ⟨b, 0, none⟩ c l Tryd.underlying76 Tryd.underlying5 Tryd.underlying9 (fun j hj => by rw [Addr.add_lit, Nat.zero_add]; exact h j hj)

theorem conv_new (w : World) (l : List UInt8) (n c : Nat) (hn : l.length = n) :
    (convert 76 9 (.slice (some ⟨w.heap.size, 0, none⟩) n c)).run Tryd.prog (w.alloc (.cells (cellsOf l) 5)) = .ok (.string (bs l)) (w.alloc (.cells (cellsOf l) 5)) :=
  conv_bytes _ _ l n c hn fun j hj => by simp [cellsOf_at l j hj]

theorem conv1 (w : World) (x : Int) : (convert 76 9 (.slice (some ⟨w.heap.size, 0, none⟩) 1 1)).run Tryd.prog (w.alloc (.cells #[.int .u8 x] 5)) = .ok (.string (bs [UInt8.ofNat x.toNat])) (w.alloc (.cells #[.int .u8 x] 5)) := by
  rw [run_convert_bytes_arg (P := Tryd.prog) _ 76 5 Tryd.underlying76 Tryd.underlying5 _ 0 1 1 [x] rfl _ 9 Tryd.underlying9]
  · rfl
  · intro i hi
    obtain rfl : i = 0 := by omega
    simp

theorem info5 : (Tryd.prog.info? 5).map (fun i => (i.zero, i.size, i.bytes)) = some (some (.int .u8 0), 1, 1) := by kernel_rfl
theorem madeCells_u8 (n : Nat) : madeCells (Value.cells (.int .u8 0)) (n * 1) = cellsOf (filled n []) := by
  apply Array.ext
  · simp [madeCells, cellsOf, filled]
  · intro i h1 h2
    simp [madeCells, cellsOf, filled, Value.cells, Nat.mod_one]
theorem make_bytes (w : World) (n : Nat) (h : n ≤ 1000) :
    (Instr.makeSlice 76 (.int .i64 (n : Int)) (.int .i64 (n : Int))).run Tryd.prog w = .ok (.slice (some ⟨w.heap.size, 0, none⟩) n n) (w.alloc (.cells (cellsOf (filled n [])) 5)) := by
  obtain ⟨i, hi, hz, hs, hb⟩ := info_parts info5
  have := run_make (P := Tryd.prog) w 76 5 i _ Tryd.underlying76 hi hz .i64 .i64 n n (by omega) (by omega) (by rw [hb]; omega) (by omega)
  rw [this, hs, Int.toNat_natCast, madeCells_u8]


theorem digit_none (c : UInt8) (w : World) (h : hexv c = none) :
    Calls Tryd.prog 75 #[.int .u8 c.toNat] w fun e w' => e = .returned (.tuple #[.int .u64 0, .bool false]) ∧ w = w' := by
  have hc := c.toNat_lt
  generalize hn : c.toNat = m at *
  have h' : ¬ (48 ≤ m ∧ m ≤ 57) ∧ ¬ (97 ≤ m ∧ m ≤ 102) := by
    unfold hexv at h; rw [hn] at h; split at h
    · simp at h
    · split at h
      · simp at h
      · exact ⟨‹_›, ‹_›⟩
  clear h hn
  go_enter Tryd.func75, Tryd.ntmps75
  go_wp2
  all_goals (go_ret2; exact ⟨rfl, rfl⟩)
theorem digit_some (c : UInt8) (d : Nat) (w : World) (h : hexv c = some d) :
    Calls Tryd.prog 75 #[.int .u8 c.toNat] w fun e w' => e = .returned (.tuple #[.int .u64 d, .bool true]) ∧ w = w' := by
  have hc := c.toNat_lt
  generalize hn : c.toNat = m at *
  have h' : (48 ≤ m ∧ m ≤ 57 ∧ m = d + 48) ∨ (97 ≤ m ∧ m ≤ 102 ∧ m = d + 87) := by
    unfold hexv at h; rw [hn] at h; split at h
    · simp at h; omega
    · split at h
      · simp at h; omega
      · simp at h
  clear h hn
  rcases h' with ⟨h1, h2, h3⟩ | ⟨h1, h2, h3⟩
  all_goals
    have H3 := hid h3
    clear h3
    go_enter Tryd.func75, Tryd.ntmps75
    go_wp2
    go_ret2
    have := H3.out
    refine ⟨?_, rfl⟩
    first | (show Ending.returned (.tuple #[.int .u64 ((m : Int) - 48), .bool true]) = _; rw [show (m : Int) - 48 = (d : Int) from by omega]) | (show Ending.returned (.tuple #[.int .u64 ((m : Int) - 97 + 10), .bool true]) = _; rw [show (m : Int) - 97 + 10 = (d : Int) from by omega])

end Go.Proofs.YtddmmpjamnjilaaDoor
