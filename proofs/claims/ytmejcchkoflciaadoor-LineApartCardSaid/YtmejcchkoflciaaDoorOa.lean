import Derived.Test.YtmejcchkoflciaaDoorRows
import Derived.Test.YtmejcchkoflciaaDoorPlain
import Derived.Lib.SmallJoins
import Derived.WalkLawsBesides

namespace Go.Proofs.YtmejcchkoflciaaDoor
set_option linter.unusedVariables false
open Go.RowKit

theorem conv_bytes (w : World) (b : Nat) (l : List UInt8) (n c : Nat) (hn : l.length = n) (h : ∀ j (hj : j < l.length), w.cell? ⟨b, j, none⟩ = some (.int .u8 (l[j].toNat : Int))) :
    (convert 80 9 (.slice (some ⟨b, 0, none⟩) n c)).run Tryd.prog w = .ok (.string (bs l)) w := by
  subst hn
  exact run_convert_bytes_back (P := Tryd.prog) w 80 9 5 ⟨b, 0, none⟩ c l Tryd.underlying80 Tryd.underlying5 Tryd.underlying9 (fun j hj => by rw [Addr.add_lit, Nat.zero_add]; exact h j hj)

theorem conv_new (w : World) (l : List UInt8) (n c : Nat) (hn : l.length = n) :
    (convert 80 9 (.slice (some ⟨w.heap.size, 0, none⟩) n c)).run Tryd.prog (w.alloc (.cells (cellsOf l) 5)) = .ok (.string (bs l)) (w.alloc (.cells (cellsOf l) 5)) :=
  conv_bytes _ _ l n c hn fun j hj => by simp [cellsOf_at l j hj]

theorem conv1 (w : World) (x : Int) : (convert 80 9 (.slice (some ⟨w.heap.size, 0, none⟩) 1 1)).run Tryd.prog (w.alloc (.cells #[.int .u8 x] 5)) = .ok (.string (bs [UInt8.ofNat x.toNat])) (w.alloc (.cells #[.int .u8 x] 5)) := by
  rw [run_convert_bytes_arg (P := Tryd.prog) _ 80 5 Tryd.underlying80 Tryd.underlying5 _ 0 1 1 [x] rfl _ 9 Tryd.underlying9]
  · rfl
  · intro i hi
    obtain rfl : i = 0 := by omega
    simp

set_option maxHeartbeats 400000 in
theorem byte_any (n : Int) (w : World) (h0 : 0 ≤ n) :
    Calls Tryd.prog 61 #[.int .u64 n] w fun e w' => e = .returned (.string (bs [UInt8.ofNat (n.toNat % 256)])) ∧ Below w.heap.size w w' := by
  have hc := conv1
  obtain ⟨n, rfl⟩ := Int.eq_ofNat_of_zero_le h0
  go_enter Tryd.func61, Tryd.ntmps61
  go_wp2
  go_ret
  exact ⟨rfl, (Below.refl _ _).alloc (Nat.le_refl _) _⟩

theorem info5 : (Tryd.prog.info? 5).map (fun i => (i.zero, i.size, i.bytes)) = some (some (.int .u8 0), 1, 1) := by kernel_rfl
theorem madeCells_u8 (n : Nat) : madeCells (Value.cells (.int .u8 0)) (n * 1) = cellsOf (filled n []) := by
  apply Array.ext
  · simp [madeCells, cellsOf, filled]
  · intro i h1 h2
    simp [madeCells, cellsOf, filled, Value.cells, Nat.mod_one]
theorem make_bytes (w : World) (n : Nat) (h : n ≤ 1000) :
    (Instr.makeSlice 80 (.int .i64 (n : Int)) (.int .i64 (n : Int))).run Tryd.prog w = .ok (.slice (some ⟨w.heap.size, 0, none⟩) n n) (w.alloc (.cells (cellsOf (filled n [])) 5)) := by
  obtain ⟨i, hi, hz, hs, hb⟩ := info_parts info5
  have := run_make (P := Tryd.prog) w 80 5 i _ Tryd.underlying80 hi hz .i64 .i64 n n (by omega) (by omega) (by rw [hb]; omega) (by omega)
  rw [this, hs, Int.toNat_natCast, madeCells_u8]


end Go.Proofs.YtmejcchkoflciaaDoor
