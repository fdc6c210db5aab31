/- Texts put together: Ia. -/
import Derived.Test.YtnbkpannhcamjaaGreatDoorRows
import Derived.Test.YtnbkpannhcamjaaGreatDoorG02
import Derived.Test.YtnbkpannhcamjaaGreatDoorG01
import Derived.Test.YtnbkpannhcamjaaGreatDoorG05
import Derived.Deep.QuietTactic
import Derived.BigQuiet
import Derived.Deep.RegionHeld3
import Derived.Laws.StructEq
import Derived.WalkLawsBesides
namespace Go.Proofs.YtnbkpannhcamjaaGreatDoor
set_option linter.unusedVariables false
set_option linter.unusedSimpArgs false
open Go.RowKit

theorem max_len {l : List UInt8} (h : l.length ≤ 140737488351232) : (bs l).size ≤ maxLen := by rw [bs_size]; unfold maxLen; omega
set_option maxHeartbeats 800000 in
theorem span_any (n : Nat) (w : World) (hn : Hid (n < 18446744073709551616)) :
    Calls Tryz.prog 34 #[.int .u64 n] w fun e w' => e = .returned (.string (bs (hx 16 n))) ∧ Below w.heap.size w w' := by
  have HX := hid (hexS16 hn.out)
  go_enter Tryz.func34, Tryz.ntmps34
  go_wp2_with fail
  refine (ohex_any _ _ _ (by omega)).mono ?_
  rintro e w1 ⟨rfl, hb1⟩
  rw [Int.toNat_natCast, HX.out]
  go_wp2_with fail
  go_ret
  exact ⟨rfl, hb1⟩
set_option maxHeartbeats 800000 in
theorem rspan_any (n : Nat) (w : World) (hn : Hid (n < 18446744073709551616)) :
    Calls Tryz.prog 21 #[.int .u64 n] w fun e w' => e = .returned (.string (bs (hx 16 n))) ∧ Below w.heap.size w w' := by
  have HX := hid (hexS16 hn.out)
  go_enter Tryz.func21, Tryz.ntmps21
  go_wp2_with fail
  refine (rhex_any _ _ _ (by omega) (hid (by rw [Int.toNat_natCast]; exact hn.out))).mono ?_
  rintro e w1 ⟨rfl, hb1⟩
  rw [Int.toNat_natCast, HX.out]
  go_wp2_with fail
  go_ret
  exact ⟨rfl, hb1⟩
theorem ret_bool' {a b : Bool} (h : a = b) : Ending.returned (.bool a) = Ending.returned (.bool b) := by rw [h]
theorem below_step2 {a b c : World} (h : Below a.heap.size a b) (k : Below b.heap.size b c) : Below a.heap.size a c := h.trans (k.mono h.size)
/-- A trace in a block of its own, kept. -/
theorem keep_two {w1 w' : World} {g : Nat} {x y : Value} (h0 : w1.cell? ⟨g, 0, none⟩ = some x) (h1 : w1.cell? ⟨g, 1, none⟩ = some y) (hb : Below w1.heap.size w1 w') :
    w'.cell? ⟨g, 0, none⟩ = some x ∧ w'.cell? ⟨g, 1, none⟩ = some y ∧ Below w1.heap.size w1 w' :=
  ⟨(hb.cell (lt_of_cell h0)).trans h0, (hb.cell (lt_of_cell h1)).trans h1, hb⟩
set_option maxRecDepth 100000 in
set_option maxHeartbeats 800000 in
theorem ridtext_any (a b : Nat) (w : World) (ha : Hid (a < 18446744073709551616)) (hb : Hid (b < 18446744073709551616)) :
    Calls Tryz.prog 40 #[.agg #[.int .u64 a, .int .u64 b]] w fun e w' => e = .returned (.string (bs (idText a b))) ∧ Below w.heap.size w w' := by
  have hal := (Below.refl w.heap.size w).alloc (Nat.le_refl _) (.cells #[.int .u64 (a : Int), .int .u64 (b : Int)] 25)
  have hc0 : (w.alloc (.cells #[.int .u64 (a : Int), .int .u64 (b : Int)] 25)).cell? ⟨w.heap.size, 0, none⟩ = some (.int .u64 (a : Int)) := by simp
  have hc1 : (w.alloc (.cells #[.int .u64 (a : Int), .int .u64 (b : Int)] 25)).cell? ⟨w.heap.size, 1, none⟩ = some (.int .u64 (b : Int)) := by simp
  have HL := hid (And.intro (show (hx 16 a).length = 16 from hx_length 16 a) (show (hx 16 b).length = 16 from hx_length 16 b))
  have ht : idText a b = hx 16 a ++ hx 16 b := rfl
  have HT := hid ht
  have hla : (hx 16 a).length ≤ 16 := by rw [HL.out.1]; omega
  have hlb : (hx 16 b).length ≤ 16 := by rw [HL.out.2]; omega
  clear ht
  go_enter Tryz.func40, Tryz.ntmps40
  go_wp2_with fail
  generalize w.alloc (.cells #[.int .u64 (a : Int), .int .u64 (b : Int)] 25) = w1 at *
  have hz : Below w1.heap.size w1 w1.drew := (Below.refl _ _).drew
  have hsum : ¬ 9223372036854775807 < (hx 16 a).length + (hx 16 b).length := by omega
  go_region_held3 (fun w' => w'.cell? ⟨w.heap.size, 0, none⟩ = some (.int .u64 (a : Int)) ∧ w'.cell? ⟨w.heap.size, 1, none⟩ = some (.int .u64 (b : Int)) ∧ Below w1.heap.size w1 w') (first | exact keep_two hc0 hc1 hz | exact keep_two hc0 hc1 (hz.trans (Below.mono (by assumption) hz.size))) (first
    | (go_at_call 21
       first
         | ((with_reducible refine (rspan_any a _ ha).mono ?_); rintro e w3 ⟨rfl, hy⟩)
         | ((with_reducible refine (rspan_any b _ hb).mono ?_); rintro e w3 ⟨rfl, hy⟩)
       have hz := hz.trans (hy.mono hz.size)))
  all_goals
    go_wp2_with fail
    go_ret
    exact ⟨by rw [HT.out]; rfl, hal.trans (hz.mono hal.size)⟩
set_option maxHeartbeats 800000 in
theorem zero_any (a b : Nat) (w : World) :
    Calls Tryz.prog 56 #[.agg #[.int .u64 a, .int .u64 b]] w fun e w' => e = .returned (.bool (decide (a = 0 ∧ b = 0))) ∧ w' = w.alloc (.cells #[.int .u64 (a : Int), .int .u64 (b : Int)] 25) := by
  by_cases ha : a = 0
  all_goals
    have hna : ((a : Int) == 0) = decide (a = 0) := by rw [Bool.eq_iff_iff]; simp
    have hnb : ((b : Int) == 0) = decide (b = 0) := by rw [Bool.eq_iff_iff]; simp
    simp only [ha, decide_true, decide_false] at hna
    go_enter Tryz.func56, Tryz.ntmps56
    go_wp2_with fail
    go_ret
    refine ⟨?_, by first | rfl | (rw [ha]; rfl)⟩
    first
      | rfl
      | (simp [ha]; done)
      | (refine ret_bool' ?_; simp [ha])
def sameTr (a b c d : Nat) : Bool := decide (a = c ∧ b = d)
theorem tr_guard (op : BinOp) (x y : Operand) (xs ys : Array Value) (w : World) : (eqGuard op 25 x y (.agg xs) (.agg ys)).run Tryz.prog w = .ok () w := run_eqGuard_agg w op _ x y xs ys (by kernel_rfl)
theorem tr_eqIn (w : World) (a b c d : Nat) : (Op.equalIn 10000 25 (.agg #[.int .u64 a, .int .u64 b]) (.agg #[.int .u64 c, .int .u64 d])).run Tryz.prog w = .ok (sameTr a b c d) w := by
  have us := Tryz.underlying23
  have asx := Tryz.isAgg23
  have zs := Tryz.sizeOf23
  rw [show (10000 : Nat) = 9999 + 1 from rfl, run_equalIn_agg w 9999 _ _ _ (by kernel_rfl) (by kernel_rfl)]
  simp only [Program.fieldsOf, Tryz.underlying25]
  go_simp
  unfold sameTr
  by_cases h1 : a = c <;> by_cases h2 : b = d <;> simp [h1, h2] <;> omega
theorem tr_neq (w : World) (a b c d : Nat) : (binOp .neq 25 (.agg #[.int .u64 a, .int .u64 b]) (.agg #[.int .u64 c, .int .u64 d])).run Tryz.prog w = .ok (.bool (!sameTr a b c d)) w := by
  rw [run_neq_struct, tr_eqIn]; rfl
theorem tr_eql (w : World) (a b c d : Nat) : (binOp .eql 25 (.agg #[.int .u64 a, .int .u64 b]) (.agg #[.int .u64 c, .int .u64 d])).run Tryz.prog w = .ok (.bool (sameTr a b c d)) w := by
  rw [run_eql_struct, tr_eqIn]; rfl
set_option maxHeartbeats 800000 in
theorem rzero_any (a b : Nat) (w : World) :
    Calls Tryz.prog 38 #[.agg #[.int .u64 a, .int .u64 b]] w fun e w' => e = .returned (.bool (decide (a = 0 ∧ b = 0))) ∧ Below w.heap.size w w' := by
  have hg : ∀ (x y : Operand) (xs ys : Array Value) (w : World), (eqGuard .eql 25 x y (.agg xs) (.agg ys)).run Tryz.prog w = .ok () w := fun x y xs ys w => tr_guard .eql x y xs ys w
  have he : ∀ w : World, (binOp .eql 25 (.agg #[.int .u64 (a : Int), .int .u64 (b : Int)]) (.agg #[.int .u64 0, .int .u64 0])).run Tryz.prog w = .ok (.bool (sameTr a b 0 0)) w := fun w => tr_eql w a b 0 0
  go_enter Tryz.func38, Tryz.ntmps38
  go_wp2_with fail
  go_ret
  exact ⟨rfl, (Below.refl _ _).alloc (Nat.le_refl _) _⟩
end Go.Proofs.YtnbkpannhcamjaaGreatDoor
