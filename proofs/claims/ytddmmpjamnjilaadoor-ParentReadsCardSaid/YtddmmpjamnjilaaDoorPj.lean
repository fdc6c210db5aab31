import Derived.Test.YtddmmpjamnjilaaDoorPi
namespace Go.Proofs.YtddmmpjamnjilaaDoor
set_option linter.unusedVariables false
set_option linter.unusedSimpArgs false
open Go.RowKit Go.Joins

theorem parread_at (l : List UInt8) (w : World) (hs : l.length ≤ 140737488351232) (HT : Hid (Pce w)) {a b s f : Nat} {c : Int} (H : Hid (parS l = ((a, b, s, f), c))) :
    Calls Tryd.prog 10 #[.string (bs l)] w fun e w' => e = .returned (.tuple #[.agg #[.int .u64 a, .int .u64 b, .int .u64 s, .int .i64 (f : Int)], .int .i64 c]) ∧ Below w.heap.size w w' :=
  (parread_any l w hs HT).mono fun e w' ⟨x, y⟩ => ⟨by rw [H.out] at x; exact x, y⟩
theorem rparread_at (l : List UInt8) (w : World) (hs : l.length ≤ 140737488351232) {a b s f : Nat} {c : Int} (H : Hid (parS l = ((a, b, s, f), c))) :
    Calls Tryd.prog 11 #[.string (bs l)] w fun e w' => e = .returned (.tuple #[.agg #[.int .u64 a, .int .u64 b, .int .u64 s, .int .i64 (f : Int)], .int .i64 c]) ∧ Below w.heap.size w w' :=
  (rparread_any l w hs).mono fun e w' ⟨x, y⟩ => ⟨by rw [H.out] at x; exact x, y⟩
theorem pr_parts (x : Pr × Int) : ∃ a b s f c, x = ((a, b, s, f), c) := by
  obtain ⟨⟨a, b, s, f⟩, c⟩ := x
  exact ⟨a, b, s, f, c, rfl⟩
set_option maxRecDepth 100000 in
set_option maxHeartbeats 4000000 in
theorem parentReads_walk (l : List UInt8) (hs : l.length ≤ 140737488351232) (w : World) (E : Pce w) :
    Calls Tryd.prog 3 #[.string (bs l)] w fun e w' => e = .returned (.bool true) ∧ Below w.heap.size w w' := by
  have HT := hid E
  clear E
  by_cases hl : (l.length : Int) > 500
  · go_enter Tryd.func3, Tryd.ntmps3
    go_wp2_with fail
    refine (known7_any _ HT).mono ?_
    rintro e w1 ⟨rfl, hb1⟩
    have HBx := hid hb1
    clear hb1
    go_wp2_with fail
    go_returns
    exact ⟨rfl, HBx.out⟩
  obtain ⟨a, b, s, f, c, hp⟩ := pr_parts (parS l)
  have HP := hid hp
  have hg : ∀ (x y : Operand) (xs ys : Array Value) (w : World), (eqGuard .eql 27 x y (.agg xs) (.agg ys)).run Tryd.prog w = .ok () w := fun x y xs ys w => pr_guard .eql x y xs ys w
  have he : ∀ w : World, (binOp .eql 27 (.agg #[.int .u64 (a : Int), .int .u64 (b : Int), .int .u64 (s : Int), .int .i64 (f : Int)]) (.agg #[.int .u64 (a : Int), .int .u64 (b : Int), .int .u64 (s : Int), .int .i64 (f : Int)])).run Tryd.prog w = .ok (.bool true) w := fun w => by
    rw [pr_eql, samePr_self]
  clear hp
  go_enter Tryd.func3, Tryd.ntmps3
  go_wp2_with fail
  refine (parread_at l w hs HT HP).mono ?_
  rintro e w1 ⟨rfl, hb1⟩
  have H1 := hid hb1
  have HT1 := hid (HT.out.later hb1)
  clear hb1
  go_wp2_with fail
  have hn1 := new_below w1 (.cells #[.int .u64 (a : Int), .int .u64 (b : Int), .int .u64 (s : Int), .int .i64 (f : Int)] 27)
  have c1 := C4.new w1 (.int .u64 (a : Int)) (.int .u64 (b : Int)) (.int .u64 (s : Int)) (.int .i64 (f : Int)) 27
  generalize w1.alloc (.cells #[.int .u64 (a : Int), .int .u64 (b : Int), .int .u64 (s : Int), .int .i64 (f : Int)] 27) = v1 at *
  have HB1 := hid (below_step2 H1.out hn1)
  have HT2 := hid (HT1.out.later hn1)
  refine (rparread_at l v1 hs HP).mono ?_
  rintro e w2 ⟨rfl, hb2⟩
  have HB2 := hid (below_step2 HB1.out hb2)
  have HT3 := hid (HT2.out.later hb2)
  have HC2 := hid (c1.below hb2)
  clear hb2 hn1 c1
  obtain ⟨p0, p1, p2, p3⟩ := HC2.out
  have hp := lt_of_cell p0
  go_wp2_with fail
  clear p0 p1 p2 p3 hp
  have hn2 := new_below w2 (.cells #[.int .u64 (a : Int), .int .u64 (b : Int), .int .u64 (s : Int), .int .i64 (f : Int)] 27)
  have HB3 := hid (below_step2 HB2.out hn2)
  have HT4 := hid (HT3.out.later hn2)
  clear hn2
  refine (known7_any _ HT4).mono ?_
  rintro e w3 ⟨rfl, hb3⟩
  have HB4 := hid (below_step2 HB3.out hb3)
  clear hb3
  go_wp2_with fail
  go_returns
  exact ⟨rfl, HB4.out⟩
end Go.Proofs.YtddmmpjamnjilaaDoor
