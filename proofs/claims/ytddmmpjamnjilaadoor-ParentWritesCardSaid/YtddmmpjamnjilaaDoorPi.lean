import Derived.Test.YtddmmpjamnjilaaDoorPh
namespace Go.Proofs.YtddmmpjamnjilaaDoor
set_option linter.unusedVariables false
set_option linter.unusedSimpArgs false
open Go.RowKit Go.Joins

/-- The text of the document's example. -/
def lit7 : List UInt8 := [48, 48, 45, 48, 48, 48, 48, 48, 48, 48, 48, 48, 48, 48, 48, 48, 48, 48, 49, 48, 48, 48, 48, 48, 48, 48, 48, 48, 48, 48, 48, 48, 48, 48, 50, 45, 48, 48, 48, 48, 48, 48, 48, 48, 48, 48, 48, 48, 48, 48, 48, 51, 45, 48, 49]
theorem lit7_reads : parS lit7 = ((1, 2, 3, 1), 0) := by decide +kernel
theorem lit7_writes : wrS 1 2 3 1 = (lit7, 0) := by decide +kernel
theorem know_read (w : World) (HT : Hid (Pce w)) :
    Calls Tryd.prog 10 #[.string (bs lit7)] w fun e w' => e = .returned (.tuple #[.agg #[.int .u64 1, .int .u64 2, .int .u64 3, .int .i64 1], .int .i64 0]) ∧ Below w.heap.size w w' :=
  (parread_any lit7 w (by decide) HT).mono fun e w' ⟨x, y⟩ => ⟨by rw [lit7_reads] at x; exact x, y⟩
theorem know_write (w : World) (HT : Hid (Pce w)) :
    Calls Tryd.prog 12 #[.agg #[.int .u64 1, .int .u64 2, .int .u64 3, .int .i64 1]] w fun e w' => e = .returned (.tuple #[.string (bs lit7), .int .i64 0]) ∧ Below w.heap.size w w' :=
  (parwrite_any 1 2 3 1 w (hid (by omega)) (hid (by omega)) (hid (by omega)) (hid (by omega)) HT).mono fun e w' ⟨x, y⟩ => ⟨by rw [lit7_writes] at x; exact x, y⟩
theorem know_samp1 (w : World) :
    Calls Tryd.prog 14 #[.agg #[.int .u64 1, .int .u64 2, .int .u64 3, .int .i64 1]] w fun e w' => e = .returned (.bool true) ∧ Below w.heap.size w w' :=
  (sampled_any 1 2 3 1 w).mono fun e w' ⟨x, y⟩ => ⟨x, y⟩
theorem know_samp2 (w : World) :
    Calls Tryd.prog 14 #[.agg #[.int .u64 0, .int .u64 0, .int .u64 0, .int .i64 2]] w fun e w' => e = .returned (.bool false) ∧ Below w.heap.size w w' :=
  (sampled_any 0 0 0 2 w).mono fun e w' ⟨x, y⟩ => ⟨x, y⟩
theorem know_child (w : World) :
    Calls Tryd.prog 16 #[.agg #[.int .u64 1, .int .u64 2, .int .u64 3, .int .i64 1], .int .u64 9] w fun e w' => e = .returned (.agg #[.int .u64 1, .int .u64 2, .int .u64 9, .int .i64 1]) ∧ Below w.heap.size w w' :=
  child_any 1 2 3 9 1 w
/-- Four cells of a variable. -/
def C4 (w : World) (g : Nat) (x0 x1 x2 x3 : Value) : Prop := w.cell? ⟨g, 0, none⟩ = some x0 ∧ w.cell? ⟨g, 1, none⟩ = some x1 ∧ w.cell? ⟨g, 2, none⟩ = some x2 ∧ w.cell? ⟨g, 3, none⟩ = some x3
theorem C4.below {w w' : World} {g : Nat} {x0 x1 x2 x3 : Value} (h : C4 w g x0 x1 x2 x3) (hb : Below w.heap.size w w') : C4 w' g x0 x1 x2 x3 := by
  obtain ⟨h0, h1, h2, h3⟩ := h
  have hg : g < w.heap.size := lt_of_cell h0
  exact ⟨(hb.cell hg).trans h0, (hb.cell hg).trans h1, (hb.cell hg).trans h2, (hb.cell hg).trans h3⟩
theorem C4.new (w : World) (x0 x1 x2 x3 : Value) (t : TypeId) : C4 (w.alloc (.cells #[x0, x1, x2, x3] t)) w.heap.size x0 x1 x2 x3 := by
  refine ⟨?_, ?_, ?_, ?_⟩ <;> simp
theorem new_below (w : World) (o : Obj) : Below w.heap.size w (w.alloc o) := (Below.refl _ _).alloc (Nat.le_refl _) _
set_option maxRecDepth 100000 in
set_option maxHeartbeats 4000000 in
theorem known7_any (w : World) (HT : Hid (Pce w)) :
    Calls Tryd.prog 9 #[] w fun e w' => e = .returned (.bool true) ∧ Below w.heap.size w w' := by
  have hlit : (ByteArray.mk #[48, 48, 45, 48, 48, 48, 48, 48, 48, 48, 48, 48, 48, 48, 48, 48, 48, 48, 49, 48, 48, 48, 48, 48, 48, 48, 48, 48, 48, 48, 48, 48, 48, 48, 50, 45, 48, 48, 48, 48, 48, 48, 48, 48, 48, 48, 48, 48, 48, 48, 48, 51, 45, 48, 49]) = bs lit7 := rfl
  have KR := hid know_read
  have KW := hid know_write
  have hg : ∀ (x y : Operand) (xs ys : Array Value) (w : World), (eqGuard .eql 27 x y (.agg xs) (.agg ys)).run Tryd.prog w = .ok () w := fun x y xs ys w => pr_guard .eql x y xs ys w
  have he : ∀ w : World, (binOp .eql 27 (.agg #[.int .u64 1, .int .u64 2, .int .u64 3, .int .i64 1]) (.agg #[.int .u64 1, .int .u64 2, .int .u64 3, .int .i64 1])).run Tryd.prog w = .ok (.bool true) w := fun w => pr_eql w 1 2 3 1 1 2 3 1
  have hfld : ∀ w : World, (Instr.field 27 (.agg #[.int .u64 1, .int .u64 2, .int .u64 9, .int .i64 1]) 1).run Tryd.prog w = .ok (.int .u64 9) w := fun w => by kernel_rfl
  generalize lit7 = L7 at *
  go_enter Tryd.func9, Tryd.ntmps9
  go_wp2_with fail
  have hn0 := new_below w (.cells #[.int .u64 1, .int .u64 2, .int .u64 3, .int .i64 1] 27)
  have c0 := C4.new w (.int .u64 1) (.int .u64 2) (.int .u64 3) (.int .i64 1) 27
  generalize w.alloc (.cells #[.int .u64 1, .int .u64 2, .int .u64 3, .int .i64 1] 27) = v0 at *
  have HT0 := hid (HT.out.later hn0)
  refine (KR.out v0 HT0).mono ?_
  rintro e w1 ⟨rfl, hb1⟩
  have H1 := hid (And.intro (c0.below hb1) (below_step2 hn0 hb1))
  have HT1 := hid (HT0.out.later hb1)
  clear hb1 hn0 c0
  obtain ⟨p0, p1, p2, p3⟩ := H1.out.1
  have hp := lt_of_cell p0
  go_wp2_with fail
  clear p0 p1 p2 p3 hp
  have hn1 := new_below w1 (.cells #[.int .u64 1, .int .u64 2, .int .u64 3, .int .i64 1] 27)
  have c1 := C4.new w1 (.int .u64 1) (.int .u64 2) (.int .u64 3) (.int .i64 1) 27
  have cp := H1.out.1.below hn1
  have hbv := below_step2 H1.out.2 hn1
  have HT2 := hid (HT1.out.later hn1)
  clear H1 HT1
  generalize w1.alloc (.cells #[.int .u64 1, .int .u64 2, .int .u64 3, .int .i64 1] 27) = v1 at *
  have HC := hid (And.intro cp (And.intro c1 hbv))
  obtain ⟨p0, p1, p2, p3⟩ := cp
  clear c1 hbv hn1
  go_wp2_with fail
  refine (KW.out v1 HT2).mono ?_
  rintro e w2 ⟨rfl, hb2⟩
  have HC2 := hid (And.intro (HC.out.1.below hb2) (And.intro (HC.out.2.1.below hb2) (below_step2 HC.out.2.2 hb2)))
  clear p0 p1 p2 p3 hb2
  obtain ⟨p0, p1, p2, p3⟩ := HC2.out.1
  obtain ⟨q0, q1, q2, q3⟩ := HC2.out.2.1
  go_wp2_with fail
  refine (know_samp1 _).mono ?_
  rintro e w3 ⟨rfl, hb3⟩
  have HC3 := hid (And.intro (HC2.out.1.below hb3) (below_step2 HC2.out.2.2 hb3))
  clear p0 p1 p2 p3 q0 q1 q2 q3 hb3
  go_wp2_with fail
  refine (know_samp2 _).mono ?_
  rintro e w4 ⟨rfl, hb4⟩
  have HC4 := hid (And.intro (HC3.out.1.below hb4) (below_step2 HC3.out.2 hb4))
  obtain ⟨p0, p1, p2, p3⟩ := HC4.out.1
  clear hb4
  go_wp2_with fail
  refine (know_child _).mono ?_
  rintro e w5 ⟨rfl, hb5⟩
  have HC5 := hid (below_step2 HC4.out.2 hb5)
  clear hb5
  go_wp2_with fail
  go_returns
  exact ⟨rfl, HC5.out⟩
end Go.Proofs.YtddmmpjamnjilaaDoor
