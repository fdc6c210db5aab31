import Derived.Test.YtddmmpjamnjilaaDoorPj
namespace Go.Proofs.YtddmmpjamnjilaaDoor
set_option linter.unusedVariables false
set_option linter.unusedSimpArgs false
open Go.RowKit Go.Joins

theorem parwrite_at (a b s : Nat) (f : Int) (w : World) (ha : Hid (a < 18446744073709551616)) (hb : Hid (b < 18446744073709551616)) (hs : Hid (s < 18446744073709551616)) (hf : Hid (-9223372036854775808 ≤ f ∧ f ≤ 9223372036854775807)) (HT : Hid (Pce w)) {t : List UInt8} {c : Int} (H : Hid (wrS a b s f = (t, c))) :
    Calls Tryd.prog 12 #[.agg #[.int .u64 a, .int .u64 b, .int .u64 s, .int .i64 f]] w fun e w' => e = .returned (.tuple #[.string (bs t), .int .i64 c]) ∧ Below w.heap.size w w' :=
  (parwrite_any a b s f w ha hb hs hf HT).mono fun e w' ⟨x, y⟩ => ⟨by rw [H.out] at x; exact x, y⟩
theorem rparwrite_at (a b s : Nat) (f : Int) (w : World) (ha : Hid (a < 18446744073709551616)) (hb : Hid (b < 18446744073709551616)) (hs : Hid (s < 18446744073709551616)) (hf : Hid (-9223372036854775808 ≤ f ∧ f ≤ 9223372036854775807)) {t : List UInt8} {c : Int} (H : Hid (wrS a b s f = (t, c))) :
    Calls Tryd.prog 13 #[.agg #[.int .u64 a, .int .u64 b, .int .u64 s, .int .i64 f]] w fun e w' => e = .returned (.tuple #[.string (bs t), .int .i64 c]) ∧ Below w.heap.size w w' :=
  (rparwrite_any a b s f w ha hb hs hf).mono fun e w' ⟨x, y⟩ => ⟨by rw [H.out] at x; exact x, y⟩
theorem keep_c4 {w1 w' : World} {g : Nat} {x0 x1 x2 x3 : Value} (h : C4 w1 g x0 x1 x2 x3) (hb : Below w1.heap.size w1 w') :
    w'.cell? ⟨g, 0, none⟩ = some x0 ∧ w'.cell? ⟨g, 1, none⟩ = some x1 ∧ w'.cell? ⟨g, 2, none⟩ = some x2 ∧ w'.cell? ⟨g, 3, none⟩ = some x3 ∧ Below w1.heap.size w1 w' := by
  obtain ⟨h0, h1, h2, h3⟩ := h.below hb
  exact ⟨h0, h1, h2, h3, hb⟩
set_option maxRecDepth 100000 in
set_option maxHeartbeats 4000000 in
theorem parentWrites_walk (a b s : Nat) (f : Int) (c : Nat) (ha : Hid (a < 18446744073709551616)) (hb : Hid (b < 18446744073709551616)) (hs : Hid (s < 18446744073709551616)) (hf : Hid (-9223372036854775808 ≤ f ∧ f ≤ 9223372036854775807)) (w : World) (E : Pce w) :
    Calls Tryd.prog 4 #[.agg #[.int .u64 a, .int .u64 b, .int .u64 s, .int .i64 f], .int .u64 c] w fun e w' => e = .returned (.bool true) ∧ Below w.heap.size w w' := by
  obtain ⟨t, ec, hwr⟩ : ∃ t ec, wrS a b s f = (t, ec) := ⟨_, _, rfl⟩
  have HWr := hid hwr
  have hg : ∀ (x y : Operand) (xs ys : Array Value) (w : World), (eqGuard .eql 27 x y (.agg xs) (.agg ys)).run Tryd.prog w = .ok () w := fun x y xs ys w => pr_guard .eql x y xs ys w
  have he : ∀ w : World, (binOp .eql 27 (.agg #[.int .u64 (a : Int), .int .u64 (b : Int), .int .u64 (c : Int), .int .i64 f]) (.agg #[.int .u64 (a : Int), .int .u64 (b : Int), .int .u64 (c : Int), .int .i64 f])).run Tryd.prog w = .ok (.bool true) w := fun w => by
    rw [pr_eql, samePr_self]
  have hn0 := new_below w (.cells #[.int .u64 (a : Int), .int .u64 (b : Int), .int .u64 (s : Int), .int .i64 f] 27)
  have c0 := C4.new w (.int .u64 (a : Int)) (.int .u64 (b : Int)) (.int .u64 (s : Int)) (.int .i64 f) 27
  have HT0 := hid (Pce.later E hn0)
  clear hwr E
  go_enter Tryd.func4, Tryd.ntmps4
  go_wp2_with fail
  generalize w.alloc (.cells #[.int .u64 (a : Int), .int .u64 (b : Int), .int .u64 (s : Int), .int .i64 f] 27) = v0 at *
  refine (parwrite_at a b s f v0 ha hb hs hf HT0 HWr).mono ?_
  rintro e w1 ⟨rfl, hb1⟩
  have H1 := hid (And.intro (c0.below hb1) (below_step2 hn0 hb1))
  have HT1 := hid (HT0.out.later hb1)
  clear hb1 hn0 c0
  obtain ⟨p0, p1, p2, p3⟩ := H1.out.1
  go_wp2_with fail
  refine (rparwrite_at a b s f w1 ha hb hs hf HWr).mono ?_
  rintro e w2 ⟨rfl, hb2⟩
  have H2 := hid (And.intro (H1.out.1.below hb2) (below_step2 H1.out.2 hb2))
  have HT2 := hid (HT1.out.later hb2)
  clear hb2 p0 p1 p2 p3
  go_wp2_with fail
  have hz : Below w2.heap.size w2 w2.drew := (Below.refl _ _).drew
  go_region_held3 (fun w' => w'.cell? ⟨w.heap.size, 0, none⟩ = some (.int .u64 (a : Int)) ∧ w'.cell? ⟨w.heap.size, 1, none⟩ = some (.int .u64 (b : Int)) ∧ w'.cell? ⟨w.heap.size, 2, none⟩ = some (.int .u64 (s : Int)) ∧ w'.cell? ⟨w.heap.size, 3, none⟩ = some (.int .i64 f) ∧ Below w2.heap.size w2 w') (first | exact keep_c4 H2.out.1 hz | exact keep_c4 H2.out.1 (hz.trans (Below.mono (by assumption) hz.size))) (first
    | (go_at_call 14
       ((with_reducible refine (sampled_any a b s f _).mono ?_); rintro e w3 ⟨rfl, hy⟩)
       have hz := hz.trans (hy.mono hz.size))
    | (go_at_call 15
       ((with_reducible refine (rsampled_any a b s f _).mono ?_); rintro e w3 ⟨rfl, hy⟩)
       have hz := hz.trans (hy.mono hz.size))
    | (go_at_call 16
       ((with_reducible refine (child_any a b s c f _).mono ?_); rintro e w3 ⟨rfl, hy⟩)
       have hz := hz.trans (hy.mono hz.size))
    | (go_at_call 17
       ((with_reducible refine (rchild_any a b s c f _).mono ?_); rintro e w3 ⟨rfl, hy⟩)
       have hz := hz.trans (hy.mono hz.size))
    | (go_at_call 9
       ((with_reducible refine (known7_any _ (hid (HT2.out.later hz))).mono ?_); rintro e w3 ⟨rfl, hy⟩)
       have hz := hz.trans (hy.mono hz.size)))
  all_goals
    go_wp2_with fail
    go_returns
    exact ⟨rfl, below_step2 H2.out.2 hz⟩
end Go.Proofs.YtddmmpjamnjilaaDoor
