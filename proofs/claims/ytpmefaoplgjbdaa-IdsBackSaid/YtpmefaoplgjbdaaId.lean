import Derived.Test.YtpmefaoplgjbdaaIc
namespace Go.Proofs.Ytpmefaoplgjbdaa
set_option linter.unusedVariables false
set_option linter.unusedSimpArgs false
open Go.RowKit Go.Maps

theorem of_at (l : List UInt8) (w : World) (h : l.length ≤ 140737488351232) {x y : Nat} {e : Int} (H : Hid (ofS l = (x, y, e))) :
    Calls Try.prog 7 #[.string (bs l)] w fun r w' => r = .returned (.tuple #[.agg #[.int .u64 x, .int .u64 y], .int .i64 e]) ∧ Below w.heap.size w w' :=
  (of_any l w h).mono fun r w' ⟨h1, h2⟩ => ⟨by rw [h1, H.out]; rfl, h2⟩
theorem spanof_at (l : List UInt8) (w : World) (h : l.length ≤ 140737488351232) {x : Nat} {e : Int} (H : Hid (spanOfS l = (x, e))) :
    Calls Try.prog 9 #[.string (bs l)] w fun r w' => r = .returned (.tuple #[.int .u64 x, .int .i64 e]) ∧ w = w' :=
  (spanof_any l w h).mono fun r w' ⟨h1, h2⟩ => ⟨by rw [h1, H.out]; rfl, h2⟩
/-- A pair of cells. -/
def Two (w : World) (g : Nat) (x y : Value) : Prop := w.cell? ⟨g, 0, none⟩ = some x ∧ w.cell? ⟨g, 1, none⟩ = some y
theorem Two.later {w w' : World} {g : Nat} {x y : Value} (h : Two w g x y) (hb : Below w.heap.size w w') : Two w' g x y :=
  ⟨(hb.cell (lt_of_cell h.1)).trans h.1, (hb.cell (lt_of_cell h.2)).trans h.2⟩
theorem Two.new (w : World) (x y : Value) (t : TypeId) : Two (w.alloc (.cells #[x, y] t)) w.heap.size x y := ⟨by simp, by simp⟩
theorem below_new (w : World) (o : Obj) : Below w.heap.size w (w.alloc o) := (Below.refl _ _).alloc (Nat.le_refl _) _
theorem zero_below (a b : Nat) (w : World) :
    Calls Try.prog 15 #[.agg #[.int .u64 a, .int .u64 b]] w fun e w' => e = .returned (.bool (decide (a = 0 ∧ b = 0))) ∧ Below w.heap.size w w' :=
  (zero_any a b w).mono fun e w' ⟨h1, h2⟩ => ⟨h1, by rw [h2]; exact below_new _ _⟩
def kText : List UInt8 := [48, 48, 48, 48, 48, 48, 48, 48, 48, 48, 48, 48, 48, 48, 48, 49, 48, 48, 48, 48, 48, 48, 48, 48, 48, 48, 48, 48, 48, 48, 48, 50]
def kSpan : List UInt8 := [48, 48, 48, 48, 48, 48, 48, 48, 48, 48, 48, 48, 48, 48, 102, 102]
theorem k_of (w : World) : Calls Try.prog 7 #[.string (ByteArray.mk #[48, 48, 48, 48, 48, 48, 48, 48, 48, 48, 48, 48, 48, 48, 48, 49, 48, 48, 48, 48, 48, 48, 48, 48, 48, 48, 48, 48, 48, 48, 48, 50])] w fun r w' => r = .returned (.tuple #[.agg #[.int .u64 1, .int .u64 2], .int .i64 0]) ∧ Below w.heap.size w w' :=
  of_at kText w (by decide) (x := 1) (y := 2) (e := 0) (hid (by decide))
theorem k_spanof (w : World) : Calls Try.prog 9 #[.string (ByteArray.mk #[48, 48, 48, 48, 48, 48, 48, 48, 48, 48, 48, 48, 48, 48, 102, 102])] w fun r w' => r = .returned (.tuple #[.int .u64 255, .int .i64 0]) ∧ w = w' :=
  spanof_at kSpan w (by decide) (x := 255) (e := 0) (hid (by decide))
theorem k_text (w : World) : Calls Try.prog 11 #[.agg #[.int .u64 1, .int .u64 2]] w fun r w' => r = .returned (.string (ByteArray.mk #[48, 48, 48, 48, 48, 48, 48, 48, 48, 48, 48, 48, 48, 48, 48, 49, 48, 48, 48, 48, 48, 48, 48, 48, 48, 48, 48, 48, 48, 48, 48, 50])) ∧ Below w.heap.size w w' :=
  (idtext_any 1 2 w (hid (by decide)) (hid (by decide))).mono fun r w' ⟨h1, h2⟩ => ⟨by rw [h1, show idText 1 2 = kText from by decide]; rfl, h2⟩
theorem k_spantext (w : World) : Calls Try.prog 13 #[.int .u64 255] w fun r w' => r = .returned (.string (ByteArray.mk #[48, 48, 48, 48, 48, 48, 48, 48, 48, 48, 48, 48, 48, 48, 102, 102])) ∧ Below w.heap.size w w' :=
  (span_any 255 w (hid (by decide))).mono fun r w' ⟨h1, h2⟩ => ⟨by rw [h1, show hx 16 255 = kSpan from by decide]; rfl, h2⟩
theorem k_zero (w : World) : Calls Try.prog 15 #[.agg #[.int .u64 0, .int .u64 0]] w fun r w' => r = .returned (.bool true) ∧ Below w.heap.size w w' :=
  zero_below 0 0 w
theorem k_at3 (w : World) : Calls Try.prog 17 #[.slice none 0 0, .int .i64 3] w fun r w' => r = .returned (.int .u64 4294967299) ∧ w = w' :=
  (at_any none 0 [] 3 (fun _ => True) w (fun k h => absurd h (by simp)) (by simp) (by omega)).mono fun r w' ⟨h1, h2⟩ => ⟨by rw [h1]; rfl, h2⟩
theorem reads7 {w : World} {g : Nat} (h : w.cell? ⟨g, 0, none⟩ = some (.int .u64 7)) : NReads w (· < w.heap.size) (some ⟨g, 0, none⟩) [7] := fun k hk => by
  obtain rfl : k = 0 := by simp at hk; omega
  exact ⟨_, rfl, lt_of_cell h, by rw [Addr.add_lit]; exact h⟩
theorem reads77 {w : World} {g : Nat} (h : Two w g (.int .u64 7) (.int .u64 7)) : NReads w (· < w.heap.size) (some ⟨g, 0, none⟩) [7, 7] := fun k hk => by
  match k, hk with
  | 0, _ => exact ⟨_, rfl, lt_of_cell h.1, by rw [Addr.add_lit]; exact h.1⟩
  | 1, _ => exact ⟨_, rfl, lt_of_cell h.1, by rw [Addr.add_lit]; exact h.2⟩
theorem k_at7 (w : World) (g : Nat) (h : w.cell? ⟨g, 0, none⟩ = some (.int .u64 7)) : Calls Try.prog 17 #[.slice (some ⟨g, 0, none⟩) 1 1, .int .i64 0] w fun r w' => r = .returned (.int .u64 7) ∧ w = w' :=
  (at_any (some ⟨g, 0, none⟩) 1 [7] 0 _ w (reads7 h) (by simp) (by omega)).mono fun r w' ⟨h1, h2⟩ => ⟨by rw [h1]; rfl, h2⟩
theorem apart_nil (k : Nat) : Apart [] k := fun i hi => by
  have ha : ∀ j : Nat, atS [] (j : Int) = 4294967296 + j := fun j => by rw [atS_out (by simp), if_neg (by omega), Int.toNat_natCast]
  refine ⟨by rw [ha]; omega, fun j hj => by rw [ha, ha]; omega⟩
theorem k_dist9 (w : World) : Calls Try.prog 19 #[.slice none 0 0, .int .i64 9] w fun r w' => r = .returned (.bool true) ∧ Below w.heap.size w w' :=
  (distinct_any none 0 [] 9 w (fun k h => absurd h (by simp)) (by simp) (by simp) (by omega)).mono fun r w' ⟨h1, h2⟩ => ⟨by rw [h1, distS_true (apart_nil _)], h2⟩
theorem k_dist7 (w : World) (g : Nat) (h : Two w g (.int .u64 7) (.int .u64 7)) : Calls Try.prog 19 #[.slice (some ⟨g, 0, none⟩) 2 2, .int .i64 2] w fun r w' => r = .returned (.bool false) ∧ Below w.heap.size w w' :=
  (distinct_any (some ⟨g, 0, none⟩) 2 [7, 7] 2 w (reads77 h) (by simp) (by simp) (by omega)).mono fun r w' ⟨h1, h2⟩ => ⟨by rw [h1, distS_false (not_apart_two (j := 0) (k := 1) (by decide) (by decide) rfl)], h2⟩
set_option maxRecDepth 100000 in
set_option maxHeartbeats 4000000 in
theorem known6_any (w : World) :
    Calls Try.prog 6 #[] w fun e w' => e = .returned (.bool true) ∧ Below w.heap.size w w' := by
  have hg : ∀ (x y : Operand) (xs ys : Array Value) (w : World), (eqGuard .eql 24 x y (.agg xs) (.agg ys)).run Try.prog w = .ok () w := fun x y xs ys w => tr_guard .eql x y xs ys w
  have he : ∀ w : World, (binOp .eql 24 (.agg #[.int .u64 1, .int .u64 2]) (.agg #[.int .u64 1, .int .u64 2])).run Try.prog w = .ok (.bool true) w := fun w => tr_eql w 1 2 1 2
  have hnot : ∀ (x : Bool) (w : World), (Op.unary .not (.bool x)).run Try.prog w = .ok (.bool (!x)) w := fun _ _ => rfl
  go_enter Try.func6, Try.ntmps6
  go_wp2_with fail
  refine (k_of _).mono ?_
  rintro e w1 ⟨rfl, hb1⟩
  have ht := Two.new w1 (.int .u64 1) (.int .u64 2) 24
  have hb2 := hb1.trans ((below_new w1 (.cells #[.int .u64 1, .int .u64 2] 24)).mono hb1.size)
  have HBk := hid (And.intro ht hb2)
  clear ht hb2
  go_wp2_with fail
  refine (k_spanof _).mono ?_
  rintro e w2 ⟨rfl, rfl⟩
  go_wp2_with fail
  refine (k_text _).mono ?_
  rintro e w2 ⟨rfl, hb3⟩
  have hc0 := (HBk.out.1.later hb3).1
  have hc1 := (HBk.out.1.later hb3).2
  have hb4 := HBk.out.2.trans (hb3.mono HBk.out.2.size)
  have HB4 := hid hb4
  clear hb3 hb4 hb1
  go_wp2_with fail
  refine (k_spantext _).mono ?_
  rintro e w3 ⟨rfl, hb5⟩
  have HB5 := hid (below_step2 HB4.out hb5)
  clear hb5
  go_wp2_with fail
  refine (k_zero _).mono ?_
  rintro e w4 ⟨rfl, hb6⟩
  have HB6 := hid (below_step2 HB5.out hb6)
  clear hb6
  go_wp2_with fail
  refine (k_at3 _).mono ?_
  rintro e w5 ⟨rfl, rfl⟩
  go_wp2_with fail
  refine (k_at7 _ _ (by simp)).mono ?_
  rintro e w5 ⟨rfl, rfl⟩
  go_wp2_with fail
  refine (k_dist9 _).mono ?_
  rintro e w6 ⟨rfl, hb7⟩
  have HB7 := hid (below_step2 (below_step2 HB6.out (below_new w4 _)) hb7)
  clear hb7
  go_wp2_with fail
  refine (k_dist7 _ _ (Two.new _ _ _ _)).mono ?_
  rintro e w7 ⟨rfl, hb8⟩
  have HB8 := hid (below_step2 (below_step2 HB7.out (below_new w6 _)) hb8)
  clear hb8
  go_wp2_with fail
  go_ret
  exact ⟨rfl, HB8.out⟩
end Go.Proofs.Ytpmefaoplgjbdaa
