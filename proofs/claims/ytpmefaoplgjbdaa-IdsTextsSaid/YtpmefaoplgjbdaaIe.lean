import Derived.Test.YtpmefaoplgjbdaaId
import Derived.OpenShut
import Derived.Test.YtpmefaoplgjbdaaSo
namespace Go.Proofs.Ytpmefaoplgjbdaa
set_option linter.unusedVariables false
set_option linter.unusedSimpArgs false
open Go.RowKit Go.Maps

theorem rof_at (l : List UInt8) (w : World) (h : l.length ≤ 140737488351232) {x y : Nat} {e : Int} (H : Hid (ofS l = (x, y, e))) :
    Calls Try.prog 8 #[.string (bs l)] w fun r w' => r = .returned (.tuple #[.agg #[.int .u64 x, .int .u64 y], .int .i64 e]) ∧ Below w.heap.size w w' :=
  (rof_any l w h).mono fun r w' ⟨h1, h2⟩ => ⟨by rw [h1, H.out]; rfl, h2⟩
theorem rspanof_at (l : List UInt8) (w : World) (h : l.length ≤ 140737488351232) {x : Nat} {e : Int} (H : Hid (spanOfS l = (x, e))) :
    Calls Try.prog 10 #[.string (bs l)] w fun r w' => r = .returned (.tuple #[.int .u64 x, .int .i64 e]) ∧ w = w' :=
  (rspanof_any l w h).mono fun r w' ⟨h1, h2⟩ => ⟨by rw [h1, H.out]; rfl, h2⟩
theorem keep_six {w1 w' : World} {g g2 g3 : Nat} {x y x2 y2 x3 y3 : Value} (h : Two w1 g x y) (h2 : Two w1 g2 x2 y2) (h3 : Two w1 g3 x3 y3) (hb : Below w1.heap.size w1 w') :
    w'.cell? ⟨g, 0, none⟩ = some x ∧ w'.cell? ⟨g, 1, none⟩ = some y ∧ w'.cell? ⟨g2, 0, none⟩ = some x2 ∧ w'.cell? ⟨g2, 1, none⟩ = some y2 ∧ w'.cell? ⟨g3, 0, none⟩ = some x3 ∧ w'.cell? ⟨g3, 1, none⟩ = some y3 ∧ Below w1.heap.size w1 w' :=
  ⟨(h.later hb).1, (h.later hb).2, (h2.later hb).1, (h2.later hb).2, (h3.later hb).1, (h3.later hb).2, hb⟩
set_option maxRecDepth 100000 in
set_option maxHeartbeats 4000000 in
theorem idsTexts_walk (a b : Nat) (l : List UInt8) (ha : Hid (a < 18446744073709551616)) (hb : Hid (b < 18446744073709551616)) (hl : l.length ≤ 140737488351232) (w : World) :
    Calls Try.prog 3 #[.agg #[.int .u64 a, .int .u64 b], .string (bs l)] w fun e w' => e = .returned (.bool true) ∧ Below w.heap.size w w' := by
  by_cases h200 : 200 < l.length
  · go_enter Try.func3, Try.ntmps3
    go_wp2_with fail
    refine (known6_any _).mono ?_
    rintro e w1 ⟨rfl, hb1⟩
    go_wp2_with fail
    go_ret
    exact ⟨rfl, below_step2 (below_new _ _) hb1⟩
  · obtain ⟨x, y, e, ho⟩ : ∃ x y e, ofS l = (x, y, e) := ⟨_, _, _, rfl⟩
    obtain ⟨x2, e2, ho2⟩ : ∃ x e, spanOfS l = (x, e) := ⟨_, _, rfl⟩
    have HO := hid ho
    have HO2 := hid ho2
    clear ho ho2
    have hg : ∀ (x y : Operand) (xs ys : Array Value) (w : World), (eqGuard .eql 24 x y (.agg xs) (.agg ys)).run Try.prog w = .ok () w := fun x y xs ys w => tr_guard .eql x y xs ys w
    have he : ∀ w : World, (binOp .eql 24 (.agg #[.int .u64 (x : Int), .int .u64 (y : Int)]) (.agg #[.int .u64 (x : Int), .int .u64 (y : Int)])).run Try.prog w = .ok (.bool true) w := fun w => by
      rw [tr_eql w x y x y]; simp [sameTr]
    have ht2 := Two.new w (.int .u64 (a : Int)) (.int .u64 (b : Int)) 24
    have hw0 := below_new w (.cells #[.int .u64 (a : Int), .int .u64 (b : Int)] 24)
    go_enter Try.func3, Try.ntmps3
    go_wp2_with fail
    generalize w.alloc (.cells #[.int .u64 (a : Int), .int .u64 (b : Int)] 24) = v0 at *
    refine (of_at l _ hl HO).mono ?_
    rintro r w1 ⟨rfl, hb1⟩
    have ht2 := (ht2.later hb1).later (below_new w1 (.cells #[.int .u64 (x : Int), .int .u64 (y : Int)] 24))
    have ht5 := Two.new w1 (.int .u64 (x : Int)) (.int .u64 (y : Int)) 24
    have hw1 := below_step2 (below_step2 hw0 hb1) (below_new w1 (.cells #[.int .u64 (x : Int), .int .u64 (y : Int)] 24))
    clear hb1 hw0
    have H1 := hid (And.intro ht2 (And.intro ht5 hw1))
    clear ht2 ht5 hw1
    go_wp2_with fail
    generalize w1.alloc (.cells #[.int .u64 (x : Int), .int .u64 (y : Int)] 24) = v1 at *
    refine (rof_at l _ hl HO).mono ?_
    rintro r w2 ⟨rfl, hb2⟩
    have ht2 := (H1.out.1.later hb2).later (below_new w2 (.cells #[.int .u64 (x : Int), .int .u64 (y : Int)] 24))
    have ht5 := (H1.out.2.1.later hb2).later (below_new w2 (.cells #[.int .u64 (x : Int), .int .u64 (y : Int)] 24))
    have ht7 := Two.new w2 (.int .u64 (x : Int)) (.int .u64 (y : Int)) 24
    have hw2 := below_step2 (below_step2 H1.out.2.2 hb2) (below_new w2 (.cells #[.int .u64 (x : Int), .int .u64 (y : Int)] 24))
    clear hb2
    have H2 := hid (And.intro ht2 (And.intro ht5 (And.intro ht7 hw2)))
    clear ht2 ht5 ht7 hw2
    go_wp2_with fail
    generalize w2.alloc (.cells #[.int .u64 (x : Int), .int .u64 (y : Int)] 24) = v2 at *
    refine (spanof_at l _ hl HO2).mono ?_
    rintro r w3 ⟨rfl, rfl⟩
    go_wp2_with fail
    refine (rspanof_at l _ hl HO2).mono ?_
    rintro r w3 ⟨rfl, rfl⟩
    go_wp2_with fail
    have ht2 := H2.out.1
    have ht5 := H2.out.2.1
    have ht7 := H2.out.2.2.1
    have hz : Below v2.heap.size v2 v2.drew := (Below.refl _ _).drew
    go_region_held3 (fun w' => w'.cell? ⟨w.heap.size, 0, none⟩ = some (.int .u64 (a : Int)) ∧ w'.cell? ⟨w.heap.size, 1, none⟩ = some (.int .u64 (b : Int)) ∧ w'.cell? ⟨w1.heap.size, 0, none⟩ = some (.int .u64 (x : Int)) ∧ w'.cell? ⟨w1.heap.size, 1, none⟩ = some (.int .u64 (y : Int)) ∧ w'.cell? ⟨w2.heap.size, 0, none⟩ = some (.int .u64 (x : Int)) ∧ w'.cell? ⟨w2.heap.size, 1, none⟩ = some (.int .u64 (y : Int)) ∧ Below v2.heap.size v2 w')
      (first | exact keep_six ht2 ht5 ht7 hz | exact keep_six ht2 ht5 ht7 (hz.trans (Below.mono (by assumption) hz.size))) (first
      | (go_at_call 11; refine (idtext_any a b _ ha hb).mono ?_; rintro e w3 ⟨rfl, hy⟩; have hz := hz.trans (hy.mono hz.size))
      | (go_at_call 12; refine (ridtext_any a b _ ha hb).mono ?_; rintro e w3 ⟨rfl, hy⟩; have hz := hz.trans (hy.mono hz.size))
      | (go_at_call 13; refine (span_any a _ ha).mono ?_; rintro e w3 ⟨rfl, hy⟩; have hz := hz.trans (hy.mono hz.size))
      | (go_at_call 14; refine (rspan_any a _ ha).mono ?_; rintro e w3 ⟨rfl, hy⟩; have hz := hz.trans (hy.mono hz.size))
      | (go_at_call 15; refine (zero_below a b _).mono ?_; rintro e w3 ⟨rfl, hy⟩; have hz := hz.trans (hy.mono hz.size))
      | (go_at_call 16; refine (rzero_any a b _).mono ?_; rintro e w3 ⟨rfl, hy⟩; have hz := hz.trans (hy.mono hz.size))
      | (go_at_call 6; refine (known6_any _).mono ?_; rintro e w3 ⟨rfl, hy⟩; have hz := hz.trans (hy.mono hz.size)))
    all_goals
      go_wp2_with fail
      go_ret
      exact ⟨rfl, below_step2 H2.out.2.2.2 hz⟩
theorem idsTexts_top (a b : Nat) (s : ByteArray) (ha : Hid (a < 18446744073709551616)) (hb : Hid (b < 18446744073709551616)) (hs : s.data.toList.length ≤ reachBytes) (w : World) :
    Calls Try.prog 3 #[.agg #[.int .u64 a, .int .u64 b], .string s] w fun e w' => e = .returned (.bool true) ∧ Below w.heap.size w w' := by
  obtain ⟨l, rfl⟩ : ∃ l, s = bs l := ⟨_, bs_of s⟩
  rw [bs_data] at hs
  exact idsTexts_walk a b l ha hb hs w
end Go.Proofs.Ytpmefaoplgjbdaa
