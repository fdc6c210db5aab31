import Derived.Test.YtddmmpjamnjilaaDoorPk
namespace Go.Proofs.YtddmmpjamnjilaaDoor
set_option linter.unusedVariables false
set_option linter.unusedSimpArgs false
open Go.RowKit Go.Joins

theorem wr_case {a b s : Nat} {f : Int} {t : List UInt8} {c : Int} (ha : a < 18446744073709551616) (hb : b < 18446744073709551616) (hs : s < 18446744073709551616) (h : wrS a b s f = (t, c)) :
    (c != 0) = true ∨ (c = 0 ∧ ∃ fn : Nat, f = (fn : Int) ∧ t.length = 55 ∧ parS t = ((a, b, s, fn), 0)) := by
  unfold wrS at h
  split at h
  · rw [Prod.mk.injEq] at h; left; rw [← h.2]; rfl
  · rename_i hz
    split at h
    · rw [Prod.mk.injEq] at h; left; rw [← h.2]; rfl
    · rename_i hr
      rw [Prod.mk.injEq] at h
      refine Or.inr ⟨h.2.symm, f.toNat, by omega, by rw [← h.1, parT_len], ?_⟩
      rw [← h.1]
      exact parS_parT ha hb hs (by show f.toNat < 256; omega) (by have : pzero (a, b, s, f.toNat) = pzero (a, b, s, 0) := rfl; rw [this]; simpa using hz)
theorem rd_case {l : List UInt8} {a b s f : Nat} {c : Int} (h : parS l = ((a, b, s, f), c)) :
    (c != 0) = true ∨ (c = 0 ∧ a < 18446744073709551616 ∧ b < 18446744073709551616 ∧ s < 18446744073709551616 ∧ f < 256 ∧ 55 ≤ l.length ∧ wrS a b s f = (parT (a, b, s, f), 0) ∧ (parT (a, b, s, f)).length = 55 ∧ parS (parT (a, b, s, f)) = ((a, b, s, f), 0) ∧ (l.take 2 = [48, 48] → parT (a, b, s, f) = l)) := by
  by_cases hc : c = 0
  · subst hc
    obtain ⟨hf, hn, hz, hl⟩ := parS_back h
    have hb := numP_lt l hl
    rw [hn] at hb
    obtain ⟨h1, h2, h3, h4⟩ := hb
    refine Or.inr ⟨rfl, h1, h2, h3, h4, hl, ?_, parT_len _, parS_parT h1 h2 h3 h4 hz, fun hv => ?_⟩
    · have hz' : pzero (a, b, s, 0) = false := hz
      rw [wrS, if_neg (by rw [hz']; decide), if_neg (by simp only at h4; omega), Int.toNat_natCast]
    · rw [← hn]; exact parT_parS hf hv
  · left; simpa using hc
set_option maxRecDepth 100000 in
set_option maxHeartbeats 4000000 in
theorem parentBack_walk (a b s : Nat) (f : Int) (l : List UInt8) (ha : Hid (a < 18446744073709551616)) (hb : Hid (b < 18446744073709551616)) (hs : Hid (s < 18446744073709551616)) (hf : Hid (-9223372036854775808 ≤ f ∧ f ≤ 9223372036854775807)) (hl0 : l.length ≤ 140737488351232) (w : World) (E : Pce w) :
    Calls Tryd.prog 5 #[.agg #[.int .u64 a, .int .u64 b, .int .u64 s, .int .i64 f], .string (bs l)] w fun e w' => e = .returned (.bool true) ∧ Below w.heap.size w w' := by
  have hn0 := new_below w (.cells #[.int .u64 (a : Int), .int .u64 (b : Int), .int .u64 (s : Int), .int .i64 f] 27)
  have c0 := C4.new w (.int .u64 (a : Int)) (.int .u64 (b : Int)) (.int .u64 (s : Int)) (.int .i64 f) 27
  have HT0 := hid (Pce.later E hn0)
  clear E
  by_cases hl : (l.length : Int) > 500
  · go_enter Tryd.func5, Tryd.ntmps5
    go_wp2_with fail
    generalize w.alloc (.cells #[.int .u64 (a : Int), .int .u64 (b : Int), .int .u64 (s : Int), .int .i64 f] 27) = v0 at *
    refine (known7_any _ HT0).mono ?_
    rintro e w1 ⟨rfl, hb1⟩
    have HBx := hid (below_step2 hn0 hb1)
    clear hb1
    go_wp2_with fail
    go_returns
    exact ⟨rfl, HBx.out⟩
  obtain ⟨t, ec, hwr⟩ : ∃ t ec, wrS a b s f = (t, ec) := ⟨_, _, rfl⟩
  obtain ⟨x1, x2, x3, x4, ed, hp⟩ := pr_parts (parS l)
  have HWr := hid hwr
  have HP := hid hp
  have hca := wr_case ha.out hb.out hs.out hwr
  have hcb := rd_case hp
  have hg : ∀ (op : BinOp) (x y : Operand) (xs ys : Array Value) (w : World), (eqGuard op 27 x y (.agg xs) (.agg ys)).run Tryd.prog w = .ok () w := fun op x y xs ys w => pr_guard op x y xs ys w
  have he : ∀ w : World, (binOp .eql 27 (.agg #[.int .u64 (x1 : Int), .int .u64 (x2 : Int), .int .u64 (x3 : Int), .int .i64 (x4 : Int)]) (.agg #[.int .u64 (x1 : Int), .int .u64 (x2 : Int), .int .u64 (x3 : Int), .int .i64 (x4 : Int)])).run Tryd.prog w = .ok (.bool true) w := fun w => by
    rw [pr_eql, samePr_self]
  have hne : ∀ w : World, (binOp .neq 27 (.agg #[.int .u64 (a : Int), .int .u64 (b : Int), .int .u64 (s : Int), .int .i64 f]) (.agg #[.int .u64 (a : Int), .int .u64 (b : Int), .int .u64 (s : Int), .int .i64 f])).run Tryd.prog w = .ok (.bool false) w := fun w => by
    rw [pr_neq, samePr_self]; rfl
  have x00 : (bs l).extract 0 2 = bs (l.take 2) := by rw [bs_extract]; simp
  have l00 : (ByteArray.mk #[48, 48]) = bs [48, 48] := rfl
  clear hwr hp
  rcases hca with hec | ⟨rfl, fn, rfl, ht55, hrt⟩
  · skip
    rcases hcb with hed | ⟨rfl, y1, y2, y3, y4, y5, y6, y7, y8, y9⟩
    · skip
      go_enter Tryd.func5, Tryd.ntmps5
      go_wp2_with fail
      generalize w.alloc (.cells #[.int .u64 (a : Int), .int .u64 (b : Int), .int .u64 (s : Int), .int .i64 f] 27) = v0 at *
      refine (parwrite_at a b s f v0 ha hb hs hf HT0 HWr).mono ?_
      rintro e w1 ⟨rfl, hb1⟩
      have H1 := hid (And.intro (c0.below hb1) (below_step2 hn0 hb1))
      have HT1 := hid (HT0.out.later hb1)
      clear hb1 hn0 c0
      go_wp2_with fail
      refine (parread_at l w1 hl0 HT1 HP).mono ?_
      rintro e w3 ⟨rfl, hb3⟩
      have H3 := hid (below_step2 H1.out.2 hb3)
      have HT3 := hid (HT1.out.later hb3)
      have hn3 := new_below w3 (.cells #[.int .u64 (x1 : Int), .int .u64 (x2 : Int), .int .u64 (x3 : Int), .int .i64 ((x4 : Int))] 27)
      have H3b := hid (below_step2 H3.out hn3)
      have HT3b := hid (HT3.out.later hn3)
      have c3 := C4.new w3 (.int .u64 (x1 : Int)) (.int .u64 (x2 : Int)) (.int .u64 (x3 : Int)) (.int .i64 ((x4 : Int))) 27
      clear hb3
      go_wp2_with fail
      generalize w3.alloc (.cells #[.int .u64 (x1 : Int), .int .u64 (x2 : Int), .int .u64 (x3 : Int), .int .i64 ((x4 : Int))] 27) = v3 at *
      clear hn3
      refine (known7_any _ HT3b).mono ?_
      rintro e w6 ⟨rfl, hb6⟩
      have H6 := hid (below_step2 H3b.out hb6)
      clear hb6
      go_wp2_with fail
      go_returns
      exact ⟨rfl, H6.out⟩
    · have hx1 := hid y1
      have hx2 := hid y2
      have hx3 := hid y3
      have hx4 := hid (show -9223372036854775808 ≤ (x4 : Int) ∧ (x4 : Int) ≤ 9223372036854775807 by omega)
      have i2 : (2 : Int) ≤ (l.length : Int) := by omega
      generalize parT (x1, x2, x3, x4) = t2 at *
      have HWx := hid y6
      have HRx := hid y8
      have ht2 : t2.length ≤ 140737488351232 := by omega
      by_cases h00 : l.take 2 = [48, 48]
      · have b00 : (l.take 2 == [48, 48]) = true := by simpa using h00
        have hq := y9 h00
        have hqq : (t2 == l) = true := by rw [hq]; simp
        clear h00 hq y1 y2 y3 y6 y7 y8 y9
        go_enter Tryd.func5, Tryd.ntmps5
        go_wp2_with fail
        generalize w.alloc (.cells #[.int .u64 (a : Int), .int .u64 (b : Int), .int .u64 (s : Int), .int .i64 f] 27) = v0 at *
        refine (parwrite_at a b s f v0 ha hb hs hf HT0 HWr).mono ?_
        rintro e w1 ⟨rfl, hb1⟩
        have H1 := hid (And.intro (c0.below hb1) (below_step2 hn0 hb1))
        have HT1 := hid (HT0.out.later hb1)
        clear hb1 hn0 c0
        go_wp2_with fail
        refine (parread_at l w1 hl0 HT1 HP).mono ?_
        rintro e w3 ⟨rfl, hb3⟩
        have H3 := hid (below_step2 H1.out.2 hb3)
        have HT3 := hid (HT1.out.later hb3)
        have hn3 := new_below w3 (.cells #[.int .u64 (x1 : Int), .int .u64 (x2 : Int), .int .u64 (x3 : Int), .int .i64 ((x4 : Int))] 27)
        have H3b := hid (below_step2 H3.out hn3)
        have HT3b := hid (HT3.out.later hn3)
        have c3 := C4.new w3 (.int .u64 (x1 : Int)) (.int .u64 (x2 : Int)) (.int .u64 (x3 : Int)) (.int .i64 ((x4 : Int))) 27
        clear hb3
        go_wp2_with fail
        generalize w3.alloc (.cells #[.int .u64 (x1 : Int), .int .u64 (x2 : Int), .int .u64 (x3 : Int), .int .i64 ((x4 : Int))] 27) = v3 at *
        clear hn3
        refine (parwrite_at x1 x2 x3 (x4 : Int) v3 hx1 hx2 hx3 hx4 HT3b HWx).mono ?_
        rintro e w4 ⟨rfl, hb4⟩
        have H4 := hid (And.intro (c3.below hb4) (below_step2 H3b.out hb4))
        have HT4 := hid (HT3b.out.later hb4)
        clear hb4 c3
        go_wp2_with fail
        refine (parread_at t2 w4 ht2 HT4 HRx).mono ?_
        rintro e w5 ⟨rfl, hb5⟩
        have H5 := hid (And.intro (H4.out.1.below hb5) (below_step2 H4.out.2 hb5))
        have HT5 := hid (HT4.out.later hb5)
        clear hb5
        obtain ⟨p0, p1, p2, p3⟩ := H5.out.1
        have hp := lt_of_cell p0
        go_wp2_with fail
        clear p0 p1 p2 p3 hp
        have hn5 := new_below w5 (.cells #[.int .u64 (x1 : Int), .int .u64 (x2 : Int), .int .u64 (x3 : Int), .int .i64 ((x4 : Int))] 27)
        have H5b := hid (below_step2 H5.out.2 hn5)
        have HT5b := hid (HT5.out.later hn5)
        clear hn5
        refine (known7_any _ HT5b).mono ?_
        rintro e w6 ⟨rfl, hb6⟩
        have H6 := hid (below_step2 H5b.out hb6)
        clear hb6
        go_wp2_with fail
        go_returns
        exact ⟨rfl, H6.out⟩
      · have b00 : (l.take 2 == [48, 48]) = false := by simpa using h00
        clear h00 y1 y2 y3 y6 y7 y8 y9
        go_enter Tryd.func5, Tryd.ntmps5
        go_wp2_with fail
        generalize w.alloc (.cells #[.int .u64 (a : Int), .int .u64 (b : Int), .int .u64 (s : Int), .int .i64 f] 27) = v0 at *
        refine (parwrite_at a b s f v0 ha hb hs hf HT0 HWr).mono ?_
        rintro e w1 ⟨rfl, hb1⟩
        have H1 := hid (And.intro (c0.below hb1) (below_step2 hn0 hb1))
        have HT1 := hid (HT0.out.later hb1)
        clear hb1 hn0 c0
        go_wp2_with fail
        refine (parread_at l w1 hl0 HT1 HP).mono ?_
        rintro e w3 ⟨rfl, hb3⟩
        have H3 := hid (below_step2 H1.out.2 hb3)
        have HT3 := hid (HT1.out.later hb3)
        have hn3 := new_below w3 (.cells #[.int .u64 (x1 : Int), .int .u64 (x2 : Int), .int .u64 (x3 : Int), .int .i64 ((x4 : Int))] 27)
        have H3b := hid (below_step2 H3.out hn3)
        have HT3b := hid (HT3.out.later hn3)
        have c3 := C4.new w3 (.int .u64 (x1 : Int)) (.int .u64 (x2 : Int)) (.int .u64 (x3 : Int)) (.int .i64 ((x4 : Int))) 27
        clear hb3
        go_wp2_with fail
        generalize w3.alloc (.cells #[.int .u64 (x1 : Int), .int .u64 (x2 : Int), .int .u64 (x3 : Int), .int .i64 ((x4 : Int))] 27) = v3 at *
        clear hn3
        refine (parwrite_at x1 x2 x3 (x4 : Int) v3 hx1 hx2 hx3 hx4 HT3b HWx).mono ?_
        rintro e w4 ⟨rfl, hb4⟩
        have H4 := hid (And.intro (c3.below hb4) (below_step2 H3b.out hb4))
        have HT4 := hid (HT3b.out.later hb4)
        clear hb4 c3
        go_wp2_with fail
        refine (parread_at t2 w4 ht2 HT4 HRx).mono ?_
        rintro e w5 ⟨rfl, hb5⟩
        have H5 := hid (And.intro (H4.out.1.below hb5) (below_step2 H4.out.2 hb5))
        have HT5 := hid (HT4.out.later hb5)
        clear hb5
        obtain ⟨p0, p1, p2, p3⟩ := H5.out.1
        have hp := lt_of_cell p0
        go_wp2_with fail
        clear p0 p1 p2 p3 hp
        have hn5 := new_below w5 (.cells #[.int .u64 (x1 : Int), .int .u64 (x2 : Int), .int .u64 (x3 : Int), .int .i64 ((x4 : Int))] 27)
        have H5b := hid (below_step2 H5.out.2 hn5)
        have HT5b := hid (HT5.out.later hn5)
        clear hn5
        refine (known7_any _ HT5b).mono ?_
        rintro e w6 ⟨rfl, hb6⟩
        have H6 := hid (below_step2 H5b.out hb6)
        clear hb6
        go_wp2_with fail
        go_returns
        exact ⟨rfl, H6.out⟩
  · have HRt := hid hrt
    have ht1 : t.length ≤ 140737488351232 := by omega
    have b55 : ((t.length : Int) != 55) = false := by simp; omega
    clear hrt ht55
    rcases hcb with hed | ⟨rfl, y1, y2, y3, y4, y5, y6, y7, y8, y9⟩
    · skip
      go_enter Tryd.func5, Tryd.ntmps5
      go_wp2_with fail
      generalize w.alloc (.cells #[.int .u64 (a : Int), .int .u64 (b : Int), .int .u64 (s : Int), .int .i64 (fn : Int)] 27) = v0 at *
      refine (parwrite_at a b s (fn : Int) v0 ha hb hs hf HT0 HWr).mono ?_
      rintro e w1 ⟨rfl, hb1⟩
      have H1 := hid (And.intro (c0.below hb1) (below_step2 hn0 hb1))
      have HT1 := hid (HT0.out.later hb1)
      clear hb1 hn0 c0
      go_wp2_with fail
      refine (parread_at t w1 ht1 HT1 HRt).mono ?_
      rintro e w2 ⟨rfl, hb2⟩
      have H2 := hid (And.intro (H1.out.1.below hb2) (below_step2 H1.out.2 hb2))
      have HT2 := hid (HT1.out.later hb2)
      clear hb2
      obtain ⟨p0, p1, p2, p3⟩ := H2.out.1
      have hp := lt_of_cell p0
      go_wp2_with fail
      clear p0 p1 p2 p3 hp
      have hn2 := new_below w2 (.cells #[.int .u64 (a : Int), .int .u64 (b : Int), .int .u64 (s : Int), .int .i64 ((fn : Int))] 27)
      have H2b := hid (below_step2 H2.out.2 hn2)
      have HT2b := hid (HT2.out.later hn2)
      generalize w2.alloc (.cells #[.int .u64 (a : Int), .int .u64 (b : Int), .int .u64 (s : Int), .int .i64 ((fn : Int))] 27) = v2 at *
      clear hn2
      refine (parread_at l v2 hl0 HT2b HP).mono ?_
      rintro e w3 ⟨rfl, hb3⟩
      have H3 := hid (below_step2 H2b.out hb3)
      have HT3 := hid (HT2b.out.later hb3)
      have hn3 := new_below w3 (.cells #[.int .u64 (x1 : Int), .int .u64 (x2 : Int), .int .u64 (x3 : Int), .int .i64 ((x4 : Int))] 27)
      have H3b := hid (below_step2 H3.out hn3)
      have HT3b := hid (HT3.out.later hn3)
      have c3 := C4.new w3 (.int .u64 (x1 : Int)) (.int .u64 (x2 : Int)) (.int .u64 (x3 : Int)) (.int .i64 ((x4 : Int))) 27
      clear hb3
      go_wp2_with fail
      generalize w3.alloc (.cells #[.int .u64 (x1 : Int), .int .u64 (x2 : Int), .int .u64 (x3 : Int), .int .i64 ((x4 : Int))] 27) = v3 at *
      clear hn3
      refine (known7_any _ HT3b).mono ?_
      rintro e w6 ⟨rfl, hb6⟩
      have H6 := hid (below_step2 H3b.out hb6)
      clear hb6
      go_wp2_with fail
      go_returns
      exact ⟨rfl, H6.out⟩
    · have hx1 := hid y1
      have hx2 := hid y2
      have hx3 := hid y3
      have hx4 := hid (show -9223372036854775808 ≤ (x4 : Int) ∧ (x4 : Int) ≤ 9223372036854775807 by omega)
      have i2 : (2 : Int) ≤ (l.length : Int) := by omega
      generalize parT (x1, x2, x3, x4) = t2 at *
      have HWx := hid y6
      have HRx := hid y8
      have ht2 : t2.length ≤ 140737488351232 := by omega
      by_cases h00 : l.take 2 = [48, 48]
      · have b00 : (l.take 2 == [48, 48]) = true := by simpa using h00
        have hq := y9 h00
        have hqq : (t2 == l) = true := by rw [hq]; simp
        clear h00 hq y1 y2 y3 y6 y7 y8 y9
        go_enter Tryd.func5, Tryd.ntmps5
        go_wp2_with fail
        generalize w.alloc (.cells #[.int .u64 (a : Int), .int .u64 (b : Int), .int .u64 (s : Int), .int .i64 (fn : Int)] 27) = v0 at *
        refine (parwrite_at a b s (fn : Int) v0 ha hb hs hf HT0 HWr).mono ?_
        rintro e w1 ⟨rfl, hb1⟩
        have H1 := hid (And.intro (c0.below hb1) (below_step2 hn0 hb1))
        have HT1 := hid (HT0.out.later hb1)
        clear hb1 hn0 c0
        go_wp2_with fail
        refine (parread_at t w1 ht1 HT1 HRt).mono ?_
        rintro e w2 ⟨rfl, hb2⟩
        have H2 := hid (And.intro (H1.out.1.below hb2) (below_step2 H1.out.2 hb2))
        have HT2 := hid (HT1.out.later hb2)
        clear hb2
        obtain ⟨p0, p1, p2, p3⟩ := H2.out.1
        have hp := lt_of_cell p0
        go_wp2_with fail
        clear p0 p1 p2 p3 hp
        have hn2 := new_below w2 (.cells #[.int .u64 (a : Int), .int .u64 (b : Int), .int .u64 (s : Int), .int .i64 ((fn : Int))] 27)
        have H2b := hid (below_step2 H2.out.2 hn2)
        have HT2b := hid (HT2.out.later hn2)
        generalize w2.alloc (.cells #[.int .u64 (a : Int), .int .u64 (b : Int), .int .u64 (s : Int), .int .i64 ((fn : Int))] 27) = v2 at *
        clear hn2
        refine (parread_at l v2 hl0 HT2b HP).mono ?_
        rintro e w3 ⟨rfl, hb3⟩
        have H3 := hid (below_step2 H2b.out hb3)
        have HT3 := hid (HT2b.out.later hb3)
        have hn3 := new_below w3 (.cells #[.int .u64 (x1 : Int), .int .u64 (x2 : Int), .int .u64 (x3 : Int), .int .i64 ((x4 : Int))] 27)
        have H3b := hid (below_step2 H3.out hn3)
        have HT3b := hid (HT3.out.later hn3)
        have c3 := C4.new w3 (.int .u64 (x1 : Int)) (.int .u64 (x2 : Int)) (.int .u64 (x3 : Int)) (.int .i64 ((x4 : Int))) 27
        clear hb3
        go_wp2_with fail
        generalize w3.alloc (.cells #[.int .u64 (x1 : Int), .int .u64 (x2 : Int), .int .u64 (x3 : Int), .int .i64 ((x4 : Int))] 27) = v3 at *
        clear hn3
        refine (parwrite_at x1 x2 x3 (x4 : Int) v3 hx1 hx2 hx3 hx4 HT3b HWx).mono ?_
        rintro e w4 ⟨rfl, hb4⟩
        have H4 := hid (And.intro (c3.below hb4) (below_step2 H3b.out hb4))
        have HT4 := hid (HT3b.out.later hb4)
        clear hb4 c3
        go_wp2_with fail
        refine (parread_at t2 w4 ht2 HT4 HRx).mono ?_
        rintro e w5 ⟨rfl, hb5⟩
        have H5 := hid (And.intro (H4.out.1.below hb5) (below_step2 H4.out.2 hb5))
        have HT5 := hid (HT4.out.later hb5)
        clear hb5
        obtain ⟨p0, p1, p2, p3⟩ := H5.out.1
        have hp := lt_of_cell p0
        go_wp2_with fail
        clear p0 p1 p2 p3 hp
        have hn5 := new_below w5 (.cells #[.int .u64 (x1 : Int), .int .u64 (x2 : Int), .int .u64 (x3 : Int), .int .i64 ((x4 : Int))] 27)
        have H5b := hid (below_step2 H5.out.2 hn5)
        have HT5b := hid (HT5.out.later hn5)
        clear hn5
        refine (known7_any _ HT5b).mono ?_
        rintro e w6 ⟨rfl, hb6⟩
        have H6 := hid (below_step2 H5b.out hb6)
        clear hb6
        go_wp2_with fail
        go_returns
        exact ⟨rfl, H6.out⟩
      · have b00 : (l.take 2 == [48, 48]) = false := by simpa using h00
        clear h00 y1 y2 y3 y6 y7 y8 y9
        go_enter Tryd.func5, Tryd.ntmps5
        go_wp2_with fail
        generalize w.alloc (.cells #[.int .u64 (a : Int), .int .u64 (b : Int), .int .u64 (s : Int), .int .i64 (fn : Int)] 27) = v0 at *
        refine (parwrite_at a b s (fn : Int) v0 ha hb hs hf HT0 HWr).mono ?_
        rintro e w1 ⟨rfl, hb1⟩
        have H1 := hid (And.intro (c0.below hb1) (below_step2 hn0 hb1))
        have HT1 := hid (HT0.out.later hb1)
        clear hb1 hn0 c0
        go_wp2_with fail
        refine (parread_at t w1 ht1 HT1 HRt).mono ?_
        rintro e w2 ⟨rfl, hb2⟩
        have H2 := hid (And.intro (H1.out.1.below hb2) (below_step2 H1.out.2 hb2))
        have HT2 := hid (HT1.out.later hb2)
        clear hb2
        obtain ⟨p0, p1, p2, p3⟩ := H2.out.1
        have hp := lt_of_cell p0
        go_wp2_with fail
        clear p0 p1 p2 p3 hp
        have hn2 := new_below w2 (.cells #[.int .u64 (a : Int), .int .u64 (b : Int), .int .u64 (s : Int), .int .i64 ((fn : Int))] 27)
        have H2b := hid (below_step2 H2.out.2 hn2)
        have HT2b := hid (HT2.out.later hn2)
        generalize w2.alloc (.cells #[.int .u64 (a : Int), .int .u64 (b : Int), .int .u64 (s : Int), .int .i64 ((fn : Int))] 27) = v2 at *
        clear hn2
        refine (parread_at l v2 hl0 HT2b HP).mono ?_
        rintro e w3 ⟨rfl, hb3⟩
        have H3 := hid (below_step2 H2b.out hb3)
        have HT3 := hid (HT2b.out.later hb3)
        have hn3 := new_below w3 (.cells #[.int .u64 (x1 : Int), .int .u64 (x2 : Int), .int .u64 (x3 : Int), .int .i64 ((x4 : Int))] 27)
        have H3b := hid (below_step2 H3.out hn3)
        have HT3b := hid (HT3.out.later hn3)
        have c3 := C4.new w3 (.int .u64 (x1 : Int)) (.int .u64 (x2 : Int)) (.int .u64 (x3 : Int)) (.int .i64 ((x4 : Int))) 27
        clear hb3
        go_wp2_with fail
        generalize w3.alloc (.cells #[.int .u64 (x1 : Int), .int .u64 (x2 : Int), .int .u64 (x3 : Int), .int .i64 ((x4 : Int))] 27) = v3 at *
        clear hn3
        refine (parwrite_at x1 x2 x3 (x4 : Int) v3 hx1 hx2 hx3 hx4 HT3b HWx).mono ?_
        rintro e w4 ⟨rfl, hb4⟩
        have H4 := hid (And.intro (c3.below hb4) (below_step2 H3b.out hb4))
        have HT4 := hid (HT3b.out.later hb4)
        clear hb4 c3
        go_wp2_with fail
        refine (parread_at t2 w4 ht2 HT4 HRx).mono ?_
        rintro e w5 ⟨rfl, hb5⟩
        have H5 := hid (And.intro (H4.out.1.below hb5) (below_step2 H4.out.2 hb5))
        have HT5 := hid (HT4.out.later hb5)
        clear hb5
        obtain ⟨p0, p1, p2, p3⟩ := H5.out.1
        have hp := lt_of_cell p0
        go_wp2_with fail
        clear p0 p1 p2 p3 hp
        have hn5 := new_below w5 (.cells #[.int .u64 (x1 : Int), .int .u64 (x2 : Int), .int .u64 (x3 : Int), .int .i64 ((x4 : Int))] 27)
        have H5b := hid (below_step2 H5.out.2 hn5)
        have HT5b := hid (HT5.out.later hn5)
        clear hn5
        refine (known7_any _ HT5b).mono ?_
        rintro e w6 ⟨rfl, hb6⟩
        have H6 := hid (below_step2 H5b.out hb6)
        clear hb6
        go_wp2_with fail
        go_returns
        exact ⟨rfl, H6.out⟩
end Go.Proofs.YtddmmpjamnjilaaDoor
