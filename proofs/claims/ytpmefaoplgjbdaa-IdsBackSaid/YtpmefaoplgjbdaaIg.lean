import Derived.Test.YtpmefaoplgjbdaaIf
namespace Go.Proofs.Ytpmefaoplgjbdaa
set_option linter.unusedVariables false
set_option linter.unusedSimpArgs false
open Go.RowKit Go.Maps

theorem keep_six' {w1 w' : World} {g g2 g3 : Nat} {x y x2 y2 x3 y3 : Value} (h : Two w1 g x y) (h2 : Two w1 g2 x2 y2) (h3 : Two w1 g3 x3 y3) (hb : Below w1.heap.size w1 w') :
    w'.cell? ⟨g, 0, none⟩ = some x ∧ w'.cell? ⟨g, 1, none⟩ = some y ∧ w'.cell? ⟨g2, 0, none⟩ = some x2 ∧ w'.cell? ⟨g2, 1, none⟩ = some y2 ∧ w'.cell? ⟨g3, 0, none⟩ = some x3 ∧ w'.cell? ⟨g3, 1, none⟩ = some y3 ∧ Below w1.heap.size w1 w' :=
  ⟨(h.later hb).1, (h.later hb).2, (h2.later hb).1, (h2.later hb).2, (h3.later hb).1, (h3.later hb).2, hb⟩
theorem text_same {a b c d : Nat} (ha : a < 18446744073709551616) (hb : b < 18446744073709551616) (hc : c < 18446744073709551616) (hd : d < 18446744073709551616) : (idText a b == idText c d) = sameTr a b c d := by
  rw [Bool.eq_iff_iff, beq_iff_eq, sameTr, decide_eq_true_eq]
  exact ⟨fun h => idText_inj ha hb hc hd h, fun ⟨h1, h2⟩ => by rw [h1, h2]⟩
/-- 'wpAnyH_take' with the place that is written told by itself. -/
theorem take_at {P : Program} {ops : Array Oper} {Q : Exit → Act → World → Prop} {md : Region.Mode} {S : World → Prop} {i : Nat} {oi : Oper} {dst : Option Tmp} {v : Value} {fuel : Nat} {listed : Array Bool} {a : Act} {w : World} (hi : ops[i]? = some oi) (hd : oi.dst = dst)
    (hs : Region.noSelect ops = true) (hf : Region.free md ops listed i = true) (hr : (Region.ready md ops listed).contains i = true)
    (hQ : ∀ c a w, Q (.panic c) (a.put dst v) w → Q (.panic c) a w) (hy : YieldsIf P ops S oi v a) (hS : S w)
    (h : wpAnyH P md ops Q S fuel (listed.setIfInBounds i true) (a.put dst v) w) : wpAnyH P md ops Q S (fuel + 1) listed a w := by
  subst hd
  exact wpAnyH_take hi hs hf hr hQ hy hS h
theorem three (p : Nat × Nat × Int) : ∃ x y e, p = (x, y, e) := ⟨_, _, _, rfl⟩
theorem two (p : Nat × Int) : ∃ x e, p = (x, e) := ⟨_, _, rfl⟩
theorem sameTr_self (a b : Nat) : sameTr a b a b = true := by simp [sameTr]
set_option maxRecDepth 100000 in
set_option maxHeartbeats 4000000 in
theorem idsBack_few (a1 a2 b1 b2 : Nat) (A : Option Addr) (cap : Nat) (L : List Nat) (n0 n1 : Int) (ha1 : Hid (a1 < 18446744073709551616)) (ha2 : Hid (a2 < 18446744073709551616)) (hb1 : Hid (b1 < 18446744073709551616)) (hb2 : Hid (b2 < 18446744073709551616))
    (hn0 : Hid (-9223372036854775808 ≤ n0 ∧ n0 ≤ 9223372036854775807)) (hn1 : Hid (-9223372036854775808 ≤ n1 ∧ n1 ≤ 9223372036854775807)) (w : World) (HR : Hid (NReads w (· < w.heap.size) A L)) (HL : Hid (∀ x ∈ L, x < 18446744073709551616)) (hl : L.length ≤ 60) (h200 : ¬ (200 : Int) < n1) :
    Calls Try.prog 5 #[.agg #[.int .u64 a1, .int .u64 a2], .agg #[.int .u64 b1, .int .u64 b2], .slice A L.length cap, .agg #[.int .i64 n0, .int .i64 n1]] w fun e w' => e = .returned (.bool true) ∧ Below w.heap.size w w' := by
  obtain ⟨x, y, e, ho⟩ : ∃ x y e, ofS (idText a1 a2) = (x, y, e) := three _
  obtain ⟨x2, e2, ho2⟩ : ∃ x e, spanOfS (hx 16 a2) = (x, e) := two _
  have hk := ho
  rw [ofS_text ha1.out ha2.out] at hk
  have hk2 := ho2
  rw [spanOfS_hx ha2.out] at hk2
  have hd60 : ¬ (60 : Int) < (L.length : Int) := by omega
  have hg : ∀ (op : BinOp) (x y : Operand) (xs ys : Array Value) (w : World), (eqGuard op 24 x y (.agg xs) (.agg ys)).run Try.prog w = .ok () w := fun op x y xs ys w => tr_guard op x y xs ys w
  have hn00 : ∀ w : World, (binOp .neq 24 (.agg #[.int .u64 (a1 : Int), .int .u64 (a2 : Int)]) (.agg #[.int .u64 0, .int .u64 0])).run Try.prog w = .ok (.bool (!sameTr a1 a2 0 0)) w := fun w => tr_neq w a1 a2 0 0
  have hnta : ∀ w : World, (binOp .neq 24 (.agg #[.int .u64 (x : Int), .int .u64 (y : Int)]) (.agg #[.int .u64 (a1 : Int), .int .u64 (a2 : Int)])).run Try.prog w = .ok (.bool (!sameTr x y a1 a2)) w := fun w => tr_neq w x y a1 a2
  have heab : ∀ w : World, (binOp .eql 24 (.agg #[.int .u64 (a1 : Int), .int .u64 (a2 : Int)]) (.agg #[.int .u64 (b1 : Int), .int .u64 (b2 : Int)])).run Try.prog w = .ok (.bool (sameTr a1 a2 b1 b2)) w := fun w => tr_eql w a1 a2 b1 b2
  have htext := text_same ha1.out ha2.out hb1.out hb2.out
  generalize sameTr a1 a2 b1 b2 = sab at *
  have hcase : (sameTr a1 a2 0 0 = true ∧ e = 11) ∨ (sameTr a1 a2 0 0 = false ∧ e = 0 ∧ sameTr x y a1 a2 = true) := by
    by_cases hz : a1 = 0 ∧ a2 = 0
    · left; rw [if_pos hz] at hk; exact ⟨by simp [sameTr, hz], by simp at hk; omega⟩
    · right; rw [if_neg hz] at hk; simp only [Prod.mk.injEq] at hk; obtain ⟨rfl, rfl, rfl⟩ := hk; exact ⟨by simp [sameTr]; simpa using hz, rfl, sameTr_self _ _⟩
  have hq := beq0 a2
  have hcase2 : (decide (a2 = 0) = true ∧ e2 = 11) ∨ (decide (a2 = 0) = false ∧ e2 = 0 ∧ x2 = a2) := by
    by_cases hz : a2 = 0
    · left; rw [if_pos hz] at hk2; exact ⟨by simp [hz], by simp at hk2; omega⟩
    · right; rw [if_neg hz] at hk2; simp only [Prod.mk.injEq] at hk2; exact ⟨by simp [hz], hk2.2.symm, hk2.1.symm⟩
  have HO := hid ho
  have HO2 := hid ho2
  have H2 := hid hcase2
  have HM := hid (fun h : n0 ≤ n1 => fun h2 : distS L n1 = true => distS_mono h2 h)
  clear ho ho2 hk hk2 hcase2
  have lx1 : (idText a1 a2).length ≤ 140737488351232 := by rw [idText, List.length_append, hx_length, hx_length]; omega
  have lx2 : (hx 16 a2).length ≤ 140737488351232 := by rw [hx_length]; omega
  rcases hcase with ⟨z1, rfl⟩ | ⟨z1, rfl, z2⟩
  · skip
    (try rw [z2] at hnta)
    rw [z1] at hn00
    (try simp only [Bool.not_true, Bool.not_false] at hn00 hnta)
    clear z1
    have ht4 := ((Two.new w (.int .u64 (a1 : Int)) (.int .u64 (a2 : Int)) 24).later (below_new _ (.cells #[.int .u64 (b1 : Int), .int .u64 (b2 : Int)] 24))).later (below_new _ (.cells #[.int .i64 n0, .int .i64 n1] 38))
    have ht5 := (Two.new (w.alloc (.cells #[.int .u64 (a1 : Int), .int .u64 (a2 : Int)] 24)) (.int .u64 (b1 : Int)) (.int .u64 (b2 : Int)) 24).later (below_new _ (.cells #[.int .i64 n0, .int .i64 n1] 38))
    have ht7 := Two.new ((w.alloc (.cells #[.int .u64 (a1 : Int), .int .u64 (a2 : Int)] 24)).alloc (.cells #[.int .u64 (b1 : Int), .int .u64 (b2 : Int)] 24)) (.int .i64 n0) (.int .i64 n1) 38
    have hv0 := below_step2 (below_step2 (below_new w (.cells #[.int .u64 (a1 : Int), .int .u64 (a2 : Int)] 24)) (below_new _ (.cells #[.int .u64 (b1 : Int), .int .u64 (b2 : Int)] 24))) (below_new _ (.cells #[.int .i64 n0, .int .i64 n1] 38))
    rw [World.size_alloc] at ht5
    rw [World.size_alloc, World.size_alloc] at ht7
    have HV := hid (And.intro ht4 (And.intro ht5 (And.intro ht7 hv0)))
    clear ht4 ht5 ht7 hv0
    go_enter Try.func5, Try.ntmps5
    go_wp2_with fail
    generalize ((w.alloc (.cells #[.int .u64 (a1 : Int), .int .u64 (a2 : Int)] 24)).alloc (.cells #[.int .u64 (b1 : Int), .int .u64 (b2 : Int)] 24)).alloc (.cells #[.int .i64 n0, .int .i64 n1] 38) = v0 at *
    refine (idtext_any a1 a2 _ ha1 ha2).mono ?_
    rintro r w1 ⟨rfl, hy1⟩
    go_wp2_with fail
    refine (of_at _ _ lx1 HO).mono ?_
    rintro r w2 ⟨rfl, hy2⟩
    have hy := (below_step2 (below_step2 hy1 hy2) (below_new w2 (.cells #[.int .u64 (x : Int), .int .u64 (y : Int)] 24)))
    have ht9 := Two.new w2 (.int .u64 (x : Int)) (.int .u64 (y : Int)) 24
    have HW := hid (And.intro (HV.out.1.later hy) (And.intro (HV.out.2.1.later hy) (And.intro (HV.out.2.2.1.later hy) (And.intro ht9 (below_step2 HV.out.2.2.2 hy)))))
    clear hy1 hy2 hy ht9
    go_wp2_with fail
    generalize w2.alloc (.cells #[.int .u64 (x : Int), .int .u64 (y : Int)] 24) = v1 at *
    have hz : Below v1.heap.size v1 v1.drew := (Below.refl _ _).drew
    refine wp_region_held_drew (S := (fun w' => w'.cell? ⟨w.heap.size, 0, none⟩ = some (.int .u64 (a1 : Int)) ∧ w'.cell? ⟨w.heap.size, 1, none⟩ = some (.int .u64 (a2 : Int)) ∧ w'.cell? ⟨w.heap.size + 1, 0, none⟩ = some (.int .u64 (b1 : Int)) ∧ w'.cell? ⟨w.heap.size + 1, 1, none⟩ = some (.int .u64 (b2 : Int)) ∧ w'.cell? ⟨w2.heap.size, 0, none⟩ = some (.int .u64 (x : Int)) ∧ w'.cell? ⟨w2.heap.size, 1, none⟩ = some (.int .u64 (y : Int)) ∧ Below v1.heap.size v1 w')) (by kernel_rfl) (keep_six' HW.out.1 HW.out.2.1 HW.out.2.2.2.1 hz) (fun hHeld => ?_)
    refine take_at (i := 0) (dst := some 28) (v := ?gv1) rfl rfl (by kernel_rfl) (by kernel_rfl) (by kernel_rfl) (fun _ _ _ h => h) (Or.inl ⟨by rfl, ?gy1⟩) (by assumption) ?gr1
    case gy1 => ((intro w hSw); (try dsimp only at hSw); go_simp; (try with_reducible rfl))
    (try simp only [Act.put, List.setIfInBounds_toArray, List.set_cons_zero, List.set_cons_succ])
    refine take_at (i := 1) (dst := some 29) (v := ?gv2) rfl rfl (by kernel_rfl) (by kernel_rfl) (by kernel_rfl) (fun _ _ _ h => h) (Or.inl ⟨by rfl, ?gy2⟩) (by assumption) ?gr2
    case gy2 => ((intro w hSw); (try dsimp only at hSw); go_simp; (try with_reducible rfl))
    (try simp only [Act.put, List.setIfInBounds_toArray, List.set_cons_zero, List.set_cons_succ])
    refine take_at (i := 2) (dst := some 30) (v := ?gv3) rfl rfl (by kernel_rfl) (by kernel_rfl) (by kernel_rfl) (fun _ _ _ h => h) (Or.inl ⟨by rfl, ?gy3⟩) (by assumption) ?gr3
    case gy3 => ((intro w hSw); (try dsimp only at hSw); go_simp; (try with_reducible rfl))
    (try simp only [Act.put, List.setIfInBounds_toArray, List.set_cons_zero, List.set_cons_succ])
    refine take_at (i := 3) (dst := some 31) (v := ?gv4) rfl rfl (by kernel_rfl) (by kernel_rfl) (by kernel_rfl) (fun _ _ _ h => h) (Or.inl ⟨by rfl, ?gy4⟩) (by assumption) ?gr4
    case gy4 => ((intro w hSw); (try dsimp only at hSw); go_simp; (try with_reducible rfl))
    (try simp only [Act.put, List.setIfInBounds_toArray, List.set_cons_zero, List.set_cons_succ])
    refine take_at (i := 4) (dst := some 32) (v := ?gv5) rfl rfl (by kernel_rfl) (by kernel_rfl) (by kernel_rfl) (fun _ _ _ h => h) (Or.inl ⟨by rfl, ?gy5⟩) (by assumption) ?gr5
    case gy5 => ((intro w hSw); (try dsimp only at hSw); go_simp; (try with_reducible rfl))
    (try simp only [Act.put, List.setIfInBounds_toArray, List.set_cons_zero, List.set_cons_succ])
    refine take_at (i := 5) (dst := some 33) (v := ?gv6) rfl rfl (by kernel_rfl) (by kernel_rfl) (by kernel_rfl) (fun _ _ _ h => h) (Or.inl ⟨by rfl, ?gy6⟩) (by assumption) ?gr6
    case gy6 => ((intro w hSw); (try dsimp only at hSw); go_simp; (try with_reducible rfl))
    (try simp only [Act.put, List.setIfInBounds_toArray, List.set_cons_zero, List.set_cons_succ])
    refine take_at (i := 6) (dst := some 34) (v := ?gv7) rfl rfl (by kernel_rfl) (by kernel_rfl) (by kernel_rfl) (fun _ _ _ h => h) (Or.inl ⟨by rfl, ?gy7⟩) (by assumption) ?gr7
    case gy7 => ((intro w hSw); (try dsimp only at hSw); go_simp; (try with_reducible rfl))
    (try simp only [Act.put, List.setIfInBounds_toArray, List.set_cons_zero, List.set_cons_succ])
    refine take_at (i := 7) (dst := some 35) (v := ?gv8) rfl rfl (by kernel_rfl) (by kernel_rfl) (by kernel_rfl) (fun _ _ _ h => h) (Or.inl ⟨by rfl, ?gy8⟩) (by assumption) ?gr8
    case gy8 => ((intro w hSw); (try dsimp only at hSw); go_simp; (try with_reducible rfl))
    (try simp only [Act.put, List.setIfInBounds_toArray, List.set_cons_zero, List.set_cons_succ])
    refine take_at (i := 8) (dst := some 36) (v := ?gv9) rfl rfl (by kernel_rfl) (by kernel_rfl) (by kernel_rfl) (fun _ _ _ h => h) (Or.inl ⟨by rfl, ?gy9⟩) (by assumption) ?gr9
    case gy9 => ((intro w hSw); (try dsimp only at hSw); go_simp; (try with_reducible rfl))
    (try simp only [Act.put, List.setIfInBounds_toArray, List.set_cons_zero, List.set_cons_succ])
    refine take_at (i := 9) (dst := some 37) (v := ?gv10) rfl rfl (by kernel_rfl) (by kernel_rfl) (by kernel_rfl) (fun _ _ _ h => h) (Or.inl ⟨by rfl, ?gy10⟩) (by assumption) ?gr10
    case gy10 => ((intro w hSw); (try dsimp only at hSw); go_simp; (try with_reducible rfl))
    (try simp only [Act.put, List.setIfInBounds_toArray, List.set_cons_zero, List.set_cons_succ])
    refine take_at (i := 10) (dst := some 38) (v := undef) rfl rfl (by kernel_rfl) (by kernel_rfl) (by kernel_rfl) (fun _ _ _ h => h) (Or.inr ⟨by rfl, rfl⟩) (by assumption) ?_
    (try simp only [Act.put, List.setIfInBounds_toArray, List.set_cons_zero, List.set_cons_succ])
    refine take_at (i := 11) (dst := some 39) (v := undef) rfl rfl (by kernel_rfl) (by kernel_rfl) (by kernel_rfl) (fun _ _ _ h => h) (Or.inr ⟨by rfl, rfl⟩) (by assumption) ?_
    (try simp only [Act.put, List.setIfInBounds_toArray, List.set_cons_zero, List.set_cons_succ])
    refine take_at (i := 12) (dst := some 40) (v := undef) rfl rfl (by kernel_rfl) (by kernel_rfl) (by kernel_rfl) (fun _ _ _ h => h) (Or.inr ⟨by rfl, rfl⟩) (by assumption) ?_
    (try simp only [Act.put, List.setIfInBounds_toArray, List.set_cons_zero, List.set_cons_succ])
    refine take_at (i := 13) (dst := some 41) (v := ?gv11) rfl rfl (by kernel_rfl) (by kernel_rfl) (by kernel_rfl) (fun _ _ _ h => h) (Or.inl ⟨by rfl, ?gy11⟩) (by assumption) ?gr11
    case gy11 => ((intro w hSw); (try dsimp only at hSw); go_simp; (try with_reducible rfl))
    (try simp only [Act.put, List.setIfInBounds_toArray, List.set_cons_zero, List.set_cons_succ])
    refine take_at (i := 14) (dst := some 42) (v := ?gv12) rfl rfl (by kernel_rfl) (by kernel_rfl) (by kernel_rfl) (fun _ _ _ h => h) (Or.inl ⟨by rfl, ?gy12⟩) (by assumption) ?gr12
    case gy12 => ((intro w hSw); (try dsimp only at hSw); go_simp; (try with_reducible rfl))
    (try simp only [Act.put, List.setIfInBounds_toArray, List.set_cons_zero, List.set_cons_succ])
    refine take_at (i := 15) (dst := some 43) (v := ?gv13) rfl rfl (by kernel_rfl) (by kernel_rfl) (by kernel_rfl) (fun _ _ _ h => h) (Or.inl ⟨by rfl, ?gy13⟩) (by assumption) ?gr13
    case gy13 => ((intro w hSw); (try dsimp only at hSw); go_simp; (try with_reducible rfl))
    (try simp only [Act.put, List.setIfInBounds_toArray, List.set_cons_zero, List.set_cons_succ])
    refine take_at (i := 16) (dst := some 44) (v := ?gv14) rfl rfl (by kernel_rfl) (by kernel_rfl) (by kernel_rfl) (fun _ _ _ h => h) (Or.inl ⟨by rfl, ?gy14⟩) (by assumption) ?gr14
    case gy14 => ((intro w hSw); (try dsimp only at hSw); go_simp; (try with_reducible rfl))
    (try simp only [Act.put, List.setIfInBounds_toArray, List.set_cons_zero, List.set_cons_succ])
    refine take_at (i := 18) (dst := some 46) (v := ?gv15) rfl rfl (by kernel_rfl) (by kernel_rfl) (by kernel_rfl) (fun _ _ _ h => h) (Or.inl ⟨by rfl, ?gy15⟩) (by assumption) ?gr15
    case gy15 => ((intro w hSw); (try dsimp only at hSw); go_simp; (try with_reducible rfl))
    (try simp only [Act.put, List.setIfInBounds_toArray, List.set_cons_zero, List.set_cons_succ])
    refine take_at (i := 21) (dst := some 49) (v := ?gv16) rfl rfl (by kernel_rfl) (by kernel_rfl) (by kernel_rfl) (fun _ _ _ h => h) (Or.inl ⟨by rfl, ?gy16⟩) (by assumption) ?gr16
    case gy16 => ((intro w hSw); (try dsimp only at hSw); go_simp; (try with_reducible rfl))
    (try simp only [Act.put, List.setIfInBounds_toArray, List.set_cons_zero, List.set_cons_succ])
    refine take_at (i := 22) (dst := some 50) (v := ?gv17) rfl rfl (by kernel_rfl) (by kernel_rfl) (by kernel_rfl) (fun _ _ _ h => h) (Or.inl ⟨by rfl, ?gy17⟩) (by assumption) ?gr17
    case gy17 => ((intro w hSw); (try dsimp only at hSw); go_simp; (try with_reducible rfl))
    (try simp only [Act.put, List.setIfInBounds_toArray, List.set_cons_zero, List.set_cons_succ])
    refine take_at (i := 23) (dst := some 51) (v := ?gv18) rfl rfl (by kernel_rfl) (by kernel_rfl) (by kernel_rfl) (fun _ _ _ h => h) (Or.inl ⟨by rfl, ?gy18⟩) (by assumption) ?gr18
    case gy18 => ((intro w hSw); (try dsimp only at hSw); go_simp; (try with_reducible rfl))
    (try simp only [Act.put, List.setIfInBounds_toArray, List.set_cons_zero, List.set_cons_succ])
    refine wpAnyH_ready (rs := [17]) (by kernel_rfl) (by simp) ?_
    refine AllReadyH.cons rfl (fun K hK => ?_) AllReadyH.nil
    go_simp
    refine (idtext_any a1 a2 _ ha1 ha2).mono ?_
    rintro e w3 ⟨rfl, hy⟩
    have hz := hz.trans (hy.mono hz.size)
    (try go_wp2_with fail)
    refine hK.out _ _ (keep_six' HW.out.1 HW.out.2.1 HW.out.2.2.2.1 hz) (fun hHeld => ?_)
    clear hK K
    (try simp only [Act.put, List.setIfInBounds_toArray, List.set_cons_zero, List.set_cons_succ])
    refine wpAnyH_ready (rs := [19]) (by kernel_rfl) (by simp) ?_
    refine AllReadyH.cons rfl (fun K hK => ?_) AllReadyH.nil
    go_simp
    refine (idtext_any b1 b2 _ hb1 hb2).mono ?_
    rintro e w3 ⟨rfl, hy⟩
    have hz := hz.trans (hy.mono hz.size)
    (try go_wp2_with fail)
    refine hK.out _ _ (keep_six' HW.out.1 HW.out.2.1 HW.out.2.2.2.1 hz) (fun hHeld => ?_)
    clear hK K
    (try simp only [Act.put, List.setIfInBounds_toArray, List.set_cons_zero, List.set_cons_succ])
    refine take_at (i := 20) (dst := some 48) (v := ?gv19) rfl rfl (by kernel_rfl) (by kernel_rfl) (by kernel_rfl) (fun _ _ _ h => h) (Or.inl ⟨by rfl, ?gy19⟩) (by assumption) ?gr19
    case gy19 => ((intro w hSw); (try dsimp only at hSw); go_simp; (try with_reducible rfl))
    (try simp only [Act.put, List.setIfInBounds_toArray, List.set_cons_zero, List.set_cons_succ])
    refine take_at (i := 24) (dst := some 52) (v := ?gv20) rfl rfl (by kernel_rfl) (by kernel_rfl) (by kernel_rfl) (fun _ _ _ h => h) (Or.inl ⟨by rfl, ?gy20⟩) (by assumption) ?gr20
    case gy20 => ((intro w hSw); (try dsimp only at hSw); go_simp; (try with_reducible rfl))
    (try simp only [Act.put, List.setIfInBounds_toArray, List.set_cons_zero, List.set_cons_succ])
    refine take_at (i := 25) (dst := some 53) (v := ?gv21) rfl rfl (by kernel_rfl) (by kernel_rfl) (by kernel_rfl) (fun _ _ _ h => h) (Or.inl ⟨by rfl, ?gy21⟩) (by assumption) ?gr21
    case gy21 => ((intro w hSw); (try dsimp only at hSw); go_simp; (try with_reducible rfl))
    (try simp only [Act.put, List.setIfInBounds_toArray, List.set_cons_zero, List.set_cons_succ])
    refine wpAnyH_done (by kernel_rfl) ?_ _
    all_goals
      have HZ := hid (below_step2 HW.out.2.2.2.2 hz)
      have T4 := hid (HW.out.1.later hz)
      have T7 := hid (HW.out.2.2.1.later hz)
      have c40 := T4.out.1
      have c41 := T4.out.2
      clear hz
      go_wp2_with fail
      refine (span_any a2 _ ha2).mono ?_
      rintro r w4 ⟨rfl, hy4⟩
      have HZ4 := hid (below_step2 HZ.out hy4)
      have T44 := hid (T4.out.later hy4)
      have T74 := hid (T7.out.later hy4)
      clear hy4 c40 c41
      have c40 := T44.out.1
      have c41 := T44.out.2
      have c70 := T74.out.1
      have c71 := T74.out.2
      go_wp2_with fail
      refine (spanof_at _ _ lx2 HO2).mono ?_
      rintro r w5 ⟨rfl, rfl⟩
      have HRZ := hid ((HR.out.below HZ4.out).imp (M := (· < w4.heap.size)) fun b hb => Nat.lt_of_lt_of_le hb HZ4.out.size)
      have HD1 := hid (distinct_any A cap L n1 _ HRZ.out (by omega) HL.out hn1.out)
      have hq2 : ((a2 : Int) != 0) = !decide (a2 = 0) := by rw [bne, hq]
      rcases H2.out with ⟨q1, rfl⟩ | ⟨q1, rfl, rfl⟩
      all_goals
        rw [q1] at hq hq2
        simp only [Bool.not_true, Bool.not_false] at hq2
        clear q1
        cases hdd : distS L n1
        · rw [hdd] at HD1
          go_wp2_with fail
          refine HD1.out.mono ?_
          rintro r w6 ⟨rfl, hy6⟩
          go_wp2_with fail
          refine (known6_any _).mono ?_
          rintro r w7 ⟨rfl, hy7⟩
          go_wp2_with fail
          go_ret
          exact ⟨rfl, below_step2 (below_step2 HZ4.out hy6) hy7⟩
        · rw [hdd] at HD1
          go_wp2_with fail
          refine HD1.out.mono ?_
          rintro r w6 ⟨rfl, hy6⟩
          have HZ6 := hid (below_step2 HZ4.out hy6)
          have d70 := (T74.out.later hy6).1
          have d71 := (T74.out.later hy6).2
          clear hy6
          by_cases hnn : n0 > n1
          · go_wp2_with fail
            refine (known6_any _).mono ?_
            rintro r w7 ⟨rfl, hy7⟩
            go_wp2_with fail
            go_ret
            exact ⟨rfl, below_step2 HZ6.out hy7⟩
          · have HD0 := hid (distinct_any A cap L n0 w6 ((HR.out.below HZ6.out).imp (M := (· < w6.heap.size)) fun b hb => Nat.lt_of_lt_of_le hb HZ6.out.size) (by omega) HL.out hn0.out)
            rw [HM.out (by omega) hdd] at HD0
            go_wp2_with fail
            refine HD0.out.mono ?_
            rintro r w7 ⟨rfl, hy7⟩
            have HZ7 := hid (below_step2 HZ6.out hy7)
            clear hy7
            go_wp2_with fail
            refine (known6_any _).mono ?_
            rintro r w8 ⟨rfl, hy8⟩
            go_wp2_with fail
            go_ret
            exact ⟨rfl, below_step2 HZ7.out hy8⟩
  · skip
    (try rw [z2] at hnta)
    rw [z1] at hn00
    (try simp only [Bool.not_true, Bool.not_false] at hn00 hnta)
    clear z1
    have ht4 := ((Two.new w (.int .u64 (a1 : Int)) (.int .u64 (a2 : Int)) 24).later (below_new _ (.cells #[.int .u64 (b1 : Int), .int .u64 (b2 : Int)] 24))).later (below_new _ (.cells #[.int .i64 n0, .int .i64 n1] 38))
    have ht5 := (Two.new (w.alloc (.cells #[.int .u64 (a1 : Int), .int .u64 (a2 : Int)] 24)) (.int .u64 (b1 : Int)) (.int .u64 (b2 : Int)) 24).later (below_new _ (.cells #[.int .i64 n0, .int .i64 n1] 38))
    have ht7 := Two.new ((w.alloc (.cells #[.int .u64 (a1 : Int), .int .u64 (a2 : Int)] 24)).alloc (.cells #[.int .u64 (b1 : Int), .int .u64 (b2 : Int)] 24)) (.int .i64 n0) (.int .i64 n1) 38
    have hv0 := below_step2 (below_step2 (below_new w (.cells #[.int .u64 (a1 : Int), .int .u64 (a2 : Int)] 24)) (below_new _ (.cells #[.int .u64 (b1 : Int), .int .u64 (b2 : Int)] 24))) (below_new _ (.cells #[.int .i64 n0, .int .i64 n1] 38))
    rw [World.size_alloc] at ht5
    rw [World.size_alloc, World.size_alloc] at ht7
    have HV := hid (And.intro ht4 (And.intro ht5 (And.intro ht7 hv0)))
    clear ht4 ht5 ht7 hv0
    go_enter Try.func5, Try.ntmps5
    go_wp2_with fail
    generalize ((w.alloc (.cells #[.int .u64 (a1 : Int), .int .u64 (a2 : Int)] 24)).alloc (.cells #[.int .u64 (b1 : Int), .int .u64 (b2 : Int)] 24)).alloc (.cells #[.int .i64 n0, .int .i64 n1] 38) = v0 at *
    refine (idtext_any a1 a2 _ ha1 ha2).mono ?_
    rintro r w1 ⟨rfl, hy1⟩
    go_wp2_with fail
    refine (of_at _ _ lx1 HO).mono ?_
    rintro r w2 ⟨rfl, hy2⟩
    have hy := (below_step2 (below_step2 hy1 hy2) (below_new w2 (.cells #[.int .u64 (x : Int), .int .u64 (y : Int)] 24)))
    have ht9 := Two.new w2 (.int .u64 (x : Int)) (.int .u64 (y : Int)) 24
    have HW := hid (And.intro (HV.out.1.later hy) (And.intro (HV.out.2.1.later hy) (And.intro (HV.out.2.2.1.later hy) (And.intro ht9 (below_step2 HV.out.2.2.2 hy)))))
    clear hy1 hy2 hy ht9
    go_wp2_with fail
    generalize w2.alloc (.cells #[.int .u64 (x : Int), .int .u64 (y : Int)] 24) = v1 at *
    have hz : Below v1.heap.size v1 v1.drew := (Below.refl _ _).drew
    go_region_held3 (fun w' => w'.cell? ⟨w.heap.size, 0, none⟩ = some (.int .u64 (a1 : Int)) ∧ w'.cell? ⟨w.heap.size, 1, none⟩ = some (.int .u64 (a2 : Int)) ∧ w'.cell? ⟨w.heap.size + 1, 0, none⟩ = some (.int .u64 (b1 : Int)) ∧ w'.cell? ⟨w.heap.size + 1, 1, none⟩ = some (.int .u64 (b2 : Int)) ∧ w'.cell? ⟨w2.heap.size, 0, none⟩ = some (.int .u64 (x : Int)) ∧ w'.cell? ⟨w2.heap.size, 1, none⟩ = some (.int .u64 (y : Int)) ∧ Below v1.heap.size v1 w')
      (first | exact keep_six' HW.out.1 HW.out.2.1 HW.out.2.2.2.1 hz | exact keep_six' HW.out.1 HW.out.2.1 HW.out.2.2.2.1 (hz.trans (Below.mono (by assumption) hz.size))) (first
      | (go_at_call 11
         first
           | ((with_reducible refine (idtext_any a1 a2 _ ha1 ha2).mono ?_); rintro e w3 ⟨rfl, hy⟩)
           | ((with_reducible refine (idtext_any b1 b2 _ hb1 hb2).mono ?_); rintro e w3 ⟨rfl, hy⟩)
         have hz := hz.trans (hy.mono hz.size)))
    all_goals
      have HZ := hid (below_step2 HW.out.2.2.2.2 hz)
      have T4 := hid (HW.out.1.later hz)
      have T7 := hid (HW.out.2.2.1.later hz)
      have c40 := T4.out.1
      have c41 := T4.out.2
      clear hz
      go_wp2_with fail
      refine (span_any a2 _ ha2).mono ?_
      rintro r w4 ⟨rfl, hy4⟩
      have HZ4 := hid (below_step2 HZ.out hy4)
      have T44 := hid (T4.out.later hy4)
      have T74 := hid (T7.out.later hy4)
      clear hy4 c40 c41
      have c40 := T44.out.1
      have c41 := T44.out.2
      have c70 := T74.out.1
      have c71 := T74.out.2
      go_wp2_with fail
      refine (spanof_at _ _ lx2 HO2).mono ?_
      rintro r w5 ⟨rfl, rfl⟩
      have HRZ := hid ((HR.out.below HZ4.out).imp (M := (· < w4.heap.size)) fun b hb => Nat.lt_of_lt_of_le hb HZ4.out.size)
      have HD1 := hid (distinct_any A cap L n1 _ HRZ.out (by omega) HL.out hn1.out)
      have hq2 : ((a2 : Int) != 0) = !decide (a2 = 0) := by rw [bne, hq]
      rcases H2.out with ⟨q1, rfl⟩ | ⟨q1, rfl, rfl⟩
      all_goals
        rw [q1] at hq hq2
        simp only [Bool.not_true, Bool.not_false] at hq2
        clear q1
        cases hdd : distS L n1
        · rw [hdd] at HD1
          go_wp2_with fail
          refine HD1.out.mono ?_
          rintro r w6 ⟨rfl, hy6⟩
          go_wp2_with fail
          refine (known6_any _).mono ?_
          rintro r w7 ⟨rfl, hy7⟩
          go_wp2_with fail
          go_ret
          exact ⟨rfl, below_step2 (below_step2 HZ4.out hy6) hy7⟩
        · rw [hdd] at HD1
          go_wp2_with fail
          refine HD1.out.mono ?_
          rintro r w6 ⟨rfl, hy6⟩
          have HZ6 := hid (below_step2 HZ4.out hy6)
          have d70 := (T74.out.later hy6).1
          have d71 := (T74.out.later hy6).2
          clear hy6
          by_cases hnn : n0 > n1
          · go_wp2_with fail
            refine (known6_any _).mono ?_
            rintro r w7 ⟨rfl, hy7⟩
            go_wp2_with fail
            go_ret
            exact ⟨rfl, below_step2 HZ6.out hy7⟩
          · have HD0 := hid (distinct_any A cap L n0 w6 ((HR.out.below HZ6.out).imp (M := (· < w6.heap.size)) fun b hb => Nat.lt_of_lt_of_le hb HZ6.out.size) (by omega) HL.out hn0.out)
            rw [HM.out (by omega) hdd] at HD0
            go_wp2_with fail
            refine HD0.out.mono ?_
            rintro r w7 ⟨rfl, hy7⟩
            have HZ7 := hid (below_step2 HZ6.out hy7)
            clear hy7
            go_wp2_with fail
            refine (known6_any _).mono ?_
            rintro r w8 ⟨rfl, hy8⟩
            go_wp2_with fail
            go_ret
            exact ⟨rfl, below_step2 HZ7.out hy8⟩
set_option maxRecDepth 100000 in
set_option maxHeartbeats 4000000 in
theorem idsBack_walk (a1 a2 b1 b2 : Nat) (v : Value) (L : List Nat) (n0 n1 : Int) (ha1 : Hid (a1 < 18446744073709551616)) (ha2 : Hid (a2 < 18446744073709551616)) (hb1 : Hid (b1 < 18446744073709551616)) (hb2 : Hid (b2 < 18446744073709551616))
    (hn0 : Hid (-9223372036854775808 ≤ n0 ∧ n0 ≤ 9223372036854775807)) (hn1 : Hid (-9223372036854775808 ≤ n1 ∧ n1 ≤ 9223372036854775807)) (w : World) (hv : NX w (· < w.heap.size) v L) :
    Calls Try.prog 5 #[.agg #[.int .u64 a1, .int .u64 a2], .agg #[.int .u64 b1, .int .u64 b2], v, .agg #[.int .i64 n0, .int .i64 n1]] w fun e w' => e = .returned (.bool true) ∧ Below w.heap.size w w' := by
  obtain ⟨A, cap, rfl, hR, hl, hL⟩ := hv
  by_cases h1 : 60 < L.length
  · clear hR hL hn0 hn1 ha1 ha2 hb1 hb2
    have hd : (60 : Int) < (L.length : Int) := by omega
    go_enter Try.func5, Try.ntmps5
    go_wp2_with fail
    refine (known6_any _).mono ?_
    rintro e w1 ⟨rfl, hb1⟩
    go_wp2_with fail
    go_ret
    exact ⟨rfl, below_step2 (below_step2 (below_step2 (below_new _ _) (below_new _ _)) (below_new _ _)) hb1⟩
  · by_cases h2 : (200 : Int) < n1
    · clear hR hL hn0 hn1 ha1 ha2 hb1 hb2
      have hd : ¬ (60 : Int) < (L.length : Int) := by omega
      go_enter Try.func5, Try.ntmps5
      go_wp2_with fail
      refine (known6_any _).mono ?_
      rintro e w1 ⟨rfl, hb1⟩
      go_wp2_with fail
      go_ret
      exact ⟨rfl, below_step2 (below_step2 (below_step2 (below_new _ _) (below_new _ _)) (below_new _ _)) hb1⟩
    · exact idsBack_few a1 a2 b1 b2 A cap L n0 n1 ha1 ha2 hb1 hb2 hn0 hn1 w (hid hR) (hid hL) (by omega) h2
end Go.Proofs.Ytpmefaoplgjbdaa
