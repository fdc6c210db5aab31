/- What merge.py merges: the walk of FlightAcks. -/
import Derived.Test.YtlolnjgcffjfkaaF25
import Derived.StillTailTactics
import Derived.Test.YtlolnjgcffjfkaaF05
namespace Go.Proofs.Ytlolnjgcffjfkaa
set_option linter.unusedVariables false
set_option linter.unusedSimpArgs false
open Go.RowKit Go.Joins

theorem ons5 (w : World) (g : Nat) (a b c d e : Value) : OnS (fun b => b = g) w (((((w.setCell ⟨g, 0, none⟩ a).setCell ⟨g, 1, none⟩ b).setCell ⟨g, 2, none⟩ c).setCell ⟨g, 3, none⟩ d).setCell ⟨g, 4, none⟩ e) :=
  (((((OnS.refl (fun b => b = g) w).cell g 0 a rfl).cell g 1 b rfl).cell g 2 c rfl).cell g 3 d rfl).cell g 4 e rfl
theorem bel5 (w : World) {B g : Nat} (h : B ≤ g) (a b c d e : Value) : Below B w (((((w.setCell ⟨g, 0, none⟩ a).setCell ⟨g, 1, none⟩ b).setCell ⟨g, 2, none⟩ c).setCell ⟨g, 3, none⟩ d).setCell ⟨g, 4, none⟩ e) :=
  (((((Below.refl B w).setCell (p := ⟨g, 0, none⟩) h a).setCell (p := ⟨g, 1, none⟩) h b).setCell (p := ⟨g, 2, none⟩) h c).setCell (p := ⟨g, 3, none⟩) h d).setCell (p := ⟨g, 4, none⟩) h e
set_option maxRecDepth 100000 in
set_option maxHeartbeats 8000000 in
/-- What is not due stays as it is. -/
theorem flstep1_rest (u : Fs) (gn gt gg ga gr : Nat) (now : Int) (w : World) (hn : w.cell? ⟨gn, 0, none⟩ = some (.int .i64 now)) (hd : flTime now < u.due) :
    Calls Try.prog 39 #[.agg #[.int .i64 u.node, .int .i64 u.seq, .slice u.A u.n u.c, .int .i64 u.tries, .int .i64 u.due], .pointer (some ⟨gn, 0, none⟩), .pointer (some ⟨gt, 0, none⟩), .pointer (some ⟨gg, 0, none⟩), .pointer (some ⟨ga, 0, none⟩), .pointer (some ⟨gr, 0, none⟩)] w fun e w' => e = .returned (.tuple #[.agg #[.int .i64 u.node, .int .i64 u.seq, .slice u.A u.n u.c, .int .i64 u.tries, .int .i64 u.due], .bool true]) ∧ Below w.heap.size w w' := by
  have hb0 := enew w (.cells #[.int .i64 u.node, .int .i64 u.seq, .slice u.A u.n u.c, .int .i64 u.tries, .int .i64 u.due] 71)
  have hb1 := enew (w.alloc (.cells #[.int .i64 u.node, .int .i64 u.seq, .slice u.A u.n u.c, .int .i64 u.tries, .int .i64 u.due] 71)) (.cells #[.int .i64 0, .int .i64 0, .slice none 0 0, .int .i64 0, .int .i64 0] 71)
  have kx := (Bk.new w 71 #[.int .i64 u.node, .int .i64 u.seq, .slice u.A u.n u.c, .int .i64 u.tries, .int .i64 u.due]).up hb1
  have kz := Bk.new (w.alloc (.cells #[.int .i64 u.node, .int .i64 u.seq, .slice u.A u.n u.c, .int .i64 u.tries, .int .i64 u.due] 71)) 71 #[.int .i64 0, .int .i64 0, .slice none 0 0, .int .i64 0, .int .i64 0]
  rw [World.size_alloc] at kz
  have HBb := hid (estep hb0 hb1)
  have KX := hid kx
  have KZ := hid kz
  have hgl : gn < w.heap.size := lt_of_cell hn
  have NN := hid ((HBb.out.cell (p := ⟨gn, 0, none⟩) hgl).trans hn)
  obtain ⟨tn, htn⟩ : ∃ t, flTime now = t := ⟨_, rfl⟩
  have HT := hid (fun w2 => fltime_any now w2 (hid htn))
  have hdd : decide (tn < u.due) = true := decide_eq_true (by rw [← htn]; exact hd)
  clear hb0 hb1 kx kz hn htn hd
  go_enter Try.func39, Try.ntmps39
  go_upto_region 1 with (fail)
  generalize ((w.alloc (.cells #[.int .i64 u.node, .int .i64 u.seq, .slice u.A u.n u.c, .int .i64 u.tries, .int .i64 u.due] 71)).alloc (.cells #[.int .i64 0, .int .i64 0, .slice none 0 0, .int .i64 0, .int .i64 0] 71)) = v0 at *
  have hT : ∀ p : BwS v0, Calls Try.prog 40 #[.int .i64 now] p.w fun e w' => e = .returned (.int .i64 tn) ∧ Below p.w.heap.size p.w w' := fun p => (HT.out p.w).mono fun e w' h => ⟨h.1, by rw [h.2]; exact Below.refl _ _⟩
  have R0 := BwS.cell NN.out
  have x4 : v0.cell? ⟨w.heap.size, 4, none⟩ = some (.int .i64 u.due) := Bk.cell KX.out 4
  have R4 := BwS.cell x4
  clear x4
  refine wp_region_bws (by kernel_rfl) (by kernel_rfl) ?_
  repeat (go_big_quiet_step ((go_at_call 40; exact calls_bws (hT _))))
  refine wpQuiet_nil ?_
  rintro _ ⟨pq, rfl⟩
  have HPQ := hid pq.h
  generalize pq.w = wq at *
  clear R0 R4 hT
  have kx := KX.out.up HPQ.out
  have kz := KZ.out.up HPQ.out
  have x0 := Bk.cell kx 0
  have x1 := Bk.cell kx 1
  have x2 := Bk.cell kx 2
  have x3 := Bk.cell kx 3
  have x4 := Bk.cell kx 4
  have z0 := Bk.cell kz 0
  have z1 := Bk.cell kz 1
  have z2 := Bk.cell kz 2
  have z3 := Bk.cell kz 3
  have z4 := Bk.cell kz 4
  have y0 := Bk.frozen kz 0
  have y1 := Bk.frozen kz 1
  have y2 := Bk.frozen kz 2
  have y3 := Bk.frozen kz 3
  have y4 := Bk.frozen kz 4
  clear kx kz
  go_wp2_with fail
  have K5 := hid (flset5 (KZ.out.up HPQ.out) (.int .i64 u.node) (.int .i64 u.seq) (.slice u.A u.n u.c) (.int .i64 u.tries) (.int .i64 u.due))
  have c0 := Bk.cell K5.out 0
  have c1 := Bk.cell K5.out 1
  have c2 := Bk.cell K5.out 2
  have c3 := Bk.cell K5.out 3
  have c4 := Bk.cell K5.out 4
  (try simp only [Exit.inBlock, Exit.then])
  refine bodyPost_ret (v := .tuple #[.agg #[.int .i64 u.node, .int .i64 u.seq, .slice u.A u.n u.c, .int .i64 u.tries, .int .i64 u.due], .bool true]) (by simp [results, Try.results39, go_sem, c0, c1, c2, c3, c4]) rfl ?_
  exact ⟨rfl, (((((estep HBb.out HPQ.out).setCell (Nat.le_succ _) _).setCell (Nat.le_succ _) _).setCell (Nat.le_succ _) _).setCell (Nat.le_succ _) _).setCell (Nat.le_succ _) _⟩
set_option maxRecDepth 100000 in
set_option maxHeartbeats 8000000 in
/-- What is due, and was sent so often, is given up. -/
theorem flstep1_give (B : Nat) (u : Fs) (gn gt gg ga gr : Nat) (now tries : Int) (va : Value) (Va : List Fs) (vg : Value) (Vg : List Fs) (w : World) (hn : w.cell? ⟨gn, 0, none⟩ = some (.int .i64 now)) (ht : w.cell? ⟨gt, 0, none⟩ = some (.int .i64 tries)) (hJ : StJ B w ga gg va Va vg Vg) (hO : FsO w (· < w.heap.size) u) (hu9 : u.n ≤ 1000) (hBw : B ≤ w.heap.size) (hd : ¬ flTime now < u.due) (htr : tries ≤ u.tries) (hvl : Vg.length ≤ 100000) :
    Calls Try.prog 39 #[.agg #[.int .i64 u.node, .int .i64 u.seq, .slice u.A u.n u.c, .int .i64 u.tries, .int .i64 u.due], .pointer (some ⟨gn, 0, none⟩), .pointer (some ⟨gt, 0, none⟩), .pointer (some ⟨gg, 0, none⟩), .pointer (some ⟨ga, 0, none⟩), .pointer (some ⟨gr, 0, none⟩)] w fun e w' => e = .returned (.tuple #[.agg #[.int .i64 0, .int .i64 0, .slice none 0 0, .int .i64 0, .int .i64 0], .bool false]) ∧ ∃ vg' x, StJ B w' ga gg va Va vg' (Vg ++ [x]) ∧ x.snt = u.snt ∧ OnS (StS B w) w w' := by
  have hb0 := enew w (.cells #[.int .i64 u.node, .int .i64 u.seq, .slice u.A u.n u.c, .int .i64 u.tries, .int .i64 u.due] 71)
  have hb1 := enew (w.alloc (.cells #[.int .i64 u.node, .int .i64 u.seq, .slice u.A u.n u.c, .int .i64 u.tries, .int .i64 u.due] 71)) (.cells #[.int .i64 0, .int .i64 0, .slice none 0 0, .int .i64 0, .int .i64 0] 71)
  have kx := (Bk.new w 71 #[.int .i64 u.node, .int .i64 u.seq, .slice u.A u.n u.c, .int .i64 u.tries, .int .i64 u.due]).up hb1
  have kz := Bk.new (w.alloc (.cells #[.int .i64 u.node, .int .i64 u.seq, .slice u.A u.n u.c, .int .i64 u.tries, .int .i64 u.due] 71)) 71 #[.int .i64 0, .int .i64 0, .slice none 0 0, .int .i64 0, .int .i64 0]
  rw [World.size_alloc] at kz
  have HBb := hid (estep hb0 hb1)
  have KX := hid kx
  have KZ := hid kz
  have hgl : gn < w.heap.size := lt_of_cell hn
  have NN := hid ((HBb.out.cell (p := ⟨gn, 0, none⟩) hgl).trans hn)
  obtain ⟨tn, htn⟩ : ∃ t, flTime now = t := ⟨_, rfl⟩
  have HT := hid (fun w2 => fltime_any now w2 (hid htn))
  have hgt : gt < w.heap.size := lt_of_cell ht
  have TT := hid ((HBb.out.cell (p := ⟨gt, 0, none⟩) hgt).trans ht)
  have HJ := hid hJ
  have HO := hid hO
  have HBw := hid hBw
  have HGW := hid (Bk.lt hJ.kg)
  have hdd : decide (tn < u.due) = false := decide_eq_false (by rw [← htn]; exact hd)
  have hdt : decide (tries ≤ u.tries) = true := decide_eq_true htr
  clear hb0 hb1 kx kz hn htn hd ht hJ hO hBw
  go_enter Try.func39, Try.ntmps39
  go_upto_region 1 with (fail)
  generalize ((w.alloc (.cells #[.int .i64 u.node, .int .i64 u.seq, .slice u.A u.n u.c, .int .i64 u.tries, .int .i64 u.due] 71)).alloc (.cells #[.int .i64 0, .int .i64 0, .slice none 0 0, .int .i64 0, .int .i64 0] 71)) = v0 at *
  have hT : ∀ p : BwS v0, Calls Try.prog 40 #[.int .i64 now] p.w fun e w' => e = .returned (.int .i64 tn) ∧ Below p.w.heap.size p.w w' := fun p => (HT.out p.w).mono fun e w' h => ⟨h.1, by rw [h.2]; exact Below.refl _ _⟩
  have R0 := BwS.cell NN.out
  have x4 : v0.cell? ⟨w.heap.size, 4, none⟩ = some (.int .i64 u.due) := Bk.cell KX.out 4
  have R4 := BwS.cell x4
  clear x4
  refine wp_region_bws (by kernel_rfl) (by kernel_rfl) ?_
  repeat (go_big_quiet_step ((go_at_call 40; exact calls_bws (hT _))))
  refine wpQuiet_nil ?_
  rintro _ ⟨pq, rfl⟩
  have HPQ := hid pq.h
  generalize pq.w = wq at *
  clear R0 R4 hT
  have t3 := (HPQ.out.cell (p := ⟨gt, 0, none⟩) (lt_of_cell TT.out)).trans TT.out
  have x3 : wq.cell? ⟨w.heap.size, 3, none⟩ = some (.int .i64 u.tries) := Bk.cell (KX.out.up HPQ.out) 3
  go_upto_region 4 with (fail)
  clear t3 x3
  have hJq := (HJ.out).up (estep HBb.out HPQ.out)
  have HJq := hid hJq
  have g0 : wq.cell? ⟨gg, 0, none⟩ = some vg := Bk.cell hJq.kg 0
  have HC := hid (fun w2 (hb : Below wq.heap.size wq w2) => flcopied_any u.node u.seq u.A u.n u.c u.L w2 ((HO.out.up ((estep HBb.out HPQ.out).trans (hb.mono (estep HBb.out HPQ.out).size))).gx) (hid HO.out.len) (by omega))
  have hz0 : Below wq.heap.size wq wq.drew := (Below.refl _ _).drew
  have kx := KX.out.up HPQ.out
  have x0 := Bk.cell kx 0
  have x1 := Bk.cell kx 1
  have x2 := Bk.cell kx 2
  have HBq : Hid (B ≤ wq.heap.size) := hid (Nat.le_trans HBw.out (estep HBb.out HPQ.out).size)
  clear hJq kx
  go_region_law (first
    | (refine step_append_gxl rowBt rfl _ _ rfl B vg Vg [(⟨u.node, u.seq, A5, n5, c5, u.L, u.tries, u.due⟩ : Fs)] w5.heap.size 1 (fun b => b = _) rfl hG5 rfl hx5 (by simp) (by simp only [List.length_cons, List.length_nil]; omega) hB5 ?_
       intro q7 c7 w7 m7 hm7 hF hg hl
       have k7 := (HJ5.out.up hbA).kg.grown hG5 (by decide) hg
       have p1 := Bk.cell k7 0
       have p2 := Bk.frozen k7 0)
    | (go_simp
       go_at_call 37
       refine (HC.out _ hz0).mono ?_
       rintro e w5 ⟨A5, n5, c5, rfl, hn5, hv5, hb5⟩
       have hz5 := hz0.trans (hb5.mono hz0.size)
       have HJ5 := hid (HJq.out.up hz5)
       have g5 : w5.cell? ⟨gg, 0, none⟩ = some vg := Bk.cell HJ5.out.kg 0
       have hbA := enew w5 (.cells #[.int .i64 u.node, .int .i64 u.seq, .slice A5 n5 c5] 69)
       have g5A := (hbA.cell (p := ⟨gg, 0, none⟩) (lt_of_cell g5)).trans g5
       have hG5 := (HJ5.out.up hbA).g
       have hx5 := gx_new (M := [(⟨u.node, u.seq, A5, n5, c5, u.L, u.tries, u.due⟩ : Fs)]) encBt_len (Bk.new w5 69 #[.int .i64 u.node, .int .i64 u.seq, .slice A5 n5 c5]) rfl
       have hB5 := Nat.le_trans (Nat.le_trans HBq.out hz5.size) hbA.size))
  all_goals
    have hgv := (HJ5.out.up hbA).give (x := (⟨u.node, u.seq, A5, n5, c5, u.L, u.tries, u.due⟩ : Fs)) hF hg hl ((hv5.more (Nat.le_trans HBq.out hz0.size)).below hbA) hn5
    have kz7 : Bk w7 (w.heap.size + 1) 71 #[.int .i64 0, .int .i64 0, .slice none 0 0, .int .i64 0, .int .i64 0] := ((((KZ.out.up HPQ.out).up hz5).up hbA)).grown hG5 (by decide) hg
    have kx7 : Bk w7 w.heap.size 71 #[.int .i64 u.node, .int .i64 u.seq, .slice u.A u.n u.c, .int .i64 u.tries, .int .i64 u.due] := ((((KX.out.up HPQ.out).up hz5).up hbA)).grown hG5 (by decide) hg
    have hgw : gg < w.heap.size := HGW.out
    have kz8 := flother (g' := gg) (i := 0) kz7 (by omega) (.slice (some ⟨q7, 0, none⟩) m7 c7)
    have kx8 := flother (g' := gg) (i := 0) kx7 (by omega) (.slice (some ⟨q7, 0, none⟩) m7 c7)
    have hs8 := sts_below ((estep HBb.out (estep HPQ.out hz5)).trans (hbA.mono ((estep HBb.out (estep HPQ.out hz5)).size))) hgv.2
    have H8 := hid (And.intro hgv.1 (And.intro hs8 (And.intro kz8 kx8)))
    clear hgv hs8 kz7 kx7 kz8 kx8 hF hg hl hm7 k7 p1 p2 hv5 hn5 hb5 hz5 HJ5 g5 g5A hbA hG5 hx5 hB5 x0 x1 x2 g0 hz0 HC
    generalize w7.setCell ⟨gg, 0, none⟩ (.slice (some ⟨q7, 0, none⟩) m7 c7) = w8 at *
    have z0 := Bk.cell H8.out.2.2.1 0
    have z1 := Bk.cell H8.out.2.2.1 1
    have z2 := Bk.cell H8.out.2.2.1 2
    have z3 := Bk.cell H8.out.2.2.1 3
    have z4 := Bk.cell H8.out.2.2.1 4
    have y0 := Bk.frozen H8.out.2.2.1 0
    have y1 := Bk.frozen H8.out.2.2.1 1
    have y2 := Bk.frozen H8.out.2.2.1 2
    have y3 := Bk.frozen H8.out.2.2.1 3
    have y4 := Bk.frozen H8.out.2.2.1 4
    go_wp2_with fail
    have K5 := hid (flset5 H8.out.2.2.1 (.int .i64 0) (.int .i64 0) (.slice none 0 0) (.int .i64 0) (.int .i64 0))
    have d0 := Bk.cell K5.out 0
    have d1 := Bk.cell K5.out 1
    have d2 := Bk.cell K5.out 2
    have d3 := Bk.cell K5.out 3
    have d4 := Bk.cell K5.out 4
    (try simp only [Exit.inBlock, Exit.then])
    refine bodyPost_ret (v := .tuple #[.agg #[.int .i64 0, .int .i64 0, .slice none 0 0, .int .i64 0, .int .i64 0], .bool false]) (by simp [results, Try.results39, go_sem, Act.put, d0, d1, d2, d3, d4]) rfl ?_
    obtain ⟨f1, f2, f3, f4⟩ := H8.out
    refine ⟨rfl, _, _, f1.ons (S := fun b => b = w.heap.size + 1) (ons5 _ _ _ _ _ _ _) (fun b hb => by rw [show b = w.heap.size + 1 from hb]; exact f3.kd), rfl, sts_tail f2 (bel5 _ (Nat.le_succ _) _ _ _ _ _)⟩
set_option maxRecDepth 100000 in
set_option maxHeartbeats 8000000 in
/-- What is due, and was not sent so often, is sent again. -/
theorem flstep1_again (B : Nat) (u : Fs) (gn gt gg ga gr : Nat) (now tries : Int) (va : Value) (Va : List Fs) (vg : Value) (Vg : List Fs) (w : World) (hn : w.cell? ⟨gn, 0, none⟩ = some (.int .i64 now)) (ht : w.cell? ⟨gt, 0, none⟩ = some (.int .i64 tries)) (hJ : StJ B w ga gg va Va vg Vg) (hO : FsO w (· < w.heap.size) u) (hu9 : u.n ≤ 1000) (hBw : B ≤ w.heap.size) (hd : ¬ flTime now < u.due) (htr : ¬ tries ≤ u.tries) (hvl : Va.length ≤ 100000) (retry : Int) (hr : w.cell? ⟨gr, 0, none⟩ = some (.int .i64 retry)) (hlo : gn < B ∧ gr < B) (hti : -9223372036854775808 ≤ u.tries ∧ tries ≤ 9223372036854775807) {dn : Int} (hdn : Hid (flDue now retry = dn)) :
    Calls Try.prog 39 #[.agg #[.int .i64 u.node, .int .i64 u.seq, .slice u.A u.n u.c, .int .i64 u.tries, .int .i64 u.due], .pointer (some ⟨gn, 0, none⟩), .pointer (some ⟨gt, 0, none⟩), .pointer (some ⟨gg, 0, none⟩), .pointer (some ⟨ga, 0, none⟩), .pointer (some ⟨gr, 0, none⟩)] w fun e w' => e = .returned (.tuple #[.agg #[.int .i64 u.node, .int .i64 u.seq, .slice u.A u.n u.c, .int .i64 (u.tries + 1), .int .i64 dn], .bool true]) ∧ ∃ va' x, StJ B w' ga gg va' (Va ++ [x]) vg Vg ∧ x.snt = u.snt ∧ OnS (StS B w) w w' := by
  have hb0 := enew w (.cells #[.int .i64 u.node, .int .i64 u.seq, .slice u.A u.n u.c, .int .i64 u.tries, .int .i64 u.due] 71)
  have hb1 := enew (w.alloc (.cells #[.int .i64 u.node, .int .i64 u.seq, .slice u.A u.n u.c, .int .i64 u.tries, .int .i64 u.due] 71)) (.cells #[.int .i64 0, .int .i64 0, .slice none 0 0, .int .i64 0, .int .i64 0] 71)
  have kx := (Bk.new w 71 #[.int .i64 u.node, .int .i64 u.seq, .slice u.A u.n u.c, .int .i64 u.tries, .int .i64 u.due]).up hb1
  have kz := Bk.new (w.alloc (.cells #[.int .i64 u.node, .int .i64 u.seq, .slice u.A u.n u.c, .int .i64 u.tries, .int .i64 u.due] 71)) 71 #[.int .i64 0, .int .i64 0, .slice none 0 0, .int .i64 0, .int .i64 0]
  rw [World.size_alloc] at kz
  have HBb := hid (estep hb0 hb1)
  have KX := hid kx
  have KZ := hid kz
  have hgl : gn < w.heap.size := lt_of_cell hn
  have NN := hid ((HBb.out.cell (p := ⟨gn, 0, none⟩) hgl).trans hn)
  obtain ⟨tn, htn⟩ : ∃ t, flTime now = t := ⟨_, rfl⟩
  have HT := hid (fun w2 => fltime_any now w2 (hid htn))
  have hgt : gt < w.heap.size := lt_of_cell ht
  have TT := hid ((HBb.out.cell (p := ⟨gt, 0, none⟩) hgt).trans ht)
  have HJ := hid hJ
  have HO := hid hO
  have HBw := hid hBw
  have HGW := hid (Bk.lt hJ.ka)
  have hdd : decide (tn < u.due) = false := decide_eq_false (by rw [← htn]; exact hd)
  have hdt : decide (tries ≤ u.tries) = false := decide_eq_false htr
  have hadd : IntKind.i64.wrap (u.tries + 1) = u.tries + 1 := IntWalk.i64_in _ (by omega)
  have HCL := hid (And.intro hn hr)
  have HD := hid (fun w2 => fldue_any now retry w2 hdn)
  clear hb0 hb1 kx kz hn htn hd ht hJ hO hBw hr hdn
  go_enter Try.func39, Try.ntmps39
  go_upto_region 1 with (fail)
  generalize ((w.alloc (.cells #[.int .i64 u.node, .int .i64 u.seq, .slice u.A u.n u.c, .int .i64 u.tries, .int .i64 u.due] 71)).alloc (.cells #[.int .i64 0, .int .i64 0, .slice none 0 0, .int .i64 0, .int .i64 0] 71)) = v0 at *
  have hT : ∀ p : BwS v0, Calls Try.prog 40 #[.int .i64 now] p.w fun e w' => e = .returned (.int .i64 tn) ∧ Below p.w.heap.size p.w w' := fun p => (HT.out p.w).mono fun e w' h => ⟨h.1, by rw [h.2]; exact Below.refl _ _⟩
  have R0 := BwS.cell NN.out
  have x4 : v0.cell? ⟨w.heap.size, 4, none⟩ = some (.int .i64 u.due) := Bk.cell KX.out 4
  have R4 := BwS.cell x4
  clear x4
  refine wp_region_bws (by kernel_rfl) (by kernel_rfl) ?_
  repeat (go_big_quiet_step ((go_at_call 40; exact calls_bws (hT _))))
  refine wpQuiet_nil ?_
  rintro _ ⟨pq, rfl⟩
  have HPQ := hid pq.h
  generalize pq.w = wq at *
  clear R0 R4 hT
  have t3 := (HPQ.out.cell (p := ⟨gt, 0, none⟩) (lt_of_cell TT.out)).trans TT.out
  have x3 : wq.cell? ⟨w.heap.size, 3, none⟩ = some (.int .i64 u.tries) := Bk.cell (KX.out.up HPQ.out) 3
  go_upto_region 6 with (fail)
  clear t3 x3
  have hJq := (HJ.out.swap).up (estep HBb.out HPQ.out)
  have HJq := hid hJq
  have g0 : wq.cell? ⟨ga, 0, none⟩ = some va := Bk.cell hJq.kg 0
  have HC := hid (fun w2 (hb : Below wq.heap.size wq w2) => flcopied_any u.node u.seq u.A u.n u.c u.L w2 ((HO.out.up ((estep HBb.out HPQ.out).trans (hb.mono (estep HBb.out HPQ.out).size))).gx) (hid HO.out.len) (by omega))
  have hz0 : Below wq.heap.size wq wq.drew := (Below.refl _ _).drew
  have kx := KX.out.up HPQ.out
  have x0 := Bk.cell kx 0
  have x1 := Bk.cell kx 1
  have x2 := Bk.cell kx 2
  have HBq : Hid (B ≤ wq.heap.size) := hid (Nat.le_trans HBw.out (estep HBb.out HPQ.out).size)
  clear hJq kx
  go_region_law (first
    | (refine step_append_gxl rowBt rfl _ _ rfl B va Va [(⟨u.node, u.seq, A5, n5, c5, u.L, u.tries, u.due⟩ : Fs)] w5.heap.size 1 (fun b => b = _) rfl hG5 rfl hx5 (by simp) (by simp only [List.length_cons, List.length_nil]; omega) hB5 ?_
       intro q7 c7 w7 m7 hm7 hF hg hl
       have k7 := (HJ5.out.up hbA).kg.grown hG5 (by decide) hg
       have p1 := Bk.cell k7 0
       have p2 := Bk.frozen k7 0)
    | (go_simp
       go_at_call 37
       refine (HC.out _ hz0).mono ?_
       rintro e w5 ⟨A5, n5, c5, rfl, hn5, hv5, hb5⟩
       have hz5 := hz0.trans (hb5.mono hz0.size)
       have HJ5 := hid (HJq.out.up hz5)
       have g5 : w5.cell? ⟨ga, 0, none⟩ = some va := Bk.cell HJ5.out.kg 0
       have hbA := enew w5 (.cells #[.int .i64 u.node, .int .i64 u.seq, .slice A5 n5 c5] 69)
       have g5A := (hbA.cell (p := ⟨ga, 0, none⟩) (lt_of_cell g5)).trans g5
       have hG5 := (HJ5.out.up hbA).g
       have hx5 := gx_new (M := [(⟨u.node, u.seq, A5, n5, c5, u.L, u.tries, u.due⟩ : Fs)]) encBt_len (Bk.new w5 69 #[.int .i64 u.node, .int .i64 u.seq, .slice A5 n5 c5]) rfl
       have hB5 := Nat.le_trans (Nat.le_trans HBq.out hz5.size) hbA.size))
  all_goals
    have hgv := (HJ5.out.up hbA).give (x := (⟨u.node, u.seq, A5, n5, c5, u.L, u.tries, u.due⟩ : Fs)) hF hg hl ((hv5.more (Nat.le_trans HBq.out hz0.size)).below hbA) hn5
    have kz7 : Bk w7 (w.heap.size + 1) 71 #[.int .i64 0, .int .i64 0, .slice none 0 0, .int .i64 0, .int .i64 0] := ((((KZ.out.up HPQ.out).up hz5).up hbA)).grown hG5 (by decide) hg
    have kx7 : Bk w7 w.heap.size 71 #[.int .i64 u.node, .int .i64 u.seq, .slice u.A u.n u.c, .int .i64 u.tries, .int .i64 u.due] := ((((KX.out.up HPQ.out).up hz5).up hbA)).grown hG5 (by decide) hg
    have hgw : ga < w.heap.size := HGW.out
    have kz8 := flother (g' := ga) (i := 0) kz7 (by omega) (.slice (some ⟨q7, 0, none⟩) m7 c7)
    have kx8 := flother (g' := ga) (i := 0) kx7 (by omega) (.slice (some ⟨q7, 0, none⟩) m7 c7)
    have hs8 := sts_below ((estep HBb.out (estep HPQ.out hz5)).trans (hbA.mono ((estep HBb.out (estep HPQ.out hz5)).size))) hgv.2
    have H8 := hid (And.intro hgv.1 (And.intro hs8 (And.intro kz8 kx8)))
    clear hgv hs8 kz7 kx7 kz8 kx8 hF hg hl hm7 k7 p1 p2 hv5 hn5 hb5 hz5 HJ5 g5 g5A hbA hG5 hx5 hB5 x0 x1 x2 g0 hz0 HC
    generalize w7.setCell ⟨ga, 0, none⟩ (.slice (some ⟨q7, 0, none⟩) m7 c7) = w8 at *
    have hB8 : Below B w w8 := OnS.to_below (Below.refl _ _) H8.out.2.1 (fun k _ hk => hk.1) HBw.out
    have n8 := (hB8.cell (p := ⟨gn, 0, none⟩) hlo.1).trans HCL.out.1
    have r8 := (hB8.cell (p := ⟨gr, 0, none⟩) hlo.2).trans HCL.out.2
    have hne1 : ¬ gn = w.heap.size + 1 := by have := HBw.out; omega
    have hne2 : ¬ w.heap.size + 1 = gn := by have := HBw.out; omega
    have hne3 : ¬ gr = w.heap.size + 1 := by have := HBw.out; omega
    have hne4 : ¬ w.heap.size + 1 = gr := by have := HBw.out; omega
    have x0 := Bk.cell (Bk.drew H8.out.2.2.2) 0
    have x1 := Bk.cell (Bk.drew H8.out.2.2.2) 1
    have x2 := Bk.cell (Bk.drew H8.out.2.2.2) 2
    have x3 := Bk.cell (Bk.drew H8.out.2.2.2) 3
    have x4 := Bk.cell (Bk.drew H8.out.2.2.2) 4
    have n9 : w8.drew.cell? ⟨gn, 0, none⟩ = some (.int .i64 now) := n8
    have r9 : w8.drew.cell? ⟨gr, 0, none⟩ = some (.int .i64 retry) := r8
    clear hB8 n8 r8 hne1 hne2 hne3 hne4
    go_upto_region 7 with (fail)
    refine wp_region_still_tail 9 (by kernel_rfl) (by kernel_rfl) ?_
    simp only [List.take_succ_cons, List.take_zero, List.drop_succ_cons, List.drop_zero]
    repeat still_step
    still_call ((HD.out _).mono (by rintro e w3 ⟨rfl, rfl⟩; exact ⟨rfl, rfl⟩))
    repeat still_step
    refine wpStill_nil ?_
    change wpList _ _ _ _ _ w8.drew
    have K9 := hid (Bk.drew H8.out.2.2.1)
    have D9 := hid (show Below w8.heap.size w8 w8.drew from (Below.refl _ _).drew)
    clear x0 x1 x2 x3 x4 n9 r9
    generalize w8.drew = w9 at *
    have z0 := Bk.cell K9.out 0
    have z1 := Bk.cell K9.out 1
    have z2 := Bk.cell K9.out 2
    have z3 := Bk.cell K9.out 3
    have z4 := Bk.cell K9.out 4
    have y0 := Bk.frozen K9.out 0
    have y1 := Bk.frozen K9.out 1
    have y2 := Bk.frozen K9.out 2
    have y3 := Bk.frozen K9.out 3
    have y4 := Bk.frozen K9.out 4
    go_wp2_with fail
    have K5 := hid (flset5 K9.out (.int .i64 u.node) (.int .i64 u.seq) (.slice u.A u.n u.c) (.int .i64 (u.tries + 1)) (.int .i64 dn))
    have d0 := Bk.cell K5.out 0
    have d1 := Bk.cell K5.out 1
    have d2 := Bk.cell K5.out 2
    have d3 := Bk.cell K5.out 3
    have d4 := Bk.cell K5.out 4
    (try simp only [Exit.inBlock, Exit.then])
    refine bodyPost_ret (v := .tuple #[.agg #[.int .i64 u.node, .int .i64 u.seq, .slice u.A u.n u.c, .int .i64 (u.tries + 1), .int .i64 dn], .bool true]) (by simp [results, Try.results39, go_sem, Act.put, d0, d1, d2, d3, d4]) rfl ?_
    obtain ⟨f1, f2, f3, f4⟩ := H8.out
    refine ⟨rfl, _, _, (f1.ons (S := fun b => b = w.heap.size + 1) (OnS.trans (OnS.below D9.out) (ons5 _ _ _ _ _ _ _)) (fun b hb => by rw [show b = w.heap.size + 1 from hb]; exact f3.kd)).swap, rfl, sts_tail f2 ((D9.out.mono f2.size).trans (bel5 _ (Nat.le_succ _) _ _ _ _ _))⟩
end Go.Proofs.Ytlolnjgcffjfkaa
namespace Go.Proofs.Ytlolnjgcffjfkaa
set_option linter.unusedVariables false
set_option linter.unusedSimpArgs false
open Go.RowKit Go.Joins

/-- What becomes of a batch: what it is then, if it rests. -/
def stQ (now retry tries : Int) (u : Fs) : Option Fs := if flTime now < u.due then some u else if tries ≤ u.tries then none else some { u with tries := u.tries + 1, due := flDue now retry }
theorem stQ_rest (now retry tries : Int) : ∀ (U : List Fs) (r : List Snt × List Snt × List Snt), ((U.map Fs.snt).foldl (flStep1 now retry tries) r).1 = r.1 ++ (U.filterMap (stQ now retry tries)).map Fs.snt
  | [], r => by simp
  | u :: U, r => by
    rw [List.map_cons, List.foldl_cons, stQ_rest now retry tries U, List.filterMap_cons]
    unfold flStep1 stQ
    by_cases h1 : flTime now < u.due
    · rw [if_pos (show flTime now < u.snt.due from h1), if_pos h1]
      simp
    · rw [if_neg (show ¬ flTime now < u.snt.due from h1), if_neg h1]
      by_cases h2 : tries ≤ u.tries
      · rw [if_pos (show tries ≤ u.snt.tries from h2), if_pos h2]
      · rw [if_neg (show ¬ tries ≤ u.snt.tries from h2), if_neg h2]
        simp [Fs.snt]
theorem flStep_few (now retry tries : Int) : ∀ (l : List Snt) (r : List Snt × List Snt × List Snt), (l.foldl (flStep1 now retry tries) r).2.1.length ≤ r.2.1.length + l.length ∧ (l.foldl (flStep1 now retry tries) r).2.2.length ≤ r.2.2.length + l.length
  | [], r => ⟨Nat.le_refl _, Nat.le_refl _⟩
  | x :: l, r => by
    rw [List.foldl_cons, List.length_cons]
    have h := flStep_few now retry tries l (flStep1 now retry tries r x)
    have h2 : (flStep1 now retry tries r x).2.1.length ≤ r.2.1.length + 1 ∧ (flStep1 now retry tries r x).2.2.length ≤ r.2.2.length + 1 := by
      unfold flStep1
      split
      · simp
      · split <;> simp
    omega
/-- What Step's function knows behind the first i batches. -/
def StK (B ga gg : Nat) (U : List Fs) (now retry tries : Int) (i : Nat) (w : World) : Prop :=
  ∃ va Va vg Vg, StJ B w ga gg va Va vg Vg ∧ Va.map Fs.snt = (flStep ((U.take i).map Fs.snt) now retry tries).2.1 ∧ Vg.map Fs.snt = (flStep ((U.take i).map Fs.snt) now retry tries).2.2
theorem flstep_fn (B : Nat) (w : World) (U : List Fs) (n gn gt gg ga gr : Nat) (now retry tries : Int) (hn : w.cell? ⟨gn, 0, none⟩ = some (.int .i64 now)) (hr : w.cell? ⟨gr, 0, none⟩ = some (.int .i64 retry)) (ht : w.cell? ⟨gt, 0, none⟩ = some (.int .i64 tries)) (hlo : gn < B ∧ gr < B ∧ gt < B) (hB : B ≤ w.heap.size) (hS : FP w (· < B) U) (hF : FlF U n) (hti : tries ≤ 9223372036854775807 ∧ ∀ u ∈ U, -9223372036854775808 ≤ u.tries) :
    RsF B w 39 #[.pointer (some ⟨gn, 0, none⟩), .pointer (some ⟨gt, 0, none⟩), .pointer (some ⟨gg, 0, none⟩), .pointer (some ⟨ga, 0, none⟩), .pointer (some ⟨gr, 0, none⟩)] U (stQ now retry tries) (StK B ga gg U now retry tries) where
  eg := fun args w => by first | rfl | (unfold callFunc; rfl) | simp [callFunc]
  run := fun i u w1 hu hb hj => by
    obtain ⟨va, Va, vg, Vg, hJ, ha, hg⟩ := hj
    have hmem := List.mem_of_getElem? hu
    have hn1 := (hb.cell (p := ⟨gn, 0, none⟩) hlo.1).trans hn
    have hr1 := (hb.cell (p := ⟨gr, 0, none⟩) hlo.2.1).trans hr
    have ht1 := (hb.cell (p := ⟨gt, 0, none⟩) hlo.2.2).trans ht
    have hB1 : B ≤ w1.heap.size := Nat.le_trans hB hb.size
    have hO : FsO w1 (· < w1.heap.size) u := ((hS u hmem).same fun b hb' => hb.block b hb').imp fun b hb' => Nat.lt_of_lt_of_le (show b < B from hb') hB1
    have hsn : flStep ((U.take (i + 1)).map Fs.snt) now retry tries = flStep1 now retry tries (flStep ((U.take i).map Fs.snt) now retry tries) u.snt := by
      obtain ⟨hi, rfl⟩ := List.getElem?_eq_some_iff.1 hu
      rw [List.take_succ_eq_append_getElem hi, List.map_append]
      exact flStep_snoc _ _ _ _ _
    have hl := flStep_few now retry tries ((U.take i).map Fs.snt) ([], [], [])
    have hlen : ((U.take i).map Fs.snt).length ≤ 1000 := by
      rw [List.length_map]
      have := List.length_take_le' i U
      have := hF.len
      have := hF.few
      omega
    have hla : Va.length ≤ 100000 := by
      have h1 := congrArg List.length ha
      rw [List.length_map] at h1
      have h2 := hl.1
      unfold flStep at h1
      simp only [List.length_nil] at h2
      omega
    have hlg : Vg.length ≤ 100000 := by
      have h1 := congrArg List.length hg
      rw [List.length_map] at h1
      have h2 := hl.2
      unfold flStep at h1
      simp only [List.length_nil] at h2
      omega
    by_cases h1 : flTime now < u.due
    · refine (flstep1_rest u gn gt gg ga gr now w1 hn1 h1).mono ?_
      rintro e w2 ⟨rfl, hb2⟩
      refine ⟨⟨u, true, rfl, by unfold stQ; rw [if_pos h1]; rfl⟩, ⟨va, Va, vg, Vg, hJ.up hb2, ?_, ?_⟩, OnS.below hb2⟩
      · rw [hsn, ha]; unfold flStep1; rw [if_pos (show flTime now < u.snt.due from h1)]
      · rw [hsn, hg]; unfold flStep1; rw [if_pos (show flTime now < u.snt.due from h1)]
    · by_cases h2 : tries ≤ u.tries
      · refine (flstep1_give B u gn gt gg ga gr now tries va Va vg Vg w1 hn1 ht1 hJ hO (hF.small u hmem).2 hB1 h1 h2 hlg).mono ?_
        rintro e w2 ⟨rfl, vg', x, hJ2, hx, ho⟩
        refine ⟨⟨⟨0, 0, none, 0, 0, [], 0, 0⟩, false, rfl, by unfold stQ; rw [if_neg h1, if_pos h2]; rfl⟩, ⟨va, Va, vg', _, hJ2, ?_, ?_⟩, ho⟩
        · rw [hsn, ha]; unfold flStep1; rw [if_neg (show ¬ flTime now < u.snt.due from h1), if_pos (show tries ≤ u.snt.tries from h2)]
        · rw [hsn, List.map_append, hg]; unfold flStep1; rw [if_neg (show ¬ flTime now < u.snt.due from h1), if_pos (show tries ≤ u.snt.tries from h2)]
          simp [hx]
      · refine (flstep1_again B u gn gt gg ga gr now tries va Va vg Vg w1 hn1 ht1 hJ hO (hF.small u hmem).2 hB1 h1 h2 hla retry hr1 ⟨hlo.1, hlo.2.1⟩ ⟨hti.2 u hmem, hti.1⟩ (hid rfl)).mono ?_
        rintro e w2 ⟨rfl, va', x, hJ2, hx, ho⟩
        refine ⟨⟨{ u with tries := u.tries + 1, due := flDue now retry }, true, rfl, by unfold stQ; rw [if_neg h1, if_neg h2]; rfl⟩, ⟨va', _, vg, Vg, hJ2, ?_, ?_⟩, ho⟩
        · rw [hsn, List.map_append, ha]; unfold flStep1; rw [if_neg (show ¬ flTime now < u.snt.due from h1), if_neg (show ¬ tries ≤ u.snt.tries from h2)]
          simp [hx]
        · rw [hsn, hg]; unfold flStep1; rw [if_neg (show ¬ flTime now < u.snt.due from h1), if_neg (show ¬ tries ≤ u.snt.tries from h2)]
  keep := fun i w1 w2 hj ho => by
    obtain ⟨va, Va, vg, Vg, hJ, ha, hg⟩ := hj
    exact ⟨va, Va, vg, Vg, hJ.ons ho fun b hb => hb.2, ha, hg⟩
  same := fun u r h => by
    unfold stQ at h
    split at h
    · injection h with h; subst h; exact ⟨rfl, rfl, rfl, rfl⟩
    · split at h
      · cases h
      · injection h with h; subst h; exact ⟨rfl, rfl, rfl, rfl⟩
/-- A list of batches, as a value that can be read. -/
def FbV (w : World) (v : Value) (l : List Snt) : Prop := ∃ A n c U, v = .slice A n c ∧ FbO w A n c U ∧ U.map Fs.snt = l
theorem FbV.up {w w' : World} {v : Value} {l : List Snt} (h : FbV w v l) (hb : Below w.heap.size w w') : FbV w' v l := by
  obtain ⟨A, n, c, U, e, ho, hl⟩ := h
  exact ⟨A, n, c, U, e, ho.up hb, hl⟩
theorem fbv_of {w : World} {B : Nat} {v : Value} {V : List Fs} (hg : GB encBt 3 69 w B v V) (hk : FK w B V) : FbV w v (V.map Fs.snt) := by
  obtain ⟨A', c', rfl, h1, h2, h3, h4⟩ := GB.reads encBt_len hg
  refine ⟨A', _, c', V, rfl, ⟨h1.imp fun b hb => hb.2, fun u hu => ?_, rfl⟩, rfl⟩
  obtain ⟨hu1, hu2⟩ := hk u hu
  obtain ⟨A', c', e, k1, k2, k3, k4⟩ := GB.reads encSp_len hu1
  simp only [Value.slice.injEq] at e
  obtain ⟨e1, e2, e3⟩ := e
  exact ⟨e1 ▸ k1.imp fun b hb => hb.2, hu2, fun h => by rw [e3]; exact k2 (e1 ▸ h), by rw [e2, e3]; exact k3, by rw [e3]; exact k4⟩
end Go.Proofs.Ytlolnjgcffjfkaa
namespace Go.Proofs.Ytlolnjgcffjfkaa
set_option linter.unusedVariables false
set_option linter.unusedSimpArgs false
open Go.RowKit Go.Joins

/-- What Step answers. -/
def FlP (w : World) (l : List Snt) (now retry tries : Int) (e : Ending) (w' : World) : Prop := ∃ (A : Option Addr) (n c : Nat) (A2 : Option Addr) (n2 c2 : Nat) (A3 : Option Addr) (n3 c3 : Nat), e = .returned (.tuple #[.slice A n c, .slice A2 n2 c2, .slice A3 n3 c3]) ∧ FlV w' (.slice A n c) (flStep l now retry tries).1 ∧ FbV w' (.slice A2 n2 c2) (flStep l now retry tries).2.1 ∧ FbV w' (.slice A3 n3 c3) (flStep l now retry tries).2.2 ∧ Below w.heap.size w w'
set_option maxRecDepth 100000 in
set_option maxHeartbeats 8000000 in
theorem flstep_any (v : Value) (l : List Snt) (now retry tries : Int) (w : World) (hv : FlV w v l) (hG : FlG l) (hti : tries ≤ 9223372036854775807 ∧ ∀ x ∈ l, -9223372036854775808 ≤ x.tries) :
    Calls Try.prog 28 #[v, .int .i64 now, .int .i64 retry, .int .i64 tries] w fun e w' => FlP w l now retry tries e w' := by
  obtain ⟨A, n, c, U, rfl, hO, rfl⟩ := hv
  have hb1 := enew w (.cells #[.int .i64 now] 3)
  have hb2 := enew (w.alloc (.cells #[.int .i64 now] 3)) (.cells #[.int .i64 retry] 3)
  have hb3 := enew ((w.alloc (.cells #[.int .i64 now] 3)).alloc (.cells #[.int .i64 retry] 3)) (.cells #[.int .i64 tries] 3)
  have hb4 := enew (((w.alloc (.cells #[.int .i64 now] 3)).alloc (.cells #[.int .i64 retry] 3)).alloc (.cells #[.int .i64 tries] 3)) (.cells #[.slice none 0 0] 73)
  have hb5 := enew ((((w.alloc (.cells #[.int .i64 now] 3)).alloc (.cells #[.int .i64 retry] 3)).alloc (.cells #[.int .i64 tries] 3)).alloc (.cells #[.slice none 0 0] 73)) (.cells #[.slice none 0 0] 73)
  have k1 := ((((Bk.new w 3 #[.int .i64 now]).up hb2).up hb3).up hb4).up hb5
  have k2 := (((Bk.new (w.alloc (.cells #[.int .i64 now] 3)) 3 #[.int .i64 retry]).up hb3).up hb4).up hb5
  have k3 := ((Bk.new ((w.alloc (.cells #[.int .i64 now] 3)).alloc (.cells #[.int .i64 retry] 3)) 3 #[.int .i64 tries]).up hb4).up hb5
  have k4 := (Bk.new (((w.alloc (.cells #[.int .i64 now] 3)).alloc (.cells #[.int .i64 retry] 3)).alloc (.cells #[.int .i64 tries] 3)) 73 #[.slice none 0 0]).up hb5
  have k5 := Bk.new ((((w.alloc (.cells #[.int .i64 now] 3)).alloc (.cells #[.int .i64 retry] 3)).alloc (.cells #[.int .i64 tries] 3)).alloc (.cells #[.slice none 0 0] 73)) 73 #[.slice none 0 0]
  simp only [World.size_alloc] at k2 k3 k4 k5
  have hall := estep (estep (estep (estep hb1 hb2) hb3) hb4) hb5
  have hsz : w.heap.size + 3 ≤ (((((w.alloc (.cells #[.int .i64 now] 3)).alloc (.cells #[.int .i64 retry] 3)).alloc (.cells #[.int .i64 tries] 3)).alloc (.cells #[.slice none 0 0] 73)).alloc (.cells #[.slice none 0 0] 73)).heap.size := by simp
  have hF := hG.flf hO
  have hU5 := (hO.up hall)
  have hlt : ∀ b, b < w.heap.size → b < w.heap.size + 3 := fun b hb => by omega
  have hgxB : GX encFs 5 (((((w.alloc (.cells #[.int .i64 now] 3)).alloc (.cells #[.int .i64 retry] 3)).alloc (.cells #[.int .i64 tries] 3)).alloc (.cells #[.slice none 0 0] 73)).alloc (.cells #[.slice none 0 0] 73)) (· < w.heap.size + 3) A U := (hO.gx.same fun b hb => hall.block b hb).imp fun b hb => hlt b hb
  have hfpB : FP (((((w.alloc (.cells #[.int .i64 now] 3)).alloc (.cells #[.int .i64 retry] 3)).alloc (.cells #[.int .i64 tries] 3)).alloc (.cells #[.slice none 0 0] 73)).alloc (.cells #[.slice none 0 0] 73)) (· < w.heap.size + 3) U := (hO.fp.same fun b hb => hall.block b hb).imp fun b hb => hlt b hb
  have hJ0 : StK (w.heap.size + 3) (w.heap.size + 3) (w.heap.size + 4) U now retry tries 0 (((((w.alloc (.cells #[.int .i64 now] 3)).alloc (.cells #[.int .i64 retry] 3)).alloc (.cells #[.int .i64 tries] 3)).alloc (.cells #[.slice none 0 0] 73)).alloc (.cells #[.slice none 0 0] 73)) := ⟨.slice none 0 0, [], .slice none 0 0, [], ⟨k4, k5, GB.nil _ _, GB.nil _ _, fun u hu => (by cases hu), fun u hu => (by cases hu), fun b hb => (by cases hb), by omega⟩, rfl, rfl⟩
  have hfn := flstep_fn (w.heap.size + 3) (((((w.alloc (.cells #[.int .i64 now] 3)).alloc (.cells #[.int .i64 retry] 3)).alloc (.cells #[.int .i64 tries] 3)).alloc (.cells #[.slice none 0 0] 73)).alloc (.cells #[.slice none 0 0] 73)) U n w.heap.size (w.heap.size + 2) (w.heap.size + 4) (w.heap.size + 3) (w.heap.size + 1) now retry tries (Bk.cell k1 0) (Bk.cell k2 0) (Bk.cell k3 0) (by omega) hsz hfpB hF ⟨hti.1, fun u hu => hti.2 u.snt (List.mem_map.2 ⟨u, hu, rfl⟩)⟩
  have HRS := hid (resting_any (w.heap.size + 3) A n c U _ _ _ _ (((((w.alloc (.cells #[.int .i64 now] 3)).alloc (.cells #[.int .i64 retry] 3)).alloc (.cells #[.int .i64 tries] 3)).alloc (.cells #[.slice none 0 0] 73)).alloc (.cells #[.slice none 0 0] 73)) hfn hgxB hfpB hF hsz hJ0)
  have HAL := hid hall
  have HFL := hid hF.len
  clear hb1 hb2 hb3 hb4 hb5 k1 k2 k3 k4 k5 hall hsz hF hU5 hlt hgxB hfpB hJ0 hfn hO hG hti
  go_enter Try.func28, Try.ntmps28
  go_upto_region 1 with (fail)
  generalize (((((w.alloc (.cells #[.int .i64 now] 3)).alloc (.cells #[.int .i64 retry] 3)).alloc (.cells #[.int .i64 tries] 3)).alloc (.cells #[.slice none 0 0] 73)).alloc (.cells #[.slice none 0 0] 73)) = v0 at *
  go_wp2_with fail
  refine HRS.out.mono ?_
  intro e w1 hr
  obtain ⟨A1, n1, c1, V, rfl, hg1, hk1, hm1, hj1, hb1⟩ := hr.slice
  obtain ⟨va, Va, vg, Vg, hJ, ha, hg⟩ := hj1
  rw [List.take_length] at ha hg
  obtain ⟨A2, c2, rfl, -⟩ := GB.reads encBt_len hJ.a
  obtain ⟨A3, c3, rfl, -⟩ := GB.reads encBt_len hJ.g
  obtain ⟨n2, hn2⟩ : ∃ n, Va.length = n := ⟨_, rfl⟩
  obtain ⟨n3, hn3⟩ : ∃ n, Vg.length = n := ⟨_, rfl⟩
  rw [hn2, hn3] at hJ
  have hrest := stQ_rest now retry tries U ([], [], [])
  rw [List.nil_append] at hrest
  have H1 := hid (And.intro hg1 (And.intro hk1 (And.intro (hm1.trans hrest.symm) (And.intro hb1 (And.intro ha hg)))))
  have HJ := hid hJ
  have p0 := Bk.cell hJ.ka 0
  have p1 := Bk.frozen hJ.ka 0
  have q0 := Bk.cell hJ.kg 0
  have q1 := Bk.frozen hJ.kg 0
  clear hr hg1 hk1 hm1 hb1 hJ ha hg hrest HRS hn2 hn3
  go_wp2_with fail
  go_region_law (fail)
  all_goals
    have ho : OnS (fun b => b = w.heap.size + 1 + 1 + 1 ∨ b = w.heap.size + 1 + 1 + 1 + 1) w1 (((w1.setCell ⟨w.heap.size + 1 + 1 + 1, 0, none⟩ (.slice A2 n2 c2)).setCell ⟨w.heap.size + 1 + 1 + 1 + 1, 0, none⟩ (.slice A3 n3 c3)).drew) := (((OnS.refl _ w1).cell _ 0 _ (Or.inl rfl)).cell _ 0 _ (Or.inr rfl)).drew
    have ka8 : Bk (((w1.setCell ⟨w.heap.size + 1 + 1 + 1, 0, none⟩ (.slice A2 n2 c2)).setCell ⟨w.heap.size + 1 + 1 + 1 + 1, 0, none⟩ (.slice A3 n3 c3)).drew) (w.heap.size + 1 + 1 + 1) 73 #[.slice A2 n2 c2] := (flother (g' := w.heap.size + 1 + 1 + 1 + 1) (i := 0) (Bk.set_ HJ.out.ka 0 (.slice A2 n2 c2)) (by omega) (.slice A3 n3 c3)).drew
    have kg8 : Bk (((w1.setCell ⟨w.heap.size + 1 + 1 + 1, 0, none⟩ (.slice A2 n2 c2)).setCell ⟨w.heap.size + 1 + 1 + 1 + 1, 0, none⟩ (.slice A3 n3 c3)).drew) (w.heap.size + 1 + 1 + 1 + 1) 73 #[.slice A3 n3 c3] := (Bk.set_ (flother (g' := w.heap.size + 1 + 1 + 1) (i := 0) HJ.out.kg (by omega) (.slice A2 n2 c2)) 0 (.slice A3 n3 c3)).drew
    have H8 := hid ho
    have d0 := Bk.cell ka8 0
    have d1 := Bk.cell kg8 0
    clear ho ka8 kg8 p0 p1 q0 q1
    generalize ((w1.setCell ⟨w.heap.size + 1 + 1 + 1, 0, none⟩ (.slice A2 n2 c2)).setCell ⟨w.heap.size + 1 + 1 + 1 + 1, 0, none⟩ (.slice A3 n3 c3)).drew = w8 at *
    go_wp2_with fail
    (try simp only [Exit.inBlock, Exit.then])
    refine bodyPost_ret (v := .tuple #[.slice A1 n1 c1, .slice A2 n2 c2, .slice A3 n3 c3]) (by simp [results, Try.results28, go_sem, d0, d1]) rfl ?_
    obtain ⟨f1, f2, f3, f4, f5, f6⟩ := H1.out
    have hk : ∀ b, (b = w.heap.size + 1 + 1 + 1 ∨ b = w.heap.size + 1 + 1 + 1 + 1) → Kd w1 b 73 := fun b hb => by
      rcases hb with rfl | rfl
      · exact HJ.out.ka.kd
      · exact HJ.out.kg.kd
    have hno : ∀ b e, Kd w1 b e → 73 ≠ e → ¬ (b = w.heap.size + 1 + 1 + 1 ∨ b = w.heap.size + 1 + 1 + 1 + 1) := fun b e h1 h2 h3 => Kd.ne (hk b h3) h2 h1
    have hs : ∀ b, Kd w1 b 34 → ¬ (b = w.heap.size + 1 + 1 + 1 ∨ b = w.heap.size + 1 + 1 + 1 + 1) := fun b hb => hno b _ hb (by decide)
    refine ⟨A1, n1, c1, A2, n2, c2, A3, n3, c3, rfl, ⟨A1, n1, c1, V, rfl, flo_of (flgb2 f1 H8.out fun b hb => hno b _ (f1.kind b hb) (by decide)) (f2.onS H8.out hs), f3⟩, ?_, ?_, OnS.to_below (HAL.out.trans (f4.mono (by omega))) H8.out (fun k _ hk => by omega) (Nat.le_trans HAL.out.size f4.size)⟩
    · have := fbv_of (flgb2 HJ.out.a H8.out fun b hb => hno b _ (HJ.out.a.kind b hb) (by decide)) (HJ.out.fa.onS H8.out hs)
      rw [f5] at this
      exact this
    · have := fbv_of (flgb2 HJ.out.g H8.out fun b hb => hno b _ (HJ.out.g.kind b hb) (by decide)) (HJ.out.fg.onS H8.out hs)
      rw [f6] at this
      exact this
end Go.Proofs.Ytlolnjgcffjfkaa
namespace Go.Proofs.Ytlolnjgcffjfkaa
set_option linter.unusedVariables false
set_option linter.unusedSimpArgs false
open Go.RowKit Go.Joins

def sp3 : List Sp := [sp0, sp0, sp0]
theorem sp3_cells : madeCells (Value.agg #[.int .u64 0, .int .u64 0, .int .u64 0, .int .u64 0, .string ByteArray.empty, .int .i64 0, .int .i64 0, .int .i64 0, .bool false, .int .i64 0, .int .i64 0]).cells 33 = (gvals encSp sp3).toArray := by
  first
    | rfl
    | kernel_rfl
theorem sp3_make (w : World) : (Instr.makeSlice 26 (.int .i64 3) (.int .i64 3)).run Try.prog w = .ok (.slice (some ⟨w.heap.size, 0, none⟩) 3 3) (w.alloc (.cells (gvals encSp sp3).toArray 34)) := by
  obtain ⟨i, hi, hz, hs, hb⟩ := info_parts rowSp.inf
  have := run_make (P := Try.prog) w 26 34 i _ Try.underlying26 hi hz .i64 .i64 3 3 (by omega) (by omega) (by rw [hb]; omega) (by omega)
  rw [this, hs, show Int.toNat 3 * 11 = 33 from rfl, sp3_cells]
  rfl
theorem flspans_v (v : Value) (l : List Snt) (w : World) (hv : FlV w v l) (hG : FlG l) {k : Nat} (H : Hid (flSpans l = k)) :
    Calls Try.prog 22 #[v] w fun e w' => e = .returned (.int .i64 (k : Int)) ∧ Below w.heap.size w w' := by
  obtain ⟨A, n, c, U, rfl, hO, rfl⟩ := hv
  exact flspans_any A n c U w hO.gx (hG.flf hO) H
/-- Lists of one. -/
theorem flv_lit {w : World} {g : Nat} {nd sq : Int} {A : Option Addr} {n c : Nat} {tr du : Int} {L : List Sp} (h : Bk w g 71 #[.int .i64 nd, .int .i64 sq, .slice A n c, .int .i64 tr, .int .i64 du]) (hA : GX encSp 11 w (· < w.heap.size) A L) (hn : L.length = n) (hc : A = none → c = 0) (h1 : n ≤ c) (h2 : c ≤ maxLen) :
    FlV w (.slice (some ⟨g, 0, none⟩) 1 1) [⟨nd, sq, L, tr, du⟩] :=
  ⟨_, 1, 1, [(⟨nd, sq, A, n, c, L, tr, du⟩ : Fs)], rfl, ⟨(gx_new (M := [(⟨nd, sq, A, n, c, L, tr, du⟩ : Fs)]) encFs_len h rfl).imp fun b hb => by
      have e : b = g := hb
      subst e
      exact h.lt, fun u hu => by
      obtain rfl := List.mem_singleton.1 hu
      exact ⟨hA, hn, hc, h1, h2⟩, rfl, (fun h => by cases h), Nat.le_refl _, by unfold maxLen; omega⟩, rfl⟩
theorem fbv_lit {w : World} {g : Nat} {nd sq : Int} {A : Option Addr} {n c : Nat} {tr du : Int} {L : List Sp} (h : Bk w g 69 #[.int .i64 nd, .int .i64 sq, .slice A n c]) (hA : GX encSp 11 w (· < w.heap.size) A L) (hn : L.length = n) (hc : A = none → c = 0) (h1 : n ≤ c) (h2 : c ≤ maxLen) :
    FbV w (.slice (some ⟨g, 0, none⟩) 1 1) [⟨nd, sq, L, tr, du⟩] :=
  ⟨_, 1, 1, [(⟨nd, sq, A, n, c, L, tr, du⟩ : Fs)], rfl, ⟨(gx_new (M := [(⟨nd, sq, A, n, c, L, tr, du⟩ : Fs)]) encBt_len h rfl).imp fun b hb => by
      have e : b = g := hb
      subst e
      exact h.lt, fun u hu => by
      obtain rfl := List.mem_singleton.1 hu
      exact ⟨hA, hn, hc, h1, h2⟩, rfl⟩, rfl⟩
theorem fbsame_any (u v : Value) (l : List Snt) (w : World) (hu0 : FbV w u l) (hv0 : FbV w v l) (hG : FlG l) :
    Calls Try.prog 29 #[u, v] w fun e w' => e = .returned (.bool true) ∧ Below w.heap.size w w' := by
  obtain ⟨A, n, ca, U, rfl, hU, hl⟩ := hu0
  obtain ⟨B, m, cb, V, rfl, hV, hl2⟩ := hv0
  have hmn : m = n := by
    have h1 := congrArg List.length (hl.trans hl2.symm)
    simp only [List.length_map] at h1
    rw [hU.len, hV.len] at h1
    exact h1.symm
  subst hmn
  refine btsames_any A B m ca cb U V w hU hV (hl.trans hl2.symm) ?_ fun x hx => ?_
  · have := hG.1
    rw [← hl, List.length_map, hU.len] at this
    exact this
  · have h1 := hG.2 x.snt (by rw [← hl]; exact List.mem_map.2 ⟨x, hx, rfl⟩)
    have h2 := (hU.fp x hx).len
    simp only [Fs.snt] at h1
    omega
theorem FbV.none {w : World} {A : Option Addr} {n c : Nat} (h : FbV w (.slice A n c) []) : n = 0 := by
  obtain ⟨A', n', c', U, e, ho, hl⟩ := h
  injection e with _ e _
  rw [e, ← ho.len, List.map_eq_nil_iff.1 hl]
  rfl
theorem FlV.count {w : World} {A : Option Addr} {n c : Nat} {l : List Snt} (h : FlV w (.slice A n c) l) : n = l.length := by
  obtain ⟨A', n', c', U, e, ho, hl⟩ := h
  injection e with _ e _
  rw [e, ← ho.len, ← hl, List.length_map]
def s26a : Snt := ⟨0, 4, sp3, 1, 7⟩
def s26b : Snt := ⟨0, 4, sp3, 2, 9⟩
theorem flg_a : FlG [s26a] := ⟨by decide, fun x hx => by
  obtain rfl := List.mem_singleton.1 hx
  decide⟩
theorem flg_b : FlG [s26b] := ⟨by decide, fun x hx => by
  obtain rfl := List.mem_singleton.1 hx
  decide⟩
theorem s26_send : flSend [] 0 4 sp3 5 2 = [s26a] := rfl
theorem s26_step1 : flStep [s26a] 6 2 2 = ([s26a], [], []) := rfl
theorem s26_step2 : flStep [s26a] 7 2 2 = ([s26b], [s26a], []) := rfl
theorem s26_step3 : flStep [s26b] 9 2 2 = ([], [], [s26b]) := rfl
theorem s26_ack : flAck [s26a] 4 = ([], 3) := rfl
theorem flv_nil (w : World) : FlV w (.slice none 0 0) [] := ⟨none, 0, 0, [], rfl, ⟨GX.nil _ _ _, fun u hu => (by cases hu), rfl, fun _ => rfl, Nat.le_refl _, Nat.zero_le _⟩, rfl⟩
theorem s26_tr1 : (2 : Int) ≤ 9223372036854775807 ∧ ∀ x ∈ [s26a], -9223372036854775808 ≤ x.tries := ⟨by omega, fun x hx => by
  obtain rfl := List.mem_singleton.1 hx
  decide⟩
theorem s26_tr2 : (2 : Int) ≤ 9223372036854775807 ∧ ∀ x ∈ [s26b], -9223372036854775808 ≤ x.tries := ⟨by omega, fun x hx => by
  obtain rfl := List.mem_singleton.1 hx
  decide⟩
end Go.Proofs.Ytlolnjgcffjfkaa
namespace Go.Proofs.Ytlolnjgcffjfkaa
set_option linter.unusedVariables false
set_option linter.unusedSimpArgs false
open Go.RowKit Go.Joins

/-- What stands ahead of the fixed calls: three spans in block m, the batch in block b. -/
structure K26 (w wr : World) (m b : Nat) : Prop where
  gx : GX encSp 11 wr (· < wr.heap.size) (some ⟨m, 0, none⟩) sp3
  kb : Bk wr b 69 #[.int .i64 0, .int .i64 4, .slice (some ⟨m, 0, none⟩) 3 3]
  bel : Below w.heap.size w wr
theorem K26.up {w wr w2 : World} {m b : Nat} (h : K26 w wr m b) (hb : Below wr.heap.size wr w2) : K26 w w2 m b := ⟨h.gx.up hb, h.kb.up hb, estep h.bel hb⟩
theorem K26.sent {w wr : World} {m b : Nat} (h : K26 w wr m b) (tr du : Int) : FlV (wr.alloc (.cells #[.int .i64 0, .int .i64 4, .slice (some ⟨m, 0, none⟩) 3 3, .int .i64 tr, .int .i64 du] 71)) (.slice (some ⟨wr.heap.size, 0, none⟩) 1 1) [⟨0, 4, sp3, tr, du⟩] :=
  flv_lit (Bk.new wr 71 _) (h.gx.up (enew wr _)) rfl (fun h => by cases h) (Nat.le_refl _) (by unfold maxLen; omega)
theorem K26.batch {w wr : World} {m b : Nat} (h : K26 w wr m b) (tr du : Int) : FbV (wr.alloc (.cells #[.int .i64 0, .int .i64 4, .slice (some ⟨m, 0, none⟩) 3 3] 69)) (.slice (some ⟨wr.heap.size, 0, none⟩) 1 1) [⟨0, 4, sp3, tr, du⟩] :=
  fbv_lit (Bk.new wr 69 _) (h.gx.up (enew wr _)) rfl (fun h => by cases h) (Nat.le_refl _) (by unfold maxLen; omega)
set_option maxRecDepth 100000 in
set_option maxHeartbeats 8000000 in
theorem known26_any (w : World) :
    Calls Try.prog 19 #[] w fun e w' => e = .returned (.bool true) ∧ Below w.heap.size w w' := by
  have hmk := sp3_make
  have hb0 := enew w (.cells (gvals encSp sp3).toArray 34)
  have hb1 := enew (w.alloc (.cells (gvals encSp sp3).toArray 34)) (.cells #[.int .i64 0, .int .i64 4, .slice (some ⟨w.heap.size, 0, none⟩) 3 3] 69)
  have hgx := gx_new (M := sp3) encSp_len (Bk.new w 34 (gvals encSp sp3).toArray) (by simp)
  have kb := Bk.new (w.alloc (.cells (gvals encSp sp3).toArray 34)) 69 #[.int .i64 0, .int .i64 4, .slice (some ⟨w.heap.size, 0, none⟩) 3 3]
  rw [World.size_alloc] at kb
  have HK := hid (show K26 w _ w.heap.size (w.heap.size + 1) from ⟨(hgx.imp fun b hb => by
    have e : b = w.heap.size := hb
    subst e
    simp).up hb1, kb, estep hb0 hb1⟩)
  clear hb0 hb1 hgx kb
  go_enter Try.func19, Try.ntmps19
  go_upto_region 2 with (fail)
  clear hmk
  generalize (w.alloc (.cells (gvals encSp sp3).toArray 34)).alloc (.cells #[.int .i64 0, .int .i64 4, .slice (some ⟨w.heap.size, 0, none⟩) 3 3] 69) = v0 at *
  have q0 := Bk.cell HK.out.kb 0
  have q1 := Bk.cell HK.out.kb 1
  have q2 := Bk.cell HK.out.kb 2
  have HSN := hid (flsend_any (.slice none 0 0) [] 0 4 (some ⟨w.heap.size, 0, none⟩) 3 3 sp3 5 2 v0 (flv_nil _) ⟨by decide, fun x hx => (by cases hx)⟩ HK.out.gx (hid rfl) (by decide))
  rw [s26_send] at HSN
  go_wp2_with fail
  refine HSN.out.mono ?_
  rintro e w1 ⟨vl, rfl, hl, hb⟩
  have HK1 := hid (HK.out.up hb)
  obtain ⟨Al, nl, cl, -, rfl, -⟩ := id hl
  have HL1 := hid hl
  have HP1 := hid (flstep_any _ [s26a] 6 2 2 w1 hl flg_a s26_tr1)
  clear hl hb HSN HK q0 q1 q2
  go_wp2_with fail
  refine HP1.out.mono ?_
  rintro e w2 ⟨Ax, nx, cx, Ay, ny, cy, Az, nz, cz, rfl, hx, hy, hz, hb⟩
  rw [s26_step1] at hx hy hz
  have HK2 := hid (HK1.out.up hb)
  have HL2 := hid (HL1.out.up hb)
  have HX2 := hid hx
  have hy0 := FbV.none hy
  have hz0 := FbV.none hz
  subst hy0
  subst hz0
  have HP2 := hid (flstep_any _ [s26a] 7 2 2 w2 HL2.out flg_a s26_tr1)
  clear hx hy hz hb HP1 HK1 HL1
  go_wp2_with fail
  refine HP2.out.mono ?_
  rintro e w3 ⟨Au, nu, cu, Av, nv, cv, Aw, nw, cw, rfl, hu, hv, hw, hb⟩
  rw [s26_step2] at hu hv hw
  have HK3 := hid (HK2.out.up hb)
  have HL3 := hid (HL2.out.up hb)
  have HX3 := hid (HX2.out.up hb)
  have HU3 := hid hu
  have HV3 := hid hv
  have hw0 := FbV.none hw
  subst hw0
  have HP3 := hid (flstep_any _ [s26b] 9 2 2 w3 hu flg_b s26_tr2)
  clear hu hv hw hb HP2 HK2 HL2 HX2
  go_wp2_with fail
  refine HP3.out.mono ?_
  rintro e w4 ⟨A1, n1, c1, A2, n2, c2, Ag, ng, cg, rfl, -, -, hg, hb⟩
  rw [s26_step3] at hg
  have HK4 := hid (HK3.out.up hb)
  have HL4 := hid (HL3.out.up hb)
  have HX4 := hid (HX3.out.up hb)
  have HU4 := hid (HU3.out.up hb)
  have HV4 := hid (HV3.out.up hb)
  have HG4 := hid hg
  have HAC := hid (flack_any _ [s26a] 4 w4 HL4.out flg_a)
  clear hg hb HP3 HK3 HL3 HX3 HU3 HV3
  go_wp2_with fail
  refine HAC.out.mono ?_
  rintro e w5 ⟨Ar, nr, cr, k, rfl, hr, hk, hb⟩
  rw [s26_ack] at hr hk
  have hr0 : nr = 0 := hr.count
  have hk3 : k = 3 := hk.symm
  subst hr0
  subst hk3
  have HK5 := hid (HK4.out.up hb)
  have HL5 := hid (HL4.out.up hb)
  have HX5 := hid (HX4.out.up hb)
  have HU5 := hid (HU4.out.up hb)
  have HV5 := hid (HV4.out.up hb)
  have HG5 := hid (HG4.out.up hb)
  have q0 := Bk.cell HK5.out.kb 0
  have q1 := Bk.cell HK5.out.kb 1
  have q2 := Bk.cell HK5.out.kb 2
  have hna := enew w5 (.cells #[.int .i64 0, .int .i64 4, .slice (some ⟨w.heap.size, 0, none⟩) 3 3, .int .i64 1, .int .i64 7] 71)
  have HN5 := hid hna
  have HS1 := hid (flsame_any _ _ [s26a] _ (HL5.out.up hna) (HK5.out.sent 1 7) flg_a)
  clear hr hk hb hna HAC HK4 HL4 HX4 HU4 HV4 HG4
  go_wp2_with fail
  refine HS1.out.mono ?_
  rintro e w6 ⟨rfl, hb⟩
  have hb6 := estep HN5.out hb
  have HK6 := hid (HK5.out.up hb6)
  have HL6 := hid (HL5.out.up hb6)
  have HX6 := hid (HX5.out.up hb6)
  have HU6 := hid (HU5.out.up hb6)
  have HV6 := hid (HV5.out.up hb6)
  have HG6 := hid (HG5.out.up hb6)
  have HS2 := hid (flsame_any _ _ [s26a] w6 HX6.out HL6.out flg_a)
  clear hb hb6 HS1 HN5 HK5 HL5 HX5 HU5 HV5 HG5 q0 q1 q2
  go_wp2_with fail
  refine HS2.out.mono ?_
  rintro e w7 ⟨rfl, hb⟩
  have HK7 := hid (HK6.out.up hb)
  have HL7 := hid (HL6.out.up hb)
  have HU7 := hid (HU6.out.up hb)
  have HV7 := hid (HV6.out.up hb)
  have HG7 := hid (HG6.out.up hb)
  have q0 := Bk.cell HK7.out.kb 0
  have q1 := Bk.cell HK7.out.kb 1
  have q2 := Bk.cell HK7.out.kb 2
  have hna := enew w7 (.cells #[.int .i64 0, .int .i64 4, .slice (some ⟨w.heap.size, 0, none⟩) 3 3, .int .i64 2, .int .i64 9] 71)
  have HN7 := hid hna
  have HS3 := hid (flsame_any _ _ [s26b] _ (HU7.out.up hna) (HK7.out.sent 2 9) flg_b)
  clear hb hna HS2 HK6 HL6 HX6 HU6 HV6 HG6
  go_wp2_with fail
  refine HS3.out.mono ?_
  rintro e w8 ⟨rfl, hb⟩
  have hb8 := estep HN7.out hb
  have HK8 := hid (HK7.out.up hb8)
  have HL8 := hid (HL7.out.up hb8)
  have HV8 := hid (HV7.out.up hb8)
  have HG8 := hid (HG7.out.up hb8)
  have q0 := Bk.cell HK8.out.kb 0
  have q1 := Bk.cell HK8.out.kb 1
  have q2 := Bk.cell HK8.out.kb 2
  have hna := enew w8 (.cells #[.int .i64 0, .int .i64 4, .slice (some ⟨w.heap.size, 0, none⟩) 3 3] 69)
  have HN8 := hid hna
  have HS4 := hid (fbsame_any _ _ [s26a] _ (HV8.out.up hna) (HK8.out.batch 1 7) flg_a)
  clear hb hb8 hna HS3 HN7 HK7 HL7 HU7 HV7 HG7
  go_wp2_with fail
  refine HS4.out.mono ?_
  rintro e w9 ⟨rfl, hb⟩
  have hb9 := estep HN8.out hb
  have HK9 := hid (HK8.out.up hb9)
  have HL9 := hid (HL8.out.up hb9)
  have HG9 := hid (HG8.out.up hb9)
  have q0 := Bk.cell HK9.out.kb 0
  have q1 := Bk.cell HK9.out.kb 1
  have q2 := Bk.cell HK9.out.kb 2
  have hna := enew w9 (.cells #[.int .i64 0, .int .i64 4, .slice (some ⟨w.heap.size, 0, none⟩) 3 3] 69)
  have HN9 := hid hna
  have HS5 := hid (fbsame_any _ _ [s26b] _ (HG9.out.up hna) (HK9.out.batch 2 9) flg_b)
  clear hb hb9 hna HS4 HN8 HK8 HL8 HV8 HG8
  go_wp2_with fail
  refine HS5.out.mono ?_
  rintro e wa ⟨rfl, hb⟩
  have hba := estep HN9.out hb
  have HKa := hid (HK9.out.up hba)
  have HLa := hid (HL9.out.up hba)
  have HSP := hid (flspans_v _ [s26a] wa HLa.out flg_a (k := 3) (hid rfl))
  clear hb hba HS5 HN9 HK9 HL9 HG9 q0 q1 q2
  go_wp2_with fail
  refine HSP.out.mono ?_
  rintro e wb ⟨rfl, hb⟩
  have HF := hid (estep HKa.out.bel hb)
  clear hb HSP
  go_wp2_with fail
  go_returns
  exact ⟨rfl, HF.out⟩
end Go.Proofs.Ytlolnjgcffjfkaa
namespace Go.Proofs.Ytlolnjgcffjfkaa
set_option linter.unusedVariables false
set_option linter.unusedSimpArgs false
open Go.RowKit Go.ChangeShapes Go.WideShapes Go.Deep Go.Joins

section
variable {H : Type} {enc : TypeId × Value → H} {P : Program} {w : World} {base : Nat}
/-- A slice of rows, opened: what each row's cells are is told by f. -/
theorem rows_of {α : Type} [Inhabited α] {en : α → List Value} {k : Nat} (hk0 : 0 < k) (hk : ∀ x, (en x).length = k) {ok : α → Prop} {ts t : TypeId} (hts : P.underlying ts = some (.slice t)) (hC : P.cellsOf t = k)
    (f : ∀ (fuel : Nat) (cs : List Value) (x : DataW H × List MemPlace), DataW.trod enc P w base (fun _ => true) true fuel t cs = some x → Sized P t x.1 → ∃ y : α, ok y ∧ cs = en y)
    {fuel : Nat} {cs : List Value} {x : DataW H × List MemPlace} (hf : DataW.trod enc P w base (fun _ => true) true fuel ts cs = some x) (hz : Sized P ts x.1) :
    ∃ (A : Option Addr) (c : Nat) (L : List α), cs = [.slice A L.length c] ∧ GX en k w (· < w.heap.size) A L ∧ L.length ≤ c ∧ c ≤ maxLen ∧ (A = none → c = 0) ∧ ∀ y ∈ L, ok y := by
  rcases open_slice hts hf with ⟨h0, _⟩ | ⟨a, len, cap, m, n, D, Pl, hcs, _, hl, hm, hmm, hx0, hx⟩
  · exact ⟨none, 0, [], h0, GX.nil _ _ _, Nat.le_refl _, Nat.zero_le _, fun _ => rfl, by simp⟩
  · simp only [if_true] at hmm
    subst hmm
    rw [hx0] at hz
    have each : ∀ i, i < len → ∃ o : α, ok o ∧ ∃ cs', w.cells? base (a.add (i * k)) k = some cs' ∧ cs' = en o := fun i hi => by
      obtain ⟨cs', h1, h2⟩ := hx i (by omega)
      rw [hC] at h1
      obtain ⟨s, hs, hc⟩ := f _ _ _ h2 (hz.elem hts (d := D i) (List.mem_map.2 ⟨i, List.mem_range.2 hi, rfl⟩))
      exact ⟨s, hs, cs', h1, hc⟩
    obtain ⟨F, hF⟩ := choose_lt each
    have hlen : ((List.range len).map F).length = len := by simp
    refine ⟨some a, m, (List.range len).map F, by rw [hlen]; exact hcs, fun i hi => ?_, by rw [hlen]; exact hl, hm, fun h => (by cases h), fun s hs => ?_⟩
    · rw [hlen] at hi
      obtain ⟨_, cs', h1, h2⟩ := hF i hi
      obtain ⟨_, hl', hcell⟩ := World.cells?_some h1
      obtain ⟨_, cs0, y1, y2⟩ := hF 0 (by omega)
      obtain ⟨_, _, ycell⟩ := World.cells?_some y1
      have hsome : ∀ (o : α), ∃ u, (en o)[0]? = some u := fun o => ⟨_, List.getElem?_eq_getElem (by rw [hk]; exact hk0)⟩
      obtain ⟨u0, hu0⟩ := hsome (F 0)
      have hc00 := ycell 0 hk0
      rw [y2, hu0] at hc00
      have hpl := plain_of_cell hc00
      simp only [Nat.zero_mul, Addr.add, if_true] at hpl
      have hat : ∀ j, j < k → w.cell? ⟨a.block, a.off + (i * k + j), none⟩ = cs'[j]? := fun j hj => by
        have := hcell j hj
        rw [hpl, add_add, Addr.add_lit] at this
        exact this
      obtain ⟨u1, hu1⟩ := hsome (F i)
      have hlt : a.block < w.heap.size := lt_of_cell (a := ⟨a.block, a.off + (i * k + 0), none⟩) (by rw [hat 0 hk0, h2]; exact hu1)
      simp only [List.getElem_map, List.getElem_range]
      refine ⟨a.block, a.off, by rw [← hpl], hlt, fun j hj => ?_⟩
      rw [hat j hj, h2]
    · obtain ⟨i, hi, rfl⟩ := List.mem_map.1 hs
      exact (hF i (List.mem_range.1 hi)).1
/-- The types of a batch under way, as the program has them. -/
structure SnT (P : Program) (st bt ts t tr q i u bo : TypeId) (f0 f1 f2 f3 f4 f5 f6 f7 f8 f9 g0 g1 k0 k1 k2 m0 m1 m2 : Field) : Prop where
  T : SpT P t tr q i u bo f0 f1 f2 f3 f4 f5 f6 f7 f8 f9 g0 g1
  hts : P.underlying ts = some (.slice t)
  hbt : P.underlying bt = some (.struct #[k0, k1, k2])
  hst : P.underlying st = some (.struct #[m0, m1, m2])
  ct : P.cellsOf ts = 1
  cb : P.cellsOf bt = 3
  cs : P.cellsOf st = 5
  kty : k0.type = i ∧ k1.type = i ∧ k2.type = ts
  kof : k0.offset = 0 ∧ k1.offset = 1 ∧ k2.offset = 2
  mty : m0.type = bt ∧ m1.type = i ∧ m2.type = i
  mof : m0.offset = 0 ∧ m1.offset = 3 ∧ m2.offset = 4
instance : Inhabited Fs := ⟨⟨0, 0, none, 0, 0, [], 0, 0⟩⟩
theorem sent_of {st bt ts t tr q i u bo : TypeId} {f0 f1 f2 f3 f4 f5 f6 f7 f8 f9 g0 g1 k0 k1 k2 m0 m1 m2 : Field} (T : SnT P st bt ts t tr q i u bo f0 f1 f2 f3 f4 f5 f6 f7 f8 f9 g0 g1 k0 k1 k2 m0 m1 m2) {fuel : Nat} {cs : List Value} {x : DataW H × List MemPlace}
    (h : DataW.trod enc P w base (fun _ => true) true fuel st cs = some x) (hz : Sized P st x.1) : ∃ y : Fs, FsO w (· < w.heap.size) y ∧ cs = encFs y := by
  obtain ⟨xs, n, _, hx, hl, hlen, hgg⟩ := DataW.trod_struct T.hst h
  rw [T.cs] at hl
  obtain ⟨t0, t1, t2⟩ := T.mty
  obtain ⟨o0, o1, o2⟩ := T.mof
  match cs, hl, xs, hlen with
  | [c0, c1, c2, c3, c4], _, [y0, y1, y2], _ =>
    have h0 := hgg 0 m0 rfl
    have h1 := hgg 1 m1 rfl
    have h2 := hgg 2 m2 rfl
    rw [t0, o0, T.cb] at h0
    rw [t1, o1, T.T.ci] at h1
    rw [t2, o2, T.T.ci] at h2
    rw [hx] at hz
    have z0 := sized_part hz T.hst (j := 0) (f := m0) (d := y0.1) rfl rfl
    rw [t0] at z0
    obtain ⟨tr', e1, _, _⟩ := DataW.trod_int T.T.hi h1
    obtain ⟨du, e2, _, _⟩ := DataW.trod_int T.T.hi h2
    obtain ⟨xs2, n2, _, hx2, hl2, hlen2, hgg2⟩ := DataW.trod_struct T.hbt h0
    obtain ⟨s0, s1, s2⟩ := T.kty
    obtain ⟨p0, p1, p2⟩ := T.kof
    match xs2, hlen2 with
    | [v0, v1, v2], _ =>
      have g0' := hgg2 0 k0 rfl
      have g1' := hgg2 1 k1 rfl
      have g2' := hgg2 2 k2 rfl
      rw [s0, p0, T.T.ci] at g0'
      rw [s1, p1, T.T.ci] at g1'
      rw [s2, p2, T.ct] at g2'
      rw [hx2] at z0
      have z2 := sized_part z0 T.hbt (j := 2) (f := k2) (d := v2.1) rfl rfl
      rw [s2] at z2
      obtain ⟨nd, a0, _, _⟩ := DataW.trod_int T.T.hi g0'
      obtain ⟨sq, a1, _, _⟩ := DataW.trod_int T.T.hi g1'
      obtain ⟨A, c, L, a2, b1, b2, b3, b4, b5⟩ := rows_of (ok := okSp) (by decide) encSp_len T.hts T.T.ct (fun fuel cs x h hz => span_of T.T h hz) g2' z2
      refine ⟨⟨nd, sq, A, L.length, c, L, tr', du⟩, ⟨b1, rfl, b4, b2, b3⟩, ?_⟩
      have a0' : c0 = .int .i64 nd := by simpa using a0
      have a1' : c1 = .int .i64 sq := by simpa using a1
      have a2' : c2 = .slice A L.length c := by simpa using a2
      have e1' : c3 = .int .i64 tr' := by simpa using e1
      have e2' : c4 = .int .i64 du := by simpa using e2
      rw [a0', a1', a2', e1', e2']
      rfl
theorem open_FLS {sts st bt ts t tr q i u bo : TypeId} {f0 f1 f2 f3 f4 f5 f6 f7 f8 f9 g0 g1 k0 k1 k2 m0 m1 m2 : Field} (T : SnT P st bt ts t tr q i u bo f0 f1 f2 f3 f4 f5 f6 f7 f8 f9 g0 g1 k0 k1 k2 m0 m1 m2) (hsts : P.underlying sts = some (.slice st))
    {A0 : Option Addr} {n0 c0 : Nat} {d : DataW H} {p : List MemPlace} (hz : Sized P sts d) (h : DataW.Trod enc P w base (fun _ => true) true sts (.slice A0 n0 c0) d p) :
    ∃ l : List Snt, FlV w (.slice A0 n0 c0) l := by
  obtain ⟨fuel, hf⟩ := h
  obtain ⟨A, c, L, e, h1, h2, h3, h4, h5⟩ := rows_of (ok := fun y : Fs => FsO w (· < w.heap.size) y) (by decide) encFs_len hsts T.cs (fun fuel cs x h hz => sent_of T h hz) hf hz
  have e' : Value.slice A0 n0 c0 = .slice A L.length c := by simpa [Value.cells] using e
  exact ⟨L.map Fs.snt, A, L.length, c, L, e', ⟨h1, h5, rfl, h4, h2, h3⟩, rfl⟩
end
theorem flSpans_mul : ∀ (l : List Snt), (∀ x ∈ l, x.L.length ≤ 60) → flSpans l ≤ l.length * 60
  | [], _ => Nat.zero_le _
  | x :: r, h => by
    have h1 := flSpans_mul r fun y hy => h y (List.mem_cons_of_mem _ hy)
    have h2 := h x (List.mem_cons_self ..)
    show x.L.length + flSpans r ≤ _
    rw [List.length_cons, Nat.add_mul]
    omega
theorem flSpans_small {l : List Snt} (h : l.length ≤ 30 ∧ ∀ x ∈ l, x.L.length ≤ 60) : flSpans l ≤ 1800 := by
  have h1 := flSpans_mul l h.2
  have h2 : l.length * 60 ≤ 30 * 60 := Nat.mul_le_mul_right _ h.1
  omega
set_option maxRecDepth 100000 in
set_option maxHeartbeats 8000000 in
theorem flightAcks_walk (v : Value) (l : List Snt) (a b : Int) (w : World) (hv : FlV w v l) :
    Calls Try.prog 6 #[v, .int .i64 a, .int .i64 b] w fun e w' => e = .returned (.bool true) ∧ Below w.heap.size w w' := by
  have hnot := enot
  obtain ⟨z, hz⟩ : ∃ z, fewS l = z := ⟨_, rfl⟩
  have HFW := hid (flfew_any v l w hv (hid hz))
  cases z
  · clear hz hv
    go_enter Try.func6, Try.ntmps6
    go_wp2_with fail
    refine HFW.out.mono ?_
    rintro e w1 ⟨rfl, rfl⟩
    go_wp2_with fail
    refine (known26_any _).mono ?_
    rintro e w1 ⟨rfl, hb1⟩
    go_wp2_with fail
    go_returns
    exact ⟨rfl, hb1⟩
  have HG := hid (fewS_flg hz)
  have HS := hid (of_decide_eq_true hz)
  have HV := hid hv
  obtain ⟨P, n, hP⟩ : ∃ P n, flAck l a = (P, n) := ⟨_, _, rfl⟩
  obtain ⟨R, m, hR⟩ : ∃ R m, flAck P b = (R, m) := ⟨_, _, rfl⟩
  obtain ⟨S, k, hS⟩ : ∃ S k, flAck l b = (S, k) := ⟨_, _, rfl⟩
  obtain ⟨T, j, hT⟩ : ∃ T j, flAck S a = (T, j) := ⟨_, _, rfl⟩
  have hsw := flAck_swap l a b
  rw [hP, hS] at hsw
  simp only [hR, hT] at hsw
  subst hsw
  have hsum := flAck_sum l a b
  rw [hP, hS] at hsum
  simp only [hR, hT] at hsum
  have hnone := flAck_none l a
  rw [hP] at hnone
  simp only at hnone
  have hall1 := flAck_all l a
  rw [hP] at hall1
  simp only at hall1
  have hall2 := flAck_all P b
  rw [hR] at hall2
  simp only at hall2
  have gP : FlG P := by have := HG.out.ack a; rw [hP] at this; exact this
  have gR : FlG R := by have := gP.ack b; rw [hR] at this; exact this
  have gS : FlG S := by have := HG.out.ack b; rw [hS] at this; exact this
  obtain ⟨sl, hsl⟩ : ∃ s, flSpans l = s := ⟨_, rfl⟩
  obtain ⟨sr, hsr⟩ : ∃ s, flSpans R = s := ⟨_, rfl⟩
  rw [hsl] at hall1
  rw [hsr] at hall2
  have hs9 : sl ≤ 1800 := by rw [← hsl]; exact flSpans_small HS.out
  have w1' : IntKind.i64.wrap ((n : Int) + (m : Int)) = ((n + m : Nat) : Int) := by rw [IntWalk.i64_in _ (by omega)]; push_cast; rfl
  have w2' : IntKind.i64.wrap ((k : Int) + (j : Int)) = ((n + m : Nat) : Int) := by rw [IntWalk.i64_in _ (by omega)]; rw [hsum]; push_cast; rfl
  have w3' : IntKind.i64.wrap ((sr : Int) + (n : Int)) = ((sr + n : Nat) : Int) := by rw [IntWalk.i64_in _ (by omega)]; push_cast; rfl
  have w4' : IntKind.i64.wrap (((sr + n : Nat) : Int) + (m : Int)) = (sl : Int) := by rw [IntWalk.i64_in _ (by omega)]; push_cast; omega
  obtain ⟨q1, hq1⟩ : ∃ q : Nat, n + m = q := ⟨_, rfl⟩
  obtain ⟨q2, hq2⟩ : ∃ q : Nat, sr + n = q := ⟨_, rfl⟩
  rw [hq1] at w1' w2'
  rw [hq2] at w3' w4'
  have H0 := hid (And.intro hP (And.intro hR (And.intro hS (And.intro hT (And.intro hnone (And.intro hsl hsr))))))
  have GP := hid gP
  have GR := hid gR
  have GS := hid gS
  have HA1 := hid (flack_any v l a w hv HG.out)
  clear hP hR hS hT hsum hnone hall1 hall2 gP gR gS hsl hsr hs9 hq1 hq2 hz hv
  go_enter Try.func6, Try.ntmps6
  go_wp2_with fail
  refine HFW.out.mono ?_
  rintro e w1 ⟨rfl, rfl⟩
  clear HFW
  go_wp2_with fail
  refine HA1.out.mono ?_
  rintro e w2 ⟨Ap, np, cp, i1, rfl, hp, hn1, hb⟩
  rw [H0.out.1] at hp hn1
  simp only at hp hn1
  subst hn1
  have HL2 := hid (HV.out.up hb)
  have HP2 := hid hp
  have HB2 := hid hb
  have HA2 := hid (flack_any _ P b w2 hp GP.out)
  clear hp hb HA1
  go_wp2_with fail
  refine HA2.out.mono ?_
  rintro e w3 ⟨Ar, nr, cr, i2, rfl, hp, hn1, hb⟩
  rw [H0.out.2.1] at hp hn1
  simp only at hp hn1
  subst hn1
  have HL3 := hid (HL2.out.up hb)
  have HP3 := hid (HP2.out.up hb)
  have HR3 := hid hp
  have HB3 := hid (estep HB2.out hb)
  have HA3 := hid (flack_any _ l b w3 HL3.out HG.out)
  clear hp hb HA2 HL2 HP2 HB2
  go_wp2_with fail
  refine HA3.out.mono ?_
  rintro e w4 ⟨As, ns, cs, i3, rfl, hp, hn1, hb⟩
  rw [H0.out.2.2.1] at hp hn1
  simp only at hp hn1
  subst hn1
  have HL4 := hid (HL3.out.up hb)
  have HP4 := hid (HP3.out.up hb)
  have HR4 := hid (HR3.out.up hb)
  have HB4 := hid (estep HB3.out hb)
  have HA4 := hid (flack_any _ S a w4 hp GS.out)
  clear hp hb HA3 HL3 HP3 HR3 HB3
  go_wp2_with fail
  refine HA4.out.mono ?_
  rintro e w5 ⟨At, nt, ct, i4, rfl, hp, hn1, hb⟩
  rw [H0.out.2.2.2.1] at hp hn1
  simp only at hp hn1
  subst hn1
  have HL5 := hid (HL4.out.up hb)
  have HP5 := hid (HP4.out.up hb)
  have HR5 := hid (HR4.out.up hb)
  have HT5 := hid hp
  have HB5 := hid (estep HB4.out hb)
  have HA5 := hid (flack_any _ P a w5 HP5.out GP.out)
  clear hp hb HA4 HL4 HP4 HR4 HB4
  go_wp2_with fail
  refine HA5.out.mono ?_
  rintro e w6 ⟨Au, nu, cu, i5, rfl, hp, hn1, hb⟩
  rw [H0.out.2.2.2.2.1] at hp hn1
  simp only at hp hn1
  subst hn1
  have HL6 := hid (HL5.out.up hb)
  have HP6 := hid (HP5.out.up hb)
  have HR6 := hid (HR5.out.up hb)
  have HT6 := hid (HT5.out.up hb)
  have HU6 := hid hp
  have HB6 := hid (estep HB5.out hb)
  have HS1 := hid (flsame_any _ _ R w6 HR6.out HT6.out GR.out)
  clear hp hb HA5 HL5 HP5 HR5 HT5 HB5
  go_wp2_with fail
  refine HS1.out.mono ?_
  rintro e w7 ⟨rfl, hb⟩
  have HL7 := hid (HL6.out.up hb)
  have HP7 := hid (HP6.out.up hb)
  have HR7 := hid (HR6.out.up hb)
  have HU7 := hid (HU6.out.up hb)
  have HB7 := hid (estep HB6.out hb)
  have HS2 := hid (flsame_any _ _ P w7 HU7.out HP7.out GP.out)
  clear hb HS1 HL6 HP6 HR6 HT6 HU6 HB6
  go_wp2_with fail
  refine HS2.out.mono ?_
  rintro e w8 ⟨rfl, hb⟩
  have HL8 := hid (HL7.out.up hb)
  have HR8 := hid (HR7.out.up hb)
  have HB8 := hid (estep HB7.out hb)
  have HS3 := hid (flspans_v _ R w8 HR8.out GR.out (hid H0.out.2.2.2.2.2.2))
  clear hb HS2 HL7 HP7 HR7 HU7 HB7
  go_wp2_with fail
  refine HS3.out.mono ?_
  rintro e w9 ⟨rfl, hb⟩
  have HL9 := hid (HL8.out.up hb)
  have HB9 := hid (estep HB8.out hb)
  have HS4 := hid (flspans_v _ l w9 HL9.out HG.out (hid H0.out.2.2.2.2.2.1))
  clear hb HS3 HL8 HR8 HB8
  go_wp2_with fail
  refine HS4.out.mono ?_
  rintro e wa ⟨rfl, hb⟩
  have HBa := hid (estep HB9.out hb)
  clear hb HS4 HL9 HB9
  go_wp2_with fail
  refine (known26_any _).mono ?_
  rintro e wb ⟨rfl, hb⟩
  go_wp2_with fail
  go_returns
  exact ⟨rfl, estep HBa.out hb⟩
end Go.Proofs.Ytlolnjgcffjfkaa
namespace Go.Proofs.Ytlolnjgcffjfkaa
theorem dv_here : True := trivial
end Go.Proofs.Ytlolnjgcffjfkaa
