/- Texts put together: Dn Do Dq Ft Fu Fv Ds Tz. -/
import Derived.Test.YtpfhmpblcmednaaE25
import Derived.StillTailTactics
import Derived.Test.YtpfhmpblcmednaaE02
import Derived.BigQuiet
import Derived.Deep.RegionHeld3
import Derived.Test.YtpfhmpblcmednaaE23
namespace Go.Proofs.Ytpfhmpblcmednaa
set_option linter.unusedVariables false
set_option maxRecDepth 100000
set_option linter.unusedSimpArgs false
open Go.RowKit Go.Joins

theorem ons5 (w : World) (g : Nat) (a b c d e : Value) : OnS (fun b => b = g) w (((((w.setCell ⟨g, 0, none⟩ a).setCell ⟨g, 1, none⟩ b).setCell ⟨g, 2, none⟩ c).setCell ⟨g, 3, none⟩ d).setCell ⟨g, 4, none⟩ e) :=
  (((((OnS.refl (fun b => b = g) w).cell g 0 a rfl).cell g 1 b rfl).cell g 2 c rfl).cell g 3 d rfl).cell g 4 e rfl
theorem bel5 (w : World) {B g : Nat} (h : B ≤ g) (a b c d e : Value) : Below B w (((((w.setCell ⟨g, 0, none⟩ a).setCell ⟨g, 1, none⟩ b).setCell ⟨g, 2, none⟩ c).setCell ⟨g, 3, none⟩ d).setCell ⟨g, 4, none⟩ e) :=
  (((((Below.refl B w).setCell (p := ⟨g, 0, none⟩) h a).setCell (p := ⟨g, 1, none⟩) h b).setCell (p := ⟨g, 2, none⟩) h c).setCell (p := ⟨g, 3, none⟩) h d).setCell (p := ⟨g, 4, none⟩) h e
set_option maxRecDepth 100000 in
set_option maxHeartbeats 8000000 in
/-- What is not due stays as it is. -/
theorem flstep1_rest (u : Fs) (gn gt gg ga gr : Nat) (now : Int) (w : World) (hn : w.cell? ⟨gn, 0, none⟩ = some (.int .i64 now)) (hd : flTime now < u.due) :
    Calls Try.prog 122 #[.agg #[.int .i64 u.node, .int .i64 u.seq, .slice u.A u.n u.c, .int .i64 u.tries, .int .i64 u.due], .pointer (some ⟨gn, 0, none⟩), .pointer (some ⟨gt, 0, none⟩), .pointer (some ⟨gg, 0, none⟩), .pointer (some ⟨ga, 0, none⟩), .pointer (some ⟨gr, 0, none⟩)] w fun e w' => e = .returned (.tuple #[.agg #[.int .i64 u.node, .int .i64 u.seq, .slice u.A u.n u.c, .int .i64 u.tries, .int .i64 u.due], .bool true]) ∧ Below w.heap.size w w' := by
  have hb0 := enew w (.cells #[.int .i64 u.node, .int .i64 u.seq, .slice u.A u.n u.c, .int .i64 u.tries, .int .i64 u.due] 123)
  have hb1 := enew (w.alloc (.cells #[.int .i64 u.node, .int .i64 u.seq, .slice u.A u.n u.c, .int .i64 u.tries, .int .i64 u.due] 123)) (.cells #[.int .i64 0, .int .i64 0, .slice none 0 0, .int .i64 0, .int .i64 0] 123)
  have kx := (Bk.new w 123 #[.int .i64 u.node, .int .i64 u.seq, .slice u.A u.n u.c, .int .i64 u.tries, .int .i64 u.due]).up hb1
  have kz := Bk.new (w.alloc (.cells #[.int .i64 u.node, .int .i64 u.seq, .slice u.A u.n u.c, .int .i64 u.tries, .int .i64 u.due] 123)) 123 #[.int .i64 0, .int .i64 0, .slice none 0 0, .int .i64 0, .int .i64 0]
  rw [World.size_alloc] at kz
  have HBb := hid (estep hb0 hb1)
  have KX := hid kx
  have KZ := hid kz
  have hgl : gn < w.heap.size := lt_of_cell hn
  have NN := hid ((HBb.out.cell (p := ⟨gn, 0, none⟩) hgl).trans hn)
  obtain ⟨tn, htn⟩ : ∃ t, flTime now = t := ⟨_, rfl⟩
  have HT := hid (fun w2 => fltime_any now w2 (hid htn))
  have hdd : decide (tn < u.due) = true := decide_eq_true (by rw [← htn]; exact hd)
  clear hb0 hb1 kx kz hn htn hd
  go_enter Try.func122, Try.ntmps122
  go_upto_region 1 with (fail)
  generalize ((w.alloc (.cells #[.int .i64 u.node, .int .i64 u.seq, .slice u.A u.n u.c, .int .i64 u.tries, .int .i64 u.due] 123)).alloc (.cells #[.int .i64 0, .int .i64 0, .slice none 0 0, .int .i64 0, .int .i64 0] 123)) = v0 at *
  have hT : ∀ p : BwS v0, Calls Try.prog 123 #[.int .i64 now] p.w fun e w' => e = .returned (.int .i64 tn) ∧ Below p.w.heap.size p.w w' := fun p => (HT.out p.w).mono fun e w' h => ⟨h.1, by rw [h.2]; exact Below.refl _ _⟩
  have R0 := BwS.cell NN.out
  have x4 : v0.cell? ⟨w.heap.size, 4, none⟩ = some (.int .i64 u.due) := Bk.cell KX.out 4
  have R4 := BwS.cell x4
  clear x4
  refine wp_region_bws (by kernel_rfl) (by kernel_rfl) ?_
  repeat (go_big_quiet_step ((go_at_call 123; exact calls_bws (hT _))))
  refine wpQuiet_nil ?_
  rintro _ ⟨pq, rfl⟩
  have HPQ := hid pq.h
  generalize pq.w = wq at *
  clear R0 R4 hT
  have kx := KX.out.up HPQ.out
  have kz := KZ.out.up HPQ.out
  have x0 := Bk.cell kx 0
  have x1 := Bk.cell kx 1
  have x2 := Bk.cell kx 2
  have x3 := Bk.cell kx 3
  have x4 := Bk.cell kx 4
  have z0 := Bk.cell kz 0
  have z1 := Bk.cell kz 1
  have z2 := Bk.cell kz 2
  have z3 := Bk.cell kz 3
  have z4 := Bk.cell kz 4
  have y0 := Bk.frozen kz 0
  have y1 := Bk.frozen kz 1
  have y2 := Bk.frozen kz 2
  have y3 := Bk.frozen kz 3
  have y4 := Bk.frozen kz 4
  clear kx kz
  go_wp2_with fail
  have K5 := hid (flset5 (KZ.out.up HPQ.out) (.int .i64 u.node) (.int .i64 u.seq) (.slice u.A u.n u.c) (.int .i64 u.tries) (.int .i64 u.due))
  have c0 := Bk.cell K5.out 0
  have c1 := Bk.cell K5.out 1
  have c2 := Bk.cell K5.out 2
  have c3 := Bk.cell K5.out 3
  have c4 := Bk.cell K5.out 4
  (try simp only [Exit.inBlock, Exit.then])
  refine bodyPost_ret (v := .tuple #[.agg #[.int .i64 u.node, .int .i64 u.seq, .slice u.A u.n u.c, .int .i64 u.tries, .int .i64 u.due], .bool true]) (by simp [results, Try.results122, go_sem, c0, c1, c2, c3, c4]) rfl ?_
  exact ⟨rfl, (((((estep HBb.out HPQ.out).setCell (Nat.le_succ _) _).setCell (Nat.le_succ _) _).setCell (Nat.le_succ _) _).setCell (Nat.le_succ _) _).setCell (Nat.le_succ _) _⟩
set_option maxRecDepth 100000 in
set_option maxHeartbeats 8000000 in
/-- What is due, and was sent so often, is given up. -/
theorem flstep1_give (B : Nat) (u : Fs) (gn gt gg ga gr : Nat) (now tries : Int) (va : Value) (Va : List Fs) (vg : Value) (Vg : List Fs) (w : World) (hn : w.cell? ⟨gn, 0, none⟩ = some (.int .i64 now)) (ht : w.cell? ⟨gt, 0, none⟩ = some (.int .i64 tries)) (hJ : StJ B w ga gg va Va vg Vg) (hO : FsO w (· < w.heap.size) u) (hu9 : u.n ≤ 1000) (hBw : B ≤ w.heap.size) (hd : ¬ flTime now < u.due) (htr : tries ≤ u.tries) (hvl : Vg.length ≤ 100000) :
    Calls Try.prog 122 #[.agg #[.int .i64 u.node, .int .i64 u.seq, .slice u.A u.n u.c, .int .i64 u.tries, .int .i64 u.due], .pointer (some ⟨gn, 0, none⟩), .pointer (some ⟨gt, 0, none⟩), .pointer (some ⟨gg, 0, none⟩), .pointer (some ⟨ga, 0, none⟩), .pointer (some ⟨gr, 0, none⟩)] w fun e w' => e = .returned (.tuple #[.agg #[.int .i64 0, .int .i64 0, .slice none 0 0, .int .i64 0, .int .i64 0], .bool false]) ∧ ∃ vg' x, StJ B w' ga gg va Va vg' (Vg ++ [x]) ∧ x.snt = u.snt ∧ OnS (StS B w) w w' := by
  have hb0 := enew w (.cells #[.int .i64 u.node, .int .i64 u.seq, .slice u.A u.n u.c, .int .i64 u.tries, .int .i64 u.due] 123)
  have hb1 := enew (w.alloc (.cells #[.int .i64 u.node, .int .i64 u.seq, .slice u.A u.n u.c, .int .i64 u.tries, .int .i64 u.due] 123)) (.cells #[.int .i64 0, .int .i64 0, .slice none 0 0, .int .i64 0, .int .i64 0] 123)
  have kx := (Bk.new w 123 #[.int .i64 u.node, .int .i64 u.seq, .slice u.A u.n u.c, .int .i64 u.tries, .int .i64 u.due]).up hb1
  have kz := Bk.new (w.alloc (.cells #[.int .i64 u.node, .int .i64 u.seq, .slice u.A u.n u.c, .int .i64 u.tries, .int .i64 u.due] 123)) 123 #[.int .i64 0, .int .i64 0, .slice none 0 0, .int .i64 0, .int .i64 0]
  rw [World.size_alloc] at kz
  have HBb := hid (estep hb0 hb1)
  have KX := hid kx
  have KZ := hid kz
  have hgl : gn < w.heap.size := lt_of_cell hn
  have NN := hid ((HBb.out.cell (p := ⟨gn, 0, none⟩) hgl).trans hn)
  obtain ⟨tn, htn⟩ : ∃ t, flTime now = t := ⟨_, rfl⟩
  have HT := hid (fun w2 => fltime_any now w2 (hid htn))
  have hgt : gt < w.heap.size := lt_of_cell ht
  have TT := hid ((HBb.out.cell (p := ⟨gt, 0, none⟩) hgt).trans ht)
  have HJ := hid hJ
  have HO := hid hO
  have HBw := hid hBw
  have HGW := hid (Bk.lt hJ.kg)
  have hdd : decide (tn < u.due) = false := decide_eq_false (by rw [← htn]; exact hd)
  have hdt : decide (tries ≤ u.tries) = true := decide_eq_true htr
  clear hb0 hb1 kx kz hn htn hd ht hJ hO hBw
  go_enter Try.func122, Try.ntmps122
  go_upto_region 1 with (fail)
  generalize ((w.alloc (.cells #[.int .i64 u.node, .int .i64 u.seq, .slice u.A u.n u.c, .int .i64 u.tries, .int .i64 u.due] 123)).alloc (.cells #[.int .i64 0, .int .i64 0, .slice none 0 0, .int .i64 0, .int .i64 0] 123)) = v0 at *
  have hT : ∀ p : BwS v0, Calls Try.prog 123 #[.int .i64 now] p.w fun e w' => e = .returned (.int .i64 tn) ∧ Below p.w.heap.size p.w w' := fun p => (HT.out p.w).mono fun e w' h => ⟨h.1, by rw [h.2]; exact Below.refl _ _⟩
  have R0 := BwS.cell NN.out
  have x4 : v0.cell? ⟨w.heap.size, 4, none⟩ = some (.int .i64 u.due) := Bk.cell KX.out 4
  have R4 := BwS.cell x4
  clear x4
  refine wp_region_bws (by kernel_rfl) (by kernel_rfl) ?_
  repeat (go_big_quiet_step ((go_at_call 123; exact calls_bws (hT _))))
  refine wpQuiet_nil ?_
  rintro _ ⟨pq, rfl⟩
  have HPQ := hid pq.h
  generalize pq.w = wq at *
  clear R0 R4 hT
  have t3 := (HPQ.out.cell (p := ⟨gt, 0, none⟩) (lt_of_cell TT.out)).trans TT.out
  have x3 : wq.cell? ⟨w.heap.size, 3, none⟩ = some (.int .i64 u.tries) := Bk.cell (KX.out.up HPQ.out) 3
  go_upto_region 4 with (fail)
  clear t3 x3
  have hJq := (HJ.out).up (estep HBb.out HPQ.out)
  have HJq := hid hJq
  have g0 : wq.cell? ⟨gg, 0, none⟩ = some vg := Bk.cell hJq.kg 0
  have HC := hid (fun w2 (hb : Below wq.heap.size wq w2) => flcopied_any u.node u.seq u.A u.n u.c u.L w2 ((HO.out.up ((estep HBb.out HPQ.out).trans (hb.mono (estep HBb.out HPQ.out).size))).gx) (hid HO.out.len) (by omega))
  have hz0 : Below wq.heap.size wq wq.drew := (Below.refl _ _).drew
  have kx := KX.out.up HPQ.out
  have x0 := Bk.cell kx 0
  have x1 := Bk.cell kx 1
  have x2 := Bk.cell kx 2
  have HBq : Hid (B ≤ wq.heap.size) := hid (Nat.le_trans HBw.out (estep HBb.out HPQ.out).size)
  clear hJq kx
  go_region_law (first
    | (refine step_append_gxl rowBt rfl _ _ rfl B vg Vg [(⟨u.node, u.seq, A5, n5, c5, u.L, u.tries, u.due⟩ : Fs)] w5.heap.size 1 (fun b => b = _) rfl hG5 rfl hx5 (by simp) (by simp only [List.length_cons, List.length_nil]; omega) hB5 ?_
       intro q7 c7 w7 m7 hm7 hF hg hl
       have k7 := (HJ5.out.up hbA).kg.grown hG5 (by decide) hg
       have p1 := Bk.cell k7 0
       have p2 := Bk.frozen k7 0)
    | (go_simp
       go_at_call 124
       refine (HC.out _ hz0).mono ?_
       rintro e w5 ⟨A5, n5, c5, rfl, hn5, hv5, hb5⟩
       have hz5 := hz0.trans (hb5.mono hz0.size)
       have HJ5 := hid (HJq.out.up hz5)
       have g5 : w5.cell? ⟨gg, 0, none⟩ = some vg := Bk.cell HJ5.out.kg 0
       have hbA := enew w5 (.cells #[.int .i64 u.node, .int .i64 u.seq, .slice A5 n5 c5] 45)
       have g5A := (hbA.cell (p := ⟨gg, 0, none⟩) (lt_of_cell g5)).trans g5
       have hG5 := (HJ5.out.up hbA).g
       have hx5 := gx_new (M := [(⟨u.node, u.seq, A5, n5, c5, u.L, u.tries, u.due⟩ : Fs)]) encBt_len (Bk.new w5 45 #[.int .i64 u.node, .int .i64 u.seq, .slice A5 n5 c5]) rfl
       have hB5 := Nat.le_trans (Nat.le_trans HBq.out hz5.size) hbA.size))
  all_goals
    have hgv := (HJ5.out.up hbA).give (x := (⟨u.node, u.seq, A5, n5, c5, u.L, u.tries, u.due⟩ : Fs)) hF hg hl ((hv5.more (Nat.le_trans HBq.out hz0.size)).below hbA) hn5
    have kz7 : Bk w7 (w.heap.size + 1) 123 #[.int .i64 0, .int .i64 0, .slice none 0 0, .int .i64 0, .int .i64 0] := ((((KZ.out.up HPQ.out).up hz5).up hbA)).grown hG5 (by decide) hg
    have kx7 : Bk w7 w.heap.size 123 #[.int .i64 u.node, .int .i64 u.seq, .slice u.A u.n u.c, .int .i64 u.tries, .int .i64 u.due] := ((((KX.out.up HPQ.out).up hz5).up hbA)).grown hG5 (by decide) hg
    have hgw : gg < w.heap.size := HGW.out
    have kz8 := flother (g' := gg) (i := 0) kz7 (by omega) (.slice (some ⟨q7, 0, none⟩) m7 c7)
    have kx8 := flother (g' := gg) (i := 0) kx7 (by omega) (.slice (some ⟨q7, 0, none⟩) m7 c7)
    have hs8 := sts_below ((estep HBb.out (estep HPQ.out hz5)).trans (hbA.mono ((estep HBb.out (estep HPQ.out hz5)).size))) hgv.2
    have H8 := hid (And.intro hgv.1 (And.intro hs8 (And.intro kz8 kx8)))
    clear hgv hs8 kz7 kx7 kz8 kx8 hF hg hl hm7 k7 p1 p2 hv5 hn5 hb5 hz5 HJ5 g5 g5A hbA hG5 hx5 hB5 x0 x1 x2 g0 hz0 HC
    generalize w7.setCell ⟨gg, 0, none⟩ (.slice (some ⟨q7, 0, none⟩) m7 c7) = w8 at *
    have z0 := Bk.cell H8.out.2.2.1 0
    have z1 := Bk.cell H8.out.2.2.1 1
    have z2 := Bk.cell H8.out.2.2.1 2
    have z3 := Bk.cell H8.out.2.2.1 3
    have z4 := Bk.cell H8.out.2.2.1 4
    have y0 := Bk.frozen H8.out.2.2.1 0
    have y1 := Bk.frozen H8.out.2.2.1 1
    have y2 := Bk.frozen H8.out.2.2.1 2
    have y3 := Bk.frozen H8.out.2.2.1 3
    have y4 := Bk.frozen H8.out.2.2.1 4
    go_wp2_with fail
    have K5 := hid (flset5 H8.out.2.2.1 (.int .i64 0) (.int .i64 0) (.slice none 0 0) (.int .i64 0) (.int .i64 0))
    have d0 := Bk.cell K5.out 0
    have d1 := Bk.cell K5.out 1
    have d2 := Bk.cell K5.out 2
    have d3 := Bk.cell K5.out 3
    have d4 := Bk.cell K5.out 4
    (try simp only [Exit.inBlock, Exit.then])
    refine bodyPost_ret (v := .tuple #[.agg #[.int .i64 0, .int .i64 0, .slice none 0 0, .int .i64 0, .int .i64 0], .bool false]) (by simp [results, Try.results122, go_sem, Act.put, d0, d1, d2, d3, d4]) rfl ?_
    obtain ⟨f1, f2, f3, f4⟩ := H8.out
    refine ⟨rfl, _, _, f1.ons (S := fun b => b = w.heap.size + 1) (ons5 _ _ _ _ _ _ _) (fun b hb => by rw [show b = w.heap.size + 1 from hb]; exact f3.kd), rfl, sts_tail f2 (bel5 _ (Nat.le_succ _) _ _ _ _ _)⟩
set_option maxRecDepth 100000 in
set_option maxHeartbeats 8000000 in
/-- What is due, and was not sent so often, is sent again. -/
theorem flstep1_again (B : Nat) (u : Fs) (gn gt gg ga gr : Nat) (now tries : Int) (va : Value) (Va : List Fs) (vg : Value) (Vg : List Fs) (w : World) (hn : w.cell? ⟨gn, 0, none⟩ = some (.int .i64 now)) (ht : w.cell? ⟨gt, 0, none⟩ = some (.int .i64 tries)) (hJ : StJ B w ga gg va Va vg Vg) (hO : FsO w (· < w.heap.size) u) (hu9 : u.n ≤ 1000) (hBw : B ≤ w.heap.size) (hd : ¬ flTime now < u.due) (htr : ¬ tries ≤ u.tries) (hvl : Va.length ≤ 100000) (retry : Int) (hr : w.cell? ⟨gr, 0, none⟩ = some (.int .i64 retry)) (hlo : gn < B ∧ gr < B) (hti : -9223372036854775808 ≤ u.tries ∧ tries ≤ 9223372036854775807) {dn : Int} (hdn : Hid (flDue now retry = dn)) :
    Calls Try.prog 122 #[.agg #[.int .i64 u.node, .int .i64 u.seq, .slice u.A u.n u.c, .int .i64 u.tries, .int .i64 u.due], .pointer (some ⟨gn, 0, none⟩), .pointer (some ⟨gt, 0, none⟩), .pointer (some ⟨gg, 0, none⟩), .pointer (some ⟨ga, 0, none⟩), .pointer (some ⟨gr, 0, none⟩)] w fun e w' => e = .returned (.tuple #[.agg #[.int .i64 u.node, .int .i64 u.seq, .slice u.A u.n u.c, .int .i64 (u.tries + 1), .int .i64 dn], .bool true]) ∧ ∃ va' x, StJ B w' ga gg va' (Va ++ [x]) vg Vg ∧ x.snt = u.snt ∧ OnS (StS B w) w w' := by
  have hb0 := enew w (.cells #[.int .i64 u.node, .int .i64 u.seq, .slice u.A u.n u.c, .int .i64 u.tries, .int .i64 u.due] 123)
  have hb1 := enew (w.alloc (.cells #[.int .i64 u.node, .int .i64 u.seq, .slice u.A u.n u.c, .int .i64 u.tries, .int .i64 u.due] 123)) (.cells #[.int .i64 0, .int .i64 0, .slice none 0 0, .int .i64 0, .int .i64 0] 123)
  have kx := (Bk.new w 123 #[.int .i64 u.node, .int .i64 u.seq, .slice u.A u.n u.c, .int .i64 u.tries, .int .i64 u.due]).up hb1
  have kz := Bk.new (w.alloc (.cells #[.int .i64 u.node, .int .i64 u.seq, .slice u.A u.n u.c, .int .i64 u.tries, .int .i64 u.due] 123)) 123 #[.int .i64 0, .int .i64 0, .slice none 0 0, .int .i64 0, .int .i64 0]
  rw [World.size_alloc] at kz
  have HBb := hid (estep hb0 hb1)
  have KX := hid kx
  have KZ := hid kz
  have hgl : gn < w.heap.size := lt_of_cell hn
  have NN := hid ((HBb.out.cell (p := ⟨gn, 0, none⟩) hgl).trans hn)
  obtain ⟨tn, htn⟩ : ∃ t, flTime now = t := ⟨_, rfl⟩
  have HT := hid (fun w2 => fltime_any now w2 (hid htn))
  have hgt : gt < w.heap.size := lt_of_cell ht
  have TT := hid ((HBb.out.cell (p := ⟨gt, 0, none⟩) hgt).trans ht)
  have HJ := hid hJ
  have HO := hid hO
  have HBw := hid hBw
  have HGW := hid (Bk.lt hJ.ka)
  have hdd : decide (tn < u.due) = false := decide_eq_false (by rw [← htn]; exact hd)
  have hdt : decide (tries ≤ u.tries) = false := decide_eq_false htr
  have hadd : IntKind.i64.wrap (u.tries + 1) = u.tries + 1 := IntWalk.i64_in _ (by omega)
  have HCL := hid (And.intro hn hr)
  have HD := hid (fun w2 => fldue_any now retry w2 hdn)
  clear hb0 hb1 kx kz hn htn hd ht hJ hO hBw hr hdn
  go_enter Try.func122, Try.ntmps122
  go_upto_region 1 with (fail)
  generalize ((w.alloc (.cells #[.int .i64 u.node, .int .i64 u.seq, .slice u.A u.n u.c, .int .i64 u.tries, .int .i64 u.due] 123)).alloc (.cells #[.int .i64 0, .int .i64 0, .slice none 0 0, .int .i64 0, .int .i64 0] 123)) = v0 at *
  have hT : ∀ p : BwS v0, Calls Try.prog 123 #[.int .i64 now] p.w fun e w' => e = .returned (.int .i64 tn) ∧ Below p.w.heap.size p.w w' := fun p => (HT.out p.w).mono fun e w' h => ⟨h.1, by rw [h.2]; exact Below.refl _ _⟩
  have R0 := BwS.cell NN.out
  have x4 : v0.cell? ⟨w.heap.size, 4, none⟩ = some (.int .i64 u.due) := Bk.cell KX.out 4
  have R4 := BwS.cell x4
  clear x4
  refine wp_region_bws (by kernel_rfl) (by kernel_rfl) ?_
  repeat (go_big_quiet_step ((go_at_call 123; exact calls_bws (hT _))))
  refine wpQuiet_nil ?_
  rintro _ ⟨pq, rfl⟩
  have HPQ := hid pq.h
  generalize pq.w = wq at *
  clear R0 R4 hT
  have t3 := (HPQ.out.cell (p := ⟨gt, 0, none⟩) (lt_of_cell TT.out)).trans TT.out
  have x3 : wq.cell? ⟨w.heap.size, 3, none⟩ = some (.int .i64 u.tries) := Bk.cell (KX.out.up HPQ.out) 3
  go_upto_region 6 with (fail)
  clear t3 x3
  have hJq := (HJ.out.swap).up (estep HBb.out HPQ.out)
  have HJq := hid hJq
  have g0 : wq.cell? ⟨ga, 0, none⟩ = some va := Bk.cell hJq.kg 0
  have HC := hid (fun w2 (hb : Below wq.heap.size wq w2) => flcopied_any u.node u.seq u.A u.n u.c u.L w2 ((HO.out.up ((estep HBb.out HPQ.out).trans (hb.mono (estep HBb.out HPQ.out).size))).gx) (hid HO.out.len) (by omega))
  have hz0 : Below wq.heap.size wq wq.drew := (Below.refl _ _).drew
  have kx := KX.out.up HPQ.out
  have x0 := Bk.cell kx 0
  have x1 := Bk.cell kx 1
  have x2 := Bk.cell kx 2
  have HBq : Hid (B ≤ wq.heap.size) := hid (Nat.le_trans HBw.out (estep HBb.out HPQ.out).size)
  clear hJq kx
  go_region_law (first
    | (refine step_append_gxl rowBt rfl _ _ rfl B va Va [(⟨u.node, u.seq, A5, n5, c5, u.L, u.tries, u.due⟩ : Fs)] w5.heap.size 1 (fun b => b = _) rfl hG5 rfl hx5 (by simp) (by simp only [List.length_cons, List.length_nil]; omega) hB5 ?_
       intro q7 c7 w7 m7 hm7 hF hg hl
       have k7 := (HJ5.out.up hbA).kg.grown hG5 (by decide) hg
       have p1 := Bk.cell k7 0
       have p2 := Bk.frozen k7 0)
    | (go_simp
       go_at_call 124
       refine (HC.out _ hz0).mono ?_
       rintro e w5 ⟨A5, n5, c5, rfl, hn5, hv5, hb5⟩
       have hz5 := hz0.trans (hb5.mono hz0.size)
       have HJ5 := hid (HJq.out.up hz5)
       have g5 : w5.cell? ⟨ga, 0, none⟩ = some va := Bk.cell HJ5.out.kg 0
       have hbA := enew w5 (.cells #[.int .i64 u.node, .int .i64 u.seq, .slice A5 n5 c5] 45)
       have g5A := (hbA.cell (p := ⟨ga, 0, none⟩) (lt_of_cell g5)).trans g5
       have hG5 := (HJ5.out.up hbA).g
       have hx5 := gx_new (M := [(⟨u.node, u.seq, A5, n5, c5, u.L, u.tries, u.due⟩ : Fs)]) encBt_len (Bk.new w5 45 #[.int .i64 u.node, .int .i64 u.seq, .slice A5 n5 c5]) rfl
       have hB5 := Nat.le_trans (Nat.le_trans HBq.out hz5.size) hbA.size))
  all_goals
    have hgv := (HJ5.out.up hbA).give (x := (⟨u.node, u.seq, A5, n5, c5, u.L, u.tries, u.due⟩ : Fs)) hF hg hl ((hv5.more (Nat.le_trans HBq.out hz0.size)).below hbA) hn5
    have kz7 : Bk w7 (w.heap.size + 1) 123 #[.int .i64 0, .int .i64 0, .slice none 0 0, .int .i64 0, .int .i64 0] := ((((KZ.out.up HPQ.out).up hz5).up hbA)).grown hG5 (by decide) hg
    have kx7 : Bk w7 w.heap.size 123 #[.int .i64 u.node, .int .i64 u.seq, .slice u.A u.n u.c, .int .i64 u.tries, .int .i64 u.due] := ((((KX.out.up HPQ.out).up hz5).up hbA)).grown hG5 (by decide) hg
    have hgw : ga < w.heap.size := HGW.out
    have kz8 := flother (g' := ga) (i := 0) kz7 (by omega) (.slice (some ⟨q7, 0, none⟩) m7 c7)
    have kx8 := flother (g' := ga) (i := 0) kx7 (by omega) (.slice (some ⟨q7, 0, none⟩) m7 c7)
    have hs8 := sts_below ((estep HBb.out (estep HPQ.out hz5)).trans (hbA.mono ((estep HBb.out (estep HPQ.out hz5)).size))) hgv.2
    have H8 := hid (And.intro hgv.1 (And.intro hs8 (And.intro kz8 kx8)))
    clear hgv hs8 kz7 kx7 kz8 kx8 hF hg hl hm7 k7 p1 p2 hv5 hn5 hb5 hz5 HJ5 g5 g5A hbA hG5 hx5 hB5 x0 x1 x2 g0 hz0 HC
    generalize w7.setCell ⟨ga, 0, none⟩ (.slice (some ⟨q7, 0, none⟩) m7 c7) = w8 at *
    have hB8 : Below B w w8 := OnS.to_below (Below.refl _ _) H8.out.2.1 (fun k _ hk => hk.1) HBw.out
    have n8 := (hB8.cell (p := ⟨gn, 0, none⟩) hlo.1).trans HCL.out.1
    have r8 := (hB8.cell (p := ⟨gr, 0, none⟩) hlo.2).trans HCL.out.2
    have hne1 : ¬ gn = w.heap.size + 1 := by have := HBw.out; omega
    have hne2 : ¬ w.heap.size + 1 = gn := by have := HBw.out; omega
    have hne3 : ¬ gr = w.heap.size + 1 := by have := HBw.out; omega
    have hne4 : ¬ w.heap.size + 1 = gr := by have := HBw.out; omega
    have x0 := Bk.cell (Bk.drew H8.out.2.2.2) 0
    have x1 := Bk.cell (Bk.drew H8.out.2.2.2) 1
    have x2 := Bk.cell (Bk.drew H8.out.2.2.2) 2
    have x3 := Bk.cell (Bk.drew H8.out.2.2.2) 3
    have x4 := Bk.cell (Bk.drew H8.out.2.2.2) 4
    have n9 : w8.drew.cell? ⟨gn, 0, none⟩ = some (.int .i64 now) := n8
    have r9 : w8.drew.cell? ⟨gr, 0, none⟩ = some (.int .i64 retry) := r8
    clear hB8 n8 r8 hne1 hne2 hne3 hne4
    go_upto_region 7 with (fail)
    refine wp_region_still_tail 9 (by kernel_rfl) (by kernel_rfl) ?_
    simp only [List.take_succ_cons, List.take_zero, List.drop_succ_cons, List.drop_zero]
    repeat still_step
    still_call ((HD.out _).mono (by rintro e w3 ⟨rfl, rfl⟩; exact ⟨rfl, rfl⟩))
    repeat still_step
    refine wpStill_nil ?_
    change wpList _ _ _ _ _ w8.drew
    have K9 := hid (Bk.drew H8.out.2.2.1)
    have D9 := hid (show Below w8.heap.size w8 w8.drew from (Below.refl _ _).drew)
    clear x0 x1 x2 x3 x4 n9 r9
    generalize w8.drew = w9 at *
    have z0 := Bk.cell K9.out 0
    have z1 := Bk.cell K9.out 1
    have z2 := Bk.cell K9.out 2
    have z3 := Bk.cell K9.out 3
    have z4 := Bk.cell K9.out 4
    have y0 := Bk.frozen K9.out 0
    have y1 := Bk.frozen K9.out 1
    have y2 := Bk.frozen K9.out 2
    have y3 := Bk.frozen K9.out 3
    have y4 := Bk.frozen K9.out 4
    go_wp2_with fail
    have K5 := hid (flset5 K9.out (.int .i64 u.node) (.int .i64 u.seq) (.slice u.A u.n u.c) (.int .i64 (u.tries + 1)) (.int .i64 dn))
    have d0 := Bk.cell K5.out 0
    have d1 := Bk.cell K5.out 1
    have d2 := Bk.cell K5.out 2
    have d3 := Bk.cell K5.out 3
    have d4 := Bk.cell K5.out 4
    (try simp only [Exit.inBlock, Exit.then])
    refine bodyPost_ret (v := .tuple #[.agg #[.int .i64 u.node, .int .i64 u.seq, .slice u.A u.n u.c, .int .i64 (u.tries + 1), .int .i64 dn], .bool true]) (by simp [results, Try.results122, go_sem, Act.put, d0, d1, d2, d3, d4]) rfl ?_
    obtain ⟨f1, f2, f3, f4⟩ := H8.out
    refine ⟨rfl, _, _, (f1.ons (S := fun b => b = w.heap.size + 1) (OnS.trans (OnS.below D9.out) (ons5 _ _ _ _ _ _ _)) (fun b hb => by rw [show b = w.heap.size + 1 from hb]; exact f3.kd)).swap, rfl, sts_tail f2 ((D9.out.mono f2.size).trans (bel5 _ (Nat.le_succ _) _ _ _ _ _))⟩
end Go.Proofs.Ytpfhmpblcmednaa
namespace Go.Proofs.Ytpfhmpblcmednaa
set_option linter.unusedVariables false
set_option maxRecDepth 100000
set_option linter.unusedSimpArgs false
open Go.RowKit Go.Joins

/-- What becomes of a batch: what it is then, if it rests. -/
def stQ (now retry tries : Int) (u : Fs) : Option Fs := if flTime now < u.due then some u else if tries ≤ u.tries then none else some { u with tries := u.tries + 1, due := flDue now retry }
theorem stQ_rest (now retry tries : Int) : ∀ (U : List Fs) (r : List Snt × List Snt × List Snt), ((U.map Fs.snt).foldl (flStep1 now retry tries) r).1 = r.1 ++ (U.filterMap (stQ now retry tries)).map Fs.snt
  | [], r => by simp
  | u :: U, r => by
    rw [List.map_cons, List.foldl_cons, stQ_rest now retry tries U, List.filterMap_cons]
    unfold flStep1 stQ
    by_cases h1 : flTime now < u.due
    · rw [if_pos (show flTime now < u.snt.due from h1), if_pos h1]
      simp
    · rw [if_neg (show ¬ flTime now < u.snt.due from h1), if_neg h1]
      by_cases h2 : tries ≤ u.tries
      · rw [if_pos (show tries ≤ u.snt.tries from h2), if_pos h2]
      · rw [if_neg (show ¬ tries ≤ u.snt.tries from h2), if_neg h2]
        simp [Fs.snt]
theorem flStep_few (now retry tries : Int) : ∀ (l : List Snt) (r : List Snt × List Snt × List Snt), (l.foldl (flStep1 now retry tries) r).2.1.length ≤ r.2.1.length + l.length ∧ (l.foldl (flStep1 now retry tries) r).2.2.length ≤ r.2.2.length + l.length
  | [], r => ⟨Nat.le_refl _, Nat.le_refl _⟩
  | x :: l, r => by
    rw [List.foldl_cons, List.length_cons]
    have h := flStep_few now retry tries l (flStep1 now retry tries r x)
    have h2 : (flStep1 now retry tries r x).2.1.length ≤ r.2.1.length + 1 ∧ (flStep1 now retry tries r x).2.2.length ≤ r.2.2.length + 1 := by
      unfold flStep1
      split
      · simp
      · split <;> simp
    omega
/-- What Step's function knows behind the first i batches. -/
def StK (B ga gg : Nat) (U : List Fs) (now retry tries : Int) (i : Nat) (w : World) : Prop :=
  ∃ va Va vg Vg, StJ B w ga gg va Va vg Vg ∧ Va.map Fs.snt = (flStep ((U.take i).map Fs.snt) now retry tries).2.1 ∧ Vg.map Fs.snt = (flStep ((U.take i).map Fs.snt) now retry tries).2.2
set_option maxRecDepth 100000 in
theorem flstep_fn (B : Nat) (w : World) (U : List Fs) (n gn gt gg ga gr : Nat) (now retry tries : Int) (hn : w.cell? ⟨gn, 0, none⟩ = some (.int .i64 now)) (hr : w.cell? ⟨gr, 0, none⟩ = some (.int .i64 retry)) (ht : w.cell? ⟨gt, 0, none⟩ = some (.int .i64 tries)) (hlo : gn < B ∧ gr < B ∧ gt < B) (hB : B ≤ w.heap.size) (hS : FP w (· < B) U) (hF : FlF U n) (hti : tries ≤ 9223372036854775807 ∧ ∀ u ∈ U, -9223372036854775808 ≤ u.tries) :
    RsF B w 122 #[.pointer (some ⟨gn, 0, none⟩), .pointer (some ⟨gt, 0, none⟩), .pointer (some ⟨gg, 0, none⟩), .pointer (some ⟨ga, 0, none⟩), .pointer (some ⟨gr, 0, none⟩)] U (stQ now retry tries) (StK B ga gg U now retry tries) where
  eg := fun args w => by first | rfl | (unfold callFunc; rfl) | simp [callFunc]
  run := fun i u w1 hu hb hj => by
    obtain ⟨va, Va, vg, Vg, hJ, ha, hg⟩ := hj
    have hmem := List.mem_of_getElem? hu
    have hn1 := (hb.cell (p := ⟨gn, 0, none⟩) hlo.1).trans hn
    have hr1 := (hb.cell (p := ⟨gr, 0, none⟩) hlo.2.1).trans hr
    have ht1 := (hb.cell (p := ⟨gt, 0, none⟩) hlo.2.2).trans ht
    have hB1 : B ≤ w1.heap.size := Nat.le_trans hB hb.size
    have hO : FsO w1 (· < w1.heap.size) u := ((hS u hmem).same fun b hb' => hb.block b hb').imp fun b hb' => Nat.lt_of_lt_of_le (show b < B from hb') hB1
    have hsn : flStep ((U.take (i + 1)).map Fs.snt) now retry tries = flStep1 now retry tries (flStep ((U.take i).map Fs.snt) now retry tries) u.snt := by
      obtain ⟨hi, rfl⟩ := List.getElem?_eq_some_iff.1 hu
      rw [List.take_succ_eq_append_getElem hi, List.map_append]
      exact flStep_snoc _ _ _ _ _
    have hl := flStep_few now retry tries ((U.take i).map Fs.snt) ([], [], [])
    have hlen : ((U.take i).map Fs.snt).length ≤ 1000 := by
      rw [List.length_map]
      have := List.length_take_le' i U
      have := hF.len
      have := hF.few
      omega
    have hla : Va.length ≤ 100000 := by
      have h1 := congrArg List.length ha
      rw [List.length_map] at h1
      have h2 := hl.1
      unfold flStep at h1
      simp only [List.length_nil] at h2
      omega
    have hlg : Vg.length ≤ 100000 := by
      have h1 := congrArg List.length hg
      rw [List.length_map] at h1
      have h2 := hl.2
      unfold flStep at h1
      simp only [List.length_nil] at h2
      omega
    by_cases h1 : flTime now < u.due
    · refine (flstep1_rest u gn gt gg ga gr now w1 hn1 h1).mono ?_
      rintro e w2 ⟨rfl, hb2⟩
      refine ⟨⟨u, true, rfl, by unfold stQ; rw [if_pos h1]; rfl⟩, ⟨va, Va, vg, Vg, hJ.up hb2, ?_, ?_⟩, OnS.below hb2⟩
      · rw [hsn, ha]; unfold flStep1; rw [if_pos (show flTime now < u.snt.due from h1)]
      · rw [hsn, hg]; unfold flStep1; rw [if_pos (show flTime now < u.snt.due from h1)]
    · by_cases h2 : tries ≤ u.tries
      · refine (flstep1_give B u gn gt gg ga gr now tries va Va vg Vg w1 hn1 ht1 hJ hO (hF.small u hmem).2 hB1 h1 h2 hlg).mono ?_
        rintro e w2 ⟨rfl, vg', x, hJ2, hx, ho⟩
        refine ⟨⟨⟨0, 0, none, 0, 0, [], 0, 0⟩, false, rfl, by unfold stQ; rw [if_neg h1, if_pos h2]; rfl⟩, ⟨va, Va, vg', _, hJ2, ?_, ?_⟩, ho⟩
        · rw [hsn, ha]; unfold flStep1; rw [if_neg (show ¬ flTime now < u.snt.due from h1), if_pos (show tries ≤ u.snt.tries from h2)]
        · rw [hsn, List.map_append, hg]; unfold flStep1; rw [if_neg (show ¬ flTime now < u.snt.due from h1), if_pos (show tries ≤ u.snt.tries from h2)]
          simp [hx]
      · refine (flstep1_again B u gn gt gg ga gr now tries va Va vg Vg w1 hn1 ht1 hJ hO (hF.small u hmem).2 hB1 h1 h2 hla retry hr1 ⟨hlo.1, hlo.2.1⟩ ⟨hti.2 u hmem, hti.1⟩ (hid rfl)).mono ?_
        rintro e w2 ⟨rfl, va', x, hJ2, hx, ho⟩
        refine ⟨⟨{ u with tries := u.tries + 1, due := flDue now retry }, true, rfl, by unfold stQ; rw [if_neg h1, if_neg h2]; rfl⟩, ⟨va', _, vg, Vg, hJ2, ?_, ?_⟩, ho⟩
        · rw [hsn, List.map_append, ha]; unfold flStep1; rw [if_neg (show ¬ flTime now < u.snt.due from h1), if_neg (show ¬ tries ≤ u.snt.tries from h2)]
          simp [hx]
        · rw [hsn, hg]; unfold flStep1; rw [if_neg (show ¬ flTime now < u.snt.due from h1), if_neg (show ¬ tries ≤ u.snt.tries from h2)]
  keep := fun i w1 w2 hj ho => by
    obtain ⟨va, Va, vg, Vg, hJ, ha, hg⟩ := hj
    exact ⟨va, Va, vg, Vg, hJ.ons ho fun b hb => hb.2, ha, hg⟩
  same := fun u r h => by
    unfold stQ at h
    split at h
    · injection h with h; subst h; exact ⟨rfl, rfl, rfl, rfl⟩
    · split at h
      · cases h
      · injection h with h; subst h; exact ⟨rfl, rfl, rfl, rfl⟩
/-- A list of batches, as a value that can be read. -/
def FbV (w : World) (v : Value) (l : List Snt) : Prop := ∃ A n c U, v = .slice A n c ∧ FbO w A n c U ∧ U.map Fs.snt = l
theorem FbV.up {w w' : World} {v : Value} {l : List Snt} (h : FbV w v l) (hb : Below w.heap.size w w') : FbV w' v l := by
  obtain ⟨A, n, c, U, e, ho, hl⟩ := h
  exact ⟨A, n, c, U, e, ho.up hb, hl⟩
theorem fbv_of {w : World} {B : Nat} {v : Value} {V : List Fs} (hg : GB encBt 3 45 w B v V) (hk : FK w B V) : FbV w v (V.map Fs.snt) := by
  obtain ⟨A', c', rfl, h1, h2, h3, h4⟩ := GB.reads encBt_len hg
  refine ⟨A', _, c', V, rfl, ⟨h1.imp fun b hb => hb.2, fun u hu => ?_, rfl⟩, rfl⟩
  obtain ⟨hu1, hu2⟩ := hk u hu
  obtain ⟨A', c', e, k1, k2, k3, k4⟩ := GB.reads encSp_len hu1
  simp only [Value.slice.injEq] at e
  obtain ⟨e1, e2, e3⟩ := e
  exact ⟨e1 ▸ k1.imp fun b hb => hb.2, hu2, fun h => by rw [e3]; exact k2 (e1 ▸ h), by rw [e2, e3]; exact k3, by rw [e3]; exact k4⟩
end Go.Proofs.Ytpfhmpblcmednaa
namespace Go.Proofs.Ytpfhmpblcmednaa
set_option linter.unusedVariables false
set_option maxRecDepth 100000
set_option linter.unusedSimpArgs false
open Go.RowKit Go.Joins

/-- A list of batches, in blocks of its own. -/
def FbK (w : World) (B : Nat) (v : Value) (l : List Snt) : Prop := ∃ A n c U, v = .slice A n c ∧ GB encBt 3 45 w B (.slice A n c) U ∧ FK w B U ∧ U.map Fs.snt = l
theorem FbK.fbv {w : World} {B : Nat} {v : Value} {l : List Snt} (h : FbK w B v l) : FbV w v l := by
  obtain ⟨A, n, c, U, rfl, h1, h2, rfl⟩ := h
  exact fbv_of h1 h2
/-- What Step answers, in new blocks. -/
def FlPk (w : World) (l : List Snt) (now retry tries : Int) (e : Ending) (w' : World) : Prop := ∃ (A : Option Addr) (n c : Nat) (A2 : Option Addr) (n2 c2 : Nat) (A3 : Option Addr) (n3 c3 : Nat), e = .returned (.tuple #[.slice A n c, .slice A2 n2 c2, .slice A3 n3 c3]) ∧ FlK w' w.heap.size (.slice A n c) (flStep l now retry tries).1 ∧ FbK w' w.heap.size (.slice A2 n2 c2) (flStep l now retry tries).2.1 ∧ FbK w' w.heap.size (.slice A3 n3 c3) (flStep l now retry tries).2.2 ∧ Below w.heap.size w w'
/-- What Step answers. -/
def FlP (w : World) (l : List Snt) (now retry tries : Int) (e : Ending) (w' : World) : Prop := ∃ (A : Option Addr) (n c : Nat) (A2 : Option Addr) (n2 c2 : Nat) (A3 : Option Addr) (n3 c3 : Nat), e = .returned (.tuple #[.slice A n c, .slice A2 n2 c2, .slice A3 n3 c3]) ∧ FlV w' (.slice A n c) (flStep l now retry tries).1 ∧ FbV w' (.slice A2 n2 c2) (flStep l now retry tries).2.1 ∧ FbV w' (.slice A3 n3 c3) (flStep l now retry tries).2.2 ∧ Below w.heap.size w w'
set_option maxRecDepth 100000 in
set_option maxHeartbeats 8000000 in
theorem flstep_k (v : Value) (l : List Snt) (now retry tries : Int) (w : World) (hv : FlV w v l) (hG : FlG l) (hti : tries ≤ 9223372036854775807 ∧ ∀ x ∈ l, -9223372036854775808 ≤ x.tries) :
    Calls Try.prog 86 #[v, .int .i64 now, .int .i64 retry, .int .i64 tries] w fun e w' => FlPk w l now retry tries e w' := by
  obtain ⟨A, n, c, U, rfl, hO, rfl⟩ := hv
  have hb1 := enew w (.cells #[.int .i64 now] 3)
  have hb2 := enew (w.alloc (.cells #[.int .i64 now] 3)) (.cells #[.int .i64 retry] 3)
  have hb3 := enew ((w.alloc (.cells #[.int .i64 now] 3)).alloc (.cells #[.int .i64 retry] 3)) (.cells #[.int .i64 tries] 3)
  have hb4 := enew (((w.alloc (.cells #[.int .i64 now] 3)).alloc (.cells #[.int .i64 retry] 3)).alloc (.cells #[.int .i64 tries] 3)) (.cells #[.slice none 0 0] 141)
  have hb5 := enew ((((w.alloc (.cells #[.int .i64 now] 3)).alloc (.cells #[.int .i64 retry] 3)).alloc (.cells #[.int .i64 tries] 3)).alloc (.cells #[.slice none 0 0] 141)) (.cells #[.slice none 0 0] 141)
  have k1 := ((((Bk.new w 3 #[.int .i64 now]).up hb2).up hb3).up hb4).up hb5
  have k2 := (((Bk.new (w.alloc (.cells #[.int .i64 now] 3)) 3 #[.int .i64 retry]).up hb3).up hb4).up hb5
  have k3 := ((Bk.new ((w.alloc (.cells #[.int .i64 now] 3)).alloc (.cells #[.int .i64 retry] 3)) 3 #[.int .i64 tries]).up hb4).up hb5
  have k4 := (Bk.new (((w.alloc (.cells #[.int .i64 now] 3)).alloc (.cells #[.int .i64 retry] 3)).alloc (.cells #[.int .i64 tries] 3)) 141 #[.slice none 0 0]).up hb5
  have k5 := Bk.new ((((w.alloc (.cells #[.int .i64 now] 3)).alloc (.cells #[.int .i64 retry] 3)).alloc (.cells #[.int .i64 tries] 3)).alloc (.cells #[.slice none 0 0] 141)) 141 #[.slice none 0 0]
  simp only [World.size_alloc] at k2 k3 k4 k5
  have hall := estep (estep (estep (estep hb1 hb2) hb3) hb4) hb5
  have hsz : w.heap.size + 3 ≤ (((((w.alloc (.cells #[.int .i64 now] 3)).alloc (.cells #[.int .i64 retry] 3)).alloc (.cells #[.int .i64 tries] 3)).alloc (.cells #[.slice none 0 0] 141)).alloc (.cells #[.slice none 0 0] 141)).heap.size := by simp
  have hF := hG.flf hO
  have hU5 := (hO.up hall)
  have hlt : ∀ b, b < w.heap.size → b < w.heap.size + 3 := fun b hb => by omega
  have hgxB : GX encFs 5 (((((w.alloc (.cells #[.int .i64 now] 3)).alloc (.cells #[.int .i64 retry] 3)).alloc (.cells #[.int .i64 tries] 3)).alloc (.cells #[.slice none 0 0] 141)).alloc (.cells #[.slice none 0 0] 141)) (· < w.heap.size + 3) A U := (hO.gx.same fun b hb => hall.block b hb).imp fun b hb => hlt b hb
  have hfpB : FP (((((w.alloc (.cells #[.int .i64 now] 3)).alloc (.cells #[.int .i64 retry] 3)).alloc (.cells #[.int .i64 tries] 3)).alloc (.cells #[.slice none 0 0] 141)).alloc (.cells #[.slice none 0 0] 141)) (· < w.heap.size + 3) U := (hO.fp.same fun b hb => hall.block b hb).imp fun b hb => hlt b hb
  have hJ0 : StK (w.heap.size + 3) (w.heap.size + 3) (w.heap.size + 4) U now retry tries 0 (((((w.alloc (.cells #[.int .i64 now] 3)).alloc (.cells #[.int .i64 retry] 3)).alloc (.cells #[.int .i64 tries] 3)).alloc (.cells #[.slice none 0 0] 141)).alloc (.cells #[.slice none 0 0] 141)) := ⟨.slice none 0 0, [], .slice none 0 0, [], ⟨k4, k5, GB.nil _ _, GB.nil _ _, fun u hu => (by cases hu), fun u hu => (by cases hu), fun b hb => (by cases hb), by omega⟩, rfl, rfl⟩
  have hfn := flstep_fn (w.heap.size + 3) (((((w.alloc (.cells #[.int .i64 now] 3)).alloc (.cells #[.int .i64 retry] 3)).alloc (.cells #[.int .i64 tries] 3)).alloc (.cells #[.slice none 0 0] 141)).alloc (.cells #[.slice none 0 0] 141)) U n w.heap.size (w.heap.size + 2) (w.heap.size + 4) (w.heap.size + 3) (w.heap.size + 1) now retry tries (Bk.cell k1 0) (Bk.cell k2 0) (Bk.cell k3 0) (by omega) hsz hfpB hF ⟨hti.1, fun u hu => hti.2 u.snt (List.mem_map.2 ⟨u, hu, rfl⟩)⟩
  have HRS := hid (resting_any (w.heap.size + 3) A n c U _ _ _ _ (((((w.alloc (.cells #[.int .i64 now] 3)).alloc (.cells #[.int .i64 retry] 3)).alloc (.cells #[.int .i64 tries] 3)).alloc (.cells #[.slice none 0 0] 141)).alloc (.cells #[.slice none 0 0] 141)) hfn hgxB hfpB hF hsz hJ0)
  have HAL := hid hall
  have HFL := hid hF.len
  clear hb1 hb2 hb3 hb4 hb5 k1 k2 k3 k4 k5 hall hsz hF hU5 hlt hgxB hfpB hJ0 hfn hO hG hti
  go_enter Try.func86, Try.ntmps86
  go_upto_region 1 with (fail)
  generalize (((((w.alloc (.cells #[.int .i64 now] 3)).alloc (.cells #[.int .i64 retry] 3)).alloc (.cells #[.int .i64 tries] 3)).alloc (.cells #[.slice none 0 0] 141)).alloc (.cells #[.slice none 0 0] 141)) = v0 at *
  go_wp2_with fail
  refine HRS.out.mono ?_
  intro e w1 hr
  obtain ⟨A1, n1, c1, V, rfl, hg1, hk1, hm1, hj1, hb1⟩ := hr.slice
  obtain ⟨va, Va, vg, Vg, hJ, ha, hg⟩ := hj1
  rw [List.take_length] at ha hg
  obtain ⟨A2, c2, rfl, -⟩ := GB.reads encBt_len hJ.a
  obtain ⟨A3, c3, rfl, -⟩ := GB.reads encBt_len hJ.g
  obtain ⟨n2, hn2⟩ : ∃ n, Va.length = n := ⟨_, rfl⟩
  obtain ⟨n3, hn3⟩ : ∃ n, Vg.length = n := ⟨_, rfl⟩
  rw [hn2, hn3] at hJ
  have hrest := stQ_rest now retry tries U ([], [], [])
  rw [List.nil_append] at hrest
  have H1 := hid (And.intro hg1 (And.intro hk1 (And.intro (hm1.trans hrest.symm) (And.intro hb1 (And.intro ha hg)))))
  have HJ := hid hJ
  have p0 := Bk.cell hJ.ka 0
  have p1 := Bk.frozen hJ.ka 0
  have q0 := Bk.cell hJ.kg 0
  have q1 := Bk.frozen hJ.kg 0
  clear hr hg1 hk1 hm1 hb1 hJ ha hg hrest HRS hn2 hn3
  go_wp2_with fail
  go_region_law (fail)
  all_goals
    have ho : OnS (fun b => b = w.heap.size + 1 + 1 + 1 ∨ b = w.heap.size + 1 + 1 + 1 + 1) w1 (((w1.setCell ⟨w.heap.size + 1 + 1 + 1, 0, none⟩ (.slice A2 n2 c2)).setCell ⟨w.heap.size + 1 + 1 + 1 + 1, 0, none⟩ (.slice A3 n3 c3)).drew) := (((OnS.refl _ w1).cell _ 0 _ (Or.inl rfl)).cell _ 0 _ (Or.inr rfl)).drew
    have ka8 : Bk (((w1.setCell ⟨w.heap.size + 1 + 1 + 1, 0, none⟩ (.slice A2 n2 c2)).setCell ⟨w.heap.size + 1 + 1 + 1 + 1, 0, none⟩ (.slice A3 n3 c3)).drew) (w.heap.size + 1 + 1 + 1) 141 #[.slice A2 n2 c2] := (flother (g' := w.heap.size + 1 + 1 + 1 + 1) (i := 0) (Bk.set_ HJ.out.ka 0 (.slice A2 n2 c2)) (by omega) (.slice A3 n3 c3)).drew
    have kg8 : Bk (((w1.setCell ⟨w.heap.size + 1 + 1 + 1, 0, none⟩ (.slice A2 n2 c2)).setCell ⟨w.heap.size + 1 + 1 + 1 + 1, 0, none⟩ (.slice A3 n3 c3)).drew) (w.heap.size + 1 + 1 + 1 + 1) 141 #[.slice A3 n3 c3] := (Bk.set_ (flother (g' := w.heap.size + 1 + 1 + 1) (i := 0) HJ.out.kg (by omega) (.slice A2 n2 c2)) 0 (.slice A3 n3 c3)).drew
    have H8 := hid ho
    have d0 := Bk.cell ka8 0
    have d1 := Bk.cell kg8 0
    clear ho ka8 kg8 p0 p1 q0 q1
    generalize ((w1.setCell ⟨w.heap.size + 1 + 1 + 1, 0, none⟩ (.slice A2 n2 c2)).setCell ⟨w.heap.size + 1 + 1 + 1 + 1, 0, none⟩ (.slice A3 n3 c3)).drew = w8 at *
    go_wp2_with fail
    (try simp only [Exit.inBlock, Exit.then])
    refine bodyPost_ret (v := .tuple #[.slice A1 n1 c1, .slice A2 n2 c2, .slice A3 n3 c3]) (by simp [results, Try.results86, go_sem, d0, d1]) rfl ?_
    obtain ⟨f1, f2, f3, f4, f5, f6⟩ := H1.out
    have hk : ∀ b, (b = w.heap.size + 1 + 1 + 1 ∨ b = w.heap.size + 1 + 1 + 1 + 1) → Kd w1 b 141 := fun b hb => by
      rcases hb with rfl | rfl
      · exact HJ.out.ka.kd
      · exact HJ.out.kg.kd
    have hno : ∀ b e, Kd w1 b e → 141 ≠ e → ¬ (b = w.heap.size + 1 + 1 + 1 ∨ b = w.heap.size + 1 + 1 + 1 + 1) := fun b e h1 h2 h3 => Kd.ne (hk b h3) h2 h1
    have hs : ∀ b, Kd w1 b 37 → ¬ (b = w.heap.size + 1 + 1 + 1 ∨ b = w.heap.size + 1 + 1 + 1 + 1) := fun b hb => hno b _ hb (by decide)
    refine ⟨A1, n1, c1, A2, n2, c2, A3, n3, c3, rfl, ⟨A1, n1, c1, V, rfl, (flgb2 f1 H8.out fun b hb => hno b _ (f1.kind b hb) (by decide)).more (by omega), (f2.onS H8.out hs).more (by omega), f3⟩, ?_, ?_, OnS.to_below (HAL.out.trans (f4.mono (by omega))) H8.out (fun k _ hk => by omega) (Nat.le_trans HAL.out.size f4.size)⟩
    · exact ⟨A2, n2, c2, _, rfl, (flgb2 HJ.out.a H8.out fun b hb => hno b _ (HJ.out.a.kind b hb) (by decide)).more (by omega), (HJ.out.fa.onS H8.out hs).more (by omega), f5⟩
    · exact ⟨A3, n3, c3, _, rfl, (flgb2 HJ.out.g H8.out fun b hb => hno b _ (HJ.out.g.kind b hb) (by decide)).more (by omega), (HJ.out.fg.onS H8.out hs).more (by omega), f6⟩
theorem flstep_any (v : Value) (l : List Snt) (now retry tries : Int) (w : World) (hv : FlV w v l) (hG : FlG l) (hti : tries ≤ 9223372036854775807 ∧ ∀ x ∈ l, -9223372036854775808 ≤ x.tries) :
    Calls Try.prog 86 #[v, .int .i64 now, .int .i64 retry, .int .i64 tries] w fun e w' => FlP w l now retry tries e w' := by
  refine (flstep_k v l now retry tries w hv hG hti).mono ?_
  rintro e w' ⟨A, n, c, A2, n2, c2, A3, n3, c3, rfl, h1, h2, h3, h4⟩
  exact ⟨A, n, c, A2, n2, c2, A3, n3, c3, rfl, h1.flv, h2.fbv, h3.fbv, h4⟩
end Go.Proofs.Ytpfhmpblcmednaa
namespace Go.Proofs.Ytpfhmpblcmednaa
set_option linter.unusedVariables false
set_option linter.unusedSimpArgs false
open Go.RowKit Go.Joins

/-- A list of batches under way, in blocks of its own; its spans lie in blocks that N allows. -/
def FlN (w : World) (N : Nat → Prop) (v : Value) (l : List Snt) : Prop := ∃ A n c U, v = .slice A n c ∧ GB encFs 5 123 w 0 (.slice A n c) U ∧ FK w 0 U ∧ (∀ u ∈ U, ∀ q, (Value.slice u.A u.n u.c).ownBlock = some q → N q) ∧ U.map Fs.snt = l
section
variable {w w' : World} {N M S : Nat → Prop} {v : Value} {l : List Snt} {B : Nat}
theorem FlN.flk (h : FlN w N v l) : FlK w 0 v l := by
  obtain ⟨A, n, c, U, e, h1, h2, h3, h4⟩ := h
  exact ⟨A, n, c, U, e, h1, h2, h4⟩
theorem FlN.flv (h : FlN w N v l) : FlV w v l := h.flk.flv
theorem FlK.fln (h : FlK w B v l) : FlN w (fun b => B ≤ b) v l := by
  obtain ⟨A, n, c, U, e, h1, h2, h3⟩ := h
  exact ⟨A, n, c, U, e, h1.more (Nat.zero_le _), h2.more (Nat.zero_le _), fun u hu q hq => (World.ownsRow.lt (h2 u hu).1 q hq).1, h3⟩
theorem FlN.imp (h : FlN w N v l) (hn : ∀ b, b < w.heap.size → N b → M b) : FlN w M v l := by
  obtain ⟨A, n, c, U, e, h1, h2, h3, h4⟩ := h
  exact ⟨A, n, c, U, e, h1, h2, fun u hu q hq => hn q (World.ownsRow.lt (h2 u hu).1 q hq).2 (h3 u hu q hq), h4⟩
theorem FlN.onS (h : FlN w N v l) (ho : OnS S w w') (k1 : ∀ b, Kd w b 123 → ¬ S b) (k2 : ∀ b, Kd w b 37 → N b → ¬ S b) : FlN w' N v l := by
  obtain ⟨A, n, c, U, e, h1, h2, h3, h4⟩ := h
  exact ⟨A, n, c, U, e, flgb2 h1 ho fun q hq => k1 q (h1.kind q hq), fun u hu => ⟨flgb2 (h2 u hu).1 ho fun q hq => k2 q ((h2 u hu).1.kind q hq) (h3 u hu q hq), (h2 u hu).2⟩, h3, h4⟩
theorem FlN.up (h : FlN w N v l) (hb : Below w.heap.size w w') : FlN w' N v l := by
  obtain ⟨A, n, c, U, e, h1, h2, h3, h4⟩ := h
  exact ⟨A, n, c, U, e, h1.below hb, h2.below hb, h3, h4⟩
theorem FlN.nil (w : World) (N : Nat → Prop) : FlN w N (.slice none 0 0) [] := ⟨none, 0, 0, [], rfl, GB.nil _ _, fun u hu => (by cases hu), fun u hu => (by cases hu), rfl⟩
theorem FbK.onS (h : FbK w B v l) (ho : OnS S w w') (k1 : ∀ b, Kd w b 45 → ¬ S b) (k2 : ∀ b, Kd w b 37 → ¬ S b) : FbK w' B v l := by
  obtain ⟨A, n, c, U, e, h1, h2, h3⟩ := h
  exact ⟨A, n, c, U, e, flgb2 h1 ho fun q hq => k1 q (h1.kind q hq), h2.onS ho k2, h3⟩
theorem FlK.onS (h : FlK w B v l) (ho : OnS S w w') (k1 : ∀ b, Kd w b 123 → ¬ S b) (k2 : ∀ b, Kd w b 37 → ¬ S b) : FlK w' B v l := by
  obtain ⟨A, n, c, U, e, h1, h2, h3⟩ := h
  exact ⟨A, n, c, U, e, flgb2 h1 ho fun q hq => k1 q (h1.kind q hq), h2.onS ho k2, h3⟩
end
/-- The limits that an exporter makes nothing of. -/
structure Lw where
  work : Int
  side : Int
  aux : Int
  traces : Int
  lines : Int
/-- An exporter's cells. -/
def exRow (nd : Int) (gb : Nat) (c : Lim) (z : Lw) (v : Value) (nx : Nat) (la : Int) (ac gv : Nat) : Array Value := #[.pointer (some ⟨gb, 0, none⟩), .int .i64 nd, .int .i64 z.work, .int .i64 z.side, .int .i64 z.aux, .int .i64 c.buffer, .int .i64 c.batch, .int .i64 c.every, .int .i64 c.flight, .int .i64 c.retry, .int .i64 c.tries, .int .i64 z.traces, .int .i64 z.lines, .slice none 0 0, v, .int .i64 (nx : Int), .int .i64 la, .int .i64 (ac : Int), .int .i64 (gv : Int)]
/-- An exporter in block g, its buffer in block gb, what waits in block p, if there is any. -/
structure ExH (w : World) (g gb : Nat) (p : Option Nat) (nd : Int) (c : Lim) (z : Lw) (v : Value) (x : Exs) : Prop where
  k : Bk w g 103 (exRow nd gb c z v x.next x.last x.acked x.given)
  b : BfH w gb p (exRoom c) x.buf
  f : FlN w (fun b => some b ≠ p) v x.way
/-- An exporter's blocks. -/
def exS (g gb : Nat) (p : Option Nat) : Nat → Prop := fun b => b = g ∨ b = gb ∨ some b = p
section
variable {w w' : World} {g gb : Nat} {p : Option Nat} {nd : Int} {c : Lim} {z : Lw} {v : Value} {x : Exs}
theorem BfH.kd {room : Nat} {x : Bfr} (h : BfH w gb p room x) : Kd w gb 140 ∧ ∀ q, p = some q → Kd w q 37 := by
  obtain ⟨v, h1, h2, h3, h4⟩ := h
  exact ⟨h1.kd, fun q hq => h2.kind q (h3.trans hq)⟩
theorem ExH.up (h : ExH w g gb p nd c z v x) (hb : Below w.heap.size w w') : ExH w' g gb p nd c z v x := ⟨h.k.up hb, h.b.up hb, h.f.up hb⟩
theorem ExH.lt (h : ExH w g gb p nd c z v x) : ∀ b, exS g gb p b → b < w.heap.size := fun b hb => by
  rcases hb with rfl | rfl | hb
  · exact h.k.lt
  · exact h.b.lt.1
  · exact (h.b.lt.2 b hb.symm).1
theorem ExH.ne (h : ExH w g gb p nd c z v x) : g ≠ gb ∧ some g ≠ p := ⟨fun e => Kd.ne h.k.kd (by decide) (e ▸ h.b.kd.1), fun e => Kd.ne h.k.kd (by decide) (h.b.kd.2 g e.symm)⟩
/-- The exporter's own cells are other ones. -/
theorem ExH.self (h : ExH w g gb p nd c z v x) {y : Exs} {v' : Value} (ho : OnS (fun b => b = g) w w') (hk : Bk w' g 103 (exRow nd gb c z v' y.next y.last y.acked y.given)) (hb : y.buf = x.buf) (hf : FlN w' (fun b => some b ≠ p) v' y.way) : ExH w' g gb p nd c z v' y :=
  ⟨hk, hb ▸ h.b.onS ho (fun e => h.ne.1 e.symm) (fun q hq e => h.ne.2 (by rw [hq, e])), hf⟩
theorem ExH.way (h : ExH w g gb p nd c z v x) (ho : OnS (fun b => b = g) w w') : FlN w' (fun b => some b ≠ p) v x.way :=
  h.f.onS ho (fun b hb e => Kd.ne h.k.kd (by decide) (e ▸ hb)) (fun b hb _ e => Kd.ne h.k.kd (by decide) (e ▸ hb))
/-- The buffer is another one. -/
theorem ExH.buf (h : ExH w g gb p nd c z v x) {p' : Option Nat} {y : Exs} (ho : OnS (fun b => b = gb ∨ some b = p) w w') (hb : BfH w' gb p' (exRoom c) y.buf) (hp : p' = p ∨ ∃ q, p' = some q ∧ w.heap.size ≤ q) (hk : y.next = x.next ∧ y.last = x.last ∧ y.acked = x.acked ∧ y.given = x.given) (hw : y.way = x.way) : ExH w' g gb p' nd c z v y := by
  refine ⟨?_, hb, ?_⟩
  · rw [hk.1, hk.2.1, hk.2.2.1, hk.2.2.2]
    refine h.k.onS ho fun e => ?_
    rcases e with e | e
    · exact h.ne.1 e
    · exact h.ne.2 e
  · rw [hw]
    have h1 := h.f.onS ho (fun b hb e => by
      rcases e with e | e
      · exact Kd.ne h.b.kd.1 (by decide) (e ▸ hb)
      · exact Kd.ne (h.b.kd.2 b e.symm) (by decide) hb) (fun b hb hn e => by
      rcases e with e | e
      · exact Kd.ne h.b.kd.1 (by decide) (e ▸ hb)
      · exact hn e)
    rcases hp with rfl | ⟨q, rfl, hq⟩
    · exact h1
    · have h2 : FlN w (fun b => some b ≠ p ∧ some b ≠ some q) v x.way := h.f.imp fun b hb hn => ⟨hn, fun e => by injection e with e; omega⟩
      refine (h2.onS ho (fun b hb e => ?_) (fun b hb hn e => ?_)).imp fun b _ hn => hn.2
      · rcases e with e | e
        · exact Kd.ne h.b.kd.1 (by decide) (e ▸ hb)
        · exact Kd.ne (h.b.kd.2 b e.symm) (by decide) hb
      · rcases e with e | e
        · exact Kd.ne h.b.kd.1 (by decide) (e ▸ hb)
        · exact hn.1 e
end
end Go.Proofs.Ytpfhmpblcmednaa
namespace Go.Proofs.Ytpfhmpblcmednaa
set_option linter.unusedVariables false
set_option linter.unusedSimpArgs false
open Go.RowKit Go.Joins

def limE (c : Lim) : Int := if limB c = true then 0 else 12
set_option maxRecDepth 100000 in
set_option maxHeartbeats 4000000 in
theorem uptop_any (n m : Int) (w : World) {z : Bool} (H : Hid (upto n m = z)) : Calls Try.prog 82 #[.int .i64 n, .int .i64 m] w fun e w' => e = .returned (.bool z) ∧ w = w' := by
  have e := H.out
  unfold upto at e
  by_cases h1 : 1 ≤ n
  · have hd1 : decide (1 ≤ n) = true := decide_eq_true h1
    have e2 : decide (n ≤ m) = z := by rw [← e]; simp [h1]
    have HE := hid e2
    clear H e e2
    go_enter Try.func82, Try.ntmps82
    go_wp2_with fail
    go_ret
    exact ⟨by rw [← HE.out]; rfl, rfl⟩
  · have hd1 : decide (1 ≤ n) = false := decide_eq_false h1
    have e2 : z = false := by rw [← e]; simp [h1]
    subst e2
    clear H e
    go_enter Try.func82, Try.ntmps82
    go_wp2_with fail
    go_ret
    exact ⟨rfl, rfl⟩
set_option maxRecDepth 100000 in
set_option maxHeartbeats 4000000 in
theorem rupto_any (n m : Int) (w : World) {z : Bool} (H : Hid (upto n m = z)) : Calls Try.prog 39 #[.int .i64 n, .int .i64 m] w fun e w' => e = .returned (.bool z) ∧ w = w' := by
  have e := H.out
  unfold upto at e
  by_cases h1 : 1 ≤ n
  · have hd1 : decide (1 ≤ n) = true := decide_eq_true h1
    have e2 : decide (n ≤ m) = z := by rw [← e]; simp [h1]
    have HE := hid e2
    clear H e e2
    go_enter Try.func39, Try.ntmps39
    go_wp2_with fail
    go_ret
    exact ⟨by rw [← HE.out]; rfl, rfl⟩
  · have hd1 : decide (1 ≤ n) = false := decide_eq_false h1
    have e2 : z = false := by rw [← e]; simp [h1]
    subst e2
    clear H e
    go_enter Try.func39, Try.ntmps39
    go_wp2_with fail
    go_ret
    exact ⟨rfl, rfl⟩
set_option maxRecDepth 100000 in
set_option maxHeartbeats 4000000 in
theorem excheck_any (c : Lim) (z : Lw) (ids : Value) (w : World) {r : Int} (H : Hid (limE c = r)) : Calls Try.prog 43 #[.agg #[.int .i64 z.work, .int .i64 z.side, .int .i64 z.aux, .int .i64 c.buffer, .int .i64 c.batch, .int .i64 c.every, .int .i64 c.flight, .int .i64 c.retry, .int .i64 c.tries, .int .i64 z.traces, .int .i64 z.lines, ids]] w fun e w' => e = .returned (.int .i64 r) ∧ Below w.heap.size w w' := by
  have e := H.out
  unfold limE limB at e
  have hnot := enot
  have hb := hid (enew w (.cells #[.int .i64 z.work, .int .i64 z.side, .int .i64 z.aux, .int .i64 c.buffer, .int .i64 c.batch, .int .i64 c.every, .int .i64 c.flight, .int .i64 c.retry, .int .i64 c.tries, .int .i64 z.traces, .int .i64 z.lines, ids] 24))
  have kb := Bk.new w 24 #[.int .i64 z.work, .int .i64 z.side, .int .i64 z.aux, .int .i64 c.buffer, .int .i64 c.batch, .int .i64 c.every, .int .i64 c.flight, .int .i64 c.retry, .int .i64 c.tries, .int .i64 z.traces, .int .i64 z.lines, ids]
  obtain ⟨z0, h0⟩ : ∃ b, upto c.buffer 64 = b := ⟨_, rfl⟩
  have HU0 := hid (fun w2 => uptop_any c.buffer 64 w2 (hid h0))
  rw [h0] at e
  obtain ⟨z1, h1⟩ : ∃ b, upto c.batch 16 = b := ⟨_, rfl⟩
  have HU1 := hid (fun w2 => uptop_any c.batch 16 w2 (hid h1))
  rw [h1] at e
  obtain ⟨z2, h2⟩ : ∃ b, upto c.every 16 = b := ⟨_, rfl⟩
  have HU2 := hid (fun w2 => uptop_any c.every 16 w2 (hid h2))
  rw [h2] at e
  obtain ⟨z3, h3⟩ : ∃ b, upto c.flight 8 = b := ⟨_, rfl⟩
  have HU3 := hid (fun w2 => uptop_any c.flight 8 w2 (hid h3))
  rw [h3] at e
  obtain ⟨z4, h4⟩ : ∃ b, upto c.retry 8 = b := ⟨_, rfl⟩
  have HU4 := hid (fun w2 => uptop_any c.retry 8 w2 (hid h4))
  rw [h4] at e
  obtain ⟨z5, h5⟩ : ∃ b, upto c.tries 8 = b := ⟨_, rfl⟩
  have HU5 := hid (fun w2 => uptop_any c.tries 8 w2 (hid h5))
  rw [h5] at e
  have HE := hid e
  clear h0 h1 h2 h3 h4 h5 e H
  go_enter Try.func43, Try.ntmps43
  go_upto_region 1 with (fail)
  generalize w.alloc (.cells #[.int .i64 z.work, .int .i64 z.side, .int .i64 z.aux, .int .i64 c.buffer, .int .i64 c.batch, .int .i64 c.every, .int .i64 c.flight, .int .i64 c.retry, .int .i64 c.tries, .int .i64 z.traces, .int .i64 z.lines, ids] 24) = v0 at *
  have q3 := Bk.cell kb 3
  have q4 := Bk.cell kb 4
  have q5 := Bk.cell kb 5
  have q6 := Bk.cell kb 6
  have q7 := Bk.cell kb 7
  have q8 := Bk.cell kb 8
  clear kb
  go_wp2_with fail
  refine (HU0.out _).mono ?_
  rintro e w1 ⟨rfl, rfl⟩
  cases z0
  · go_wp2_with fail
    go_returns
    exact ⟨by have := HE.out; simp at this; rw [← this]; rfl, hb.out⟩
  go_wp2_with fail
  refine (HU1.out _).mono ?_
  rintro e w1 ⟨rfl, rfl⟩
  cases z1
  · go_wp2_with fail
    go_returns
    exact ⟨by have := HE.out; simp at this; rw [← this]; rfl, hb.out⟩
  go_wp2_with fail
  refine (HU2.out _).mono ?_
  rintro e w1 ⟨rfl, rfl⟩
  cases z2
  · go_wp2_with fail
    go_returns
    exact ⟨by have := HE.out; simp at this; rw [← this]; rfl, hb.out⟩
  go_wp2_with fail
  refine (HU3.out _).mono ?_
  rintro e w1 ⟨rfl, rfl⟩
  cases z3
  · go_wp2_with fail
    go_returns
    exact ⟨by have := HE.out; simp at this; rw [← this]; rfl, hb.out⟩
  go_wp2_with fail
  refine (HU4.out _).mono ?_
  rintro e w1 ⟨rfl, rfl⟩
  cases z4
  · go_wp2_with fail
    go_returns
    exact ⟨by have := HE.out; simp at this; rw [← this]; rfl, hb.out⟩
  go_wp2_with fail
  refine (HU5.out _).mono ?_
  rintro e w1 ⟨rfl, rfl⟩
  cases z5
  · go_wp2_with fail
    go_returns
    exact ⟨by have := HE.out; simp at this; rw [← this]; rfl, hb.out⟩
  go_wp2_with fail
  go_returns
  exact ⟨by have := HE.out; simp at this; rw [← this]; rfl, hb.out⟩
set_option maxRecDepth 100000 in
set_option maxHeartbeats 4000000 in
theorem rexcheck_any (c : Lim) (z : Lw) (ids : Value) (w : World) {r : Int} (H : Hid (limE c = r)) : Calls Try.prog 11 #[.agg #[.int .i64 z.work, .int .i64 z.side, .int .i64 z.aux, .int .i64 c.buffer, .int .i64 c.batch, .int .i64 c.every, .int .i64 c.flight, .int .i64 c.retry, .int .i64 c.tries, .int .i64 z.traces, .int .i64 z.lines, ids]] w fun e w' => e = .returned (.int .i64 r) ∧ Below w.heap.size w w' := by
  have e := H.out
  unfold limE limB at e
  have hnot := enot
  have hb := hid (enew w (.cells #[.int .i64 z.work, .int .i64 z.side, .int .i64 z.aux, .int .i64 c.buffer, .int .i64 c.batch, .int .i64 c.every, .int .i64 c.flight, .int .i64 c.retry, .int .i64 c.tries, .int .i64 z.traces, .int .i64 z.lines, ids] 24))
  have kb := Bk.new w 24 #[.int .i64 z.work, .int .i64 z.side, .int .i64 z.aux, .int .i64 c.buffer, .int .i64 c.batch, .int .i64 c.every, .int .i64 c.flight, .int .i64 c.retry, .int .i64 c.tries, .int .i64 z.traces, .int .i64 z.lines, ids]
  obtain ⟨z0, h0⟩ : ∃ b, upto c.buffer 64 = b := ⟨_, rfl⟩
  have HU0 := hid (fun w2 => rupto_any c.buffer 64 w2 (hid h0))
  rw [h0] at e
  obtain ⟨z1, h1⟩ : ∃ b, upto c.batch 16 = b := ⟨_, rfl⟩
  have HU1 := hid (fun w2 => rupto_any c.batch 16 w2 (hid h1))
  rw [h1] at e
  obtain ⟨z2, h2⟩ : ∃ b, upto c.every 16 = b := ⟨_, rfl⟩
  have HU2 := hid (fun w2 => rupto_any c.every 16 w2 (hid h2))
  rw [h2] at e
  obtain ⟨z3, h3⟩ : ∃ b, upto c.flight 8 = b := ⟨_, rfl⟩
  have HU3 := hid (fun w2 => rupto_any c.flight 8 w2 (hid h3))
  rw [h3] at e
  obtain ⟨z4, h4⟩ : ∃ b, upto c.retry 8 = b := ⟨_, rfl⟩
  have HU4 := hid (fun w2 => rupto_any c.retry 8 w2 (hid h4))
  rw [h4] at e
  obtain ⟨z5, h5⟩ : ∃ b, upto c.tries 8 = b := ⟨_, rfl⟩
  have HU5 := hid (fun w2 => rupto_any c.tries 8 w2 (hid h5))
  rw [h5] at e
  have HE := hid e
  clear h0 h1 h2 h3 h4 h5 e H
  go_enter Try.func11, Try.ntmps11
  go_upto_region 1 with (fail)
  generalize w.alloc (.cells #[.int .i64 z.work, .int .i64 z.side, .int .i64 z.aux, .int .i64 c.buffer, .int .i64 c.batch, .int .i64 c.every, .int .i64 c.flight, .int .i64 c.retry, .int .i64 c.tries, .int .i64 z.traces, .int .i64 z.lines, ids] 24) = v0 at *
  have q3 := Bk.cell kb 3
  have q4 := Bk.cell kb 4
  have q5 := Bk.cell kb 5
  have q6 := Bk.cell kb 6
  have q7 := Bk.cell kb 7
  have q8 := Bk.cell kb 8
  clear kb
  go_wp2_with fail
  refine (HU0.out _).mono ?_
  rintro e w1 ⟨rfl, rfl⟩
  cases z0
  · go_wp2_with fail
    go_returns
    exact ⟨by have := HE.out; simp at this; rw [← this]; rfl, hb.out⟩
  go_wp2_with fail
  refine (HU1.out _).mono ?_
  rintro e w1 ⟨rfl, rfl⟩
  cases z1
  · go_wp2_with fail
    go_returns
    exact ⟨by have := HE.out; simp at this; rw [← this]; rfl, hb.out⟩
  go_wp2_with fail
  refine (HU2.out _).mono ?_
  rintro e w1 ⟨rfl, rfl⟩
  cases z2
  · go_wp2_with fail
    go_returns
    exact ⟨by have := HE.out; simp at this; rw [← this]; rfl, hb.out⟩
  go_wp2_with fail
  refine (HU3.out _).mono ?_
  rintro e w1 ⟨rfl, rfl⟩
  cases z3
  · go_wp2_with fail
    go_returns
    exact ⟨by have := HE.out; simp at this; rw [← this]; rfl, hb.out⟩
  go_wp2_with fail
  refine (HU4.out _).mono ?_
  rintro e w1 ⟨rfl, rfl⟩
  cases z4
  · go_wp2_with fail
    go_returns
    exact ⟨by have := HE.out; simp at this; rw [← this]; rfl, hb.out⟩
  go_wp2_with fail
  refine (HU5.out _).mono ?_
  rintro e w1 ⟨rfl, rfl⟩
  cases z5
  · go_wp2_with fail
    go_returns
    exact ⟨by have := HE.out; simp at this; rw [← this]; rfl, hb.out⟩
  go_wp2_with fail
  go_returns
  exact ⟨by have := HE.out; simp at this; rw [← this]; rfl, hb.out⟩
end Go.Proofs.Ytpfhmpblcmednaa
namespace Go.Proofs.Ytpfhmpblcmednaa
set_option linter.unusedVariables false
set_option linter.unusedSimpArgs false
open Go.RowKit Go.Joins

set_option maxRecDepth 100000 in
set_option maxHeartbeats 4000000 in
/-- Len only reads. -/
theorem bfLen_c (g : Nat) (A : Option Addr) (k c : Nat) (w : World) (h3 : w.cell? ⟨g, 1, none⟩ = some (.slice A k c)) :
    Calls Try.prog 58 #[.pointer (some ⟨g, 0, none⟩)] w fun e w' => e = .returned (.int .i64 (k : Int)) ∧ w' = w := by
  go_enter Try.func58, Try.ntmps58
  go_wp2_with fail
  go_returns
  exact ⟨rfl, rfl⟩
theorem BfH.slice {w : World} {g room : Nat} {p : Option Nat} {x : Bfr} (h : BfH w g p room x) {k : Nat} (hk : x.1.length = k) : ∃ A c, w.cell? ⟨g, 1, none⟩ = some (.slice A k c) := by
  obtain ⟨v, h1, h2, -⟩ := h
  obtain ⟨A, c, rfl, -⟩ := GB.reads encSp_len h2
  rw [hk] at h1
  exact ⟨A, c, Bk.cell h1 1⟩
set_option maxRecDepth 100000 in
set_option maxHeartbeats 8000000 in
theorem exready_any (g gb : Nat) (p : Option Nat) (nd : Int) (c : Lim) (z : Lw) (A : Option Addr) (n cap : Nat) (x : Exs) (now : Int) (w : World) (h : ExH w g gb p nd c z (.slice A n cap) x) (hnow : 0 ≤ now ∧ now ≤ 1099511627776) (hla : 0 ≤ x.last ∧ x.last ≤ 1099511627776) {r : Bool} (H : Hid (exNew c x n now = r)) :
    Calls Try.prog 51 #[.pointer (some ⟨g, 0, none⟩), .int .i64 now] w fun e w' => e = .returned (.bool r) ∧ Below w.heap.size w w' := by
  obtain ⟨k, hk⟩ : ∃ k, x.buf.1.length = k := ⟨_, rfl⟩
  obtain ⟨Ab, cb, hlb⟩ := h.b.slice hk
  have HLnw := hid (fun j => bfLen_c gb Ab k cb (w.drewN j) (((below_drewN (Below.refl _ w) j).cell (lt_of_cell hlb)).trans hlb))
  have HKk := hid hk
  have e := H.out
  unfold exNew at e
  rw [hk] at e
  have Hw := hid h
  have hsub : IntKind.i64.wrap (now - x.last) = now - x.last := IntWalk.i64_in _ (by omega)
  clear hk H h
  have q0 : w.cell? ⟨g, 0, none⟩ = some (.pointer (some ⟨gb, 0, none⟩)) := Bk.cell (ExH.k Hw.out) 0
  have q6 : w.cell? ⟨g, 6, none⟩ = some (.int .i64 c.batch) := Bk.cell (ExH.k Hw.out) 6
  have q7 : w.cell? ⟨g, 7, none⟩ = some (.int .i64 c.every) := Bk.cell (ExH.k Hw.out) 7
  have q8 : w.cell? ⟨g, 8, none⟩ = some (.int .i64 c.flight) := Bk.cell (ExH.k Hw.out) 8
  have q14 : w.cell? ⟨g, 14, none⟩ = some (.slice A n cap) := Bk.cell (ExH.k Hw.out) 14
  have q16 : w.cell? ⟨g, 16, none⟩ = some (.int .i64 x.last) := Bk.cell (ExH.k Hw.out) 16
  by_cases h0 : k = 0
  · have er : r = false := by rw [← e]; simp; omega
    subst er
    have hd0 : decide ((k : Int) = 0) = true := decide_eq_true (by omega)
    have hd0b : ((k : Int) == 0) = true := by simp; omega
    have hd0n : decide (k = 0) = true := decide_eq_true h0
    clear e
    go_enter Try.func51, Try.ntmps51
    go_wp2_with fail
    go_quiet ((go_at_call 58; exact Calls.quiet_of_same (HLnw.out _)))
    go_wp2_with fail
    go_returns
    exact ⟨rfl, below_drewN (Below.refl _ w) nq⟩
  have hd0 : decide ((k : Int) = 0) = false := decide_eq_false (by omega)
  have hd0b : ((k : Int) == 0) = false := by simp; omega
  have hd0n : decide (k = 0) = false := decide_eq_false h0
  by_cases h1 : c.flight ≤ (n : Int)
  · have er : r = false := by rw [← e]; simp; omega
    subst er
    have hd1 : decide (c.flight ≤ (n : Int)) = true := decide_eq_true h1
    clear e
    go_enter Try.func51, Try.ntmps51
    go_wp2_with fail
    go_quiet ((go_at_call 58; exact Calls.quiet_of_same (HLnw.out _)))
    go_wp2_with fail
    go_returns
    exact ⟨rfl, below_drewN (Below.refl _ w) nq⟩
  have hd1 : decide (c.flight ≤ (n : Int)) = false := decide_eq_false h1
  go_enter Try.func51, Try.ntmps51
  go_wp2_with fail
  go_quiet ((go_at_call 58; exact Calls.quiet_of_same (HLnw.out _)))
  clear q0 q6 q7 q8 q14 q16
  have HZ := hid (below_drewN (Below.refl w.heap.size w) nq)
  have Hv := hid (Hw.out.up HZ.out)
  obtain ⟨Ac, cc, hlc⟩ := Hv.out.b.slice HKk.out
  have hlb2 : (w.drewN nq).cell? ⟨gb, 1, none⟩ = some (.slice Ab k cb) := (HZ.out.cell (lt_of_cell hlb)).trans hlb
  clear Hw hlb hlc HLnw
  generalize w.drewN nq = v at *
  have HLnv := hid (fun j => bfLen_c gb Ab k cb (v.drewN j) (((below_drewN (Below.refl _ v) j).cell (lt_of_cell hlb2)).trans hlb2))
  clear hlb2
  have q0 : v.cell? ⟨g, 0, none⟩ = some (.pointer (some ⟨gb, 0, none⟩)) := Bk.cell (ExH.k Hv.out) 0
  have q6 : v.cell? ⟨g, 6, none⟩ = some (.int .i64 c.batch) := Bk.cell (ExH.k Hv.out) 6
  have q7 : v.cell? ⟨g, 7, none⟩ = some (.int .i64 c.every) := Bk.cell (ExH.k Hv.out) 7
  have q8 : v.cell? ⟨g, 8, none⟩ = some (.int .i64 c.flight) := Bk.cell (ExH.k Hv.out) 8
  have q14 : v.cell? ⟨g, 14, none⟩ = some (.slice A n cap) := Bk.cell (ExH.k Hv.out) 14
  have q16 : v.cell? ⟨g, 16, none⟩ = some (.int .i64 x.last) := Bk.cell (ExH.k Hv.out) 16
  by_cases h2 : c.batch ≤ (k : Int)
  · have er : r = true := by rw [← e]; simp; omega
    subst er
    have hd2 : decide (c.batch ≤ (k : Int)) = true := decide_eq_true h2
    clear e
    go_wp2_with fail
    go_quiet ((go_at_call 58; exact Calls.quiet_of_same (HLnv.out _)))
    go_wp2_with fail
    go_returns
    exact ⟨rfl, estep HZ.out (below_drewN (Below.refl _ v) _)⟩
  · have hd2 : decide (c.batch ≤ (k : Int)) = false := decide_eq_false h2
    have er : decide (c.every ≤ now - x.last) = r := by rw [← e, decide_eq_decide]; omega
    have HE := hid er
    clear e er
    go_wp2_with fail
    go_quiet ((go_at_call 58; exact Calls.quiet_of_same (HLnv.out _)))
    go_wp2_with fail
    go_returns
    exact ⟨by rw [← HE.out]; rfl, estep HZ.out (below_drewN (Below.refl _ v) _)⟩
end Go.Proofs.Ytpfhmpblcmednaa
namespace Go.Proofs.Ytpfhmpblcmednaa
set_option linter.unusedVariables false
set_option linter.unusedSimpArgs false
open Go.RowKit Go.Joins

def sp3 : List Sp := [sp0, sp0, sp0]
theorem sp3_cells : madeCells (Value.agg #[.int .u64 0, .int .u64 0, .int .u64 0, .int .u64 0, .string ByteArray.empty, .int .i64 0, .int .i64 0, .int .i64 0, .bool false, .int .i64 0, .int .i64 0]).cells 33 = (gvals encSp sp3).toArray := by
  first
    | rfl
    | kernel_rfl
theorem sp3_make (w : World) : (Instr.makeSlice 43 (.int .i64 3) (.int .i64 3)).run Try.prog w = .ok (.slice (some ⟨w.heap.size, 0, none⟩) 3 3) (w.alloc (.cells (gvals encSp sp3).toArray 37)) := by
  obtain ⟨i, hi, hz, hs, hb⟩ := info_parts rowSp.inf
  have := run_make (P := Try.prog) w 43 37 i _ Try.underlying43 hi hz .i64 .i64 3 3 (by omega) (by omega) (by rw [hb]; omega) (by omega)
  rw [this, hs, show Int.toNat 3 * 11 = 33 from rfl, sp3_cells]
  rfl
theorem flspans_v (v : Value) (l : List Snt) (w : World) (hv : FlV w v l) (hG : FlG l) {k : Nat} (H : Hid (flSpans l = k)) :
    Calls Try.prog 59 #[v] w fun e w' => e = .returned (.int .i64 (k : Int)) ∧ Below w.heap.size w w' := by
  obtain ⟨A, n, c, U, rfl, hO, rfl⟩ := hv
  exact flspans_any A n c U w hO.gx (hG.flf hO) H
/-- Lists of one. -/
theorem flv_lit {w : World} {g : Nat} {nd sq : Int} {A : Option Addr} {n c : Nat} {tr du : Int} {L : List Sp} (h : Bk w g 123 #[.int .i64 nd, .int .i64 sq, .slice A n c, .int .i64 tr, .int .i64 du]) (hA : GX encSp 11 w (· < w.heap.size) A L) (hn : L.length = n) (hc : A = none → c = 0) (h1 : n ≤ c) (h2 : c ≤ maxLen) :
    FlV w (.slice (some ⟨g, 0, none⟩) 1 1) [⟨nd, sq, L, tr, du⟩] :=
  ⟨_, 1, 1, [(⟨nd, sq, A, n, c, L, tr, du⟩ : Fs)], rfl, ⟨(gx_new (M := [(⟨nd, sq, A, n, c, L, tr, du⟩ : Fs)]) encFs_len h rfl).imp fun b hb => by
      have e : b = g := hb
      subst e
      exact h.lt, fun u hu => by
      obtain rfl := List.mem_singleton.1 hu
      exact ⟨hA, hn, hc, h1, h2⟩, rfl, (fun h => by cases h), Nat.le_refl _, by unfold maxLen; omega⟩, rfl⟩
theorem fbv_lit {w : World} {g : Nat} {nd sq : Int} {A : Option Addr} {n c : Nat} {tr du : Int} {L : List Sp} (h : Bk w g 45 #[.int .i64 nd, .int .i64 sq, .slice A n c]) (hA : GX encSp 11 w (· < w.heap.size) A L) (hn : L.length = n) (hc : A = none → c = 0) (h1 : n ≤ c) (h2 : c ≤ maxLen) :
    FbV w (.slice (some ⟨g, 0, none⟩) 1 1) [⟨nd, sq, L, tr, du⟩] :=
  ⟨_, 1, 1, [(⟨nd, sq, A, n, c, L, tr, du⟩ : Fs)], rfl, ⟨(gx_new (M := [(⟨nd, sq, A, n, c, L, tr, du⟩ : Fs)]) encBt_len h rfl).imp fun b hb => by
      have e : b = g := hb
      subst e
      exact h.lt, fun u hu => by
      obtain rfl := List.mem_singleton.1 hu
      exact ⟨hA, hn, hc, h1, h2⟩, rfl⟩, rfl⟩
theorem FbV.none {w : World} {A : Option Addr} {n c : Nat} (h : FbV w (.slice A n c) []) : n = 0 := by
  obtain ⟨A', n', c', U, e, ho, hl⟩ := h
  injection e with _ e _
  rw [e, ← ho.len, List.map_eq_nil_iff.1 hl]
  rfl
theorem FlV.count {w : World} {A : Option Addr} {n c : Nat} {l : List Snt} (h : FlV w (.slice A n c) l) : n = l.length := by
  obtain ⟨A', n', c', U, e, ho, hl⟩ := h
  injection e with _ e _
  rw [e, ← ho.len, ← hl, List.length_map]
def s26a : Snt := ⟨0, 4, sp3, 1, 7⟩
def s26b : Snt := ⟨0, 4, sp3, 2, 9⟩
theorem flg_a : FlG [s26a] := ⟨by decide, fun x hx => by
  obtain rfl := List.mem_singleton.1 hx
  decide⟩
theorem flg_b : FlG [s26b] := ⟨by decide, fun x hx => by
  obtain rfl := List.mem_singleton.1 hx
  decide⟩
theorem s26_send : flSend [] 0 4 sp3 5 2 = [s26a] := rfl
theorem s26_step1 : flStep [s26a] 6 2 2 = ([s26a], [], []) := rfl
theorem s26_step2 : flStep [s26a] 7 2 2 = ([s26b], [s26a], []) := rfl
theorem s26_step3 : flStep [s26b] 9 2 2 = ([], [], [s26b]) := rfl
theorem s26_ack : flAck [s26a] 4 = ([], 3) := rfl
theorem flv_nil (w : World) : FlV w (.slice none 0 0) [] := ⟨none, 0, 0, [], rfl, ⟨GX.nil _ _ _, fun u hu => (by cases hu), rfl, fun _ => rfl, Nat.le_refl _, Nat.zero_le _⟩, rfl⟩
theorem s26_tr1 : (2 : Int) ≤ 9223372036854775807 ∧ ∀ x ∈ [s26a], -9223372036854775808 ≤ x.tries := ⟨by omega, fun x hx => by
  obtain rfl := List.mem_singleton.1 hx
  decide⟩
theorem s26_tr2 : (2 : Int) ≤ 9223372036854775807 ∧ ∀ x ∈ [s26b], -9223372036854775808 ≤ x.tries := ⟨by omega, fun x hx => by
  obtain rfl := List.mem_singleton.1 hx
  decide⟩
end Go.Proofs.Ytpfhmpblcmednaa
namespace Go.Proofs.Ytpfhmpblcmednaa
set_option linter.unusedVariables false
set_option linter.unusedSimpArgs false
open Go.RowKit Go.ChangeShapes Go.WideShapes Go.Deep Go.Joins

/-- A move: what is done; a span; a time, or a number. -/
structure Mv27 where
  kind : Int
  s : Sp
  n : Int
def encM27 (m : Mv27) : List Value := [.int .i64 m.kind, .int .u64 (m.s.hi : Int), .int .u64 (m.s.lo : Int), .int .u64 (m.s.id : Int), .int .u64 (m.s.up : Int), .string (bs m.s.name), .int .i64 m.s.status, .int .i64 m.s.seq, .int .i64 m.s.kids, .bool m.s.shade, .int .i64 m.s.start, .int .i64 m.s.fin, .int .i64 m.n]
theorem encM27_len (m : Mv27) : (encM27 m).length = 13 := rfl
/-- The cells of one row. -/
theorem m27_cells {w : World} {N : Nat → Prop} {A : Option Addr} {L : List Mv27} (h : GX encM27 13 w N A L) {i : Nat} {m : Mv27} (hu : L[i]? = some m) : ∃ b p, A = some ⟨b, p, none⟩ ∧ N b ∧
    w.cell? ⟨b, p + i * 13, none⟩ = some (.int .i64 m.kind) ∧ w.cell? ⟨b, p + i * 13 + 1, none⟩ = some (.int .u64 (m.s.hi : Int)) ∧ w.cell? ⟨b, p + i * 13 + 2, none⟩ = some (.int .u64 (m.s.lo : Int)) ∧ w.cell? ⟨b, p + i * 13 + 3, none⟩ = some (.int .u64 (m.s.id : Int)) ∧ w.cell? ⟨b, p + i * 13 + 4, none⟩ = some (.int .u64 (m.s.up : Int)) ∧ w.cell? ⟨b, p + i * 13 + 5, none⟩ = some (.string (bs m.s.name)) ∧ w.cell? ⟨b, p + i * 13 + 6, none⟩ = some (.int .i64 m.s.status) ∧ w.cell? ⟨b, p + i * 13 + 7, none⟩ = some (.int .i64 m.s.seq) ∧ w.cell? ⟨b, p + i * 13 + 8, none⟩ = some (.int .i64 m.s.kids) ∧ w.cell? ⟨b, p + i * 13 + 9, none⟩ = some (.bool m.s.shade) ∧ w.cell? ⟨b, p + i * 13 + 10, none⟩ = some (.int .i64 m.s.start) ∧ w.cell? ⟨b, p + i * 13 + 11, none⟩ = some (.int .i64 m.s.fin) ∧ w.cell? ⟨b, p + i * 13 + 12, none⟩ = some (.int .i64 m.n) := by
  obtain ⟨hi, rfl⟩ := List.getElem?_eq_some_iff.1 hu
  obtain ⟨b, p, e, h1, h2⟩ := h i hi
  exact ⟨b, p, e, h1, h2 0 (by omega), h2 1 (by omega), h2 2 (by omega), h2 3 (by omega), h2 4 (by omega), h2 5 (by omega), h2 6 (by omega), h2 7 (by omega), h2 8 (by omega), h2 9 (by omega), h2 10 (by omega), h2 11 (by omega), h2 12 (by omega)⟩
section
variable {H : Type} {enc : TypeId × Value → H} {P : Program} {w : World} {base : Nat}
theorem m27_of {mt t tr q i u bo : TypeId} {f0 f1 f2 f3 f4 f5 f6 f7 f8 f9 g0 g1 k0 k1 k2 : Field} (T : SpT P t tr q i u bo f0 f1 f2 f3 f4 f5 f6 f7 f8 f9 g0 g1) (hmt : P.underlying mt = some (.struct #[k0, k1, k2])) (hC : P.cellsOf mt = 13) (hk : k0.type = i ∧ k1.type = t ∧ k2.type = i) (ho : k0.offset = 0 ∧ k1.offset = 1 ∧ k2.offset = 12) {sp : Nat → Bool} {hd : Bool} {fuel : Nat} {cs : List Value} {x : DataW H × List MemPlace}
    (h : DataW.trod enc P w base sp hd fuel mt cs = some x) (hz : Sized P mt x.1) : ∃ m : Mv27, okSp m.s ∧ cs = encM27 m := by
  obtain ⟨xs, n, _, hx, hl, hlen, hgg⟩ := DataW.trod_struct hmt h
  rw [hC] at hl
  obtain ⟨t0, t1, t2⟩ := hk
  obtain ⟨o0, o1, o2⟩ := ho
  match cs, hl, xs, hlen with
  | [c0, c1, c2, c3, c4, c5, c6, c7, c8, c9, c10, c11, c12], _, [y0, y1, y2], _ =>
    have h0 := hgg 0 k0 rfl
    have h1 := hgg 1 k1 rfl
    have h2 := hgg 2 k2 rfl
    rw [t0, o0, T.ci] at h0
    rw [t1, o1, T.ct] at h1
    rw [t2, o2, T.ci] at h2
    rw [hx] at hz
    have z1 := sized_part hz hmt (j := 1) (f := k1) (d := y1.1) rfl rfl
    rw [t1] at z1
    obtain ⟨n0, m0, _, _⟩ := DataW.trod_int T.hi h0
    obtain ⟨n2, m2, _, _⟩ := DataW.trod_int T.hi h2
    obtain ⟨s, hs, hc⟩ := span_of T h1 z1
    refine ⟨⟨n0, s, n2⟩, hs, ?_⟩
    have m0' : c0 = .int .i64 n0 := by simpa using m0
    have m2' : c12 = .int .i64 n2 := by simpa using m2
    have hc' : [c1, c2, c3, c4, c5, c6, c7, c8, c9, c10, c11] = encSp s := by simpa [encSp] using hc
    have e : encM27 ⟨n0, s, n2⟩ = [.int .i64 n0] ++ encSp s ++ [.int .i64 n2] := rfl
    rw [e, m0', m2', ← hc']
    rfl
theorem open_M27 {ts mt t tr q i u bo : TypeId} {f0 f1 f2 f3 f4 f5 f6 f7 f8 f9 g0 g1 k0 k1 k2 : Field} (T : SpT P t tr q i u bo f0 f1 f2 f3 f4 f5 f6 f7 f8 f9 g0 g1) (hmt : P.underlying mt = some (.struct #[k0, k1, k2])) (hC : P.cellsOf mt = 13) (hk : k0.type = i ∧ k1.type = t ∧ k2.type = i) (ho : k0.offset = 0 ∧ k1.offset = 1 ∧ k2.offset = 12) (hts : P.underlying ts = some (.slice mt))
    {A0 : Option Addr} {n0 c0 : Nat} {d : DataW H} {p : List MemPlace} (hz : Sized P ts d) (h : DataW.Trod enc P w base (fun _ => true) true ts (.slice A0 n0 c0) d p) :
    ∃ L : List Mv27, RwV encM27 13 w (· < w.heap.size) (.slice A0 n0 c0) L ∧ ∀ m ∈ L, okSp m.s :=
  haveI : Inhabited Mv27 := ⟨⟨0, sp0, 0⟩⟩
  open_rows (by decide) encM27_len hts hC (fun fuel cs x h hz => m27_of T hmt hC hk ho h hz) hz h
theorem open_LIM {r : Reach} {b0 : Nat} {lt i u qs : TypeId} {f0 f1 f2 f3 f4 f5 f6 f7 f8 f9 f10 f11 : Field} (hi : P.underlying i = some (.int .i64)) (ci : P.cellsOf i = 1) (hqs : P.underlying qs = some (.slice u)) (cq : P.cellsOf qs = 1) (hlt : P.underlying lt = some (.struct #[f0, f1, f2, f3, f4, f5, f6, f7, f8, f9, f10, f11])) (hC : P.cellsOf lt = 12)
    (hk : f0.type = i ∧ f1.type = i ∧ f2.type = i ∧ f3.type = i ∧ f4.type = i ∧ f5.type = i ∧ f6.type = i ∧ f7.type = i ∧ f8.type = i ∧ f9.type = i ∧ f10.type = i ∧ f11.type = qs) (ho : f0.offset = 0 ∧ f1.offset = 1 ∧ f2.offset = 2 ∧ f3.offset = 3 ∧ f4.offset = 4 ∧ f5.offset = 5 ∧ f6.offset = 6 ∧ f7.offset = 7 ∧ f8.offset = 8 ∧ f9.offset = 9 ∧ f10.offset = 10 ∧ f11.offset = 11) {v : Value} {d : DataW H} {p : List MemPlace}
    (hv : Value.okWide P w r b0 lt v) (h : DataW.Trod enc P w base (fun _ => true) true lt v d p) :
    ∃ (c : Lim) (z : Lw) (A : Option Addr) (n cp : Nat), v = .agg #[.int .i64 z.work, .int .i64 z.side, .int .i64 z.aux, .int .i64 c.buffer, .int .i64 c.batch, .int .i64 c.every, .int .i64 c.flight, .int .i64 c.retry, .int .i64 c.tries, .int .i64 z.traces, .int .i64 z.lines, .slice A n cp] := by
  obtain ⟨cs, rfl, hsz⟩ := okWide_struct hlt hv
  obtain ⟨fuel, hff⟩ := h
  obtain ⟨l⟩ := cs
  obtain ⟨xs, n, _, hx, hl, hlen, hgg⟩ := DataW.trod_struct hlt hff
  rw [hC] at hl
  change l.length = 12 at hl
  obtain ⟨t0, t1, t2, t3, t4, t5, t6, t7, t8, t9, t10, t11⟩ := hk
  obtain ⟨o0, o1, o2, o3, o4, o5, o6, o7, o8, o9, o10, o11⟩ := ho
  match l, hl, xs, hlen with
  | [c0, c1, c2, c3, c4, c5, c6, c7, c8, c9, c10, c11], _, [y0, y1, y2, y3, y4, y5, y6, y7, y8, y9, y10, y11], _ =>
    have h0 := hgg 0 f0 rfl
    rw [t0, o0, ci] at h0
    have h1 := hgg 1 f1 rfl
    rw [t1, o1, ci] at h1
    have h2 := hgg 2 f2 rfl
    rw [t2, o2, ci] at h2
    have h3 := hgg 3 f3 rfl
    rw [t3, o3, ci] at h3
    have h4 := hgg 4 f4 rfl
    rw [t4, o4, ci] at h4
    have h5 := hgg 5 f5 rfl
    rw [t5, o5, ci] at h5
    have h6 := hgg 6 f6 rfl
    rw [t6, o6, ci] at h6
    have h7 := hgg 7 f7 rfl
    rw [t7, o7, ci] at h7
    have h8 := hgg 8 f8 rfl
    rw [t8, o8, ci] at h8
    have h9 := hgg 9 f9 rfl
    rw [t9, o9, ci] at h9
    have h10 := hgg 10 f10 rfl
    rw [t10, o10, ci] at h10
    have h11 := hgg 11 f11 rfl
    rw [t11, o11, cq] at h11
    obtain ⟨n0, m0, _, _⟩ := DataW.trod_int hi h0
    have e0 : c0 = .int .i64 n0 := by simpa [Value.cells] using m0
    obtain ⟨n1, m1, _, _⟩ := DataW.trod_int hi h1
    have e1 : c1 = .int .i64 n1 := by simpa [Value.cells] using m1
    obtain ⟨n2, m2, _, _⟩ := DataW.trod_int hi h2
    have e2 : c2 = .int .i64 n2 := by simpa [Value.cells] using m2
    obtain ⟨n3, m3, _, _⟩ := DataW.trod_int hi h3
    have e3 : c3 = .int .i64 n3 := by simpa [Value.cells] using m3
    obtain ⟨n4, m4, _, _⟩ := DataW.trod_int hi h4
    have e4 : c4 = .int .i64 n4 := by simpa [Value.cells] using m4
    obtain ⟨n5, m5, _, _⟩ := DataW.trod_int hi h5
    have e5 : c5 = .int .i64 n5 := by simpa [Value.cells] using m5
    obtain ⟨n6, m6, _, _⟩ := DataW.trod_int hi h6
    have e6 : c6 = .int .i64 n6 := by simpa [Value.cells] using m6
    obtain ⟨n7, m7, _, _⟩ := DataW.trod_int hi h7
    have e7 : c7 = .int .i64 n7 := by simpa [Value.cells] using m7
    obtain ⟨n8, m8, _, _⟩ := DataW.trod_int hi h8
    have e8 : c8 = .int .i64 n8 := by simpa [Value.cells] using m8
    obtain ⟨n9, m9, _, _⟩ := DataW.trod_int hi h9
    have e9 : c9 = .int .i64 n9 := by simpa [Value.cells] using m9
    obtain ⟨n10, m10, _, _⟩ := DataW.trod_int hi h10
    have e10 : c10 = .int .i64 n10 := by simpa [Value.cells] using m10
    obtain ⟨A, na, ca, e11⟩ : ∃ A n cp, c11 = .slice A n cp := by
      rcases DataW.trod_slice hqs h11 with ⟨e, -⟩ | ⟨a, len, cap, _, _, _, _, e, -⟩
      · exact ⟨none, 0, 0, by simpa [Value.cells] using e⟩
      · exact ⟨some a, len, cap, by simpa [Value.cells] using e⟩
    refine ⟨⟨n3, n4, n5, n6, n7, n8⟩, ⟨n0, n1, n2, n9, n10⟩, A, na, ca, ?_⟩
    rw [e0, e1, e2, e3, e4, e5, e6, e7, e8, e9, e10, e11]
end
end Go.Proofs.Ytpfhmpblcmednaa
