/- The walks of LineValues and LineCaps. -/
import Derived.Test.YtmejcchkoflciaaDoorGh
namespace Go.Proofs.YtmejcchkoflciaaDoor
set_option linter.unusedVariables false
set_option linter.unusedSimpArgs false
open Go.RowKit Go.Joins

def wideL (L : List Prt) : Prop := (∀ p ∈ L, p.2.length ≤ 140737488351232) ∧ L.length ≤ 9223372036854775807
theorem fewPt_ok {L : List Prt} (h : fewPt L = true) : (∀ p ∈ L, p.2.length ≤ 100000) ∧ L.length ≤ 1000 := by
  simp only [fewPt, Bool.and_eq_true, decide_eq_true_eq, List.all_eq_true] at h
  exact ⟨fun p hp => by have := h.2 p hp; omega, by omega⟩
set_option maxRecDepth 100000 in
set_option maxHeartbeats 8000000 in
theorem lineValues_walk (p : Prt) (L : List Prt) (y : Value) (r : Rec) (x : Value) (hp : p.2.length ≤ 140737488351232) (hL : wideL L) (hr : wideR r) (w : World) (E : EnvL w) (hy : PtV w y L) (hx : HV w x r.L) :
    Calls Tryd.prog 7 #[.agg #[.int .i64 p.1, .string (bs p.2)], y, .agg #[.string (bs r.m), .string (bs r.h), .string (bs r.p), x, .string (bs r.b), .string (bs r.tg), .int .i64 r.st, .int .i64 r.ve, .string (bs r.tr), .int .i64 r.sa, .int .i64 r.en]] w fun e w' => e = .returned (.bool true) ∧ Below w.heap.size w w' := by
  obtain ⟨pk, pt⟩ := p
  simp only at hp ⊢
  have hnot := enot
  have kp : BPt (w.alloc (.cells #[.int .i64 pk, .string (bs pt)] 35)) w.heap.size (pk, pt) := Bk.new _ _ _
  have hbA := enew w (.cells #[.int .i64 pk, .string (bs pt)] 35)
  have kr : BRc ((w.alloc (.cells #[.int .i64 pk, .string (bs pt)] 35)).alloc (.cells #[.string (bs r.m), .string (bs r.h), .string (bs r.p), x, .string (bs r.b), .string (bs r.tg), .int .i64 r.st, .int .i64 r.ve, .string (bs r.tr), .int .i64 r.sa, .int .i64 r.en] 44)) (w.alloc (.cells #[.int .i64 pk, .string (bs pt)] 35)).heap.size r x := Bk.new _ _ _
  rw [World.size_alloc] at kr
  have hbB := enew (w.alloc (.cells #[.int .i64 pk, .string (bs pt)] 35)) (.cells #[.string (bs r.m), .string (bs r.h), .string (bs r.p), x, .string (bs r.b), .string (bs r.tg), .int .i64 r.st, .int .i64 r.ve, .string (bs r.tr), .int .i64 r.sa, .int .i64 r.en] 44)
  have hbC := estep hbA hbB
  have KP := hid (kp.up hbB)
  have KR := hid kr
  have HB := hid hbC
  have HX := hid (hx.up hbC)
  have HY := hid (hy.up hbC)
  have HE := hid (E.up hbC)
  have HR := hid hr
  have HL := hid hL
  obtain ⟨Ax, cx, rfl, -⟩ := hx
  obtain ⟨A, c, rfl, -⟩ := hy
  clear hbA hbB hbC kp kr E hr hL
  go_enter Tryd.func7, Tryd.ntmps7
  go_upto_region 1 with (fail)
  generalize (w.alloc (.cells #[.int .i64 pk, .string (bs pt)] 35)).alloc (.cells #[.string (bs r.m), .string (bs r.h), .string (bs r.p), .slice Ax r.L.length cx, .string (bs r.b), .string (bs r.tg), .int .i64 r.st, .int .i64 r.ve, .string (bs r.tr), .int .i64 r.sa, .int .i64 r.en] 44) = v0 at *
  have HF := hid (fewpt_any L _ v0 HY.out HL.out.2)
  have HF2 := hid (few20_any r _ v0 HR.out HX.out)
  have HK := hid (fun w2 (h2 : Below v0.heap.size v0 w2) => known20_any w2 (HE.out.up h2))
  have HB0 := hid (Below.refl v0.heap.size v0)
  obtain ⟨t0, t1⟩ := KP.out.cells
  obtain ⟨r0, r1, r2, r3, r4, r5, r6, r7, r8, r9, r10⟩ := KR.out.cells
  simp only at t0 t1
  obtain ⟨z1, hz1⟩ : ∃ z, fewPt L = z := ⟨_, rfl⟩
  obtain ⟨z2, hz2⟩ : ∃ z, few20 r = z := ⟨_, rfl⟩
  have HZ := hid (And.intro hz1 hz2)
  rw [hz1] at HF
  rw [hz2] at HF2
  clear hz1 hz2
  cases z1
  · go_wp2_with fail
    refine HF.out.mono ?_
    rintro e w1 ⟨rfl, rfl⟩
    go_wp2_with fail
    refine (HK.out _ HB0.out).mono ?_
    rintro e w3 ⟨rfl, hb3⟩
    have H3 := hid hb3
    clear hb3
    go_wp2_with fail
    go_returns
    exact ⟨rfl, estep HB.out H3.out⟩
  · by_cases h3 : pt.length ≤ 300
    · have d3 : decide ((300 : Int) < (pt.length : Int)) = false := by simp; omega
      go_wp2_with fail
      refine HF.out.mono ?_
      rintro e w1 ⟨rfl, rfl⟩
      go_wp2_with fail
      refine HF2.out.mono ?_
      rintro e w2 ⟨rfl, hb2⟩
      have H2 := hid hb2
      clear hb2 t0 t1 r0 r1 r2 r3 r4 r5 r6 r7 r8 r9 r10
      cases z2
      · go_wp2_with fail
        refine (HK.out _ H2.out).mono ?_
        rintro e w3 ⟨rfl, hb3⟩
        have H3 := hid (estep H2.out hb3)
        clear hb3
        go_wp2_with fail
        go_returns
        exact ⟨rfl, estep HB.out H3.out⟩
      · have HO := hid (few20_ok HR.out HZ.out.2)
        have HP := hid (fewPt_ok HZ.out.1)
        obtain ⟨t0, t1⟩ := (KP.out.up H2.out).cells
        obtain ⟨r0, r1, r2, r3, r4, r5, r6, r7, r8, r9, r10⟩ := (KR.out.up H2.out).cells
        simp only at t0 t1
        have HV1 := hid (fun q : BwL w2 => calls_bwl (v0 := w2) (p := q) (val20_any (pk, pt) r _ q.w HO.out (by simp only; omega) (HX.out.up (estep H2.out q.h)) (HE.out.up (estep H2.out q.h))))
        have HV2 := hid (fun q : BwL w2 => calls_bwl (v0 := w2) (p := q) (rval20_any (pk, pt) r _ q.w HO.out (by simp only; omega) (HX.out.up (estep H2.out q.h)) (HE.out.up (estep H2.out q.h))))
        have HV3 := hid (fun q : BwL w2 => calls_bwl (v0 := w2) (p := q) (render_any L _ r _ q.w HO.out HP.out.1 HP.out.2 (HY.out.up (estep H2.out q.h)) (HX.out.up (estep H2.out q.h)) (HE.out.up (estep H2.out q.h))))
        have HV4 := hid (fun q : BwL w2 => calls_bwl (v0 := w2) (p := q) (rrender_any L _ r _ q.w HO.out HP.out.1 HP.out.2 (HY.out.up (estep H2.out q.h)) (HX.out.up (estep H2.out q.h)) (HE.out.up (estep H2.out q.h))))
        have HV5 := hid (fun q : BwL w2 => calls_bwl (v0 := w2) (p := q) (HK.out q.w (estep H2.out q.h)))
        generalize valL r (pk, pt) = vl at *
        generalize rendL r L = rl at *
        simp only at HV1 HV2
        have e0 := BwL.cell t0
        have e1 := BwL.cell t1
        have q0 := BwL.cell r0
        have q1 := BwL.cell r1
        have q2 := BwL.cell r2
        have q3 := BwL.cell r3
        have q4 := BwL.cell r4
        have q5 := BwL.cell r5
        have q6 := BwL.cell r6
        have q7 := BwL.cell r7
        have q8 := BwL.cell r8
        have q9 := BwL.cell r9
        have q10 := BwL.cell r10
        clear t0 t1 r0 r1 r2 r3 r4 r5 r6 r7 r8 r9 r10
        go_wp2_with fail
        refine wp_region_bwl (by kernel_rfl) (by kernel_rfl) ?_
        repeat (go_big_quiet_step (first
          | (go_at_call 23; exact HV1.out _)
          | (go_at_call 24; exact HV2.out _)
          | (go_at_call 25; exact HV3.out _)
          | (go_at_call 26; exact HV4.out _)
          | (go_at_call 18; exact HV5.out _)))
        refine wpQuiet_nil ?_
        rintro _ ⟨pq, rfl⟩
        have H3 := hid (estep H2.out pq.h)
        generalize pq.w = w3 at *
        go_wp2_with fail
        go_returns
        exact ⟨rfl, estep HB.out H3.out⟩
    · have d3 : decide ((300 : Int) < (pt.length : Int)) = true := by simp; omega
      go_wp2_with fail
      refine HF.out.mono ?_
      rintro e w1 ⟨rfl, rfl⟩
      go_wp2_with fail
      refine (HK.out _ HB0.out).mono ?_
      rintro e w3 ⟨rfl, hb3⟩
      have H3 := hid hb3
      clear hb3
      go_wp2_with fail
      go_returns
      exact ⟨rfl, estep HB.out H3.out⟩
set_option maxRecDepth 100000 in
set_option maxHeartbeats 8000000 in
theorem lineCaps_walk (L : List Prt) (y : Value) (r : Rec) (x : Value) (hL : wideL L) (hr : wideR r) (w : World) (E : EnvL w) (hy : PtV w y L) (hx : HV w x r.L) :
    Calls Tryd.prog 8 #[y, .agg #[.string (bs r.m), .string (bs r.h), .string (bs r.p), x, .string (bs r.b), .string (bs r.tg), .int .i64 r.st, .int .i64 r.ve, .string (bs r.tr), .int .i64 r.sa, .int .i64 r.en]] w fun e w' => e = .returned (.bool true) ∧ Below w.heap.size w w' := by
  have hnot := enot
  have kr : BRc (w.alloc (.cells #[.string (bs r.m), .string (bs r.h), .string (bs r.p), x, .string (bs r.b), .string (bs r.tg), .int .i64 r.st, .int .i64 r.ve, .string (bs r.tr), .int .i64 r.sa, .int .i64 r.en] 44)) w.heap.size r x := Bk.new _ _ _
  have hbC := enew w (.cells #[.string (bs r.m), .string (bs r.h), .string (bs r.p), x, .string (bs r.b), .string (bs r.tg), .int .i64 r.st, .int .i64 r.ve, .string (bs r.tr), .int .i64 r.sa, .int .i64 r.en] 44)
  have KR := hid kr
  have HB := hid hbC
  have HX := hid (hx.up hbC)
  have HY := hid (hy.up hbC)
  have HE := hid (E.up hbC)
  have HR := hid hr
  have HL := hid hL
  obtain ⟨Ax, cx, rfl, -⟩ := hx
  obtain ⟨A, c, rfl, -⟩ := hy
  clear hbC kr E hr hL
  go_enter Tryd.func8, Tryd.ntmps8
  go_upto_region 1 with (fail)
  generalize w.alloc (.cells #[.string (bs r.m), .string (bs r.h), .string (bs r.p), .slice Ax r.L.length cx, .string (bs r.b), .string (bs r.tg), .int .i64 r.st, .int .i64 r.ve, .string (bs r.tr), .int .i64 r.sa, .int .i64 r.en] 44) = v0 at *
  have HF := hid (fewpt_any L _ v0 HY.out HL.out.2)
  have HF2 := hid (few20_any r _ v0 HR.out HX.out)
  have HK := hid (fun w2 (h2 : Below v0.heap.size v0 w2) => known20_any w2 (HE.out.up h2))
  have HB0 := hid (Below.refl v0.heap.size v0)
  obtain ⟨r0, r1, r2, r3, r4, r5, r6, r7, r8, r9, r10⟩ := KR.out.cells
  obtain ⟨z1, hz1⟩ : ∃ z, fewPt L = z := ⟨_, rfl⟩
  obtain ⟨z2, hz2⟩ : ∃ z, few20 r = z := ⟨_, rfl⟩
  have HZ := hid (And.intro hz1 hz2)
  rw [hz1] at HF
  rw [hz2] at HF2
  clear hz1 hz2
  cases z1
  · go_wp2_with fail
    refine HF.out.mono ?_
    rintro e w1 ⟨rfl, rfl⟩
    go_wp2_with fail
    refine (HK.out _ HB0.out).mono ?_
    rintro e w3 ⟨rfl, hb3⟩
    have H3 := hid hb3
    clear hb3
    go_wp2_with fail
    go_returns
    exact ⟨rfl, estep HB.out H3.out⟩
  · go_wp2_with fail
    refine HF.out.mono ?_
    rintro e w1 ⟨rfl, rfl⟩
    go_wp2_with fail
    refine HF2.out.mono ?_
    rintro e w2 ⟨rfl, hb2⟩
    have H2 := hid hb2
    clear hb2 r0 r1 r2 r3 r4 r5 r6 r7 r8 r9 r10
    cases z2
    · go_wp2_with fail
      refine (HK.out _ H2.out).mono ?_
      rintro e w3 ⟨rfl, hb3⟩
      have H3 := hid (estep H2.out hb3)
      clear hb3
      go_wp2_with fail
      go_returns
      exact ⟨rfl, estep HB.out H3.out⟩
    · have HO := hid (few20_ok HR.out HZ.out.2)
      have HP := hid (fewPt_ok HZ.out.1)
      have HRN := hid (render_any L _ r _ w2 HO.out HP.out.1 HP.out.2 (HY.out.up H2.out) (HX.out.up H2.out) (HE.out.up H2.out))
      obtain ⟨r0, r1, r2, r3, r4, r5, r6, r7, r8, r9, r10⟩ := (KR.out.up H2.out).cells
      have HRL := hid (show rendL r L = if 120 < (allL r L).length then (allL r L).take 119 ++ [126] else allL r L from rfl)
      generalize rendL r L = rl at *
      have hl1000 := HP.out.2
      go_wp2_with fail
      refine HRN.out.mono ?_
      rintro e w3 ⟨rfl, hb3⟩
      have H3 := hid (estep H2.out hb3)
      clear hb3 r0 r1 r2 r3 r4 r5 r6 r7 r8 r9 r10
      go_wp2_with fail
      go_loopw [6, 7] (fun v i wr => ∃ k : Nat, k ≤ L.length ∧ i = .int .i64 k ∧ (∃ t : List UInt8, v = .string (bs t) ∧ t.length ≤ 400001 * k ∧ Hid (t = allL r (L.take k))) ∧ Hid (Below v0.heap.size v0 wr)) (fun _ i _ => L.length - (intOf i).toNat)
      case atStart => exact ⟨0, by omega, rfl, ⟨[], rfl, by simp, hid (by simp [allL])⟩, H3⟩
      case round =>
        obtain ⟨k, hk, rfl, ⟨t, rfl, ht, HT⟩, HW⟩ := hrel
        by_cases hlt : k < L.length
        · obtain ⟨r0, r1, r2, r3, r4, r5, r6, r7, r8, r9, r10⟩ := (KR.out.up HW.out).cells
          obtain ⟨A', c', ey, hAA⟩ := HY.out.up HW.out
          injection ey with ey1 ey2 ey3
          subst ey1
          obtain ⟨b, o, rfl, hB, c0, c1⟩ := GX.pt hAA k hlt
          clear hAA ey3 ey2
          have HS := hid (allL_take r L k hlt)
          have HQ := hid (HP.out.1 _ (List.getElem_mem hlt))
          generalize L[k] = q at *
          obtain ⟨pk, pt⟩ := q
          simp only at c0 c1 HQ
          have HV0 := hid (fun w2 (h2 : Below v0.heap.size v0 w2) => val20_any (pk, pt) r _ w2 HO.out HQ.out (HX.out.up h2) (HE.out.up h2))
          have hvl := valL_len HO.out (pk, pt) HQ.out
          generalize valL r (pk, pt) = vl at *
          have HVB := hid (fun p : BwL wr => calls_bwl (v0 := wr) (p := p) (HV0.out p.w (estep HW.out p.h)))
          have q0 := BwL.cell r0
          have q1 := BwL.cell r1
          have q2 := BwL.cell r2
          have q3 := BwL.cell r3
          have q4 := BwL.cell r4
          have q5 := BwL.cell r5
          have q6 := BwL.cell r6
          have q7 := BwL.cell r7
          have q8 := BwL.cell r8
          have q9 := BwL.cell r9
          have q10 := BwL.cell r10
          have e0 := BwL.cell c0
          have e1 := BwL.cell c1
          have hi0 : (0 : Int) ≤ (k : Int) := by omega
          have hi1 : (k : Int) < (L.length : Int) := by omega
          clear r0 r1 r2 r3 r4 r5 r6 r7 r8 r9 r10 c0 c1
          go_wp2_with fail
          refine wp_region_bwl (by kernel_rfl) (by kernel_rfl) ?_
          repeat (go_big_quiet_step ((go_at_call 23; exact HVB.out _)))
          refine wpQuiet_nil ?_
          rintro _ ⟨pq, rfl⟩
          have H4 := hid (estep HW.out pq.h)
          generalize pq.w = w4 at *
          go_wp2_with fail
          go_roundw
          case rel => exact ⟨k + 1, by omega, by go_num, ⟨t ++ vl, by first | rfl | simp [bs_append], by simp; omega, hid (by rw [HS.out, ← HT.out])⟩, H4⟩
          case measure => simp [intOf]; omega
        · obtain rfl : k = L.length := by omega
          have h1 := HT.out
          rw [List.take_length] at h1
          have HTT := hid h1
          clear h1
          by_cases hgt : 120 < t.length
          · have hr0 := HRL.out
            rw [← HTT.out, if_pos hgt] at hr0
            have hr1 : rl.length = 120 := by rw [hr0, List.length_append, List.length_take, List.length_singleton]; omega
            have hr2 : rl.take 119 = t.take 119 := by rw [hr0, List.take_append_of_le_length (by rw [List.length_take]; omega), List.take_take]; rfl
            have hr3 : ∀ h : 119 < rl.length, rl[119]'h = 126 := by
              intro h
              subst hr0
              rw [List.getElem_append_right (by rw [List.length_take]; omega)]
              simp
            have g1 : decide ((t.length : Int) ≤ 120) = false := by simp; omega
            have g2 : ((rl.length : Int) == 120) = true := by simp; omega
            have g3 : (119 : Int) ≤ (rl.length : Int) := by omega
            have g4 : (119 : Int) ≤ (t.length : Int) := by omega
            have g5 : (119 : Int) < (rl.length : Int) := by omega
            have g6 : 119 < rl.length := by omega
            have x1 : (bs rl).extract 0 119 = bs (t.take 119) := by rw [bs_extract]; simp [hr2]
            have x2 : (bs t).extract 0 119 = bs (t.take 119) := by rw [bs_extract]; simp
            have x3 := hr3 g6
            have HV5 := hid (fun q : BwL wr => calls_bwl (v0 := wr) (p := q) (HK.out q.w (estep HW.out q.h)))
            clear hr0 hr1 hr2 hr3 hgt
            go_wp2_with fail
            refine wp_region_bwl (by kernel_rfl) (by kernel_rfl) ?_
            repeat (go_big_quiet_step ((go_at_call 18; exact HV5.out _)))
            refine wpQuiet_nil ?_
            rintro _ ⟨pq, rfl⟩
            have H4 := hid (estep HW.out pq.h)
            generalize pq.w = w4 at *
            go_wp2_with fail
            go_returns
            exact ⟨rfl, estep HB.out H4.out⟩
          · have hr0 := HRL.out
            rw [← HTT.out, if_neg hgt] at hr0
            subst hr0
            have g1 : decide ((rl.length : Int) ≤ 120) = true := by simp; omega
            clear hgt
            go_wp2_with fail
            refine (HK.out _ HW.out).mono ?_
            rintro e w4 ⟨rfl, hb4⟩
            have H4 := hid (estep HW.out hb4)
            clear hb4
            go_wp2_with fail
            go_returns
            exact ⟨rfl, estep HB.out H4.out⟩
end Go.Proofs.YtmejcchkoflciaaDoor
