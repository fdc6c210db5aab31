import Derived.Test.YtmdlkoigjacipaaRo
import Derived.Test.YtmdlkoigjacipaaEg
namespace Go.Proofs.Ytmdlkoigjacipaa
set_option linter.unusedVariables false
set_option linter.unusedSimpArgs false
open Go.RowKit Go.Joins

set_option maxRecDepth 100000 in
set_option maxHeartbeats 16000000 in
theorem ruleChecks_walk (x : Value) (s : Rs) (m : okRs s) (y : Value) (l : List (List UInt8)) (w : World) (hp : PV w (· < w.heap.size) x s.ps) (hy : TX w (· < w.heap.size) y l) :
    Calls Try.prog 6 #[.agg #[.int .i64 s.rank, x, .string (bs s.tg), .int .i64 s.ap, .int .i64 s.st, .int .i64 s.dp, .int .i64 s.dt, .int .i64 s.mp, .string (bs s.mi), .int .i64 s.sm], y] w fun e w' => e = .returned (.bool true) ∧ Below w.heap.size w w' := by
  have hnot := enot
  obtain ⟨A, c, rfl, hpx, hA, hlc, hl9⟩ := hp
  obtain ⟨B, cn, ey⟩ : ∃ B cn, y = .slice B l.length cn := by
    obtain ⟨B, cn, e, _⟩ := hy
    exact ⟨B, cn, e⟩
  subst ey
  obtain ⟨-, hN, hln, hle⟩ := hy.at_
  have hln : l.length ≤ 9223372036854775807 := by unfold maxLen at hln; omega
  have hle : ∀ e ∈ l, e.length ≤ 9223372036854775807 := fun e he => by have := hle e he; unfold maxLen at this; omega
  obtain ⟨rk, ps, tg, ap, st, dp, dt, mp, mi, sm⟩ := s
  obtain ⟨m0, m1, m2, m3⟩ := m
  simp only at hpx hA hlc hl9 m0 m1 m2 m3 ⊢
  have hu : UV w ⟨rk, A, ps.length, c, ps, tg, ap, st, dp, dt, mp, mi, sm⟩ := ⟨A, c, rfl, hpx, hA, hlc, hl9⟩
  have hb0 := enew w (.cells #[.int .i64 rk, .slice A ps.length c, .string (bs tg), .int .i64 ap, .int .i64 st, .int .i64 dp, .int .i64 dt, .int .i64 mp, .string (bs mi), .int .i64 sm] 39)
  have hr0 := BR.new w ⟨rk, A, ps.length, c, ps, tg, ap, st, dp, dt, mp, mi, sm⟩
  have hN0 := stx_up hN hb0
  have hpx0 := hpx.up hb0
  obtain ⟨z, hz⟩ : ∃ z, chkR ⟨rk, ps, tg, ap, st, dp, dt, mp, mi, sm⟩ l = z := ⟨_, rfl⟩
  have hu0 := UV.up hu hb0
  have a1 : IntKind.i64.wrap ((tg.length : Int) + (mi.length : Int)) = (tg.length : Int) + (mi.length : Int) := IntWalk.i64_in _ (by omega)
  obtain ⟨zf, hzf⟩ : ∃ z, fewP ps = z := ⟨_, rfl⟩
  obtain ⟨zn, hzn⟩ : ∃ z, fewN l = z := ⟨_, rfl⟩
  have HF := hid (fun w2 (h2 : PX w2 (· < w2.heap.size) A ps) => pfew_any A c ps w2 h2 hl9 m0 (hid hzf))
  have HNM := hid (fun w2 (h2 : STexts w2 (· < w2.heap.size) B l) => names_any B cn l _ w2 h2 hln hle (hid hzn))
  have HC1 := hid (fun w2 (h1 : UV w2 ⟨rk, A, ps.length, c, ps, tg, ap, st, dp, dt, mp, mi, sm⟩) (h2 : STexts w2 (· < w2.heap.size) B l) => rcheck_any ⟨rk, A, ps.length, c, ps, tg, ap, st, dp, dt, mp, mi, sm⟩ B cn l w2 h1 ⟨m0, m1, m2, m3⟩ h2 hln (hid hz))
  have HC2 := hid (fun w2 (h1 : UV w2 ⟨rk, A, ps.length, c, ps, tg, ap, st, dp, dt, mp, mi, sm⟩) (h2 : STexts w2 (· < w2.heap.size) B l) => rrcheck_any ⟨rk, A, ps.length, c, ps, tg, ap, st, dp, dt, mp, mi, sm⟩ B cn l w2 h1 ⟨m0, m1, m2, m3⟩ h2 hln (hid hz))
  clear hu hz hzf hzn hN hy hpx
  simp only at HC1 HC2
  go_enter Try.func6, Try.ntmps6
  go_upto_region 1 with (fail)
  generalize w.alloc (.cells #[.int .i64 rk, .slice A ps.length c, .string (bs tg), .int .i64 ap, .int .i64 st, .int .i64 dp, .int .i64 dt, .int .i64 mp, .string (bs mi), .int .i64 sm] 39) = v0 at *
  have HB := hid hb0
  clear hb0
  obtain ⟨r0, r1, r2, r3, r4, r5, r6, r7, r8, r9⟩ := hr0.cells
  go_wp2_with fail
  refine (HF.out _ hpx0).mono ?_
  rintro e w1 ⟨rfl, hb1⟩
  have HB1 := hid (estep HB.out hb1)
  have hr1 := hr0.up hb1
  have hN1 := stx_up hN0 hb1
  have hu1 := UV.up hu0 hb1
  clear r0 r1 r2 r3 r4 r5 r6 r7 r8 r9 hr0 hN0 hu0 hpx0 hb1
  obtain ⟨r0, r1, r2, r3, r4, r5, r6, r7, r8, r9⟩ := hr1.cells
  cases zf
  · go_wp2_with fail
    refine (known12_any _).mono ?_
    rintro e w2 ⟨rfl, hb2⟩
    go_wp2_with fail
    go_returns
    exact ⟨rfl, estep HB1.out hb2⟩
  cases zn
  · go_wp2_with (first
      | (with_reducible refine (HNM.out _ hN1).mono ?_
         rintro e wq ⟨rfl, rfl⟩))
    refine (known12_any _).mono ?_
    rintro e w2 ⟨rfl, hb2⟩
    go_wp2_with fail
    go_returns
    exact ⟨rfl, estep HB1.out hb2⟩
  by_cases hle4 : tg.length + mi.length ≤ 400
  · have hd : decide ((400 : Int) < (tg.length : Int) + (mi.length : Int)) = false := decide_eq_false (by omega)
    go_upto_region 3 with (first
      | (with_reducible refine (HNM.out _ hN1).mono ?_
         rintro e wq ⟨rfl, rfl⟩))
    have R0 := BW.cell r0
    have R1 := BW.cell r1
    have R2 := BW.cell r2
    have R3 := BW.cell r3
    have R4 := BW.cell r4
    have R5 := BW.cell r5
    have R6 := BW.cell r6
    have R7 := BW.cell r7
    have R8 := BW.cell r8
    have R9 := BW.cell r9
    clear r0 r1 r2 r3 r4 r5 r6 r7 r8 r9
    refine wp_region_bw (by kernel_rfl) (by kernel_rfl) ?_
    repeat (go_big_quiet_step ((first
      | (go_at_call 20; exact calls_bw (HC1.out _ (UV.up hu1 (BW.h _)) (stx_up hN1 (BW.h _))))
      | (go_at_call 21; exact calls_bw (HC2.out _ (UV.up hu1 (BW.h _)) (stx_up hN1 (BW.h _))))
      | (go_at_call 19; exact calls_bw (known12_any _)))))
    refine wpQuiet_nil ?_
    rintro _ ⟨pq, rfl⟩
    go_wp2_with fail
    go_returns
    exact ⟨rfl, estep HB1.out pq.h⟩
  · have hd : decide ((400 : Int) < (tg.length : Int) + (mi.length : Int)) = true := decide_eq_true (by omega)
    go_wp2_with (first
      | (with_reducible refine (HNM.out _ hN1).mono ?_
         rintro e wq ⟨rfl, rfl⟩))
    refine (known12_any _).mono ?_
    rintro e w2 ⟨rfl, hb2⟩
    go_wp2_with fail
    go_returns
    exact ⟨rfl, estep HB1.out hb2⟩
end Go.Proofs.Ytmdlkoigjacipaa
