import Derived.Test.YtmdlkoigjacipaaRg
import Derived.Test.YtmdlkoigjacipaaEd
namespace Go.Proofs.Ytmdlkoigjacipaa
set_option linter.unusedVariables false
set_option linter.unusedSimpArgs false
open Go.RowKit Go.Joins

set_option maxRecDepth 100000 in
set_option maxHeartbeats 16000000 in
theorem inranges_any (u : Ru) (w : World) {z : Bool} (H : Hid (rngR u.sem = z)) :
    Calls Try.prog 41 #[.agg #[.int .i64 u.rank, .slice u.xa u.xn u.xc, .string (bs u.tg), .int .i64 u.ap, .int .i64 u.st, .int .i64 u.dp, .int .i64 u.dt, .int .i64 u.mp, .string (bs u.mi), .int .i64 u.sm]] w fun e w' => e = .returned (.bool z) ∧ Below w.heap.size w w' := by
  have hb0 := enew w (.cells #[.int .i64 u.rank, .slice u.xa u.xn u.xc, .string (bs u.tg), .int .i64 u.ap, .int .i64 u.st, .int .i64 u.dp, .int .i64 u.dt, .int .i64 u.mp, .string (bs u.mi), .int .i64 u.sm] 39)
  have hr0 := BR.new w u
  have HC := hid (show rngR u.sem = (inPct u.ap && (inPct u.dp && (inPct u.mp && (inPct u.sm && (((decide (400 ≤ u.st) && decide (u.st ≤ 599)) || (decide (u.ap = 0) && decide (u.st = 0))) && ((decide (1 ≤ u.dt) && decide (u.dt ≤ 50)) || (decide (u.dp = 0) && decide (u.dt = 0)))))))) from rfl)
  obtain ⟨z1, hz1⟩ : ∃ z, inPct u.ap = z := ⟨_, rfl⟩
  obtain ⟨z2, hz2⟩ : ∃ z, inPct u.dp = z := ⟨_, rfl⟩
  obtain ⟨z3, hz3⟩ : ∃ z, inPct u.mp = z := ⟨_, rfl⟩
  obtain ⟨z4, hz4⟩ : ∃ z, inPct u.sm = z := ⟨_, rfl⟩
  obtain ⟨z5, hz5⟩ : ∃ z, (decide (400 ≤ u.st) && decide (u.st ≤ 599)) = z := ⟨_, rfl⟩
  obtain ⟨z6, hz6⟩ : ∃ z, (decide (u.ap = 0) && decide (u.st = 0)) = z := ⟨_, rfl⟩
  obtain ⟨z7, hz7⟩ : ∃ z, (decide (1 ≤ u.dt) && decide (u.dt ≤ 50)) = z := ⟨_, rfl⟩
  obtain ⟨z8, hz8⟩ : ∃ z, (decide (u.dp = 0) && decide (u.dt = 0)) = z := ⟨_, rfl⟩
  have C1 := hid (fun w2 => ispart_any u.ap w2 (hid hz1))
  have C2 := hid (fun w2 => ispart_any u.dp w2 (hid hz2))
  have C3 := hid (fun w2 => ispart_any u.mp w2 (hid hz3))
  have C4 := hid (fun w2 => ispart_any u.sm w2 (hid hz4))
  have C5 := hid (fun w2 => rwithin_any u.st 400 599 w2 (hid hz5))
  have C6 := hid (fun w2 => unused_any u.ap u.st w2 (hid hz6))
  have C7 := hid (fun w2 => rwithin_any u.dt 1 50 w2 (hid hz7))
  have C8 := hid (fun w2 => unused_any u.dp u.dt w2 (hid hz8))
  rw [hz1, hz2, hz3, hz4, hz5, hz6, hz7, hz8] at HC
  clear hz1 hz2 hz3 hz4 hz5 hz6 hz7 hz8
  go_enter Try.func41, Try.ntmps41
  go_upto_region 1 with (fail)
  generalize w.alloc (.cells #[.int .i64 u.rank, .slice u.xa u.xn u.xc, .string (bs u.tg), .int .i64 u.ap, .int .i64 u.st, .int .i64 u.dp, .int .i64 u.dt, .int .i64 u.mp, .string (bs u.mi), .int .i64 u.sm] 39) = v0 at *
  have HB := hid hb0
  clear hb0
  obtain ⟨r0, r1, r2, r3, r4, r5, r6, r7, r8, r9⟩ := hr0.cells
  clear hr0 r0 r1 r2 r8
  cases z1
  · go_wp2_with (first
      | (with_reducible refine (C1.out _).mono ?_
         rintro e wq ⟨rfl, rfl⟩)
      | (with_reducible refine (C2.out _).mono ?_
         rintro e wq ⟨rfl, rfl⟩)
      | (with_reducible refine (C3.out _).mono ?_
         rintro e wq ⟨rfl, rfl⟩)
      | (with_reducible refine (C4.out _).mono ?_
         rintro e wq ⟨rfl, rfl⟩)
      | (with_reducible refine (C5.out _).mono ?_
         rintro e wq ⟨rfl, rfl⟩)
      | (with_reducible refine (C6.out _).mono ?_
         rintro e wq ⟨rfl, rfl⟩)
      | (with_reducible refine (C7.out _).mono ?_
         rintro e wq ⟨rfl, rfl⟩)
      | (with_reducible refine (C8.out _).mono ?_
         rintro e wq ⟨rfl, rfl⟩))
    go_returns
    exact ⟨by rw [← H.out, HC.out]; simp, HB.out⟩
  cases z2
  · go_wp2_with (first
      | (with_reducible refine (C1.out _).mono ?_
         rintro e wq ⟨rfl, rfl⟩)
      | (with_reducible refine (C2.out _).mono ?_
         rintro e wq ⟨rfl, rfl⟩)
      | (with_reducible refine (C3.out _).mono ?_
         rintro e wq ⟨rfl, rfl⟩)
      | (with_reducible refine (C4.out _).mono ?_
         rintro e wq ⟨rfl, rfl⟩)
      | (with_reducible refine (C5.out _).mono ?_
         rintro e wq ⟨rfl, rfl⟩)
      | (with_reducible refine (C6.out _).mono ?_
         rintro e wq ⟨rfl, rfl⟩)
      | (with_reducible refine (C7.out _).mono ?_
         rintro e wq ⟨rfl, rfl⟩)
      | (with_reducible refine (C8.out _).mono ?_
         rintro e wq ⟨rfl, rfl⟩))
    go_returns
    exact ⟨by rw [← H.out, HC.out]; simp, HB.out⟩
  cases z3
  · go_wp2_with (first
      | (with_reducible refine (C1.out _).mono ?_
         rintro e wq ⟨rfl, rfl⟩)
      | (with_reducible refine (C2.out _).mono ?_
         rintro e wq ⟨rfl, rfl⟩)
      | (with_reducible refine (C3.out _).mono ?_
         rintro e wq ⟨rfl, rfl⟩)
      | (with_reducible refine (C4.out _).mono ?_
         rintro e wq ⟨rfl, rfl⟩)
      | (with_reducible refine (C5.out _).mono ?_
         rintro e wq ⟨rfl, rfl⟩)
      | (with_reducible refine (C6.out _).mono ?_
         rintro e wq ⟨rfl, rfl⟩)
      | (with_reducible refine (C7.out _).mono ?_
         rintro e wq ⟨rfl, rfl⟩)
      | (with_reducible refine (C8.out _).mono ?_
         rintro e wq ⟨rfl, rfl⟩))
    go_returns
    exact ⟨by rw [← H.out, HC.out]; simp, HB.out⟩
  cases z4
  · go_wp2_with (first
      | (with_reducible refine (C1.out _).mono ?_
         rintro e wq ⟨rfl, rfl⟩)
      | (with_reducible refine (C2.out _).mono ?_
         rintro e wq ⟨rfl, rfl⟩)
      | (with_reducible refine (C3.out _).mono ?_
         rintro e wq ⟨rfl, rfl⟩)
      | (with_reducible refine (C4.out _).mono ?_
         rintro e wq ⟨rfl, rfl⟩)
      | (with_reducible refine (C5.out _).mono ?_
         rintro e wq ⟨rfl, rfl⟩)
      | (with_reducible refine (C6.out _).mono ?_
         rintro e wq ⟨rfl, rfl⟩)
      | (with_reducible refine (C7.out _).mono ?_
         rintro e wq ⟨rfl, rfl⟩)
      | (with_reducible refine (C8.out _).mono ?_
         rintro e wq ⟨rfl, rfl⟩))
    go_returns
    exact ⟨by rw [← H.out, HC.out]; simp, HB.out⟩
  cases z5
  · cases z6
    · go_wp2_with (first
        | (with_reducible refine (C1.out _).mono ?_
           rintro e wq ⟨rfl, rfl⟩)
        | (with_reducible refine (C2.out _).mono ?_
           rintro e wq ⟨rfl, rfl⟩)
        | (with_reducible refine (C3.out _).mono ?_
           rintro e wq ⟨rfl, rfl⟩)
        | (with_reducible refine (C4.out _).mono ?_
           rintro e wq ⟨rfl, rfl⟩)
        | (with_reducible refine (C5.out _).mono ?_
           rintro e wq ⟨rfl, rfl⟩)
        | (with_reducible refine (C6.out _).mono ?_
           rintro e wq ⟨rfl, rfl⟩)
        | (with_reducible refine (C7.out _).mono ?_
           rintro e wq ⟨rfl, rfl⟩)
        | (with_reducible refine (C8.out _).mono ?_
           rintro e wq ⟨rfl, rfl⟩))
      go_returns
      exact ⟨by rw [← H.out, HC.out]; simp, HB.out⟩
    · cases z7
      · cases z8
        all_goals
          go_wp2_with (first
            | (with_reducible refine (C1.out _).mono ?_
               rintro e wq ⟨rfl, rfl⟩)
            | (with_reducible refine (C2.out _).mono ?_
               rintro e wq ⟨rfl, rfl⟩)
            | (with_reducible refine (C3.out _).mono ?_
               rintro e wq ⟨rfl, rfl⟩)
            | (with_reducible refine (C4.out _).mono ?_
               rintro e wq ⟨rfl, rfl⟩)
            | (with_reducible refine (C5.out _).mono ?_
               rintro e wq ⟨rfl, rfl⟩)
            | (with_reducible refine (C6.out _).mono ?_
               rintro e wq ⟨rfl, rfl⟩)
            | (with_reducible refine (C7.out _).mono ?_
               rintro e wq ⟨rfl, rfl⟩)
            | (with_reducible refine (C8.out _).mono ?_
               rintro e wq ⟨rfl, rfl⟩))
          go_returns
          exact ⟨by rw [← H.out, HC.out]; simp, HB.out⟩
      · go_wp2_with (first
          | (with_reducible refine (C1.out _).mono ?_
             rintro e wq ⟨rfl, rfl⟩)
          | (with_reducible refine (C2.out _).mono ?_
             rintro e wq ⟨rfl, rfl⟩)
          | (with_reducible refine (C3.out _).mono ?_
             rintro e wq ⟨rfl, rfl⟩)
          | (with_reducible refine (C4.out _).mono ?_
             rintro e wq ⟨rfl, rfl⟩)
          | (with_reducible refine (C5.out _).mono ?_
             rintro e wq ⟨rfl, rfl⟩)
          | (with_reducible refine (C6.out _).mono ?_
             rintro e wq ⟨rfl, rfl⟩)
          | (with_reducible refine (C7.out _).mono ?_
             rintro e wq ⟨rfl, rfl⟩)
          | (with_reducible refine (C8.out _).mono ?_
             rintro e wq ⟨rfl, rfl⟩))
        go_returns
        exact ⟨by rw [← H.out, HC.out]; simp, HB.out⟩
  · cases z7
    · cases z8
      all_goals
        go_wp2_with (first
          | (with_reducible refine (C1.out _).mono ?_
             rintro e wq ⟨rfl, rfl⟩)
          | (with_reducible refine (C2.out _).mono ?_
             rintro e wq ⟨rfl, rfl⟩)
          | (with_reducible refine (C3.out _).mono ?_
             rintro e wq ⟨rfl, rfl⟩)
          | (with_reducible refine (C4.out _).mono ?_
             rintro e wq ⟨rfl, rfl⟩)
          | (with_reducible refine (C5.out _).mono ?_
             rintro e wq ⟨rfl, rfl⟩)
          | (with_reducible refine (C6.out _).mono ?_
             rintro e wq ⟨rfl, rfl⟩)
          | (with_reducible refine (C7.out _).mono ?_
             rintro e wq ⟨rfl, rfl⟩)
          | (with_reducible refine (C8.out _).mono ?_
             rintro e wq ⟨rfl, rfl⟩))
        go_returns
        exact ⟨by rw [← H.out, HC.out]; simp, HB.out⟩
    · go_wp2_with (first
        | (with_reducible refine (C1.out _).mono ?_
           rintro e wq ⟨rfl, rfl⟩)
        | (with_reducible refine (C2.out _).mono ?_
           rintro e wq ⟨rfl, rfl⟩)
        | (with_reducible refine (C3.out _).mono ?_
           rintro e wq ⟨rfl, rfl⟩)
        | (with_reducible refine (C4.out _).mono ?_
           rintro e wq ⟨rfl, rfl⟩)
        | (with_reducible refine (C5.out _).mono ?_
           rintro e wq ⟨rfl, rfl⟩)
        | (with_reducible refine (C6.out _).mono ?_
           rintro e wq ⟨rfl, rfl⟩)
        | (with_reducible refine (C7.out _).mono ?_
           rintro e wq ⟨rfl, rfl⟩)
        | (with_reducible refine (C8.out _).mono ?_
           rintro e wq ⟨rfl, rfl⟩))
      go_returns
      exact ⟨by rw [← H.out, HC.out]; simp, HB.out⟩
end Go.Proofs.Ytmdlkoigjacipaa
