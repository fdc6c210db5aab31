import Derived.Test.YtmdlkoigjacipaaRi
namespace Go.Proofs.Ytmdlkoigjacipaa
set_option linter.unusedVariables false
set_option linter.unusedSimpArgs false
open Go.RowKit Go.Joins

theorem stx_up {w w' : World} {A : Option Addr} {l : List (List UInt8)} (h : STexts w (· < w.heap.size) A l) (hb : Below w.heap.size w w') : STexts w' (· < w'.heap.size) A l := by
  intro k hk
  obtain ⟨ad, e, h1, h2⟩ := (STexts.below h hb) k hk
  exact ⟨ad, e, Nat.lt_of_lt_of_le h1 hb.size, h2⟩
/-- What is said of a rule, in the order in which it is said. -/
theorem chkR_eq (r : Rs) (names : List (List UInt8)) {zr zt zm zi : Bool} {ze : Int} (h1 : (decide (0 ≤ r.rank) && decide (r.rank ≤ 99)) = zr) (h2 : chkL r.ps = ze) (h3 : inN names r.tg = zt) (h4 : inN names r.mi = zm) (h5 : rngR r = zi) :
    chkR r names = if zr = false then 12 else if ze ≠ 0 then ze else if zt = false ∨ (r.mi ≠ [] ∧ zm = false) then 7 else if zi = false then 12 else if 0 < r.mp ∧ r.mi = [] then 9 else 0 := by
  subst h1 h2 h3 h4 h5
  have h1 : ((decide (0 ≤ r.rank) && decide (r.rank ≤ 99)) = false) ↔ (r.rank < 0 ∨ 99 < r.rank) := by
    rw [Bool.and_eq_false_iff, decide_eq_false_iff_not, decide_eq_false_iff_not]; omega
  rw [chkR]
  by_cases hr : r.rank < 0 ∨ 99 < r.rank
  · rw [if_pos hr, if_pos (h1.2 hr)]
  · rw [if_neg hr, if_neg (fun h => hr (h1.1 h))]
    by_cases h4 : 4 < r.ps.length
    · rw [chkL, if_pos h4, if_pos (by omega), if_pos h4]
    · rw [chkL, if_neg h4, if_neg h4]
set_option maxRecDepth 100000 in
set_option maxHeartbeats 16000000 in
theorem rcheck_any (u : Ru) (A : Option Addr) (cap : Nat) (names : List (List UInt8)) (w : World) (hu : UV w u) (hs : okRs u.sem) (hN : STexts w (· < w.heap.size) A names) (hl : names.length ≤ 9223372036854775807) {z : Int} (H : Hid (chkR u.sem names = z)) :
    Calls Try.prog 20 #[.agg #[.int .i64 u.rank, .slice u.xa u.xn u.xc, .string (bs u.tg), .int .i64 u.ap, .int .i64 u.st, .int .i64 u.dp, .int .i64 u.dt, .int .i64 u.mp, .string (bs u.mi), .int .i64 u.sm], .slice A names.length cap] w fun e w' => e = .returned (.int .i64 z) ∧ Below w.heap.size w w' := by
  have hnot := enot
  have hb0 := enew w (.cells #[.int .i64 u.rank, .slice u.xa u.xn u.xc, .string (bs u.tg), .int .i64 u.ap, .int .i64 u.st, .int .i64 u.dp, .int .i64 u.dt, .int .i64 u.mp, .string (bs u.mi), .int .i64 u.sm] 39)
  have hr0 := BR.new w u
  have hN0 := stx_up hN hb0
  obtain ⟨hn, hpx, -, -, hl9⟩ := (hu.up hb0).out
  have CI := hid (fun w2 z (hz : Hid (rngR u.sem = z)) => inranges_any u w2 hz)
  have CP := hid (fun w2 (h2 : PX w2 (· < w2.heap.size) u.xa u.ps) z (hz : Hid (chkL u.ps = z)) => checkpreds_any u.xa u.xc u.ps w2 h2 hl9 hs.1 hz)
  clear hu hs hN
  rw [← hn] at CP
  clear hn hl9
  obtain ⟨rk, xa, xn, xc, ps, tg, ap, st, dp, dt, mp, mi, sm⟩ := u
  simp only [Ru.sem] at H CI CP hb0 hr0 hN0 hpx ⊢
  obtain ⟨zr, hzr⟩ : ∃ z, (decide (0 ≤ rk) && decide (rk ≤ 99)) = z := ⟨_, rfl⟩
  obtain ⟨ze, hze⟩ : ∃ z, chkL ps = z := ⟨_, rfl⟩
  obtain ⟨zt, hzt⟩ : ∃ z, inN names tg = z := ⟨_, rfl⟩
  obtain ⟨zm, hzm⟩ : ∃ z, inN names mi = z := ⟨_, rfl⟩
  obtain ⟨zi, hzi⟩ : ∃ z, rngR ⟨rk, ps, tg, ap, st, dp, dt, mp, mi, sm⟩ = z := ⟨_, rfl⟩
  have CR := hid (fun w2 => rwithin_any rk 0 99 w2 (hid hzr))
  have CT := hid (fun w2 (h2 : STexts w2 (· < w2.heap.size) A names) => (contains_any A cap names tg _ w2 h2 hl).mono fun e w' ⟨h1, h3⟩ => (⟨by rw [← hzt]; exact h1, h3⟩ : e = Ending.returned (.bool zt) ∧ w2 = w'))
  have CM := hid (fun w2 (h2 : STexts w2 (· < w2.heap.size) A names) => (contains_any A cap names mi _ w2 h2 hl).mono fun e w' ⟨h1, h3⟩ => (⟨by rw [← hzm]; exact h1, h3⟩ : e = Ending.returned (.bool zm) ∧ w2 = w'))
  have CI2 := hid (fun w2 => CI.out w2 _ (hid hzi))
  have CP2 := hid (fun w2 h2 => CP.out w2 h2 _ (hid hze))
  have HC := hid (chkR_eq ⟨rk, ps, tg, ap, st, dp, dt, mp, mi, sm⟩ names hzr hze hzt hzm hzi)
  simp only at HC
  clear CI CP hzr hze hzt hzm hzi
  have HB := hid hb0
  clear hb0
  go_enter Try.func20, Try.ntmps20
  go_upto_region 1 with (fail)
  generalize w.alloc (.cells #[.int .i64 rk, .slice xa xn xc, .string (bs tg), .int .i64 ap, .int .i64 st, .int .i64 dp, .int .i64 dt, .int .i64 mp, .string (bs mi), .int .i64 sm] 39) = v0 at *
  obtain ⟨r0, r1, r2, r3, r4, r5, r6, r7, r8, r9⟩ := hr0.cells
  cases zr
  · clear r1 r2 r3 r4 r5 r6 r7 r8 r9 hpx hN0
    go_wp2_with fail
    refine (CR.out _).mono ?_
    rintro e w1 ⟨rfl, rfl⟩
    go_wp2_with fail
    go_returns
    exact ⟨by rw [← H.out, HC.out]; rfl, HB.out⟩
  go_wp2_with fail
  refine (CR.out _).mono ?_
  rintro e w1 ⟨rfl, rfl⟩
  clear r0 r2 r3 r4 r5 r6 r7 r8 r9
  go_wp2_with fail
  refine (CP2.out _ hpx).mono ?_
  rintro e w1 ⟨rfl, hb1⟩
  have hN1 := stx_up hN0 hb1
  obtain ⟨r0, r1, r2, r3, r4, r5, r6, r7, r8, r9⟩ := (hr0.up hb1).cells
  have HB1 := hid (estep HB.out hb1)
  by_cases e0 : ze = 0
  case neg =>
    have hd0 : decide (ze = 0) = false := decide_eq_false e0
    have hd1 : (!decide (ze = 0)) = true := by rw [hd0]; rfl
    have HE := hid e0
    clear r0 r1 r2 r3 r4 r5 r6 r7 r8 r9
    go_wp2_with fail
    go_returns
    exact ⟨by rw [← H.out, HC.out, if_neg (by simp), if_pos HE.out]; rfl, HB1.out⟩
  subst e0
  clear r0 r1 r3 r4 r5 r6 r7 r8 r9
  go_wp2_with fail
  refine (CT.out _ hN1).mono ?_
  rintro e w1 ⟨rfl, rfl⟩
  cases zt
  · have HZ := hid (show z = 7 by rw [← H.out, HC.out]; simp)
    go_wp2_with fail
    go_returns
    exact ⟨by rw [HZ.out]; rfl, HB1.out⟩
  clear r2
  by_cases hm : mi = []
  · subst hm
    have c4 : (ByteArray.mk #[]) = bs [] := rfl
    obtain ⟨r0, r1, r2, r3, r4, r5, r6, r7, r8, r9⟩ := (hr0.up hb1).cells
    go_wp2_with fail
    refine (CI2.out _).mono ?_
    rintro e w2 ⟨rfl, hb2⟩
    have HB2 := hid (estep HB1.out hb2)
    clear r0 r1 r2 r3 r4 r5 r6 r7 r8 r9
    obtain ⟨-, -, -, -, -, -, -, r7, r8, -⟩ := ((hr0.up hb1).up hb2).cells
    cases zi
    · have HZ := hid (show z = 12 by rw [← H.out, HC.out]; simp)
      go_wp2_with fail
      go_returns
      exact ⟨by rw [HZ.out]; rfl, HB2.out⟩
    by_cases hp : 0 < mp
    · have hd2 : decide (0 < mp) = true := decide_eq_true hp
      have HZ := hid (show z = 9 by rw [← H.out, HC.out]; simp [hp])
      go_wp2_with fail
      go_returns
      exact ⟨by rw [HZ.out]; rfl, HB2.out⟩
    · have hd2 : decide (0 < mp) = false := decide_eq_false hp
      have HZ := hid (show z = 0 by rw [← H.out, HC.out]; simp [hp])
      go_wp2_with fail
      go_returns
      exact ⟨by rw [HZ.out]; rfl, HB2.out⟩
  · have c4 : (ByteArray.mk #[]) = bs [] := rfl
    have hmd : mi.isEmpty = false := by cases mi with
      | nil => exact absurd rfl hm
      | cons => rfl
    have hme : (!mi.isEmpty) = true := by rw [hmd]; rfl
    obtain ⟨r0, r1, r2, r3, r4, r5, r6, r7, r8, r9⟩ := (hr0.up hb1).cells
    go_wp2_with fail
    refine (CM.out _ hN1).mono ?_
    rintro e w1 ⟨rfl, rfl⟩
    cases zm
    · have HZ := hid (show z = 7 by rw [← H.out, HC.out]; simp [hm])
      go_wp2_with fail
      go_returns
      exact ⟨by rw [HZ.out]; rfl, HB1.out⟩
    go_wp2_with fail
    refine (CI2.out _).mono ?_
    rintro e w2 ⟨rfl, hb2⟩
    have HB2 := hid (estep HB1.out hb2)
    clear r0 r1 r2 r3 r4 r5 r6 r7 r8 r9
    obtain ⟨-, -, -, -, -, -, -, r7, r8, -⟩ := ((hr0.up hb1).up hb2).cells
    cases zi
    · have HZ := hid (show z = 12 by rw [← H.out, HC.out]; simp)
      go_wp2_with fail
      go_returns
      exact ⟨by rw [HZ.out]; rfl, HB2.out⟩
    by_cases hp : 0 < mp
    · have hd2 : decide (0 < mp) = true := decide_eq_true hp
      have HZ := hid (show z = 0 by rw [← H.out, HC.out]; simp [hp, hm])
      go_wp2_with fail
      go_returns
      exact ⟨by rw [HZ.out]; rfl, HB2.out⟩
    · have hd2 : decide (0 < mp) = false := decide_eq_false hp
      have HZ := hid (show z = 0 by rw [← H.out, HC.out]; simp [hp])
      go_wp2_with fail
      go_returns
      exact ⟨by rw [HZ.out]; rfl, HB2.out⟩
end Go.Proofs.Ytmdlkoigjacipaa
