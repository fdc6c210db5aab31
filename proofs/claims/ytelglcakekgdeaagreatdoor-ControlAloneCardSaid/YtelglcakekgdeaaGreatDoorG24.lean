/- Texts put together: Rl. -/
import Derived.Test.YtelglcakekgdeaaGreatDoorG19
import Derived.Deep.LoopGhost
import Derived.Deep.CutRange
namespace Go.Proofs.YtelglcakekgdeaaGreatDoor
set_option linter.unusedVariables false
set_option linter.unusedSimpArgs false
open Go.RowKit Go.Joins

set_option maxRecDepth 100000 in
set_option maxHeartbeats 32000000 in
theorem rrcheck_any (u : Ru) (A : Option Addr) (cap : Nat) (names : List (List UInt8)) (w : World) (hu : UV w u) (hs : okRs u.sem) (hN : STexts w (· < w.heap.size) A names) (hl : names.length ≤ 9223372036854775807) {z : Int} (H : Hid (chkR u.sem names = z)) :
    Calls Tryz.prog 44 #[.agg #[.int .i64 u.rank, .slice u.xa u.xn u.xc, .string (bs u.tg), .int .i64 u.ap, .int .i64 u.st, .int .i64 u.dp, .int .i64 u.dt, .int .i64 u.mp, .string (bs u.mi), .int .i64 u.sm], .slice A names.length cap] w fun e w' => e = .returned (.int .i64 z) ∧ Below w.heap.size w w' := by
  have hnot := enot
  have hb0 := enew w (.cells #[.int .i64 u.rank, .slice u.xa u.xn u.xc, .string (bs u.tg), .int .i64 u.ap, .int .i64 u.st, .int .i64 u.dp, .int .i64 u.dt, .int .i64 u.mp, .string (bs u.mi), .int .i64 u.sm] 72)
  have hr0 := BR.new w u
  have hN0 := stx_up hN hb0
  obtain ⟨hn, hpx, -, -, hl9⟩ := (hu.up hb0).out
  have hs9 : smallP u.ps := hs.1
  clear hu hN hs
  obtain ⟨rk, xa, xn, xc, ps, tg, ap, st, dp, dt, mp, mi, sm⟩ := u
  simp only [Ru.sem] at H hb0 hr0 hN0 hpx hn hl9 hs9 ⊢
  subst hn
  obtain ⟨zr, hzr⟩ : ∃ z, (decide (0 ≤ rk) && decide (rk ≤ 99)) = z := ⟨_, rfl⟩
  obtain ⟨zt, hzt⟩ : ∃ z, inN names tg = z := ⟨_, rfl⟩
  obtain ⟨zm, hzm⟩ : ∃ z, inN names mi = z := ⟨_, rfl⟩
  obtain ⟨z1, hz1⟩ : ∃ z, inPct ap = z := ⟨_, rfl⟩
  obtain ⟨z2, hz2⟩ : ∃ z, inPct dp = z := ⟨_, rfl⟩
  obtain ⟨z3, hz3⟩ : ∃ z, inPct mp = z := ⟨_, rfl⟩
  obtain ⟨z4, hz4⟩ : ∃ z, inPct sm = z := ⟨_, rfl⟩
  obtain ⟨zs, hzs⟩ : ∃ z, ((decide (400 ≤ st) && decide (st ≤ 599)) || (decide (ap = 0) && decide (st = 0))) = z := ⟨_, rfl⟩
  obtain ⟨zd, hzd⟩ : ∃ z, ((decide (1 ≤ dt) && decide (dt ≤ 50)) || (decide (dp = 0) && decide (dt = 0))) = z := ⟨_, rfl⟩
  have hzi : rngR ⟨rk, ps, tg, ap, st, dp, dt, mp, mi, sm⟩ = (z1 && (z2 && (z3 && (z4 && (zs && zd))))) := by rw [← hz1, ← hz2, ← hz3, ← hz4, ← hzs, ← hzd]; rfl
  have HC := hid (chkR_eq ⟨rk, ps, tg, ap, st, dp, dt, mp, mi, sm⟩ names hzr rfl hzt hzm hzi)
  simp only at HC
  have P1 := hid (fun w2 => part_any ap w2 (hid hz1))
  have P2 := hid (fun w2 => part_any dp w2 (hid hz2))
  have P3 := hid (fun w2 => part_any mp w2 (hid hz3))
  have P4 := hid (fun w2 => part_any sm w2 (hid hz4))
  have CT := hid (fun w2 (h2 : STexts w2 (· < w2.heap.size) A names) => in_any A cap names tg _ w2 h2 hl (hid hzt))
  have CM := hid (fun w2 (h2 : STexts w2 (· < w2.heap.size) A names) => in_any A cap names mi _ w2 h2 hl (hid hzm))
  have HZS := hid hzs
  have HZD := hid hzd
  clear hz1 hz2 hz3 hz4 hzt hzm hzi hzs hzd
  have HB := hid hb0
  have HR := hid hpx
  have HSM := hid hs9
  clear hb0 hpx hs9
  go_enter Tryz.func44, Tryz.ntmps44
  go_upto_region 1 with (fail)
  generalize w.alloc (.cells #[.int .i64 rk, .slice xa ps.length xc, .string (bs tg), .int .i64 ap, .int .i64 st, .int .i64 dp, .int .i64 dt, .int .i64 mp, .string (bs mi), .int .i64 sm] 72) = v0 at *
  obtain ⟨r0, r1, -⟩ := hr0.cells
  by_cases k1 : rk < 0
  · have d1 : decide (rk < 0) = true := decide_eq_true k1
    have HZ := hid (show z = 12 by rw [← H.out, HC.out, ← hzr, decide_eq_false (show ¬ 0 ≤ rk by omega)]; simp)
    go_wp2_with fail
    go_returns
    exact ⟨by rw [HZ.out]; rfl, HB.out⟩
  have d1 : decide (rk < 0) = false := decide_eq_false k1
  by_cases k2 : 99 < rk
  · have d2 : decide (99 < rk) = true := decide_eq_true k2
    have HZ := hid (show z = 12 by rw [← H.out, HC.out, ← hzr, decide_eq_false (show ¬ rk ≤ 99 by omega)]; simp)
    go_wp2_with fail
    go_returns
    exact ⟨by rw [HZ.out]; rfl, HB.out⟩
  have d2 : decide (99 < rk) = false := decide_eq_false k2
  obtain rfl : zr = true := by rw [← hzr, decide_eq_true (show 0 ≤ rk by omega), decide_eq_true (show rk ≤ 99 by omega)]; rfl
  clear hzr k1 k2
  by_cases h4 : 4 < ps.length
  · have d3 : decide ((4 : Int) < (ps.length : Int)) = true := decide_eq_true (by omega)
    have HZ := hid (show z = 8 by rw [← H.out, HC.out, chkL, if_pos h4]; simp)
    clear h4
    go_wp2_with fail
    go_returns
    exact ⟨by rw [HZ.out]; rfl, HB.out⟩
  have d3 : decide ((4 : Int) < (ps.length : Int)) = false := decide_eq_false (by omega)
  have HCL := hid (show chkL ps = fltR ps by rw [chkL, if_neg h4])
  clear h4
  go_wp2_with fail
  clear d1 d2 d3 r0 r1
  go_loopw [5] (fun i wr => ∃ k : Nat, k ≤ ps.length ∧ i = .int .i64 k ∧ Hid (fltR ps = fltR (ps.drop k) ∧ Below v0.heap.size v0 wr)) (fun i _ => ps.length - (intOf i).toNat)
  case atStart => exact ⟨0, by omega, rfl, hid ⟨by rw [List.drop_zero], Below.refl _ _⟩⟩
  case round =>
    obtain ⟨k, hk, rfl, HW⟩ := hrel
    obtain ⟨-, r1, -⟩ := (hr0.up HW.out.2).cells
    by_cases hlt : k < ps.length
    · obtain ⟨bb, o, rfl, hB, c0, c1, c2⟩ := (HR.out.up HW.out.2) k hlt
      have HF := hid (fltR_drop ps k hlt)
      obtain ⟨hs0, hs1⟩ := HSM.out.at_ hlt
      generalize ps[k] = y at *
      obtain ⟨yk, yn, yv⟩ := y
      simp only at c0 c1 c2 HF hs0 hs1
      have hki : decide ((k : Int) < ((ps.length : Nat) : Int)) = true := by simp; omega
      have hk0 : (0 : Int) ≤ (k : Int) := by omega
      have hk1 : (k : Int) < (ps.length : Int) := by omega
      obtain ⟨zz, hz⟩ : ∃ zz, cE yk yn yv = zz := ⟨_, rfl⟩
      have HZ := hid hz
      have HM := hid (fun w2 => rpcheck_any yk yn yv w2 hs0 hs1 HZ)
      clear hz
      go_wp2_with fail
      refine (HM.out _).mono ?_
      rintro e w1 ⟨rfl, hb2⟩
      have hb3 := hid (estep HW.out.2 hb2)
      clear hb2 c0 c1 c2 r1
      by_cases e0 : zz = 0
      · subst e0
        have HFF := hid (show fltR (ps.drop k) = fltR (ps.drop (k + 1)) by rw [HF.out, HZ.out]; rfl)
        go_wp2_with fail
        go_roundw
        case rel => exact ⟨k + 1, by omega, by go_num, hid ⟨by rw [HW.out.1, HFF.out], hb3.out⟩⟩
        case measure => simp [intOf]; omega
      · have hd0 : decide (zz = 0) = false := decide_eq_false e0
        have hd1 : (!decide (zz = 0)) = true := by rw [hd0]; rfl
        have HFF := hid (show fltR (ps.drop k) = zz by rw [HF.out, if_pos (by rw [HZ.out]; exact e0), HZ.out])
        have HZ9 := hid (show z = zz by rw [← H.out, HC.out, HCL.out, HW.out.1, HFF.out, if_neg (by simp), if_pos e0])
        go_wp2_with fail
        go_returns
        exact ⟨by rw [HZ9.out]; rfl, estep HB.out hb3.out⟩
    · obtain rfl : k = ps.length := by omega
      have hki : decide (((ps.length : Nat) : Int) < ((ps.length : Nat) : Int)) = false := by simp
      have HFF := hid (show chkL ps = 0 by rw [HCL.out, HW.out.1, List.drop_length]; rfl)
      have HC2 := hid (show z = if zt = false ∨ (mi ≠ [] ∧ zm = false) then 7 else if (z1 && (z2 && (z3 && (z4 && (zs && zd))))) = false then 12 else if 0 < mp ∧ mi = [] then 9 else 0 by
        rw [← H.out, HC.out, HFF.out, if_neg (by simp), if_neg (by simp)])
      have hN1 := stx_up hN0 HW.out.2
      have hr1 := hr0.up HW.out.2
      have HB2 := hid (estep HB.out HW.out.2)
      clear HC HCL HFF H HR HSM hN0 hr0 hl9
      go_upto_region 11 with (fail)
      clear r1
      obtain ⟨r0, r1, r2, r3, r4, r5, r6, r7, r8, r9⟩ := hr1.cells
      clear hr1 r0 r1
      have c4 : (ByteArray.mk #[]) = bs [] := rfl
      obtain ⟨zn, hzn⟩ : ∃ b : Bool, b = (!zt || (!mi.isEmpty && !zm)) := ⟨_, rfl⟩
      have HZN := hid hzn
      clear hzn
      generalize hw0 : wr = w0 at *
      go_cut [51] from 35 to 51 (fun s wx => s = .bool zn ∧ wx = w0)
      case first =>
        cases zt
        · go_wp2_with (first
            | (with_reducible refine (CT.out _ hN1).mono ?_
               rintro e wq ⟨rfl, rfl⟩))
          go_meet
          exact ⟨by rw [HZN.out]; rfl, rfl⟩
        by_cases hm : mi = []
        · subst hm
          go_wp2_with (first
            | (with_reducible refine (CT.out _ hN1).mono ?_
               rintro e wq ⟨rfl, rfl⟩))
          go_meet
          exact ⟨by rw [HZN.out]; rfl, rfl⟩
        · have hmd : mi.isEmpty = false := by cases mi with
            | nil => exact absurd rfl hm
            | cons => rfl
          have hme : (!mi.isEmpty) = true := by rw [hmd]; rfl
          have HM9 := hid hmd
          cases zm
          all_goals
            go_wp2_with (first
              | (with_reducible refine (CT.out _ hN1).mono ?_
                 rintro e wq ⟨rfl, rfl⟩)
              | (with_reducible refine (CM.out _ hN1).mono ?_
                 rintro e wq ⟨rfl, rfl⟩))
            go_meet
            exact ⟨by rw [HZN.out, HM9.out]; rfl, rfl⟩
      case rest =>
        obtain ⟨rfl, hwc⟩ := hcut
        subst hwc
        obtain ⟨w1, rfl⟩ : ∃ w1, w1 = wc := ⟨_, rfl⟩
        cases zn
        case true =>
          have HZ := hid (show z = 7 by
            have h1 := HZN.out
            rw [HC2.out, if_pos]
            revert h1
            cases zt <;> cases zm <;> cases mi <;> simp)
          go_wp2_with fail
          go_returns
          exact ⟨by rw [HZ.out]; rfl, HB2.out⟩
        have HC3 := hid (show z = if (z1 && (z2 && (z3 && (z4 && (zs && zd))))) = false then 12 else if 0 < mp ∧ mi = [] then 9 else 0 by
          have h1 := HZN.out
          rw [HC2.out, if_neg]
          revert h1
          cases zt <;> cases zm <;> cases mi <;> simp)
        clear HC2 HZN CT CM
        go_upto_region 13 with (fail)
        go_cut [73] from 52 to 73 (fun s wx => s = .bool (!(z1 && (z2 && (z3 && z4)))) ∧ wx = w1)
        case first =>
          cases z1
          · go_wp2_with (first
              | (with_reducible refine (P1.out _).mono ?_
                 rintro e wq ⟨rfl, rfl⟩)
              | (with_reducible refine (P2.out _).mono ?_
                 rintro e wq ⟨rfl, rfl⟩)
              | (with_reducible refine (P3.out _).mono ?_
                 rintro e wq ⟨rfl, rfl⟩)
              | (with_reducible refine (P4.out _).mono ?_
                 rintro e wq ⟨rfl, rfl⟩))
            go_meet
            exact ⟨rfl, rfl⟩
          cases z2
          · go_wp2_with (first
              | (with_reducible refine (P1.out _).mono ?_
                 rintro e wq ⟨rfl, rfl⟩)
              | (with_reducible refine (P2.out _).mono ?_
                 rintro e wq ⟨rfl, rfl⟩)
              | (with_reducible refine (P3.out _).mono ?_
                 rintro e wq ⟨rfl, rfl⟩)
              | (with_reducible refine (P4.out _).mono ?_
                 rintro e wq ⟨rfl, rfl⟩))
            go_meet
            exact ⟨rfl, rfl⟩
          cases z3
          · go_wp2_with (first
              | (with_reducible refine (P1.out _).mono ?_
                 rintro e wq ⟨rfl, rfl⟩)
              | (with_reducible refine (P2.out _).mono ?_
                 rintro e wq ⟨rfl, rfl⟩)
              | (with_reducible refine (P3.out _).mono ?_
                 rintro e wq ⟨rfl, rfl⟩)
              | (with_reducible refine (P4.out _).mono ?_
                 rintro e wq ⟨rfl, rfl⟩))
            go_meet
            exact ⟨rfl, rfl⟩
          cases z4
          all_goals
            go_wp2_with (first
              | (with_reducible refine (P1.out _).mono ?_
                 rintro e wq ⟨rfl, rfl⟩)
              | (with_reducible refine (P2.out _).mono ?_
                 rintro e wq ⟨rfl, rfl⟩)
              | (with_reducible refine (P3.out _).mono ?_
                 rintro e wq ⟨rfl, rfl⟩)
              | (with_reducible refine (P4.out _).mono ?_
                 rintro e wq ⟨rfl, rfl⟩))
            go_meet
            exact ⟨rfl, rfl⟩
        case rest =>
          obtain ⟨rfl, hwc⟩ := hcut
          subst hwc
          obtain ⟨w2, rfl⟩ : ∃ w2, w2 = wc := ⟨_, rfl⟩
          clear P1 P2 P3 P4
          obtain ⟨zp, hzp⟩ : ∃ zp, (z1 && (z2 && (z3 && z4))) = zp := ⟨_, rfl⟩
          have HC4 := hid (show z = if (zp && (zs && zd)) = false then 12 else if 0 < mp ∧ mi = [] then 9 else 0 by
            rw [HC3.out, ← hzp]
            cases z1 <;> cases z2 <;> cases z3 <;> cases z4 <;> rfl)
          rw [hzp]
          clear hzp HC3
          cases zp
          · have HZ := hid (show z = 12 by rw [HC4.out]; rfl)
            go_wp2_with fail
            go_returns
            exact ⟨by rw [HZ.out]; rfl, HB2.out⟩
          go_upto_region 15 with (fail)
          go_cut [91] from 74 to 91 (fun s wx => s = .bool (!zs) ∧ wx = w2)
          case first =>
            by_cases a1 : st < 400
            · have b1 : decide (st < 400) = true := decide_eq_true a1
              by_cases a3 : st = 0
              · subst a3
                by_cases a4 : ap = 0
                · subst a4
                  go_wp2_with fail
                  go_meet
                  exact ⟨by rw [← HZS.out]; simp, rfl⟩
                · have b4 : decide (ap = 0) = false := decide_eq_false a4
                  have b4' : (!decide (ap = 0)) = true := by rw [b4]; rfl
                  go_wp2_with fail
                  go_meet
                  exact ⟨by rw [← HZS.out]; simp [bne, a4], rfl⟩
              · have b3 : decide (st = 0) = false := decide_eq_false a3
                have b3' : (!decide (st = 0)) = true := by rw [b3]; rfl
                have HV := hid (show ((decide (400 ≤ st) && decide (st ≤ 599)) || (decide (ap = 0) && decide (st = 0))) = false by rw [decide_eq_false (show ¬ 400 ≤ st by omega), decide_eq_false a3]; simp)
                go_wp2_with fail
                go_meet
                exact ⟨by rw [← HZS.out, HV.out]; rfl, rfl⟩
            · have b1 : decide (st < 400) = false := decide_eq_false a1
              by_cases a2 : 599 < st
              · have b2 : decide (599 < st) = true := decide_eq_true a2
                have a3 : ¬ st = 0 := by omega
                have b3 : decide (st = 0) = false := decide_eq_false a3
                have b3' : (!decide (st = 0)) = true := by rw [b3]; rfl
                have HV := hid (show ((decide (400 ≤ st) && decide (st ≤ 599)) || (decide (ap = 0) && decide (st = 0))) = false by rw [decide_eq_false (show ¬ st ≤ 599 by omega), decide_eq_false a3]; simp)
                go_wp2_with fail
                go_meet
                exact ⟨by rw [← HZS.out, HV.out]; rfl, rfl⟩
              · have b2 : decide (599 < st) = false := decide_eq_false a2
                have HV := hid (show ((decide (400 ≤ st) && decide (st ≤ 599)) || (decide (ap = 0) && decide (st = 0))) = true by rw [decide_eq_true (show 400 ≤ st by omega), decide_eq_true (show st ≤ 599 by omega)]; simp)
                go_wp2_with fail
                go_meet
                exact ⟨by rw [← HZS.out, HV.out]; rfl, rfl⟩
          case rest =>
            obtain ⟨rfl, hwc⟩ := hcut
            subst hwc
            obtain ⟨w3, rfl⟩ : ∃ w3, w3 = wc := ⟨_, rfl⟩
            cases zs
            · have HZ := hid (show z = 12 by rw [HC4.out]; rfl)
              go_wp2_with fail
              go_returns
              exact ⟨by rw [HZ.out]; rfl, HB2.out⟩
            go_upto_region 17 with (fail)
            go_cut [109] from 92 to 109 (fun s wx => s = .bool (!zd) ∧ wx = w3)
            case first =>
              by_cases a1 : dt < 1
              · have b1 : decide (dt < 1) = true := decide_eq_true a1
                by_cases a3 : dt = 0
                · subst a3
                  by_cases a4 : dp = 0
                  · subst a4
                    go_wp2_with fail
                    go_meet
                    exact ⟨by rw [← HZD.out]; simp, rfl⟩
                  · have b4 : decide (dp = 0) = false := decide_eq_false a4
                    have b4' : (!decide (dp = 0)) = true := by rw [b4]; rfl
                    go_wp2_with fail
                    go_meet
                    exact ⟨by rw [← HZD.out]; simp [bne, a4], rfl⟩
                · have b3 : decide (dt = 0) = false := decide_eq_false a3
                  have b3' : (!decide (dt = 0)) = true := by rw [b3]; rfl
                  have HV := hid (show ((decide (1 ≤ dt) && decide (dt ≤ 50)) || (decide (dp = 0) && decide (dt = 0))) = false by rw [decide_eq_false (show ¬ 1 ≤ dt by omega), decide_eq_false a3]; simp)
                  go_wp2_with fail
                  go_meet
                  exact ⟨by rw [← HZD.out, HV.out]; rfl, rfl⟩
              · have b1 : decide (dt < 1) = false := decide_eq_false a1
                by_cases a2 : 50 < dt
                · have b2 : decide (50 < dt) = true := decide_eq_true a2
                  have a3 : ¬ dt = 0 := by omega
                  have b3 : decide (dt = 0) = false := decide_eq_false a3
                  have b3' : (!decide (dt = 0)) = true := by rw [b3]; rfl
                  have HV := hid (show ((decide (1 ≤ dt) && decide (dt ≤ 50)) || (decide (dp = 0) && decide (dt = 0))) = false by rw [decide_eq_false (show ¬ dt ≤ 50 by omega), decide_eq_false a3]; simp)
                  go_wp2_with fail
                  go_meet
                  exact ⟨by rw [← HZD.out, HV.out]; rfl, rfl⟩
                · have b2 : decide (50 < dt) = false := decide_eq_false a2
                  have HV := hid (show ((decide (1 ≤ dt) && decide (dt ≤ 50)) || (decide (dp = 0) && decide (dt = 0))) = true by rw [decide_eq_true (show 1 ≤ dt by omega), decide_eq_true (show dt ≤ 50 by omega)]; simp)
                  go_wp2_with fail
                  go_meet
                  exact ⟨by rw [← HZD.out, HV.out]; rfl, rfl⟩
            case rest =>
              obtain ⟨rfl, hwc⟩ := hcut
              subst hwc
              cases zd
              · have HZ := hid (show z = 12 by rw [HC4.out]; rfl)
                go_wp2_with fail
                go_returns
                exact ⟨by rw [HZ.out]; rfl, HB2.out⟩
              have HC5 := hid (show z = if 0 < mp ∧ mi = [] then 9 else 0 from HC4.out)
              clear HC4
              by_cases hp : 0 < mp
              · have hd2 : decide (0 < mp) = true := decide_eq_true hp
                by_cases hm : mi = []
                · subst hm
                  have HZ := hid (show z = 9 by rw [HC5.out, if_pos ⟨hp, rfl⟩])
                  go_wp2_with fail
                  go_returns
                  exact ⟨by rw [HZ.out]; rfl, HB2.out⟩
                · have hmd : mi.isEmpty = false := by cases mi with
                    | nil => exact absurd rfl hm
                    | cons => rfl
                  have HZ := hid (show z = 0 by rw [HC5.out, if_neg (fun h => hm h.2)])
                  go_wp2_with fail
                  go_returns
                  exact ⟨by rw [HZ.out]; rfl, HB2.out⟩
              · have hd2 : decide (0 < mp) = false := decide_eq_false hp
                have HZ := hid (show z = 0 by rw [HC5.out, if_neg (fun h => hp h.1)])
                go_wp2_with fail
                go_returns
                exact ⟨by rw [HZ.out]; rfl, HB2.out⟩
end Go.Proofs.YtelglcakekgdeaaGreatDoor
