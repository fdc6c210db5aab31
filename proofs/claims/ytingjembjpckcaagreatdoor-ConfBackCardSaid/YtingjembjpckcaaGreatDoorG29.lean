/- Texts put together: Lg. -/
import Derived.Test.YtingjembjpckcaaGreatDoorG20
import Derived.Deep.Cut
import Derived.Deep.CutRange
namespace Go.Proofs.YtingjembjpckcaaGreatDoor
set_option linter.unusedVariables false
set_option linter.unusedSimpArgs false
open Go.RowKit Go.Joins

set_option maxRecDepth 100000 in
set_option maxHeartbeats 8000000 in
theorem rone_any (u : Ru) (w : World) (hu : UV w u) (hs : okRs u.sem) {z : Int} (H : Hid (cfR u.sem = z)) :
    Calls Tryz.prog 20 #[.agg #[.int .i64 u.rank, .slice u.xa u.xn u.xc, .string (bs u.tg), .int .i64 u.ap, .int .i64 u.st, .int .i64 u.dp, .int .i64 u.dt, .int .i64 u.mp, .string (bs u.mi), .int .i64 u.sm]] w fun e w' => e = .returned (.int .i64 z) ∧ Below w.heap.size w w' := by
  have hnot := enot
  have hb0 := enew w (.cells #[.int .i64 u.rank, .slice u.xa u.xn u.xc, .string (bs u.tg), .int .i64 u.ap, .int .i64 u.st, .int .i64 u.dp, .int .i64 u.dt, .int .i64 u.mp, .string (bs u.mi), .int .i64 u.sm] 40)
  have hr0 := BR.new w u
  obtain ⟨hn, hpx, _, _, hl9⟩ := (hu.up hb0).out
  obtain ⟨hsm, hs2, hs3, -⟩ := hs
  obtain ⟨rk, xa, xn, xc, ps, tg, ap, st, dp, dt, mp, mi, sm⟩ := u
  simp only [Ru.sem] at H hsm hs2 hs3
  simp only at hn hpx hl9 hr0 hb0 ⊢
  subst hn
  obtain ⟨zt, hzt⟩ : ∃ b, nameB tg = b := ⟨_, rfl⟩
  obtain ⟨zm, hzm⟩ : ∃ b, mirB mi mp = b := ⟨_, rfl⟩
  obtain ⟨zi, hzi⟩ : ∃ b, nameB mi = b := ⟨_, rfl⟩
  obtain ⟨zn, hzn⟩ : ∃ b, ([rk, ap, st, dp, dt, mp, sm] : List Int).all inNum = b := ⟨_, rfl⟩
  have HT := hid (fun w2 => rname_any tg w2 hs2)
  rw [hzt] at HT
  have HM := hid (fun w2 => rname_any mi w2 hs3)
  rw [hzi] at HM
  have HMB := hid (show zm = if mi = [] then decide (mp = 0) else zi by rw [← hzm, mirB, hzi])
  have c3 : (ByteArray.mk #[]) = bs [] := rfl
  have HC := hid (show z = if 4 < ps.length then 8 else if fltR ps ≠ 0 then fltR ps else if zt = false ∨ zm = false then 7 else if zn = false then 12 else 0 by
    rw [← H.out, cfR]; simp only [numsR, hzt, hzm, hzn])
  have HR := hid hpx
  have HSM := hid hsm
  have HB := hid hb0
  have HZN := hid hzn
  clear hu hpx hsm hb0 hs2 hs3 hzt hzm hzn hzi H
  go_enter Tryz.func20, Tryz.ntmps20
  go_upto_region 1 with (fail)
  generalize w.alloc (.cells #[.int .i64 rk, .slice xa ps.length xc, .string (bs tg), .int .i64 ap, .int .i64 st, .int .i64 dp, .int .i64 dt, .int .i64 mp, .string (bs mi), .int .i64 sm] 40) = v0 at *
  obtain ⟨r0, r1, r2, r3, r4, r5, r6, r7, r8, r9⟩ := hr0.cells
  by_cases h4 : 4 < ps.length
  · have d4 : decide ((4 : Int) < (ps.length : Int)) = true := decide_eq_true (by omega)
    have HZ := hid (show z = 8 by rw [HC.out, if_pos h4])
    clear h4 HC
    go_wp2_with fail
    go_returns
    exact ⟨by rw [HZ.out]; rfl, HB.out⟩
  have d4 : decide ((4 : Int) < (ps.length : Int)) = false := decide_eq_false (by omega)
  have HC1 := hid (show z = if fltR ps ≠ 0 then fltR ps else if zt = false ∨ zm = false then 7 else if zn = false then 12 else 0 by rw [HC.out, if_neg h4])
  clear h4 HC
  go_wp2_with fail
  clear d4 r0 r1 r2 r3 r4 r5 r6 r7 r8 r9
  go_loopw [3] (fun i wr => ∃ k : Nat, k ≤ ps.length ∧ i = .int .i64 k ∧ Hid (fltR ps = fltR (ps.drop k) ∧ Below v0.heap.size v0 wr)) (fun i _ => ps.length - (intOf i).toNat)
  case atStart => exact ⟨0, by omega, rfl, hid ⟨by rw [List.drop_zero], Below.refl _ _⟩⟩
  case round =>
    obtain ⟨k, hk, rfl, HW⟩ := hrel
    obtain ⟨-, r1, -⟩ := (hr0.up HW.out.2).cells
    by_cases hlt : k < ps.length
    · obtain ⟨bb, o, rfl, hB, c0, c1, c2⟩ := (HR.out.up HW.out.2) k hlt
      have HF := hid (fltR_drop ps k hlt)
      obtain ⟨hs0, hs1⟩ := HSM.out.at_ hlt
      generalize ps[k] = y at *
      obtain ⟨yk, yn, yv⟩ := y
      simp only at c0 c1 c2 HF hs0 hs1
      have hki : decide ((k : Int) < ((ps.length : Nat) : Int)) = true := by simp; omega
      have hk0 : (0 : Int) ≤ (k : Int) := by omega
      have hk1 : (k : Int) < (ps.length : Int) := by omega
      obtain ⟨zz, hz⟩ : ∃ zz, cE yk yn yv = zz := ⟨_, rfl⟩
      have HZ := hid hz
      have HPC := hid (fun w2 => rpcheck_any yk yn yv w2 hs0 hs1 HZ)
      clear hz
      go_wp2_with fail
      refine (HPC.out _).mono ?_
      rintro e w1 ⟨rfl, hb2⟩
      have hb3 := hid (estep HW.out.2 hb2)
      clear hb2 c0 c1 c2 r1
      by_cases e0 : zz = 0
      · subst e0
        have HFF := hid (show fltR (ps.drop k) = fltR (ps.drop (k + 1)) by rw [HF.out, HZ.out]; rfl)
        go_wp2_with fail
        go_roundw
        case rel => exact ⟨k + 1, by omega, by go_num, hid ⟨by rw [HW.out.1, HFF.out], hb3.out⟩⟩
        case measure => simp [intOf]; omega
      · have hd0 : decide (zz = 0) = false := decide_eq_false e0
        have hd1 : (!decide (zz = 0)) = true := by rw [hd0]; rfl
        have HFF := hid (show fltR (ps.drop k) = zz by rw [HF.out, if_pos (by rw [HZ.out]; exact e0), HZ.out])
        have HZ9 := hid (show z = zz by rw [HC1.out, HW.out.1, HFF.out, if_pos e0])
        go_wp2_with fail
        go_returns
        exact ⟨by rw [HZ9.out]; rfl, estep HB.out hb3.out⟩
    · obtain rfl : k = ps.length := by omega
      have hki : decide (((ps.length : Nat) : Int) < ((ps.length : Nat) : Int)) = false := by simp
      have HC2 := hid (show z = if zt = false ∨ zm = false then 7 else if zn = false then 12 else 0 by rw [HC1.out, HW.out.1, fltR_nil_of (Nat.le_refl _), if_neg (by simp)])
      have hr1 := hr0.up HW.out.2
      have HB2 := hid (estep HB.out HW.out.2)
      clear HC1 HR HSM hl9 hr0
      obtain ⟨zg, hzg⟩ : ∃ b : Bool, b = (!zt || !zm) := ⟨_, rfl⟩
      have HZG := hid hzg
      clear hzg
      go_upto_region 9 with (fail)
      clear r1
      obtain ⟨r0, r1, r2, r3, r4, r5, r6, r7, r8, r9⟩ := hr1.cells
      obtain ⟨x1, hx1⟩ : ∃ x, x = wr := ⟨_, rfl⟩
      subst hx1
      go_cut [51] from 11 to 51 (fun s wx => s = .bool zg ∧ wx = x1)
      case first =>
        cases zt
        · have HV := hid (show zg = true by rw [HZG.out]; rfl)
          go_wp2_with (first
            | (with_reducible refine (HT.out _).mono ?_
               rintro e wq ⟨rfl, rfl⟩)
            | (with_reducible refine (HM.out _).mono ?_
               rintro e wq ⟨rfl, rfl⟩))
          go_meet
          exact ⟨by first | (rw [HV.out]; done) | (rw [HV.out]; rfl), rfl⟩
        by_cases hm : mi = []
        · have HV0 := hid (show zm = decide (mp = 0) by rw [HMB.out, if_pos hm])
          by_cases hp : mp = 0
          · have HV := hid (show zg = false by rw [HZG.out, HV0.out, decide_eq_true hp]; rfl)
            subst hm hp
            go_wp2_with (first
              | (with_reducible refine (HT.out _).mono ?_
                 rintro e wq ⟨rfl, rfl⟩)
              | (with_reducible refine (HM.out _).mono ?_
                 rintro e wq ⟨rfl, rfl⟩))
            go_meet
            exact ⟨by first | (rw [HV.out]; done) | (rw [HV.out]; rfl), rfl⟩
          · have HV := hid (show zg = true by rw [HZG.out, HV0.out, decide_eq_false hp]; rfl)
            have p1 : decide (mp = 0) = false := decide_eq_false hp
            have p2 : (mp != 0) = true := by simpa using hp
            have HNE := hid p2
            subst hm
            go_wp2_with (first
              | (with_reducible refine (HT.out _).mono ?_
                 rintro e wq ⟨rfl, rfl⟩)
              | (with_reducible refine (HM.out _).mono ?_
                 rintro e wq ⟨rfl, rfl⟩))
            go_meet
            exact ⟨by first | (rw [HV.out]; done) | (rw [HV.out]; rfl) | (rw [HV.out]; exact congrArg Value.bool HNE.out), rfl⟩
        · have hmd : mi.isEmpty = false := by cases mi with
            | nil => exact absurd rfl hm
            | cons => rfl
          have hme : (!mi.isEmpty) = true := by rw [hmd]; rfl
          have hmq : (mi == []) = false := by cases mi with
            | nil => exact absurd rfl hm
            | cons => rfl
          have HV0 := hid (show zm = zi by rw [HMB.out, if_neg hm])
          have HMD := hid hmd
          clear hm
          cases zi
          · have HV := hid (show zg = true by rw [HZG.out, HV0.out]; rfl)
            go_wp2_with (first
              | (with_reducible refine (HT.out _).mono ?_
                 rintro e wq ⟨rfl, rfl⟩)
              | (with_reducible refine (HM.out _).mono ?_
                 rintro e wq ⟨rfl, rfl⟩))
            go_meet
            exact ⟨by first | (rw [HV.out]; done) | (rw [HV.out]; rfl), rfl⟩
          · have HV := hid (show zg = false by rw [HZG.out, HV0.out]; rfl)
            go_wp2_with (first
              | (with_reducible refine (HT.out _).mono ?_
                 rintro e wq ⟨rfl, rfl⟩)
              | (with_reducible refine (HM.out _).mono ?_
                 rintro e wq ⟨rfl, rfl⟩))
            go_meet
            exact ⟨by first | (rw [HV.out]; done) | (rw [HV.out]; rfl) | (rw [HV.out]; exact congrArg Value.bool HMD.out), rfl⟩
      case rest =>
      obtain ⟨rfl, hwc⟩ := hcut
      subst hwc
      obtain ⟨x1, rfl⟩ : ∃ x, x = wc := ⟨_, rfl⟩
      clear r0 r1 r2 r3 r4 r5 r6 r7 r8 r9
      cases zg
      rotate_left
      · have HZ := hid (show z = 7 by
          rw [HC2.out, if_pos]
          have := HZG.out
          revert this
          cases zt <;> cases zm <;> simp)
        go_wp2_with fail
        go_returns
        exact ⟨by rw [HZ.out]; rfl, HB2.out⟩
      have HZ := hid (show z = if zn = false then 12 else 0 by
        rw [HC2.out, if_neg]
        have := HZG.out
        revert this
        cases zt <;> cases zm <;> simp)
      obtain ⟨r0, r1, r2, r3, r4, r5, r6, r7, r8, r9⟩ := hr1.cells
      have hb5 := enew x1 (.cells #[.int .i64 rk, .int .i64 ap, .int .i64 st, .int .i64 dp, .int .i64 dt, .int .i64 mp, .int .i64 sm] 3)
      have HNR := hid (nums_row x1 rk ap st dp dt mp sm 3)
      have HB5 := hid (estep HB2.out hb5)
      have hgl : x1.heap.size < (x1.alloc (.cells #[.int .i64 rk, .int .i64 ap, .int .i64 st, .int .i64 dp, .int .i64 dt, .int .i64 mp, .int .i64 sm] 3)).heap.size := by simp
      have HGL := hid hgl
      obtain ⟨g5, hg5⟩ : ∃ g, x1.heap.size = g := ⟨_, rfl⟩
      have HG5 := hid hg5
      rw [hg5] at HNR
      clear HC2 HZG hb5 hgl hg5 HMB hr1
      go_wp2_with fail
      clear r0 r1 r2 r3 r4 r5 r6 r7 r8 r9
      generalize x1.alloc (.cells #[.int .i64 rk, .int .i64 ap, .int .i64 st, .int .i64 dp, .int .i64 dt, .int .i64 mp, .int .i64 sm] 3) = v5 at *
      have hLn : ([rk, ap, st, dp, dt, mp, sm] : List Int).length = 7 := rfl
      generalize ([rk, ap, st, dp, dt, mp, sm] : List Int) = L at *
      go_loopg [68] 7 (fun g1 vi wr => ∃ k : Nat, vi = .int .i64 k ∧ k ≤ 7 ∧ 7 - k ≤ g1 ∧ Hid ((L.take k).all inNum = true ∧ Below v5.heap.size v5 wr))
      case atStart => exact ⟨0, rfl, by omega, by omega, hid ⟨by simp, Below.refl _ _⟩⟩
      case round =>
        obtain ⟨k, rfl, hk7, hgk, HWN⟩ := hrel
        by_cases hlt : k < 7
        · have hltL : k < L.length := by omega
          obtain ⟨b9, o9, e9, hB, hcn⟩ := (HNR.out.up HWN.out.2).int hltL
          injection e9 with e9
          injection e9 with e91 e92 e93
          subst e91 e92
          rw [← HG5.out, Nat.zero_add] at hcn
          have hki : decide ((k : Int) < 7) = true := decide_eq_true (by omega)
          have hk0 : (0 : Int) ≤ (k : Int) := by omega
          have hk1 : (k : Int) < 7 := by omega
          have HUP := hid (num_all_take hltL HWN.out.1)
          have HOFF := hid (num_off (L := L) hltL)
          have HIN := hid (show inNum L[k] = (decide (0 ≤ L[k]) && decide (L[k] ≤ 999999)) from rfl)
          generalize L[k] = nn at *
          by_cases h1 : nn < 0
          · have d1 : decide (nn < 0) = true := decide_eq_true h1
            have HZ9 := hid (show z = 12 by rw [HZ.out, ← HZN.out, HOFF.out (by rw [HIN.out, decide_eq_false (show ¬ 0 ≤ nn by omega)]; rfl), if_pos rfl])
            clear h1
            go_wp2_with fail
            go_returns
            exact ⟨by rw [HZ9.out]; rfl, estep HB5.out HWN.out.2⟩
          · have d1 : decide (nn < 0) = false := decide_eq_false h1
            by_cases h2 : 999999 < nn
            · have d2 : decide (999999 < nn) = true := decide_eq_true h2
              have HZ9 := hid (show z = 12 by rw [HZ.out, ← HZN.out, HOFF.out (by rw [HIN.out, decide_eq_false (show ¬ nn ≤ 999999 by omega), Bool.and_false]), if_pos rfl])
              clear h1 h2
              go_wp2_with fail
              go_returns
              exact ⟨by rw [HZ9.out]; rfl, estep HB5.out HWN.out.2⟩
            · have d2 : decide (999999 < nn) = false := decide_eq_false h2
              have HNX := hid (HUP.out (by rw [HIN.out, decide_eq_true (show 0 ≤ nn by omega), decide_eq_true (show nn ≤ 999999 by omega)]; rfl))
              clear h1 h2
              go_wp2_with fail
              go_roundg (7 - (k + 1))
              case measure => omega
              case rel => exact ⟨k + 1, by go_num, by omega, by omega, hid ⟨HNX.out, HWN.out.2⟩⟩
        · obtain rfl : k = 7 := by omega
          have HZ9 := hid (show z = 0 by
            have h1 := HWN.out.1
            rw [List.take_of_length_le (by omega)] at h1
            rw [HZ.out, ← HZN.out, h1, if_neg (by simp)])
          go_wp2_with fail
          go_returns
          exact ⟨by rw [HZ9.out]; rfl, estep HB5.out HWN.out.2⟩
set_option maxRecDepth 100000 in
set_option maxHeartbeats 4000000 in
theorem rccheck_any (y : Value) (f : List UInt8) (U : List Ru) (w : World) (hy : RV w y U) (hs : ∀ u ∈ U, okRs u.sem) (hf : f.length ≤ 140737488351232) {z : Int} (H : Hid (chkC cfR f (U.map Ru.sem) = z)) :
    Calls Tryz.prog 10 #[.agg #[y, .string (bs f)]] w fun e w' => e = .returned (.int .i64 z) ∧ Below w.heap.size w w' := by
  have hnot := notB'
  obtain ⟨A, c, rfl, hgx, hrp, hA, hlc, hl9⟩ := hy
  have hb0 := enew w (.cells #[.slice A U.length c, .string (bs f)] 24)
  have hk0 := BF.new w (.slice A U.length c) f
  have H0 := hid (And.intro (hgx.up hb0) (And.intro (hrp.up hb0) hb0))
  obtain ⟨zf, hzf⟩ : ∃ b, fmtOK f = b := ⟨_, rfl⟩
  have HFM := hid (fun w2 => rformat_any f w2 hf)
  rw [hzf] at HFM
  have HC := hid (show chkC cfR f (U.map Ru.sem) = if zf = false then 15 else if 16 < U.length then 8 else fltC cfR (U.map Ru.sem) by rw [chkC, hzf, List.length_map])
  have HF := hid (fun (u : Ru) (hu : u ∈ U) (w2 : World) (h1 : UV w2 u) => rone_any u w2 h1 (hs u hu) (hid rfl))
  clear hgx hrp hA hlc hb0 hf hzf hs
  generalize hnU : U.length = n at *
  have HNU := hid hnU
  clear hnU
  go_enter Tryz.func10, Tryz.ntmps10
  go_upto_region 1 with (fail)
  generalize w.alloc (.cells #[.slice A n c, .string (bs f)] 24) = v0 at *
  obtain ⟨k0, k1⟩ := hk0.cells
  cases zf with
  | false =>
    have HZ := hid (show z = 15 by rw [← H.out, HC.out, if_pos rfl])
    go_wp2_with fail
    refine (HFM.out _).mono ?_
    rintro e w1 ⟨rfl, rfl⟩
    go_wp2_with fail
    go_returns
    exact ⟨by rw [HZ.out]; rfl, H0.out.2.2⟩
  | true =>
    by_cases h16 : 16 < n
    · have d16 : decide ((16 : Int) < (n : Int)) = true := decide_eq_true (by omega)
      have HZ := hid (show z = 8 by rw [← H.out, HC.out, if_neg (by simp), if_pos h16])
      clear h16
      go_wp2_with fail
      refine (HFM.out _).mono ?_
      rintro e w1 ⟨rfl, rfl⟩
      go_wp2_with fail
      go_returns
      exact ⟨by rw [HZ.out]; rfl, H0.out.2.2⟩
    · have d16 : decide ((16 : Int) < (n : Int)) = false := decide_eq_false (by omega)
      have HCZ := hid (show fltC cfR (U.map Ru.sem) = z by rw [← H.out, HC.out, if_neg (by simp), if_neg h16])
      clear HC H h16
      go_wp2_with fail
      refine (HFM.out _).mono ?_
      rintro e w1 ⟨rfl, rfl⟩
      go_wp2_with fail
      clear d16 k0 k1
      go_loopg [3] n (fun g1 vi wr => ∃ i : Nat, vi = .int .i64 i ∧ i ≤ n ∧ n - i ≤ g1 ∧ Hid (fltC cfR ((U.map Ru.sem).drop i) = z ∧ Below v0.heap.size v0 wr))
      case atStart => exact ⟨0, rfl, by omega, by omega, hid ⟨HCZ.out, Below.refl _ _⟩⟩
      case round =>
        obtain ⟨i, rfl, hin, hgk, HW⟩ := hrel
        obtain ⟨k0, k1⟩ := (hk0.up HW.out.2).cells
        by_cases hlt : i < n
        · have hltz : (i : Int) < (n : Int) := by omega
          have hltd : decide ((i : Int) < (n : Int)) = true := decide_eq_true hltz
          have hi0 : (0 : Int) ≤ (i : Int) := by omega
          have hiU : i < U.length := by have := HNU.out; omega
          obtain ⟨u, hu⟩ : ∃ u, U[i]? = some u := ⟨_, List.getElem?_eq_getElem hiU⟩
          have hum : u ∈ U := List.mem_of_getElem? hu
          have HD := hid (fltC_drop cfR (sem_of hu))
          obtain ⟨bb, oo, rfl, -⟩ := H0.out.1.some_of hiU
          obtain ⟨r0, r1, r2, r3, r4, r5, r6, r7, r8, r9⟩ := rank_cell (H0.out.1.up HW.out.2) hu
          obtain ⟨zz, hz⟩ : ∃ zz, cfR u.sem = zz := ⟨_, rfl⟩
          have HZ := hid hz
          have HU := hid (HF.out u hum wr (UV.up (H0.out.2.1 u hum) HW.out.2))
          rw [hz] at HU
          clear hz hu hum
          go_wp2_with fail
          refine HU.out.mono ?_
          rintro e w2 ⟨rfl, hb2⟩
          have HB2 := hid (estep HW.out.2 hb2)
          clear hb2 r0 r1 r2 r3 r4 r5 r6 r7 r8 r9 k0 k1
          by_cases e0 : zz = 0
          · subst e0
            have HFF := hid (show fltC cfR ((U.map Ru.sem).drop (i + 1)) = z by rw [← HW.out.1, HD.out, if_neg (by rw [HZ.out]; simp)])
            go_wp2_with fail
            go_roundg (n - (i + 1))
            case measure => omega
            case rel => exact ⟨i + 1, by go_num, by omega, by omega, hid ⟨HFF.out, HB2.out⟩⟩
          · have hd0 : decide (zz = 0) = false := decide_eq_false e0
            have hd1 : (!decide (zz = 0)) = true := by rw [hd0]; rfl
            have HZ9 := hid (show z = zz by rw [← HW.out.1, HD.out, if_pos (by rw [HZ.out]; exact e0), HZ.out])
            go_wp2_with fail
            go_returns
            exact ⟨by rw [HZ9.out]; rfl, estep H0.out.2.2 HB2.out⟩
        · obtain rfl : i = n := by omega
          have hltd : decide ((i : Int) < (i : Int)) = false := by simp
          have HZ9 := hid (show z = 0 by rw [← HW.out.1, List.drop_of_length_le (by rw [List.length_map, HNU.out]; omega)]; rfl)
          go_wp2_with fail
          go_returns
          exact ⟨by rw [HZ9.out]; rfl, estep H0.out.2.2 HW.out.2⟩
end Go.Proofs.YtingjembjpckcaaGreatDoor
