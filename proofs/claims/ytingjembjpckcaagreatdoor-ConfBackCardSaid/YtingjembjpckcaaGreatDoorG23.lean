/- Texts put together: Le Lf Ll. -/
import Derived.Test.YtingjembjpckcaaGreatDoorG22
import Derived.Deep.Cut
import Derived.Deep.CutRange
namespace Go.Proofs.YtingjembjpckcaaGreatDoor
set_option linter.unusedVariables false
set_option linter.unusedSimpArgs false
open Go.RowKit Go.Joins

theorem lineN_len {i : Nat} (hi : i < 14) {bh : List (List UInt8)} (hb : ∀ s ∈ bh, s.length ≤ 1000) (h2 : bh.length ≤ 2) : (lineN i bh).length ≤ 2009 := by
  have h := lineP_len hi hb bh.length (Nat.le_refl _)
  have e : lineN i bh = lineP i bh bh.length ++ [10] := by rw [lineP, List.take_length, lineN, lineT]
  rw [e, List.length_append, List.length_cons, List.length_nil]
  have : bh.length * 1001 ≤ 2 * 1001 := Nat.mul_le_mul_right _ h2
  omega
theorem predN_len {p : Pd} (h : cE p.k p.n p.v = 0) : (predN p).length ≤ 2009 := by
  obtain ⟨hk, hn, hv⟩ := cE_form h
  unfold predN
  split
  · exact lineN_len (by omega) (by simp; omega) (by simp)
  · split
    · exact lineN_len (by omega) (by simp; omega) (by simp)
    · exact lineN_len (by omega) (by simp; omega) (by simp)
theorem preds_len : ∀ {ps : List Pd}, (∀ p ∈ ps, cE p.k p.n p.v = 0) → (ps.flatMap predN).length ≤ 2009 * ps.length
  | [], _ => by simp
  | p :: r, h => by
    have h1 := predN_len (h p (by simp))
    have h2 := preds_len (ps := r) fun q hq => h q (by simp [hq])
    rw [List.flatMap_cons, List.length_append, List.length_cons]
    omega
theorem preds_up {ps : List Pd} {k : Nat} (hk : k < ps.length) : (ps.take (k + 1)).flatMap predN = (ps.take k).flatMap predN ++ predN ps[k] := by
  rw [List.take_succ_eq_append_getElem hk, List.flatMap_append]; simp
theorem name_len {l : List UInt8} (h : nameB l = true) : l.length ≤ 64 := by
  simp only [nameB, Bool.and_eq_true, decide_eq_true_eq] at h; omega
theorem lineText_two' (j : Int) (i : Nat) (hj : (i : Int) = j) (hi : i < 14) (a b : List UInt8) (w : World) (F : Frm w) (ha : a.length ≤ 1000) (hb : b.length ≤ 1000) :
    Calls Tryz.prog 14 #[.int .i64 j, .slice (some ⟨w.heap.size, 0, none⟩) 2 2] (w.alloc (.cells #[.string (bs a), .string (bs b)] 9)) fun e w' => e = .returned (.string (bs (lineN i [a, b]))) ∧ Below w.heap.size w w' := by
  subst hj
  exact lineText_two i hi a b w F ha hb
theorem keepE {v w' : World} {g i j : Nat} {a b : Value} (h1 : v.cell? ⟨g, i, none⟩ = some a) (h2 : v.cell? ⟨g, j, none⟩ = some b) (hz : Below v.heap.size v w') : w'.cell? ⟨g, i, none⟩ = some a ∧ w'.cell? ⟨g, j, none⟩ = some b ∧ Below v.heap.size v w' :=
  ⟨(hz.cell (lt_of_cell h1)).trans h1, (hz.cell (lt_of_cell h2)).trans h2, hz⟩
set_option maxRecDepth 100000 in
set_option maxHeartbeats 16000000 in
theorem ruleText_any (u : Ru) (w : World) (E : EnvC w) (hu : UV w u) (hc : cfR u.sem = 0) :
    Calls Tryz.prog 15 #[.agg #[.int .i64 u.rank, .slice u.xa u.xn u.xc, .string (bs u.tg), .int .i64 u.ap, .int .i64 u.st, .int .i64 u.dp, .int .i64 u.dt, .int .i64 u.mp, .string (bs u.mi), .int .i64 u.sm]] w fun e w' => e = .returned (.string (bs (ruleN u.sem))) ∧ Below w.heap.size w w' := by
  have hnot := enot
  have hb0 := enew w (.cells #[.int .i64 u.rank, .slice u.xa u.xn u.xc, .string (bs u.tg), .int .i64 u.ap, .int .i64 u.st, .int .i64 u.dp, .int .i64 u.dt, .int .i64 u.mp, .string (bs u.mi), .int .i64 u.sm] 40)
  have hr0 := BR.new w u
  obtain ⟨hn, hpx, _, _, hl9⟩ := (hu.up hb0).out
  obtain ⟨hps4, hps, htg, hmi, n0, n1, n2, n3, n4, n5, n6⟩ := cfR_ok hc
  have E0 := E.up hb0
  obtain ⟨rk, xa, xn, xc, ps, tg, ap, st, dp, dt, mp, mi, sm⟩ := u
  simp only [Ru.sem] at hps4 hps htg hmi n0 n1 n2 n3 n4 n5 n6 ⊢
  simp only at hn hpx hl9 hr0 hb0 E0 ⊢
  subst hn
  have ltg := name_len htg
  have lmi : mi.length ≤ 64 := by
    unfold mirB at hmi
    by_cases hm : mi = []
    · rw [hm]; simp
    · rw [if_neg hm] at hmi; exact name_len hmi
  have i0 := itoa_len n0
  have i1 := itoa_len n1
  have i2 := itoa_len n2
  have i3 := itoa_len n3
  have i4 := itoa_len n4
  have i5 := itoa_len n5
  have i6 := itoa_len n6
  have D0 := hid (fun w2 (e : EnvC w2) => cdigits_any rk w2 e n0)
  have D1 := hid (fun w2 (e : EnvC w2) => cdigits_any ap w2 e n1)
  have D2 := hid (fun w2 (e : EnvC w2) => cdigits_any st w2 e n2)
  have D3 := hid (fun w2 (e : EnvC w2) => cdigits_any dp w2 e n3)
  have D4 := hid (fun w2 (e : EnvC w2) => cdigits_any dt w2 e n4)
  have D5 := hid (fun w2 (e : EnvC w2) => cdigits_any mp w2 e n5)
  have D6 := hid (fun w2 (e : EnvC w2) => cdigits_any sm w2 e n6)
  have T1 := hid (fun w2 (e : EnvC w2) => lineText_one 1 (by omega) (Lib.itoa rk) w2 e.2 (by omega))
  have T8 := hid (fun w2 (e : EnvC w2) => lineText_one 8 (by omega) tg w2 e.2 (by omega))
  have T9 := hid (fun w2 (e : EnvC w2) => lineText_two' 9 9 rfl (by omega) (Lib.itoa ap) (Lib.itoa st) w2 e.2 (by omega) (by omega))
  have TA := hid (fun w2 (e : EnvC w2) => lineText_two' 10 10 rfl (by omega) (Lib.itoa dp) (Lib.itoa dt) w2 e.2 (by omega) (by omega))
  have TB' := hid (fun w2 (e : EnvC w2) => lineText_two' 11 11 rfl (by omega) (Lib.itoa mp) mi w2 e.2 (by omega) (by omega))
  have TC := hid (fun w2 (e : EnvC w2) => lineText_one 12 (by omega) (Lib.itoa sm) w2 e.2 (by omega))
  obtain ⟨za, hza⟩ : ∃ b : Bool, b = (!decide (ap = 0) || !decide (st = 0)) := ⟨_, rfl⟩
  obtain ⟨zd, hzd⟩ : ∃ b : Bool, b = (!decide (dp = 0) || !decide (dt = 0)) := ⟨_, rfl⟩
  obtain ⟨zm, hzm⟩ : ∃ b : Bool, b = (!mi.isEmpty) := ⟨_, rfl⟩
  obtain ⟨zs, hzs⟩ : ∃ b : Bool, b = (!decide (sm = 0)) := ⟨_, rfl⟩
  have ha : abN ⟨rk, ps, tg, ap, st, dp, dt, mp, mi, sm⟩ = if za = true then lineN 9 [Lib.itoa ap, Lib.itoa st] else [] := by
    rw [abN, hza]; by_cases h1 : ap = 0 <;> by_cases h2 : st = 0 <;> simp [h1, h2]
  have hd : deN ⟨rk, ps, tg, ap, st, dp, dt, mp, mi, sm⟩ = if zd = true then lineN 10 [Lib.itoa dp, Lib.itoa dt] else [] := by
    rw [deN, hzd]; by_cases h1 : dp = 0 <;> by_cases h2 : dt = 0 <;> simp [h1, h2]
  have hm : miN ⟨rk, ps, tg, ap, st, dp, dt, mp, mi, sm⟩ = if zm = true then lineN 11 [Lib.itoa mp, mi] else [] := by
    rw [miN, hzm]; cases mi <;> simp
  have hs : saN ⟨rk, ps, tg, ap, st, dp, dt, mp, mi, sm⟩ = if zs = true then lineN 12 [Lib.itoa sm] else [] := by
    rw [saN, hzs]; by_cases h1 : sm = 0 <;> simp [h1]
  have HRN := hid (show ruleN ⟨rk, ps, tg, ap, st, dp, dt, mp, mi, sm⟩ = lineN 1 [Lib.itoa rk] ++ (ps.flatMap predN ++ (lineN 8 [tg] ++ ((if za = true then lineN 9 [Lib.itoa ap, Lib.itoa st] else []) ++ ((if zd = true then lineN 10 [Lib.itoa dp, Lib.itoa dt] else []) ++ ((if zm = true then lineN 11 [Lib.itoa mp, mi] else []) ++ (if zs = true then lineN 12 [Lib.itoa sm] else [])))))) by rw [ruleN, ha, hd, hm, hs])
  have HZA := hid hza
  have HZD := hid hzd
  have HZM := hid hzm
  have HZS := hid hzs
  clear ha hd hm hs hza hzd hzm hzs
  have l1 := lineN_len (i := 1) (by omega) (bh := [Lib.itoa rk]) (by simp; omega) (by simp)
  have l8 := lineN_len (i := 8) (by omega) (bh := [tg]) (by simp; omega) (by simp)
  have l9 := lineN_len (i := 9) (by omega) (bh := [Lib.itoa ap, Lib.itoa st]) (by simp; omega) (by simp)
  have lA := lineN_len (i := 10) (by omega) (bh := [Lib.itoa dp, Lib.itoa dt]) (by simp; omega) (by simp)
  have lB := lineN_len (i := 11) (by omega) (bh := [Lib.itoa mp, mi]) (by simp; omega) (by simp)
  have lC := lineN_len (i := 12) (by omega) (bh := [Lib.itoa sm]) (by simp; omega) (by simp)
  have HR := hid hpx
  have HPS := hid hps
  have HB := hid hb0
  have HE := hid E0
  clear hu hpx hps hb0 E0 E hc n0 n1 n2 n3 n4 n5 n6 i0 i1 i2 i3 i4 i5 i6 htg hmi ltg lmi
  generalize lineN 1 [Lib.itoa rk] = t1 at *
  generalize lineN 8 [tg] = t8 at *
  generalize lineN 9 [Lib.itoa ap, Lib.itoa st] = t9 at *
  generalize lineN 10 [Lib.itoa dp, Lib.itoa dt] = tA at *
  generalize lineN 11 [Lib.itoa mp, mi] = tB at *
  generalize lineN 12 [Lib.itoa sm] = tC at *
  generalize Lib.itoa rk = d0 at *
  generalize Lib.itoa ap = d1 at *
  generalize Lib.itoa st = d2 at *
  generalize Lib.itoa dp = d3 at *
  generalize Lib.itoa dt = d4 at *
  generalize Lib.itoa mp = d5 at *
  generalize Lib.itoa sm = d6 at *
  go_enter Tryz.func15, Tryz.ntmps15
  go_upto_region 1 with (fail)
  generalize w.alloc (.cells #[.int .i64 rk, .slice xa ps.length xc, .string (bs tg), .int .i64 ap, .int .i64 st, .int .i64 dp, .int .i64 dt, .int .i64 mp, .string (bs mi), .int .i64 sm] 40) = v0 at *
  obtain ⟨r0, r1, r2, r3, r4, r5, r6, r7, r8, r9⟩ := hr0.cells
  go_wp2_with fail
  refine (D0.out _ HE.out).mono ?_
  rintro e w1 ⟨rfl, hb1⟩
  have HE1 := hid (HE.out.up hb1)
  have HB1 := hid hb1
  clear hb1
  go_wp2_with fail
  refine (T1.out _ HE1.out).mono ?_
  rintro e w2 ⟨rfl, hb2⟩
  have HB2 := hid (estep HB1.out hb2)
  clear hb2 r0 r1 r2 r3 r4 r5 r6 r7 r8 r9
  obtain ⟨r0, r1, r2, r3, r4, r5, r6, r7, r8, r9⟩ := (hr0.up HB2.out).cells
  go_wp2_with fail
  clear r0 r1 r2 r3 r4 r5 r6 r7 r8 r9
  go_loopg [3, 14] ps.length (fun g1 s vi wr => ∃ k : Nat, vi = .int .i64 k ∧ k ≤ ps.length ∧ ps.length - k ≤ g1 ∧ s = .string (bs (t1 ++ (ps.take k).flatMap predN)) ∧ Hid (Below v0.heap.size v0 wr))
  case atStart => exact ⟨0, rfl, by omega, by omega, by simp, HB2.out⟩
  case round =>
    obtain ⟨k, rfl, hk, hgk, rfl, HW⟩ := hrel
    by_cases hlt : k < ps.length
    · obtain ⟨bb, o, rfl, hB, c0, c1, c2⟩ := (HR.out.up HW.out) k hlt
      have HP := hid (HPS.out _ (List.getElem_mem hlt))
      have HUP := hid (preds_up (ps := ps) hlt)
      have hlp := preds_len (ps := ps.take k) fun q hq => HPS.out q (List.mem_of_mem_take hq)
      have htk : (ps.take k).length ≤ 4 := by rw [List.length_take]; omega
      have hl2 : ((ps.take k).flatMap predN).length ≤ 8036 := by omega
      have hl3 := predN_len HP.out
      have hki : decide ((k : Int) < ((ps.length : Nat) : Int)) = true := by simp; omega
      have hk0 : (0 : Int) ≤ (k : Int) := by omega
      have hk1 : (k : Int) < (ps.length : Int) := by omega
      generalize hpk : ps[k] = y at *
      clear hpk hlp htk
      obtain ⟨yk, yn, yv⟩ := y
      simp only at c0 c1 c2 HP
      have HT := hid (fun w2 (f : Frm w2) => predText_any yk yn yv w2 f HP.out)
      generalize predN ⟨yk, yn, yv⟩ = tp at *
      generalize (ps.take k).flatMap predN = acc at *
      have hb3 := estep HW.out (enew wr (.cells #[.int .i64 yk, .string (bs yn), .string (bs yv)] 37))
      have hp1 := BP.new wr yk yn yv
      have HF3 := hid ((HE.out.up hb3).2)
      have HB3 := hid hb3
      clear hb3
      go_upto_region 5 with (fail)
      clear c0 c1 c2
      generalize wr.alloc (.cells #[.int .i64 yk, .string (bs yn), .string (bs yv)] 37) = v1 at *
      obtain ⟨c0, c1, c2⟩ := hp1.cells
      go_wp2_with fail
      refine (HT.out _ HF3.out).mono ?_
      rintro e w4 ⟨rfl, hb4⟩
      have HB4 := hid (estep HB3.out hb4)
      clear hb4 c0 c1 c2 hp1
      go_wp2_with fail
      go_roundg (ps.length - (k + 1))
      case measure => omega
      case rel => exact ⟨k + 1, by go_num, by omega, by omega, by rw [HUP.out, ← List.append_assoc], HB4.out⟩
    · obtain rfl : k = ps.length := by omega
      have hki : decide (((ps.length : Nat) : Int) < ((ps.length : Nat) : Int)) = false := by simp
      have hlp := preds_len (ps := ps) HPS.out
      have hl2 : (ps.flatMap predN).length ≤ 8036 := by omega
      rw [List.take_length]
      obtain ⟨r0, r1, r2, r3, r4, r5, r6, r7, r8, r9⟩ := (hr0.up HW.out).cells
      have HE2 := hid (HE.out.up HW.out)
      obtain ⟨a1, ha1⟩ : ∃ x, t1 ++ ps.flatMap predN = x := ⟨_, rfl⟩
      have la1 : a1.length ≤ 10045 := by rw [← ha1, List.length_append]; omega
      have HA1 := hid ha1
      rw [ha1]
      clear hl2 hlp ha1 HR HPS
      go_wp2_with fail
      refine (T8.out _ HE2.out).mono ?_
      rintro e w5 ⟨rfl, hb5⟩
      have HB5 := hid (estep HW.out hb5)
      clear hb5 r0 r1 r2 r3 r4 r5 r6 r7 r8 r9
      have la2 : (a1 ++ t8).length ≤ 12054 := by rw [List.length_append]; omega
      go_upto_region 8 with (fail)
      obtain ⟨a2, ha2⟩ : ∃ x, a1 ++ t8 = x := ⟨_, rfl⟩
      have HA2 := hid ha2
      rw [ha2] at la2 ⊢
      clear ha2 la1
      have HB5' := HB5
      obtain ⟨x5, hx5⟩ : ∃ x, x = w5 := ⟨_, rfl⟩
      subst hx5
      obtain ⟨r0, r1, r2, r3, r4, r5, r6, r7, r8, r9⟩ := (hr0.up HB5.out).cells
      go_cut [36] from 29 to 36 (fun s wx => s = .bool za ∧ wx = x5)
      case first =>
        by_cases b1 : ap = 0
        · by_cases b2 : st = 0
          · have HV := hid (show za = false by rw [HZA.out, decide_eq_true b1, decide_eq_true b2]; rfl)
            subst b1 b2
            go_wp2_with fail
            go_meet
            exact ⟨by first | (rw [HV.out]; done) | (rw [HV.out]; rfl) | (rw [HV.out]; exact congrArg Value.bool HNE.out), rfl⟩
          · have HV := hid (show za = true by rw [HZA.out, decide_eq_true b1, decide_eq_false b2]; rfl)
            have c1 : decide (st = 0) = false := decide_eq_false b2
            have c2 : (!decide (st = 0)) = true := by rw [c1]; rfl
            have HNE := hid (show (st != 0) = true by simpa using b2)
            subst b1
            go_wp2_with fail
            go_meet
            exact ⟨by first | (rw [HV.out]; done) | (rw [HV.out]; rfl) | (rw [HV.out]; exact congrArg Value.bool HNE.out), rfl⟩
        · have HV := hid (show za = true by rw [HZA.out, decide_eq_false b1]; rfl)
          have c1 : decide (ap = 0) = false := decide_eq_false b1
          have c2 : (!decide (ap = 0)) = true := by rw [c1]; rfl
          have HNE := hid (show (ap != 0) = true by simpa using b1)
          go_wp2_with fail
          go_meet
          exact ⟨by first | (rw [HV.out]; done) | (rw [HV.out]; rfl) | (rw [HV.out]; exact congrArg Value.bool HNE.out), rfl⟩
      case rest =>
        obtain ⟨rfl, hwc⟩ := hcut
        subst hwc
        obtain ⟨x5, rfl⟩ : ∃ x, x = wc := ⟨_, rfl⟩
        clear r0 r1 r2 r3 r4 r5 r6 r7 r8 r9
        obtain ⟨r0, r1, r2, r3, r4, r5, r6, r7, r8, r9⟩ := (hr0.up HB5.out).cells
        have HE6 := hid (HE.out.up HB5.out)
        go_upto_if 36 with (fail)
        go_cut [3] from 29 to 46 (fun s wx => s = .string (bs (a2 ++ if za = true then t9 else [])) ∧ Hid (Below v0.heap.size v0 wx))
        case first =>
          cases za
          · go_wp2_with fail
            go_meet
            exact ⟨by simp, HB5.out⟩
          · go_upto_region 9 with (fail)
            have s1 : ¬ 9223372036854775807 < a2.length + t9.length := by omega
            have hz : Below x5.heap.size x5 x5.drew := (Below.refl _ _).drew
            go_region_held3 (fun w' => w'.cell? ⟨w.heap.size, 3, none⟩ = some (.int .i64 ap) ∧ w'.cell? ⟨w.heap.size, 4, none⟩ = some (.int .i64 st) ∧ Below x5.heap.size x5 w') (first | (with_reducible exact keepE r3 r4 hz) | (with_reducible exact keepE r3 r4 (hz.trans (Below.mono (by assumption) hz.size))) | (with_reducible exact keepE r3 r4 (Below.alloc hz hz.size _))) (
              first
                | (go_at_call 24
                   first
                     | ((with_reducible refine (D1.out _ (HE6.out.up hz)).mono ?_); rintro e w6 ⟨rfl, hy⟩)
                     | ((with_reducible refine (D2.out _ (HE6.out.up hz)).mono ?_); rintro e w6 ⟨rfl, hy⟩)
                   have hz := hz.trans (hy.mono hz.size))
                | (go_at_call 14
                   ((with_reducible refine (T9.out _ (HE6.out.up hz)).mono ?_); rintro e w6 ⟨rfl, hy⟩)
                   have hz := hz.trans (hy.mono hz.size)))
            all_goals
              have hz9 := hid (estep HB5.out hz)
              go_wp2_with fail
              go_meet
              exact ⟨by simp, hz9.out⟩
        case rest =>
          obtain ⟨rfl, HB6⟩ := hcut
          obtain ⟨w6, rfl⟩ : ∃ x, x = wc := ⟨_, rfl⟩
          clear r0 r1 r2 r3 r4 r5 r6 r7 r8 r9
          obtain ⟨a3, ha3⟩ : ∃ x, a2 ++ (if za = true then t9 else []) = x := ⟨_, rfl⟩
          have la3 : a3.length ≤ 14063 := by
            rw [← ha3, List.length_append]
            split
            · omega
            · simp; omega
          have Ha3 := hid ha3
          rw [ha3]
          clear ha3 la2
          go_upto_region 10 with (fail)
          obtain ⟨r0, r1, r2, r3, r4, r5, r6, r7, r8, r9⟩ := (hr0.up HB6.out).cells
          go_cut [54] from 47 to 54 (fun s wx => s = .bool zd ∧ wx = w6)
          case first =>
            by_cases b1 : dp = 0
            · by_cases b2 : dt = 0
              · have HV := hid (show zd = false by rw [HZD.out, decide_eq_true b1, decide_eq_true b2]; rfl)
                subst b1 b2
                go_wp2_with fail
                go_meet
                exact ⟨by first | (rw [HV.out]; done) | (rw [HV.out]; rfl) | (rw [HV.out]; exact congrArg Value.bool HNE.out), rfl⟩
              · have HV := hid (show zd = true by rw [HZD.out, decide_eq_true b1, decide_eq_false b2]; rfl)
                have c1 : decide (dt = 0) = false := decide_eq_false b2
                have c2 : (!decide (dt = 0)) = true := by rw [c1]; rfl
                have HNE := hid (show (dt != 0) = true by simpa using b2)
                subst b1
                go_wp2_with fail
                go_meet
                exact ⟨by first | (rw [HV.out]; done) | (rw [HV.out]; rfl) | (rw [HV.out]; exact congrArg Value.bool HNE.out), rfl⟩
            · have HV := hid (show zd = true by rw [HZD.out, decide_eq_false b1]; rfl)
              have c1 : decide (dp = 0) = false := decide_eq_false b1
              have c2 : (!decide (dp = 0)) = true := by rw [c1]; rfl
              have HNE := hid (show (dp != 0) = true by simpa using b1)
              go_wp2_with fail
              go_meet
              exact ⟨by first | (rw [HV.out]; done) | (rw [HV.out]; rfl) | (rw [HV.out]; exact congrArg Value.bool HNE.out), rfl⟩
          case rest =>
            obtain ⟨rfl, hwc⟩ := hcut
            subst hwc
            obtain ⟨x6, rfl⟩ : ∃ x, x = wc := ⟨_, rfl⟩
            clear r0 r1 r2 r3 r4 r5 r6 r7 r8 r9
            obtain ⟨r0, r1, r2, r3, r4, r5, r6, r7, r8, r9⟩ := (hr0.up HB6.out).cells
            have HE7 := hid (HE.out.up HB6.out)
            go_upto_if 54 with (fail)
            go_cut [3] from 47 to 64 (fun s wx => s = .string (bs (a3 ++ if zd = true then tA else [])) ∧ Hid (Below v0.heap.size v0 wx))
            case first =>
              cases zd
              · go_wp2_with fail
                go_meet
                exact ⟨by simp, HB6.out⟩
              · go_upto_region 11 with (fail)
                have s1 : ¬ 9223372036854775807 < a3.length + tA.length := by omega
                have hz : Below x6.heap.size x6 x6.drew := (Below.refl _ _).drew
                go_region_held3 (fun w' => w'.cell? ⟨w.heap.size, 5, none⟩ = some (.int .i64 dp) ∧ w'.cell? ⟨w.heap.size, 6, none⟩ = some (.int .i64 dt) ∧ Below x6.heap.size x6 w') (first | (with_reducible exact keepE r5 r6 hz) | (with_reducible exact keepE r5 r6 (hz.trans (Below.mono (by assumption) hz.size))) | (with_reducible exact keepE r5 r6 (Below.alloc hz hz.size _))) (
                  first
                    | (go_at_call 24
                       first
                         | ((with_reducible refine (D3.out _ (HE7.out.up hz)).mono ?_); rintro e w6 ⟨rfl, hy⟩)
                         | ((with_reducible refine (D4.out _ (HE7.out.up hz)).mono ?_); rintro e w6 ⟨rfl, hy⟩)
                       have hz := hz.trans (hy.mono hz.size))
                    | (go_at_call 14
                       ((with_reducible refine (TA.out _ (HE7.out.up hz)).mono ?_); rintro e w6 ⟨rfl, hy⟩)
                       have hz := hz.trans (hy.mono hz.size)))
                all_goals
                  have hz9 := hid (estep HB6.out hz)
                  go_wp2_with fail
                  go_meet
                  exact ⟨by simp, hz9.out⟩
            case rest =>
              obtain ⟨rfl, HB7⟩ := hcut
              obtain ⟨w7, rfl⟩ : ∃ x, x = wc := ⟨_, rfl⟩
              clear r0 r1 r2 r3 r4 r5 r6 r7 r8 r9
              obtain ⟨a4, ha4⟩ : ∃ x, a3 ++ (if zd = true then tA else []) = x := ⟨_, rfl⟩
              have la4 : a4.length ≤ 16072 := by
                rw [← ha4, List.length_append]
                split
                · omega
                · simp; omega
              have Ha4 := hid ha4
              rw [ha4]
              clear ha4 la3
              go_upto_region 12 with (fail)
              have c0 : (ByteArray.mk #[]) = bs [] := rfl
              obtain ⟨r0, r1, r2, r3, r4, r5, r6, r7, r8, r9⟩ := (hr0.up HB7.out).cells
              go_cut [67] from 65 to 67 (fun s wx => s = .bool zm ∧ wx = w7)
              case first =>
                by_cases b1 : mi = []
                · have HV := hid (show zm = false by rw [HZM.out, b1]; rfl)
                  subst b1
                  go_wp2_with fail
                  go_meet
                  exact ⟨by first | (rw [HV.out]; done) | (rw [HV.out]; rfl) | (rw [HV.out]; exact congrArg Value.bool HNE.out), rfl⟩
                · have hmd : mi.isEmpty = false := by cases mi with
                    | nil => exact absurd rfl b1
                    | cons => rfl
                  have HV := hid (show zm = true by rw [HZM.out, hmd]; rfl)
                  have c1 : (!mi.isEmpty) = true := by rw [hmd]; rfl
                  have HNE := hid c1
                  go_wp2_with fail
                  go_meet
                  exact ⟨by first | (rw [HV.out]; done) | (rw [HV.out]; rfl) | (rw [HV.out]; exact congrArg Value.bool HNE.out), rfl⟩
              case rest =>
                obtain ⟨rfl, hwc⟩ := hcut
                subst hwc
                obtain ⟨x7, rfl⟩ : ∃ x, x = wc := ⟨_, rfl⟩
                clear r0 r1 r2 r3 r4 r5 r6 r7 r8 r9
                obtain ⟨r0, r1, r2, r3, r4, r5, r6, r7, r8, r9⟩ := (hr0.up HB7.out).cells
                have HE8 := hid (HE.out.up HB7.out)
                go_upto_if 67 with (fail)
                go_cut [3] from 65 to 76 (fun s wx => s = .string (bs (a4 ++ if zm = true then tB else [])) ∧ Hid (Below v0.heap.size v0 wx))
                case first =>
                  cases zm
                  · go_wp2_with fail
                    go_meet
                    exact ⟨by simp, HB7.out⟩
                  · go_upto_region 13 with (fail)
                    have s1 : ¬ 9223372036854775807 < a4.length + tB.length := by omega
                    have hz : Below x7.heap.size x7 x7.drew := (Below.refl _ _).drew
                    go_region_held3 (fun w' => w'.cell? ⟨w.heap.size, 7, none⟩ = some (.int .i64 mp) ∧ w'.cell? ⟨w.heap.size, 8, none⟩ = some (.string (bs mi)) ∧ Below x7.heap.size x7 w') (first | (with_reducible exact keepE r7 r8 hz) | (with_reducible exact keepE r7 r8 (hz.trans (Below.mono (by assumption) hz.size))) | (with_reducible exact keepE r7 r8 (Below.alloc hz hz.size _))) (
                      first
                        | (go_at_call 24
                           first
                             | ((with_reducible refine (D5.out _ (HE8.out.up hz)).mono ?_); rintro e w6 ⟨rfl, hy⟩)
                             | ((with_reducible refine (D5.out _ (HE8.out.up hz)).mono ?_); rintro e w6 ⟨rfl, hy⟩)
                           have hz := hz.trans (hy.mono hz.size))
                        | (go_at_call 14
                           ((with_reducible refine (TB'.out _ (HE8.out.up hz)).mono ?_); rintro e w6 ⟨rfl, hy⟩)
                           have hz := hz.trans (hy.mono hz.size)))
                    all_goals
                      have hz9 := hid (estep HB7.out hz)
                      go_wp2_with fail
                      go_meet
                      exact ⟨by simp, hz9.out⟩
                case rest =>
                  obtain ⟨rfl, HB8⟩ := hcut
                  obtain ⟨w8, rfl⟩ : ∃ x, x = wc := ⟨_, rfl⟩
                  clear r0 r1 r2 r3 r4 r5 r6 r7 r8 r9
                  obtain ⟨a5, ha5⟩ : ∃ x, a4 ++ (if zm = true then tB else []) = x := ⟨_, rfl⟩
                  have la5 : a5.length ≤ 18081 := by
                    rw [← ha5, List.length_append]
                    split
                    · omega
                    · simp; omega
                  have Ha5 := hid ha5
                  rw [ha5]
                  clear ha5 la4
                  go_upto_region 14 with (fail)
                  obtain ⟨r0, r1, r2, r3, r4, r5, r6, r7, r8, r9⟩ := (hr0.up HB8.out).cells
                  go_cut [79] from 77 to 79 (fun s wx => s = .bool zs ∧ wx = w8)
                  case first =>
                    by_cases b1 : sm = 0
                    · have HV := hid (show zs = false by rw [HZS.out, decide_eq_true b1]; rfl)
                      subst b1
                      go_wp2_with fail
                      go_meet
                      exact ⟨by first | (rw [HV.out]; done) | (rw [HV.out]; rfl) | (rw [HV.out]; exact congrArg Value.bool HNE.out), rfl⟩
                    · have HV := hid (show zs = true by rw [HZS.out, decide_eq_false b1]; rfl)
                      have c1 : decide (sm = 0) = false := decide_eq_false b1
                      have c2 : (!decide (sm = 0)) = true := by rw [c1]; rfl
                      have HNE := hid (show (sm != 0) = true by simpa using b1)
                      go_wp2_with fail
                      go_meet
                      exact ⟨by first | (rw [HV.out]; done) | (rw [HV.out]; rfl) | (rw [HV.out]; exact congrArg Value.bool HNE.out), rfl⟩
                  case rest =>
                    obtain ⟨rfl, hwc⟩ := hcut
                    subst hwc
                    obtain ⟨x8, rfl⟩ : ∃ x, x = wc := ⟨_, rfl⟩
                    clear r0 r1 r2 r3 r4 r5 r6 r7 r8 r9
                    obtain ⟨r0, r1, r2, r3, r4, r5, r6, r7, r8, r9⟩ := (hr0.up HB8.out).cells
                    have HE9 := hid (HE.out.up HB8.out)
                    go_upto_if 79 with (fail)
                    go_cut [3] from 77 to 86 (fun s wx => s = .string (bs (a5 ++ if zs = true then tC else [])) ∧ Hid (Below v0.heap.size v0 wx))
                    case first =>
                      cases zs
                      · go_wp2_with fail
                        go_meet
                        exact ⟨by simp, HB8.out⟩
                      · go_upto_region 15 with (fail)
                        go_wp2_with fail
                        refine (D6.out _ HE9.out).mono ?_
                        rintro e w6 ⟨rfl, hb6⟩
                        have HE10 := hid (HE9.out.up hb6)
                        have HB10 := hid (estep HB8.out hb6)
                        clear hb6
                        go_wp2_with fail
                        refine (TC.out _ HE10.out).mono ?_
                        rintro e w6 ⟨rfl, hb6⟩
                        have hz9 := hid (estep HB10.out hb6)
                        go_wp2_with fail
                        go_meet
                        exact ⟨by simp, hz9.out⟩
                    case rest =>
                      obtain ⟨rfl, HB9⟩ := hcut
                      obtain ⟨w9, rfl⟩ : ∃ x, x = wc := ⟨_, rfl⟩
                      clear r0 r1 r2 r3 r4 r5 r6 r7 r8 r9
                      obtain ⟨a6, ha6⟩ : ∃ x, a5 ++ (if zs = true then tC else []) = x := ⟨_, rfl⟩
                      have la6 : a6.length ≤ 20090 := by
                        rw [← ha6, List.length_append]
                        split
                        · omega
                        · simp; omega
                      have Ha6 := hid ha6
                      rw [ha6]
                      clear ha6 la5
                      go_wp2_with fail
                      go_returns
                      refine ⟨?_, estep HB.out HB9.out⟩
                      rw [HRN.out, ← Ha6.out, ← Ha5.out, ← Ha4.out, ← Ha3.out, ← HA2.out, ← HA1.out]
                      simp
end Go.Proofs.YtingjembjpckcaaGreatDoor
namespace Go.Proofs.YtingjembjpckcaaGreatDoor
set_option linter.unusedVariables false
set_option linter.unusedSimpArgs false
open Go.RowKit Go.Joins

def wrC (f : List UInt8) (U : List Rs) : List UInt8 × Int := if chkC cfR f U = 0 then (confN f U, 0) else ([], chkC cfR f U)
theorem opt_len {b : Bool} {x y : List UInt8} (hx : x.length ≤ 2009) (hy : y.length ≤ 2009) (c : Prop) [Decidable c] : (if c then x else y).length ≤ 2009 := by
  split <;> assumption
theorem ruleN_len {r : Rs} (h : cfR r = 0) : (ruleN r).length ≤ 20090 := by
  obtain ⟨hps4, hps, htg, hmi, n0, n1, n2, n3, n4, n5, n6⟩ := cfR_ok h
  have ltg := name_len htg
  have i0 := itoa_len n0
  have i1 := itoa_len n1
  have i2 := itoa_len n2
  have i3 := itoa_len n3
  have i4 := itoa_len n4
  have i5 := itoa_len n5
  have i6 := itoa_len n6
  have l1 := lineN_len (i := 1) (by omega) (bh := [Lib.itoa r.rank]) (by simp; omega) (by simp)
  have l8 := lineN_len (i := 8) (by omega) (bh := [r.tg]) (by simp; omega) (by simp)
  have lp := preds_len hps
  have la : (abN r).length ≤ 2009 := by
    unfold abN
    split
    · exact lineN_len (by omega) (by simp; omega) (by simp)
    · simp
  have ld : (deN r).length ≤ 2009 := by
    unfold deN
    split
    · exact lineN_len (by omega) (by simp; omega) (by simp)
    · simp
  have lm : (miN r).length ≤ 2009 := by
    unfold miN
    unfold mirB at hmi
    split
    · rename_i hm
      rw [if_neg hm] at hmi
      have := name_len hmi
      exact lineN_len (by omega) (by simp; omega) (by simp)
    · simp
  have ls : (saN r).length ≤ 2009 := by
    unfold saN
    split
    · exact lineN_len (by omega) (by simp; omega) (by simp)
    · simp
  unfold ruleN
  simp only [List.length_append]
  omega
theorem rules_len : ∀ {U : List Rs}, (∀ r ∈ U, cfR r = 0) → (U.flatMap ruleN).length ≤ 20090 * U.length
  | [], _ => by simp
  | r :: U, h => by
    have h1 := ruleN_len (h r (by simp))
    have h2 := rules_len (U := U) fun q hq => h q (by simp [hq])
    rw [List.flatMap_cons, List.length_append, List.length_cons]
    omega
theorem rules_up {U : List Rs} {k : Nat} {r : Rs} (hk : U[k]? = some r) : (U.take (k + 1)).flatMap ruleN = (U.take k).flatMap ruleN ++ ruleN r := by
  obtain ⟨h, rfl⟩ := List.getElem?_eq_some_iff.1 hk
  rw [List.take_succ_eq_append_getElem h, List.flatMap_append]; simp
theorem fmN_len {f : List UInt8} (h : fmtOK f = true) : (fmN f).length ≤ 2009 ∧ f.length ≤ 120 := by
  unfold fmtOK at h
  rw [Bool.and_eq_true, decide_eq_true_eq] at h
  refine ⟨?_, h.1⟩
  unfold fmN
  split
  · exact lineN_len (by omega) (by simp; omega) (by simp)
  · simp
set_option maxRecDepth 100000 in
set_option maxHeartbeats 8000000 in
theorem cwrite_any (y : Value) (f : List UInt8) (U : List Ru) (w : World) (E : EnvC w) (hy : RV w y U) (hs : ∀ u ∈ U, okRs u.sem) (hf : f.length ≤ 140737488351232) {t : List UInt8} {z : Int} (H : Hid (wrC f (U.map Ru.sem) = (t, z))) :
    Calls Tryz.prog 7 #[.agg #[y, .string (bs f)]] w fun e w' => e = .returned (.tuple #[.string (bs t), .int .i64 z]) ∧ Below w.heap.size w w' := by
  have hnot := enot
  have c0 : (ByteArray.mk #[]) = bs [] := rfl
  have hb0 := enew w (.cells #[y, .string (bs f)] 24)
  have hk0 := BF.new w y f
  have HY := hid (hy.up hb0)
  have HE := hid (E.up hb0)
  have HB := hid hb0
  obtain ⟨zc, hzc⟩ : ∃ z, chkC cfR f (U.map Ru.sem) = z := ⟨_, rfl⟩
  have HC := hid (fun w2 (h : RV w2 y U) => ccheck_any y f U w2 h hs hf (hid hzc))
  have HZC := hid hzc
  have HW := hid (show (t, z) = if zc = 0 then (confN f (U.map Ru.sem), 0) else ([], zc) by rw [← H.out, wrC, hzc])
  clear hy E hb0 hzc H hs
  obtain ⟨A, c, rfl, -, -, -, -, hl9⟩ := id HY.out
  generalize hnU : U.length = n at *
  have HNU := hid hnU
  clear hnU
  go_enter Tryz.func7, Tryz.ntmps7
  go_upto_region 1 with (fail)
  generalize w.alloc (.cells #[.slice A n c, .string (bs f)] 24) = v0 at *
  obtain ⟨k0, k1⟩ := hk0.cells
  go_wp2_with fail
  refine (HC.out _ HY.out).mono ?_
  rintro e w1 ⟨rfl, hb1⟩
  have HE1 := hid (HE.out.up hb1)
  have HB1 := hid hb1
  clear hb1 k0 k1
  by_cases hz : zc = 0
  rotate_left
  · have d1 : decide (zc = 0) = false := decide_eq_false hz
    have d2 : (zc != 0) = true := by simpa using hz
    have d3 : (!decide (zc = 0)) = true := by rw [d1]; rfl
    have HT := hid (show (t, z) = ([], zc) by rw [HW.out, if_neg hz])
    obtain ⟨rfl, rfl⟩ := Prod.mk.inj HT.out
    clear hz
    go_wp2_with fail
    go_returns
    exact ⟨rfl, estep HB.out HB1.out⟩
  subst hz
  have HT := hid (show (t, z) = (confN f (U.map Ru.sem), 0) by rw [HW.out, if_pos rfl])
  obtain ⟨rfl, rfl⟩ := Prod.mk.inj HT.out
  clear HT HW HC
  obtain ⟨hfo, h16, hcf⟩ := chkC_ok HZC.out
  obtain ⟨lf, hf120⟩ := fmN_len hfo
  rw [List.length_map, HNU.out] at h16
  have HCF := hid hcf
  have HCN := hid (show confN f (U.map Ru.sem) = fmN f ++ ((U.map Ru.sem).flatMap ruleN ++ lineN 13 []) from rfl)
  have HFN := hid (show fmN f = if f ≠ [] then lineN 0 [f] else [] from rfl)
  have HT0 := hid (fun w2 (e : EnvC w2) => lineText_one 0 (by omega) f w2 e.2 (by omega))
  have HT13 := hid (fun w2 (e : EnvC w2) => lineText_none 13 (by omega) w2 e.2)
  have l13 : (lineN 13 []).length ≤ 10 := by decide
  clear hcf hfo
  generalize fmN f = tf at *
  generalize lineN 13 [] = t13 at *
  obtain ⟨k0, k1⟩ := (hk0.up HB1.out).cells
  obtain ⟨zf, hzf⟩ : ∃ b : Bool, b = (!f.isEmpty) := ⟨_, rfl⟩
  have HZF := hid hzf
  have HTF := hid (show tf = if zf = true then lineN 0 [f] else [] by
    rw [HFN.out, hzf]; cases f <;> simp)
  clear hzf HFN
  go_upto_region 5 with (fail)
  obtain ⟨x1, hx1⟩ : ∃ x, x = w1 := ⟨_, rfl⟩
  subst hx1
  go_cut [15] from 13 to 15 (fun s wx => s = .bool zf ∧ wx = x1)
  case first =>
    by_cases b1 : f = []
    · have HV := hid (show zf = false by rw [HZF.out, b1]; rfl)
      subst b1
      go_wp2_with fail
      go_meet
      exact ⟨by first | (rw [HV.out]; done) | (rw [HV.out]; rfl), rfl⟩
    · have hfd : f.isEmpty = false := by cases f with
        | nil => exact absurd rfl b1
        | cons => rfl
      have HV := hid (show zf = true by rw [HZF.out, hfd]; rfl)
      have hfd2 : (!f.isEmpty) = true := by rw [hfd]; rfl
      have HNE := hid hfd2
      clear b1
      go_wp2_with fail
      go_meet
      exact ⟨by first | (rw [HV.out]; done) | (rw [HV.out]; rfl) | (rw [HV.out]; exact congrArg Value.bool HNE.out), rfl⟩
  case rest =>
  obtain ⟨rfl, hwc⟩ := hcut
  subst hwc
  obtain ⟨w1, rfl⟩ : ∃ x, x = wc := ⟨_, rfl⟩
  clear k0 k1
  obtain ⟨k0, k1⟩ := (hk0.up HB1.out).cells
  go_upto_if 15 with (fail)
  go_cut [5] from 13 to 19 (fun s wx => s = .string (bs tf) ∧ Hid (Below v0.heap.size v0 wx))
  case first =>
    cases zf
    · have HV := hid (show tf = [] by rw [HTF.out]; rfl)
      go_wp2_with fail
      go_meet
      exact ⟨by rw [HV.out]; rfl, HB1.out⟩
    · have HV := hid (show lineN 0 [f] = tf by rw [HTF.out]; rfl)
      go_wp2_with fail
      refine (HT0.out _ HE1.out).mono ?_
      rintro e w2 ⟨rfl, hb2⟩
      have HB2 := hid (estep HB1.out hb2)
      go_wp2_with fail
      go_meet
      exact ⟨by rw [HV.out], HB2.out⟩
  case rest =>
    obtain ⟨rfl, HB2⟩ := hcut
    obtain ⟨w2, rfl⟩ : ∃ x, x = wc := ⟨_, rfl⟩
    clear k0 k1
    obtain ⟨k0, k1⟩ := (hk0.up HB2.out).cells
    obtain ⟨A9, c9, e9, hgx, hrp, -⟩ := id HY.out
    injection e9 with e1 e2 e3
    subst e1 e3
    have HGX := hid (And.intro hgx hrp)
    clear e2 hgx hrp
    go_wp2_with fail
    clear k0 k1
    go_loopg [5, 23] n (fun g1 s vi wr => ∃ i : Nat, vi = .int .i64 i ∧ i ≤ n ∧ n - i ≤ g1 ∧ s = .string (bs (tf ++ ((U.map Ru.sem).take i).flatMap ruleN)) ∧ Hid (Below v0.heap.size v0 wr))
    case atStart => exact ⟨0, rfl, by omega, by omega, by simp, HB2.out⟩
    case round =>
      obtain ⟨i, rfl, hin, hgk, rfl, HWR⟩ := hrel
      have hlr := rules_len (U := (U.map Ru.sem).take i) fun q hq => HCF.out q (List.mem_of_mem_take hq)
      have htk : ((U.map Ru.sem).take i).length ≤ 16 := by rw [List.length_take]; omega
      have hl2 : (((U.map Ru.sem).take i).flatMap ruleN).length ≤ 321440 := by omega
      clear hlr htk
      by_cases hlt : i < n
      · have hltz : (i : Int) < (n : Int) := by omega
        have hltd : decide ((i : Int) < (n : Int)) = true := decide_eq_true hltz
        have hi0 : (0 : Int) ≤ (i : Int) := by omega
        have hiU : i < U.length := by have := HNU.out; omega
        obtain ⟨u, hu⟩ : ∃ u, U[i]? = some u := ⟨_, List.getElem?_eq_getElem hiU⟩
        have hum : u ∈ U := List.mem_of_getElem? hu
        have hcu : cfR u.sem = 0 := HCF.out u.sem (List.mem_map.2 ⟨u, hum, rfl⟩)
        have hlu := ruleN_len hcu
        have HUP := hid (rules_up (sem_of hu))
        obtain ⟨bb, oo, rfl, -⟩ := HGX.out.1.some_of hiU
        obtain ⟨r0, r1, r2, r3, r4, r5, r6, r7, r8, r9⟩ := rank_cell (HGX.out.1.up HWR.out) hu
        have hbE := enew wr (.cells #[.int .i64 u.rank, .slice u.xa u.xn u.xc, .string (bs u.tg), .int .i64 u.ap, .int .i64 u.st, .int .i64 u.dp, .int .i64 u.dt, .int .i64 u.mp, .string (bs u.mi), .int .i64 u.sm] 40)
        have hrE := BR.new wr u
        have HBE := hid (estep HWR.out hbE)
        have HRT := hid (ruleText_any u _ ((HE.out.up HWR.out).up hbE) (UV.up (UV.up (HGX.out.2 u hum) HWR.out) hbE) hcu)
        clear hbE hu hum hcu hiU
        generalize ruleN u.sem = tr at *
        generalize ((U.map Ru.sem).take i).flatMap ruleN = acc at *
        go_upto_region 10 with (fail)
        clear r0 r1 r2 r3 r4 r5 r6 r7 r8 r9
        generalize wr.alloc (.cells #[.int .i64 u.rank, .slice u.xa u.xn u.xc, .string (bs u.tg), .int .i64 u.ap, .int .i64 u.st, .int .i64 u.dp, .int .i64 u.dt, .int .i64 u.mp, .string (bs u.mi), .int .i64 u.sm] 40) = v1 at *
        obtain ⟨r0, r1, r2, r3, r4, r5, r6, r7, r8, r9⟩ := hrE.cells
        clear hrE
        go_wp2_with fail
        refine HRT.out.mono ?_
        rintro e w3 ⟨rfl, hb3⟩
        have HB3 := hid (estep HBE.out hb3)
        clear hb3 r0 r1 r2 r3 r4 r5 r6 r7 r8 r9
        go_wp2_with fail
        go_roundg (n - (i + 1))
        case measure => omega
        case rel => exact ⟨i + 1, by go_num, by omega, by omega, by rw [HUP.out, ← List.append_assoc], HB3.out⟩
      · obtain rfl : n = i := by omega
        have hltd : decide ((n : Int) < (n : Int)) = false := by simp
        have HTK := hid (show (U.map Ru.sem).take n = U.map Ru.sem by rw [List.take_of_length_le]; rw [List.length_map, HNU.out]; exact Nat.le_refl _)
        rw [HTK.out] at hl2 ⊢
        have HE3 := hid (HE.out.up HWR.out)
        generalize (U.map Ru.sem).flatMap ruleN = acc at *
        go_wp2_with fail
        refine (HT13.out _ HE3.out).mono ?_
        rintro e w3 ⟨rfl, hb3⟩
        have HB3 := hid (estep HB.out (estep HWR.out hb3))
        go_wp2_with fail
        go_returns
        exact ⟨by rw [HCN.out]; simp, HB3.out⟩
end Go.Proofs.YtingjembjpckcaaGreatDoor
namespace Go.Proofs.YtingjembjpckcaaGreatDoor
set_option linter.unusedVariables false
set_option linter.unusedSimpArgs false
open Go.RowKit Go.Joins

theorem int_one (w : World) (a : Int) (t : TypeId) : GX encI 1 (w.alloc (.cells #[.int .i64 a] t)) (· < (w.alloc (.cells #[.int .i64 a] t)).heap.size) (some ⟨w.heap.size, 0, none⟩) [a] := by
  intro i hi
  have : i = 0 := by simpa using hi
  subst this
  refine ⟨_, 0, rfl, by simp, fun j hj => ?_⟩
  obtain rfl : j = 0 := by omega
  exact Bk.cell (Bk.new w t #[.int .i64 a]) 0
theorem numP_bad {d : List UInt8} (h : ∀ u, Lib.atoiAll d ≠ .ok u) : numP d = none := by
  unfold numP
  split
  · rename_i v e; exact absurd e (h v)
  · rfl
theorem numP_out {d : List UInt8} {v : Int} (h : Lib.atoiAll d = .ok v) (hi : inNum v = false) : numP d = none := by
  unfold numP
  rw [h]
  simp [hi]
theorem numP_ne {d : List UInt8} {v : Int} (h : Lib.atoiAll d = .ok v) (hi : Lib.itoa v ≠ d) : numP d = none := by
  unfold numP
  rw [h]
  simp [hi]
theorem numP_ok {d : List UInt8} {v : Int} (h : Lib.atoiAll d = .ok v) (hi : inNum v = true) (he : Lib.itoa v = d) : numP d = some v := by
  unfold numP
  rw [h]
  simp [hi, he]
set_option maxRecDepth 100000 in
set_option maxHeartbeats 4000000 in
theorem number_any (d : List UInt8) (w : World) (E : EnvC w) (hl : d.length ≤ 100000) {z : Option Int} (H : Hid (numP d = z)) :
    Calls Tryz.prog 80 #[.string (bs d)] w fun e w' => e = .returned (.tuple #[.int .i64 (z.getD 0), .bool z.isSome]) ∧ Below w.heap.size w w' := by
  have hnot := enot
  have HE := hid E
  have HA := hid (lib_atoi d hl w E.1)
  clear E
  go_enter Tryz.func80, Tryz.ntmps80
  go_wp2_with fail
  refine HA.out.mono ?_
  rintro e w1 ⟨⟨v, r, rfl, hv1, hv2, hr⟩, hb1⟩
  have HB1 := hid hb1
  clear HA hb1
  rcases hr with ⟨rfl, ha⟩ | ⟨⟨t, pv, rfl⟩, ha⟩
  rotate_left
  · have HZ := hid (show z = none by rw [← H.out]; exact numP_bad ha)
    obtain rfl := HZ.out
    clear ha
    go_wp2_with fail
    go_returns
    exact ⟨rfl, HB1.out⟩
  have HOK := hid ha
  have hb2 := enew w1 (.cells #[.int .i64 v] 3)
  have HB2 := hid (estep HB1.out hb2)
  have HN := hid (areNumbers_any (some ⟨w1.heap.size, 0, none⟩) 1 [v] _ (int_one w1 v 3) (by simp))
  clear ha hb2
  by_cases hin : inNum v = true
  rotate_left
  · have hin' : inNum v = false := by simpa using hin
    have HZ := hid (show z = none by rw [← H.out]; exact numP_out HOK.out hin')
    obtain rfl := HZ.out
    have HNA := hid (show [v].all inNum = false by simp [hin'])
    rw [HNA.out] at HN
    clear hin hin'
    go_wp2_with fail
    refine HN.out.mono ?_
    rintro e w2 ⟨rfl, rfl⟩
    go_wp2_with fail
    go_returns
    exact ⟨rfl, HB2.out⟩
  have HNA := hid (show [v].all inNum = true by simp [hin])
  rw [HNA.out] at HN
  have HD := hid (cdigits_any v _ (HE.out.up HB2.out) hin)
  have HIN := hid hin
  clear hin
  by_cases he : Lib.itoa v = d
  · have HZ := hid (show z = some v by rw [← H.out]; exact numP_ok HOK.out HIN.out he)
    obtain rfl := HZ.out
    rw [he] at HD
    clear he
    go_wp2_with fail
    refine HN.out.mono ?_
    rintro e w2 ⟨rfl, rfl⟩
    go_wp2_with fail
    refine HD.out.mono ?_
    rintro e w3 ⟨rfl, hb3⟩
    have HB3 := hid (estep HB2.out hb3)
    go_wp2_with fail
    go_returns
    exact ⟨rfl, HB3.out⟩
  · have HZ := hid (show z = none by rw [← H.out]; exact numP_ne HOK.out he)
    obtain rfl := HZ.out
    have HE2 := hid (show (Lib.itoa v == d) = false by simpa using he)
    have HE3 := hid (show (Lib.itoa v != d) = true by simpa using he)
    clear he
    generalize Lib.itoa v = iv at *
    have e2 := HE2.out
    have e3 := HE3.out
    go_wp2_with fail
    refine HN.out.mono ?_
    rintro e w2 ⟨rfl, rfl⟩
    go_wp2_with fail
    refine HD.out.mono ?_
    rintro e w3 ⟨rfl, hb3⟩
    have HB3 := hid (estep HB2.out hb3)
    go_wp2_with fail
    go_returns
    exact ⟨rfl, HB3.out⟩
set_option maxHeartbeats 1600000 in
theorem ccut_any (sg : UInt8) (r : List UInt8) (w : World) (E : EnvC w) (hl : r.length ≤ 100000) (hsg : sg = 110 ∨ sg = 115 ∨ sg = 116 ∨ sg = 119) :
    Calls Tryz.prog 69 #[.int .u8 sg.toNat, .string (bs r)] w fun e w' => e = .returned (.tuple #[.string (bs (cutP sg r).1), .string (bs (cutP sg r).2.1), .bool (cutP sg r).2.2]) ∧ Below w.heap.size w w' := by
  have c1 : (ByteArray.mk #[32]) = bs [32] := rfl
  have c0 : (ByteArray.mk #[]) = bs [] := rfl
  have HL := hid (lib_cut r [32] (by simp) hl w E.1)
  clear E
  rcases hsg with rfl | rfl | rfl | rfl
  · have HC := hid (show cutP 110 r = cutS [32] r from rfl)
    rw [HC.out]
    clear HC
    generalize cutS [32] r = x at *
    go_enter Tryz.func69, Tryz.ntmps69
    go_wp2_with fail
    refine HL.out.mono ?_
    rintro e w1 ⟨rfl, hb1⟩
    go_wp2_with fail
    go_returns
    exact ⟨rfl, hb1⟩
  · have HC := hid (show cutP 115 r = (r, [], false) from rfl)
    rw [HC.out]
    clear HC
    go_enter Tryz.func69, Tryz.ntmps69
    go_wp2_with fail
    go_returns
    exact ⟨rfl, Below.refl _ _⟩
  · have HC := hid (show cutP 116 r = (r, [], false) from rfl)
    rw [HC.out]
    clear HC
    go_enter Tryz.func69, Tryz.ntmps69
    go_wp2_with fail
    go_returns
    exact ⟨rfl, Below.refl _ _⟩
  · have HC := hid (show cutP 119 r = cutS [32] r from rfl)
    rw [HC.out]
    clear HC
    generalize cutS [32] r = x at *
    go_enter Tryz.func69, Tryz.ntmps69
    go_wp2_with fail
    refine HL.out.mono ?_
    rintro e w1 ⟨rfl, hb1⟩
    go_wp2_with fail
    go_returns
    exact ⟨rfl, hb1⟩
theorem frm_at {j : Nat} (hj : j < 14) : frm[j]'(by show j < 14; exact hj) = (frmW j, frmB j) := by
  have h : frm[j]? = some (frm[j]'(by show j < 14; exact hj)) := List.getElem?_eq_getElem (by show j < 14; exact hj)
  rw [frmW, frmB, h]; rfl
theorem lineIx_hit {wd : List UInt8} {k : Nat} (hk : k < 14) (he : frmW k = wd) (hn : ∀ j, j < k → frmW j ≠ wd) : lineIx wd = some k := by
  have h : frm.findIdx (fun x => x.1 == wd) = k := by
    rw [List.findIdx_eq (by show k < 14; exact hk)]
    refine ⟨by rw [frm_at hk]; simpa using he, fun j hj => ?_⟩
    rw [frm_at (by omega)]
    simpa using hn j hj
  rw [lineIx, h, if_pos hk]
theorem lineIx_miss {wd : List UInt8} (hn : ∀ j, j < 14 → frmW j ≠ wd) : lineIx wd = none := by
  have h : frm.findIdx (fun x => x.1 == wd) = 14 := by
    refine List.findIdx_eq_length.2 fun x hx => ?_
    obtain ⟨j, hj, rfl⟩ := List.getElem_of_mem hx
    rw [frm_at hj]
    simpa using hn j hj
  rw [lineIx, h, if_neg (by omega)]
def ixI (o : Option Nat) : Int := match o with | some i => (i : Int) | none => -1
set_option maxRecDepth 100000 in
set_option maxHeartbeats 1600000 in
theorem lineOf_any (wd : List UInt8) (w : World) (F : Frm w) :
    Calls Tryz.prog 68 #[.string (bs wd)] w fun e w' => e = .returned (.int .i64 (ixI (lineIx wd))) ∧ w = w' := by
  have HF := hid F
  clear F
  go_enter Tryz.func68, Tryz.ntmps68
  go_wp2_with fail
  go_loop [3, 4] (fun _ i => ∃ k : Nat, k ≤ 14 ∧ i = .int .i64 k ∧ Hid (∀ j, j < k → frmW j ≠ wd)) (fun _ i => 14 - (intOf i).toNat)
  case atStart => exact ⟨0, by omega, rfl, hid (fun j hj => absurd hj (by omega))⟩
  case round =>
    obtain ⟨k, hk, rfl, HN⟩ := hrel
    by_cases hlt : k < 14
    · have hki : decide ((k : Int) < 14) = true := by simp; omega
      have hk0 : (0 : Int) ≤ (k : Int) := by omega
      have hk1 : (k : Int) < 14 := by omega
      obtain ⟨f1, -⟩ := HF.out k hlt
      have HIT := hid (fun he => lineIx_hit hlt he HN.out)
      have HUP := hid (fun (hne : frmW k ≠ wd) => show ∀ j, j < k + 1 → frmW j ≠ wd from fun j hj => by
        by_cases e : j = k
        · subst e; exact hne
        · exact HN.out j (by omega))
      generalize frmW k = fw at *
      by_cases he : fw = wd
      · have HZ := hid (HIT.out he)
        subst he
        go_wp2_with fail
        go_ret
        exact ⟨by rw [HZ.out]; rfl, rfl⟩
      · have HE2 := hid (HUP.out he)
        have e2 : (fw == wd) = false := by simpa using he
        go_wp2_with fail
        go_round
        case rel => exact ⟨k + 1, by omega, by go_num, hid HE2.out⟩
        case measure => simp [intOf]; omega
    · obtain rfl : k = 14 := by omega
      have HZ := hid (lineIx_miss HN.out)
      go_wp2_with fail
      go_ret
      exact ⟨by rw [HZ.out]; rfl, rfl⟩
end Go.Proofs.YtingjembjpckcaaGreatDoor
