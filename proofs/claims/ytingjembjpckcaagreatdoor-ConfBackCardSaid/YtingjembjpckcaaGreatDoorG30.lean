/- Texts put together: Lk. -/
import Derived.Test.YtingjembjpckcaaGreatDoorG28
import Derived.Test.YtingjembjpckcaaGreatDoorG29
import Derived.Test.YtingjembjpckcaaGreatDoorG23
namespace Go.Proofs.YtingjembjpckcaaGreatDoor
set_option linter.unusedVariables false
set_option linter.unusedSimpArgs false
open Go.RowKit Go.Joins

set_option maxRecDepth 100000 in
set_option maxHeartbeats 8000000 in
theorem rcwrite_any (y : Value) (f : List UInt8) (U : List Ru) (w : World) (hy : RV w y U) (hs : ∀ u ∈ U, okRs u.sem) (hf : f.length ≤ 140737488351232) {t : List UInt8} {z : Int} (H : Hid (wrC f (U.map Ru.sem) = (t, z))) :
    Calls Tryz.prog 8 #[.agg #[y, .string (bs f)]] w fun e w' => e = .returned (.tuple #[.string (bs t), .int .i64 z]) ∧ Below w.heap.size w w' := by
  have hnot := enot
  have c0 : (ByteArray.mk #[]) = bs [] := rfl
  have hb0 := enew w (.cells #[y, .string (bs f)] 24)
  have hk0 := BF.new w y f
  have HY := hid (hy.up hb0)
  have HB := hid hb0
  obtain ⟨zc, hzc⟩ : ∃ z, chkC cfR f (U.map Ru.sem) = z := ⟨_, rfl⟩
  have HC := hid (fun w2 (h : RV w2 y U) => rccheck_any y f U w2 h hs hf (hid hzc))
  have HZC := hid hzc
  have HW := hid (show (t, z) = if zc = 0 then (confN f (U.map Ru.sem), 0) else ([], zc) by rw [← H.out, wrC, hzc])
  clear hy hb0 hzc H hs
  obtain ⟨A, c, rfl, -, -, -, -, hl9⟩ := id HY.out
  generalize hnU : U.length = n at *
  have HNU := hid hnU
  clear hnU
  go_enter Tryz.func8, Tryz.ntmps8
  go_upto_region 1 with (fail)
  generalize w.alloc (.cells #[.slice A n c, .string (bs f)] 24) = v0 at *
  obtain ⟨k0, k1⟩ := hk0.cells
  go_wp2_with fail
  refine (HC.out _ HY.out).mono ?_
  rintro e w1 ⟨rfl, hb1⟩
  have HB1 := hid hb1
  clear hb1 k0 k1
  by_cases hz : zc = 0
  rotate_left
  · have d1 : decide (zc = 0) = false := decide_eq_false hz
    have d2 : (zc != 0) = true := by simpa using hz
    have d3 : (!decide (zc = 0)) = true := by rw [d1]; rfl
    have HT := hid (show (t, z) = ([], zc) by rw [HW.out, if_neg hz])
    obtain ⟨rfl, rfl⟩ := Prod.mk.inj HT.out
    clear hz
    obtain ⟨k0, k1⟩ := (hk0.up HB1.out).cells
    go_wp2_with fail
    refine (HC.out _ (HY.out.up HB1.out)).mono ?_
    rintro e w2 ⟨rfl, hb2⟩
    have HB2 := hid (estep HB.out (estep HB1.out hb2))
    go_wp2_with fail
    go_returns
    exact ⟨rfl, HB2.out⟩
  subst hz
  have HT := hid (show (t, z) = (confN f (U.map Ru.sem), 0) by rw [HW.out, if_pos rfl])
  obtain ⟨rfl, rfl⟩ := Prod.mk.inj HT.out
  clear HT HW HC
  obtain ⟨hfo, h16, hcf⟩ := chkC_ok HZC.out
  obtain ⟨lf, hf120⟩ := fmN_len hfo
  rw [List.length_map, HNU.out] at h16
  have HCF := hid hcf
  have HCN := hid (show confN f (U.map Ru.sem) = fmN f ++ ((U.map Ru.sem).flatMap ruleN ++ lineN 13 []) from rfl)
  have HFN := hid (show fmN f = if f ≠ [] then lineN 0 [f] else [] from rfl)
  have HT0 := hid (show lineN 0 [f] = [102, 111, 114, 109, 97, 116, 32] ++ f ++ [10] by rw [lineN_one]; rfl)
  have HT13 := hid (show lineN 13 [] = [101, 110, 100, 10] by decide)
  have k1' : (ByteArray.mk #[102, 111, 114, 109, 97, 116, 32]) = bs [102, 111, 114, 109, 97, 116, 32] := rfl
  have k2' : (ByteArray.mk #[10]) = bs [10] := rfl
  have k3' : (ByteArray.mk #[101, 110, 100, 10]) = bs [101, 110, 100, 10] := rfl
  have l13 : (lineN 13 []).length ≤ 10 := by decide
  clear hcf hfo
  generalize fmN f = tf at *
  generalize lineN 13 [] = t13 at *
  obtain ⟨k0, k1⟩ := (hk0.up HB1.out).cells
  obtain ⟨zf, hzf⟩ : ∃ b : Bool, b = (!f.isEmpty) := ⟨_, rfl⟩
  have HZF := hid hzf
  have HTF := hid (show tf = if zf = true then lineN 0 [f] else [] by
    rw [HFN.out, hzf]; cases f <;> simp)
  clear hzf HFN
  go_upto_region 4 with (fail)
  obtain ⟨x1, hx1⟩ : ∃ x, x = w1 := ⟨_, rfl⟩
  subst hx1
  go_cut [13] from 11 to 13 (fun s wx => s = .bool zf ∧ wx = x1)
  case first =>
    by_cases b1 : f = []
    · have HV := hid (show zf = false by rw [HZF.out, b1]; rfl)
      subst b1
      go_wp2_with fail
      go_meet
      exact ⟨by first | (rw [HV.out]; done) | (rw [HV.out]; rfl), rfl⟩
    · have hfd : f.isEmpty = false := by cases f with
        | nil => exact absurd rfl b1
        | cons => rfl
      have HV := hid (show zf = true by rw [HZF.out, hfd]; rfl)
      have hfd2 : (!f.isEmpty) = true := by rw [hfd]; rfl
      have HNE := hid hfd2
      clear b1
      go_wp2_with fail
      go_meet
      exact ⟨by first | (rw [HV.out]; done) | (rw [HV.out]; rfl) | (rw [HV.out]; exact congrArg Value.bool HNE.out), rfl⟩
  case rest =>
  obtain ⟨rfl, hwc⟩ := hcut
  subst hwc
  obtain ⟨w1, rfl⟩ : ∃ x, x = wc := ⟨_, rfl⟩
  clear k0 k1
  obtain ⟨k0, k1⟩ := (hk0.up HB1.out).cells
  go_upto_if 13 with (fail)
  go_cut [4] from 11 to 17 (fun s wx => s = .string (bs tf) ∧ Hid (Below v0.heap.size v0 wx))
  case first =>
    cases zf
    · have HV := hid (show tf = [] by rw [HTF.out]; rfl)
      go_wp2_with fail
      go_meet
      exact ⟨by rw [HV.out]; rfl, HB1.out⟩
    · have HV := hid (show lineN 0 [f] = tf by rw [HTF.out]; rfl)
      go_wp2_with fail
      go_meet
      exact ⟨by rw [← HV.out, HT0.out]; simp, HB1.out⟩
  case rest =>
    obtain ⟨rfl, HB2⟩ := hcut
    obtain ⟨w2, rfl⟩ : ∃ x, x = wc := ⟨_, rfl⟩
    clear k0 k1
    obtain ⟨k0, k1⟩ := (hk0.up HB2.out).cells
    obtain ⟨A9, c9, e9, hgx, hrp, -⟩ := id HY.out
    injection e9 with e1 e2 e3
    subst e1 e3
    have HGX := hid (And.intro hgx hrp)
    clear e2 hgx hrp
    go_upto_region 7 with (fail)
    clear k0 k1
    go_loopg [4, 5] n (fun g1 s vi wr => ∃ i : Nat, vi = .int .i64 i ∧ i ≤ n ∧ n - i ≤ g1 ∧ s = .string (bs (tf ++ ((U.map Ru.sem).take i).flatMap ruleN)) ∧ Hid (Below v0.heap.size v0 wr))
    case atStart => exact ⟨0, rfl, by omega, by omega, by simp, HB2.out⟩
    case round =>
      obtain ⟨i, rfl, hin, hgk, rfl, HWR⟩ := hrel
      have hlr := rules_len (U := (U.map Ru.sem).take i) fun q hq => HCF.out q (List.mem_of_mem_take hq)
      have htk : ((U.map Ru.sem).take i).length ≤ 16 := by rw [List.length_take]; omega
      have hl2 : (((U.map Ru.sem).take i).flatMap ruleN).length ≤ 321440 := by omega
      clear hlr htk
      by_cases hlt : i < n
      · have hltz : (i : Int) < (n : Int) := by omega
        have hltd : decide ((i : Int) < (n : Int)) = true := decide_eq_true hltz
        have hi0 : (0 : Int) ≤ (i : Int) := by omega
        have hiU : i < U.length := by have := HNU.out; omega
        obtain ⟨u, hu⟩ : ∃ u, U[i]? = some u := ⟨_, List.getElem?_eq_getElem hiU⟩
        have hum : u ∈ U := List.mem_of_getElem? hu
        have hcu : cfR u.sem = 0 := HCF.out u.sem (List.mem_map.2 ⟨u, hum, rfl⟩)
        have hlu := ruleN_len hcu
        have HUP := hid (rules_up (sem_of hu))
        obtain ⟨bb, oo, rfl, -⟩ := HGX.out.1.some_of hiU
        obtain ⟨r0, r1, r2, r3, r4, r5, r6, r7, r8, r9⟩ := rank_cell (HGX.out.1.up HWR.out) hu
        have HRT := hid (rruleText_any u _ (UV.up (HGX.out.2 u hum) HWR.out) hcu)
        clear hu hum hcu hiU
        generalize ruleN u.sem = tr at *
        generalize ((U.map Ru.sem).take i).flatMap ruleN = acc at *
        obtain ⟨k0, k1⟩ := (hk0.up HWR.out).cells
        go_wp2_with fail
        refine HRT.out.mono ?_
        rintro e w3 ⟨rfl, hb3⟩
        have HB3 := hid (estep HWR.out hb3)
        clear hb3 r0 r1 r2 r3 r4 r5 r6 r7 r8 r9 k0 k1
        go_wp2_with fail
        go_roundg (n - (i + 1))
        case measure => omega
        case rel => exact ⟨i + 1, by go_num, by omega, by omega, by rw [HUP.out, ← List.append_assoc], HB3.out⟩
      · obtain rfl : n = i := by omega
        have hltd : decide ((n : Int) < (n : Int)) = false := by simp
        have HTK := hid (show (U.map Ru.sem).take n = U.map Ru.sem by rw [List.take_of_length_le]; rw [List.length_map, HNU.out]; exact Nat.le_refl _)
        rw [HTK.out] at hl2 ⊢
        generalize (U.map Ru.sem).flatMap ruleN = acc at *
        obtain ⟨k0, k1⟩ := (hk0.up HWR.out).cells
        have HB3 := hid (estep HB.out HWR.out)
        go_wp2_with fail
        go_returns
        exact ⟨by rw [HCN.out, HT13.out]; simp, HB3.out⟩
end Go.Proofs.YtingjembjpckcaaGreatDoor
