/- wheel: the walk of WheelTurns. -/
import Derived.Test.YtldilhbomilcpaaJy
import Derived.Deep.RegionHeld3
namespace Go.Proofs.Ytldilhbomilcpaa
set_option linter.unusedVariables false
set_option linter.unusedSimpArgs false
open Go.RowKit Go.Joins

theorem whSet_now (x : Whl) (id t : Int) : (whSet x id t).1.now = x.now := by
  unfold whSet
  split
  · rfl
  · split <;> rfl
theorem whMove_now (x : Whl) (m : Int × Int) : (whMove x m).now ≤ x.now + 1 := by
  unfold whMove
  split
  · exact Int.le_refl _
  · rw [whSet_now]; omega
theorem whRun_now : ∀ (l : List (Int × Int)) (x : Whl), (whRun x l).now ≤ x.now + (l.length : Int)
  | [], x => by simp [whRun]
  | m :: l, x => by
    have h1 := whRun_now l (whMove x m)
    have h2 := whMove_now x m
    show (whRun (whMove x m) l).now ≤ _
    rw [List.length_cons]
    push_cast
    omega
theorem whRun_len (l : List (Int × Int)) (x : Whl) (h : WhOk x) : (whRun x l).all.length ≤ 32 := (WhOk.run l h).few
theorem keepMv {w w' : World} {b i k : Nat} {u v : Value} (h : ∀ w2, Below w.heap.size w w2 → w2.cell? ⟨b, i, none⟩ = some u ∧ w2.cell? ⟨b, k, none⟩ = some v) (hb : Below w.heap.size w w') : w'.cell? ⟨b, i, none⟩ = some u ∧ w'.cell? ⟨b, k, none⟩ = some v ∧ Below w.heap.size w w' := ⟨(h w' hb).1, (h w' hb).2, hb⟩
set_option maxRecDepth 100000 in
set_option maxHeartbeats 16000000 in
theorem wheelTurns_walk (steps : Int) (v : Value) (L : List (Int × Int)) (w : World) (hx : MvV w (· < w.heap.size) v L) :
    Calls Try.prog 8 #[.int .i64 steps, v] w fun e w' => e = .returned (.bool true) ∧ Below w.heap.size w w' := by
  have hnot := enot
  obtain ⟨A, cap, rfl, hgx, -⟩ := hx
  obtain ⟨n, hn⟩ : ∃ n, L.length = n := ⟨_, rfl⟩
  rw [hn]
  have HG := hid hgx
  have HN := hid hn
  clear hgx hn
  by_cases hneg : 0 ≤ steps
  rotate_left
  · have hd2 : decide (steps < 0) = true := decide_eq_true (by omega)
    go_enter Try.func8, Try.ntmps8
    go_wp2_with fail
    refine (known22_any _).mono ?_
    rintro e w1 ⟨rfl, hb1⟩
    go_wp2_with fail
    go_returns
    exact ⟨rfl, hb1⟩
  obtain ⟨st, rfl⟩ : ∃ m : Nat, steps = (m : Int) := ⟨steps.toNat, by omega⟩
  have hdm : decide ((st : Int) < 0) = false := decide_eq_false (by omega)
  clear hneg
  by_cases hst : st ≤ 200
  rotate_left
  · have hd2 : decide ((200 : Int) < (st : Int)) = true := decide_eq_true (by omega)
    have hd3 : decide (200 < st) = true := decide_eq_true (by omega)
    go_enter Try.func8, Try.ntmps8
    go_wp2_with fail
    refine (known22_any _).mono ?_
    rintro e w1 ⟨rfl, hb1⟩
    go_wp2_with fail
    go_returns
    exact ⟨rfl, hb1⟩
  have hd2 : decide ((200 : Int) < (st : Int)) = false := decide_eq_false (by omega)
  have hd3 : decide (200 < st) = false := decide_eq_false (by omega)
  by_cases hnn : n ≤ 200
  rotate_left
  · have hd4 : decide ((200 : Int) < (n : Int)) = true := decide_eq_true (by omega)
    have hd5 : decide (200 < n) = true := decide_eq_true (by omega)
    go_enter Try.func8, Try.ntmps8
    go_wp2_with fail
    refine (known22_any _).mono ?_
    rintro e w1 ⟨rfl, hb1⟩
    go_wp2_with fail
    go_returns
    exact ⟨rfl, hb1⟩
  have hd4 : decide ((200 : Int) < (n : Int)) = false := decide_eq_false (by omega)
  have hd5 : decide (200 < n) = false := decide_eq_false (by omega)
  go_enter Try.func8, Try.ntmps8
  go_wp2_with fail
  refine (wlnew_any w.heap.size w (Nat.le_refl _)).mono ?_
  rintro e w1 ⟨g, rfl, hg, hW, hb1⟩
  have H1 := hid (And.intro hW hb1)
  clear hg hW hb1
  go_wp2_with fail
  refine (wlnew_any w.heap.size w1 H1.out.2.size).mono ?_
  rintro e w2 ⟨g2, rfl, hg, hW, hb2⟩
  have HT2 : Hid (WlT w w2 (fun b => b = g) (fun b => b = g2) g g2 ⟨0, []⟩ ⟨0, []⟩) := hid ⟨H1.out.1.up hb2, hW, fun b hb hb' => by have := H1.out.1.wsub g rfl; omega, estep H1.out.2 hb2⟩
  clear hg hW hb2 H1
  go_wp2_with fail
  go_loopg [7] st (fun g1 vi wr => ∃ i : Nat, vi = .int .i64 i ∧ i ≤ st ∧ st - i ≤ g1 ∧ Hid (WlT w wr (fun b => b = g) (fun b => b = g2) g g2 ⟨(i : Int), []⟩ ⟨0, []⟩))
  case atStart => exact ⟨0, rfl, by omega, by omega, HT2⟩
  case round =>
    obtain ⟨i, rfl, hin, hgk, HI⟩ := hrel
    obtain ⟨wz, hwz⟩ : ∃ wz, wz = wr := ⟨_, rfl⟩
    subst hwz
    by_cases hlt : i < st
    · have hltz : (i : Int) < (st : Int) := by omega
      have hltd : decide ((i : Int) < (st : Int)) = true := decide_eq_true hltz
      have hadd : IntKind.i64.wrap ((i : Int) + 1) = (i : Int) + 1 := IntWalk.i64_in _ (by omega)
      have HS := hid (wlstep_lit _ _ g _ wz HI.out.a (by show (i : Int) ≤ 1000000; omega) (D := []) (m := 0) rfl rfl (x' := ⟨((i + 1 : Nat) : Int), []⟩) (by simp [whStep]))
      go_wp2_with fail
      refine HS.out.mono ?_
      rintro e w3 ⟨A3, c3, rfl, -, hW3, ho3⟩
      have HT3 := hid (HI.out.step1 hW3 ho3)
      clear hW3 ho3 HS
      go_wp2_with fail
      go_roundg (st - (i + 1))
      case measure => omega
      case rel => exact ⟨i + 1, by first | rfl | go_num | simp, by omega, by omega, HT3⟩
    · obtain rfl : i = st := by omega
      have hltz : ¬ (i : Int) < (i : Int) := by omega
      go_wp2_with fail
      go_loopg [8] n (fun g1 vj wr => ∃ (j : Nat) (S T : Nat → Prop), vj = .int .i64 j ∧ j ≤ n ∧ n - j ≤ g1 ∧ Hid (WlT w wr S T g g2 (whShift (i : Int) (whRun ⟨0, []⟩ (L.take j))) (whRun ⟨0, []⟩ (L.take j))))
      case atStart => exact ⟨0, fun b => b = g, fun b => b = g2, rfl, by omega, by omega, hid (by
        have := HI.out
        have e : whShift (i : Int) (whRun ⟨0, []⟩ (L.take 0)) = ⟨(i : Int), []⟩ := by simp [whRun, whShift]
        rw [e]
        exact this)⟩
      case round =>
        obtain ⟨j, S, T, rfl, hjn, hgj, HJ⟩ := hrel
        obtain ⟨wy, hwy⟩ : ∃ wy, wy = wr := ⟨_, rfl⟩
        subst hwy
        have hnw := whRun_now (L.take j) ⟨0, []⟩
        have htl := List.length_take_le j L
        have HNW : Hid ((whRun ⟨0, []⟩ (L.take j)).now ≤ 200) := hid (by simp only at hnw; omega)
        clear hnw htl HI HT2
        by_cases hlt2 : j < n
        · have hjL : j < L.length := by have := HN.out; omega
          obtain ⟨b, o, rfl, hb, hc0, hc1⟩ := HG.out.du j hjL
          have HCC : Hid (∀ w2, Below w.heap.size w w2 → w2.cell? ⟨b, o + j * 2, none⟩ = some (.int .i64 L[j].1) ∧ w2.cell? ⟨b, o + j * 2 + 1, none⟩ = some (.int .i64 L[j].2)) := hid fun w2 h2 => ⟨(h2.cell hb).trans hc0, (h2.cell hb).trans hc1⟩
          have HTK := hid (whRun_take ⟨0, []⟩ L j hjL)
          clear hb hc0 hc1
          generalize L[j] = d at *
          obtain ⟨da, db⟩ := d
          simp only at HCC
          generalize whRun ⟨0, []⟩ (L.take j) = Y at *
          obtain ⟨hc0, hc1⟩ := HCC.out wy HJ.out.bel
          have hkz : (j : Int) < (n : Int) := by omega
          have hkd : decide ((j : Int) < (n : Int)) = true := decide_eq_true hkz
          have hj0 : (0 : Int) ≤ (j : Int) := by omega
          have hjadd : IntKind.i64.wrap ((j : Int) + 1) = (j : Int) + 1 := IntWalk.i64_in _ (by omega)
          have HXN : Hid ((whShift (i : Int) Y).now ≤ 1000000) := hid (by show Y.now + (i : Int) ≤ _; have := HNW.out; omega)
          by_cases hz : db = 0
          · subst hz
            have HT1 : Hid (whRun ⟨0, []⟩ (L.take (j + 1)) = whStep Y) := hid (by rw [HTK.out]; rfl)
            clear HTK
            have hq : ((0 : Int) == 0) = true := rfl
            obtain ⟨m, hm⟩ : ∃ m, (whDue Y).length = m := ⟨_, rfl⟩
            have hm32 : m ≤ 32 := by rw [← hm]; have := HJ.out.b.ok.1.few; have := whStep_len (x := Y); omega
            have HS := hid (wlstep_lit _ _ g _ wy HJ.out.a HXN.out (D := whDue Y) (m := m) (whShift_due _ _) hm (x' := whShift (i : Int) (whStep Y)) (whShift_step _ _))
            have HM := hid hm
            clear hm
            go_wp2_with fail
            refine HS.out.mono ?_
            rintro e w3 ⟨A3, c3, rfl, hg3, hW3, ho3⟩
            have HT3 := hid (HJ.out.step1 hW3 ho3)
            have HG3 := hid hg3
            have HS2 := hid (wlstep_lit _ _ g2 _ w3 HT3.out.b (by have := HNW.out; omega) (D := whDue Y) (m := m) rfl HM.out (x' := whStep Y) rfl)
            clear hg3 hW3 ho3 HS hc0 hc1
            go_wp2_with fail
            refine HS2.out.mono ?_
            rintro e w4 ⟨A4, c4, rfl, hg4, hW4, ho4⟩
            have HT4 := hid (HT3.out.step2 hW4 ho4)
            have HG4 : Hid (GX encWi 1 w4 (· < w4.heap.size) A3 (whDue Y)) := hid ((HG3.out.same fun b hb => ho4.block b (HT3.out.a.wsub b hb.1) (fun e => HT3.out.apart b hb.1 (e ▸ WlH.sg HT3.out.b))).imp fun b hb => HT4.out.a.wsub b hb.1)
            have HIN := hid (ints_same A3 A4 c3 c4 (whDue Y) HM.out w4 HG4.out (hg4.imp fun b hb => HT4.out.b.wsub b hb.1) (by omega))
            clear hg4 hW4 ho4 HS2 HG3 HG4 HT3
            go_wp2_with fail
            refine HIN.out.mono ?_
            rintro e w5 ⟨rfl, hb5⟩
            have HT5 : Hid (WlT w w5 S T g g2 (whShift (i : Int) (whRun ⟨0, []⟩ (L.take (j + 1)))) (whRun ⟨0, []⟩ (L.take (j + 1)))) := hid (by rw [HT1.out]; exact HT4.out.up hb5)
            clear hb5 HIN HT4 HT1
            go_wp2_with fail
            go_roundg (n - (j + 1))
            case measure => omega
            case rel => exact ⟨j + 1, S, T, by first | rfl | go_num | simp, by omega, by omega, HT5⟩
          · have hq : (db == 0) = false := by simpa using hz
            have hq2 : decide (db = 0) = false := decide_eq_false hz
            have HT1 : Hid (whRun ⟨0, []⟩ (L.take (j + 1)) = (whSet Y da db).1) := hid (by rw [HTK.out]; unfold whMove; rw [if_neg hz])
            clear HTK hz
            obtain ⟨z, hzz⟩ : ∃ z, (whSet Y da db).2 = z := ⟨_, rfl⟩
            have HZ2 : Hid ((whSet Y da db).2 = z) := hid hzz
            have HZ1 : Hid ((whSet (whShift (i : Int) Y) da db).2 = z) := hid (by rw [whShift_set]; exact hzz)
            have HX1 : Hid ((whSet (whShift (i : Int) Y) da db).1 = whShift (i : Int) (whSet Y da db).1) := hid (by rw [whShift_set])
            clear hzz
            have hz0 : Below wy.heap.size wy wy.drew := (Below.refl _ _).drew
            have HS1 := hid (fun w2 (hb : Below wy.heap.size wy w2) => wlset_any S w.heap.size g (whShift (i : Int) Y) da db w2 (HJ.out.a.up hb) HXN.out HZ1)
            have HS2 := hid (fun S2 w2 (h : WlT w w2 S2 T g g2 (whShift (i : Int) (whSet Y da db).1) Y) => wlset_any T w.heap.size g2 Y da db w2 h.b (by have := HNW.out; omega) HZ2)
            go_wp2_with fail
            have hzb : Below w.heap.size w wy.drew := HJ.out.bel.drew
            go_region_held3 (fun w' => w'.cell? ⟨b, o + j * 2, none⟩ = some (.int .i64 da) ∧ w'.cell? ⟨b, o + j * 2 + 1, none⟩ = some (.int .i64 db) ∧ Below w.heap.size w w') (first | (with_reducible exact keepMv HCC.out hzb)) (first
              | (go_at_call 24
                 ((with_reducible refine (HS1.out _ hz0).mono ?_); rintro e w5 ⟨rfl, hW5, ho5⟩)
                 rw [HX1.out] at hW5
                 have HT5 := WlT.set1 (HJ.out.up hz0) hW5 ho5
                 have hzb := HT5.bel)
              | (go_at_call 24
                 ((with_reducible refine (HS2.out _ _ HT5).mono ?_); rintro e w6 ⟨rfl, hW6, ho6⟩)
                 have HT6 := WlT.set2 HT5 hW6 ho6
                 have hzb := HT6.bel))
            all_goals
              have HT7 : Hid (WlT w w6 _ _ g g2 (whShift (i : Int) (whRun ⟨0, []⟩ (L.take (j + 1)))) (whRun ⟨0, []⟩ (L.take (j + 1)))) := hid (by rw [HT1.out]; exact HT6)
              clear HT6 HT5 hW5 hW6 ho5 ho6 HS1 HS2 hc0 hc1 hz0 hzb
              go_wp2_with fail
              go_roundg (n - (j + 1))
              case measure => omega
              case rel => exact ⟨j + 1, _, _, by first | rfl | go_num | simp, by omega, by omega, HT7⟩
        · obtain rfl : j = n := by omega
          have hkz : ¬ (j : Int) < (j : Int) := by omega
          have HE : Hid (WlT w wy S T g g2 (whShift (i : Int) (whRun ⟨0, []⟩ (L.take j))) (whRun ⟨0, []⟩ (L.take j))) := hid HJ.out
          generalize whRun ⟨0, []⟩ (L.take j) = Y at *
          clear HJ
          obtain ⟨q, hq⟩ : ∃ q, Y.all.length = q := ⟨_, rfl⟩
          obtain ⟨nw, hnw⟩ : ∃ q, Y.now = q := ⟨_, rfl⟩
          have hnp : 0 ≤ nw := by rw [← hnw]; exact HE.out.b.ok.2
          have hn2 : nw ≤ 200 := by rw [← hnw]; exact HNW.out
          have HQ2 := hid hq
          have HQ1 : Hid ((whShift (i : Int) Y).all.length = q) := hid (by unfold whShift; simp only [List.length_map]; exact hq)
          have HN2 := hid hnw
          have HN1 : Hid ((whShift (i : Int) Y).now = nw + (i : Int)) := hid (by unfold whShift; simp only [hnw])
          clear hq hnw
          have HLA := hid (wllen_any S w.heap.size g _ wy HE.out.a HQ1)
          go_wp2_with fail
          refine HLA.out.mono ?_
          rintro e w3 ⟨rfl, hb3⟩
          have H3 := hid (HE.out.up hb3)
          have HLB := hid (wllen_any T w.heap.size g2 _ w3 H3.out.b HQ2)
          clear hb3 HLA HE
          go_wp2_with fail
          refine HLB.out.mono ?_
          rintro e w4 ⟨rfl, hb4⟩
          have H4 := hid (H3.out.up hb4)
          have HNA := hid (wlnow_any S w.heap.size g _ w4 H4.out.a HN1)
          clear hb4 HLB H3
          go_wp2_with fail
          refine HNA.out.mono ?_
          rintro e w5 ⟨rfl, hb5⟩
          have H5 := hid (H4.out.up hb5)
          have HNB := hid (wlnow_any T w.heap.size g2 _ w5 H5.out.b HN2)
          clear hb5 HNA H4
          go_wp2_with fail
          refine HNB.out.mono ?_
          rintro e w6 ⟨rfl, hb6⟩
          have H6 := hid (H5.out.up hb6)
          clear hb6 HNB H5
          go_wp2_with fail
          refine (known22_any _).mono ?_
          rintro e w7 ⟨rfl, hb7⟩
          go_wp2_with fail
          go_returns
          exact ⟨rfl, estep H6.out.bel hb7⟩
end Go.Proofs.Ytldilhbomilcpaa
