/- wheel: the walk of WheelExact. -/
import Derived.Test.YtldilhbomilcpaaJz
namespace Go.Proofs.Ytldilhbomilcpaa
set_option linter.unusedVariables false
set_option linter.unusedSimpArgs false
open Go.RowKit Go.Joins

theorem mask_nat (x : Int) : ∃ m : Nat, bits .and .i64 x 1023 = (m : Int) := by
  have hle : ((BitVec.ofInt 64 x) &&& (BitVec.ofInt 64 1023)).toNat ≤ 1023 := by
    rw [BitVec.toNat_and]
    exact Nat.le_trans Nat.and_le_right (by decide)
  refine ⟨((BitVec.ofInt 64 x) &&& (BitVec.ofInt 64 1023)).toNat, ?_⟩
  show IntKind.i64.wrap ((((BitVec.ofInt 64 x) &&& (BitVec.ofInt 64 1023)).toNat : Nat) : Int) = _
  generalize ((BitVec.ofInt 64 x) &&& (BitVec.ofInt 64 1023)).toNat = m at hle
  exact IntWalk.i64_in _ (by omega)
theorem whIter_now (y : Whl) : ∀ k : Nat, (whIter k y).now = y.now + (k : Int)
  | 0 => by simp [whIter]
  | k + 1 => by
    show (whIter k y).now + 1 = _
    rw [whIter_now y k]
    omega
/-- What WheelExact's first loop knows. -/
structure WxL (w wr : World) (S : Nat → Prop) (g : Nat) (x : Whl) (i : Nat) : Prop where
  a : WlH S w.heap.size wr g x
  bel : Below w.heap.size w wr
  ids : ∀ d ∈ x.all, d.1 ≠ -1
  now : x.now ≤ (i : Int)
theorem WxL.up {w wr w2 : World} {S : Nat → Prop} {g i : Nat} {x : Whl} (h : WxL w wr S g x i) (hb : Below wr.heap.size wr w2) : WxL w w2 S g x i := ⟨h.a.up hb, estep h.bel hb, h.ids, h.now⟩
theorem flt_take_len (D : List Int) (j : Nat) (h : j < D.length) : ((D.take (j + 1)).filter fun x => decide (x = -1)).length = ((D.take j).filter fun x => decide (x = -1)).length + if D[j] = -1 then 1 else 0 := by
  rw [flt_take _ _ _ h, List.length_append]
  by_cases e : D[j] = -1
  · simp [e]
  · simp [e]
set_option maxRecDepth 100000 in
set_option maxHeartbeats 16000000 in
theorem wheelExact_walk (v : Value) (L : List (Int × Int)) (ticks steps : Int) (w : World) (hx : MvV w (· < w.heap.size) v L) :
    Calls Try.prog 7 #[v, .int .i64 ticks, .int .i64 steps] w fun e w' => e = .returned (.bool true) ∧ Below w.heap.size w w' := by
  have hnot := enot
  obtain ⟨A, cap, rfl, hgx, -⟩ := hx
  obtain ⟨n, hn⟩ : ∃ n, L.length = n := ⟨_, rfl⟩
  rw [hn]
  have HG := hid hgx
  have HN := hid hn
  clear hgx hn
  by_cases hnn : n ≤ 200
  rotate_left
  · have hd4 : decide ((200 : Int) < (n : Int)) = true := decide_eq_true (by omega)
    have hd5 : decide (200 < n) = true := decide_eq_true (by omega)
    go_enter Try.func7, Try.ntmps7
    go_wp2_with fail
    refine (known22_any _).mono ?_
    rintro e w1 ⟨rfl, hb1⟩
    go_wp2_with fail
    go_returns
    exact ⟨rfl, hb1⟩
  have hd4 : decide ((200 : Int) < (n : Int)) = false := decide_eq_false (by omega)
  have hd5 : decide (200 < n) = false := decide_eq_false (by omega)
  by_cases ht1 : 1 ≤ ticks
  rotate_left
  · have hd2 : decide (ticks < 1) = true := decide_eq_true (by omega)
    go_enter Try.func7, Try.ntmps7
    go_wp2_with fail
    refine (known22_any _).mono ?_
    rintro e w1 ⟨rfl, hb1⟩
    go_wp2_with fail
    go_returns
    exact ⟨rfl, hb1⟩
  have hd6 : decide (ticks < 1) = false := decide_eq_false (by omega)
  by_cases ht2 : ticks ≤ 50
  rotate_left
  · have hd2 : decide (50 < ticks) = true := decide_eq_true (by omega)
    go_enter Try.func7, Try.ntmps7
    go_wp2_with fail
    refine (known22_any _).mono ?_
    rintro e w1 ⟨rfl, hb1⟩
    go_wp2_with fail
    go_returns
    exact ⟨rfl, hb1⟩
  have hd7 : decide (50 < ticks) = false := decide_eq_false (by omega)
  by_cases hneg : 0 ≤ steps
  rotate_left
  · have hd2 : decide (steps < 0) = true := decide_eq_true (by omega)
    go_enter Try.func7, Try.ntmps7
    go_wp2_with fail
    refine (known22_any _).mono ?_
    rintro e w1 ⟨rfl, hb1⟩
    go_wp2_with fail
    go_returns
    exact ⟨rfl, hb1⟩
  obtain ⟨st, rfl⟩ : ∃ m : Nat, steps = (m : Int) := ⟨steps.toNat, by omega⟩
  have hdm : decide ((st : Int) < 0) = false := decide_eq_false (by omega)
  clear hneg
  by_cases hst : st ≤ 120
  rotate_left
  · have hd2 : decide ((120 : Int) < (st : Int)) = true := decide_eq_true (by omega)
    have hd3 : decide (120 < st) = true := decide_eq_true (by omega)
    go_enter Try.func7, Try.ntmps7
    go_wp2_with fail
    refine (known22_any _).mono ?_
    rintro e w1 ⟨rfl, hb1⟩
    go_wp2_with fail
    go_returns
    exact ⟨rfl, hb1⟩
  have hd2 : decide ((120 : Int) < (st : Int)) = false := decide_eq_false (by omega)
  have hd3 : decide (120 < st) = false := decide_eq_false (by omega)
  go_enter Try.func7, Try.ntmps7
  go_wp2_with fail
  refine (wlnew_any w.heap.size w (Nat.le_refl _)).mono ?_
  rintro e w1 ⟨g, rfl, hg, hW, hb1⟩
  have H1 : Hid (WxL w w1 (fun b => b = g) g ⟨0, []⟩ 0) := hid ⟨hW, hb1, by simp, by simp⟩
  clear hg hW hb1
  go_wp2_with fail
  go_loopg [8] n (fun g1 vj wr => ∃ (j : Nat) (S : Nat → Prop) (x : Whl), vj = .int .i64 j ∧ j ≤ n ∧ n - j ≤ g1 ∧ Hid (WxL w wr S g x j))
  case atStart => exact ⟨0, fun b => b = g, ⟨0, []⟩, rfl, by omega, by omega, H1⟩
  case round =>
    obtain ⟨j, S, x, rfl, hjn, hgj, HJ⟩ := hrel
    obtain ⟨wy, hwy⟩ : ∃ wy, wy = wr := ⟨_, rfl⟩
    subst hwy
    clear H1
    by_cases hlt2 : j < n
    · have hjL : j < L.length := by have := HN.out; omega
      obtain ⟨b, o, rfl, hb, hc0, hc1⟩ := HG.out.du j hjL
      have HCC : Hid (∀ w2, Below w.heap.size w w2 → w2.cell? ⟨b, o + j * 2, none⟩ = some (.int .i64 L[j].1) ∧ w2.cell? ⟨b, o + j * 2 + 1, none⟩ = some (.int .i64 L[j].2)) := hid fun w2 h2 => ⟨(h2.cell hb).trans hc0, (h2.cell hb).trans hc1⟩
      clear hb hc0 hc1
      generalize L[j] = d at *
      obtain ⟨da, db⟩ := d
      simp only at HCC
      obtain ⟨hc0, hc1⟩ := HCC.out wy HJ.out.bel
      have hkz : (j : Int) < (n : Int) := by omega
      have hkd : decide ((j : Int) < (n : Int)) = true := decide_eq_true hkz
      have hj0 : (0 : Int) ≤ (j : Int) := by omega
      have hjadd : IntKind.i64.wrap ((j : Int) + 1) = (j : Int) + 1 := IntWalk.i64_in _ (by omega)
      have HXN : Hid (x.now ≤ 1000000) := hid (by have := HJ.out.now; omega)
      by_cases hz : db = 0
      · subst hz
        have hq : ((0 : Int) == 0) = true := rfl
        have HS := hid (wlstep_any S w.heap.size g x wy HJ.out.a HXN.out)
        go_wp2_with fail
        refine HS.out.mono ?_
        rintro e w3 ⟨A3, c3, rfl, hg3, hW3, ho3⟩
        have HT3 : Hid (WxL w w3 S g (whStep x) (j + 1)) := hid ⟨hW3, WlH.low1 HJ.out.a HJ.out.bel ho3, whStep_ids x (fun i => i ≠ -1) HJ.out.ids, by have := HJ.out.now; show x.now + 1 ≤ _; omega⟩
        clear hg3 hW3 ho3 HS hc0 hc1
        go_wp2_with fail
        go_roundg (n - (j + 1))
        case measure => omega
        case rel => exact ⟨j + 1, S, whStep x, by first | rfl | go_num | simp, by omega, by omega, HT3⟩
      · have hq : (db == 0) = false := by simpa using hz
        have hq2 : decide (db = 0) = false := decide_eq_false hz
        obtain ⟨mk, hmk⟩ := mask_nat da
        obtain ⟨z, hzz⟩ : ∃ z, (whSet x (mk : Int) db).2 = z := ⟨_, rfl⟩
        have HZ := hid hzz
        clear hzz hz
        have hz0 : Below wy.heap.size wy wy.drew := (Below.refl _ _).drew
        have HS1 := hid (fun w2 (hb : Below wy.heap.size wy w2) => wlset_any S w.heap.size g x (mk : Int) db w2 (HJ.out.a.up hb) HXN.out HZ)
        have hzb : Below w.heap.size w wy.drew := HJ.out.bel.drew
        go_wp2_with fail
        go_region_held3 (fun w' => w'.cell? ⟨b, o + j * 2, none⟩ = some (.int .i64 da) ∧ w'.cell? ⟨b, o + j * 2 + 1, none⟩ = some (.int .i64 db) ∧ Below w.heap.size w w') (first | (with_reducible exact keepMv HCC.out hzb)) (first
          | (go_at_call 24
             ((with_reducible refine (HS1.out _ hz0).mono ?_); rintro e w5 ⟨rfl, hW5, ho5⟩)
             have HT5 : WxL w w5 (Grw S wy.drew w5) g (whSet x (mk : Int) db).1 (j + 1) := ⟨hW5, WlH.low (HJ.out.a.up hz0) (estep HJ.out.bel hz0) ho5, whSet_ids x _ _ (fun i => i ≠ -1) HJ.out.ids (by omega), by rw [whSet_now]; have := HJ.out.now; omega⟩
             have hzb := HT5.bel))
        all_goals
          have HT6 := hid HT5
          clear hW5 ho5 HT5 hzb HS1 hz0 hc0 hc1
          go_wp2_with fail
          go_roundg (n - (j + 1))
          case measure => omega
          case rel => exact ⟨j + 1, _, _, by first | rfl | go_num | simp, by omega, by omega, HT6⟩
    · obtain rfl : j = n := by omega
      have hkz : ¬ (j : Int) < (j : Int) := by omega
      obtain ⟨q, hq⟩ : ∃ q, x.all.length = q := ⟨_, rfl⟩
      have hq32 : q ≤ 32 := by rw [← hq]; exact HJ.out.a.ok.1.few
      have HQ := hid hq
      clear hq
      have e1 : decide ((32 : Int) < (q : Int)) = false := decide_eq_false (by omega)
      have e2 : decide (32 < q) = false := decide_eq_false (by omega)
      have HLA := hid (wllen_any S w.heap.size g _ wy HJ.out.a HQ)
      have HXN : Hid (x.now ≤ 1000000) := hid (by have := HJ.out.now; omega)
      go_wp2_with fail
      refine HLA.out.mono ?_
      rintro e w3 ⟨rfl, hb3⟩
      have H3 := hid (HJ.out.up hb3)
      clear hb3 HLA HJ
      by_cases hfull : q = 32
      · have HZ : Hid ((whSet x (-1) ticks).2 = 8) := hid (by unfold whSet; rw [if_neg (by omega), if_pos (by have := HQ.out; omega)])
        have HXX : Hid ((whSet x (-1) ticks).1 = x) := hid (by unfold whSet; rw [if_neg (by omega), if_pos (by have := HQ.out; omega)])
        have HS := hid (wlset_any S w.heap.size g x (-1) ticks w3 H3.out.a HXN.out HZ)
        rw [HXX.out] at HS
        subst hfull
        go_wp2_with fail
        refine HS.out.mono ?_
        rintro e w4 ⟨rfl, hW4, ho4⟩
        have H4 := hid (And.intro hW4 (WlH.low H3.out.a H3.out.bel ho4))
        have HLB := hid (wllen_any _ w.heap.size g _ w4 hW4 HQ)
        clear hW4 ho4 HS
        go_wp2_with fail
        refine HLB.out.mono ?_
        rintro e w5 ⟨rfl, hb5⟩
        have H5 := hid (estep H4.out.2 hb5)
        clear hb5
        go_wp2_with fail
        refine (known22_any _).mono ?_
        rintro e w6 ⟨rfl, hb6⟩
        go_wp2_with fail
        go_returns
        exact ⟨rfl, estep H5.out hb6⟩
      · have HZ : Hid ((whSet x (-1) ticks).2 = 0) := hid (by unfold whSet; rw [if_neg (by omega), if_neg (by have := HQ.out; omega)])
        have HS := hid (wlset_any S w.heap.size g x (-1) ticks w3 H3.out.a HXN.out HZ)
        have HEX := hid (fun k => whDue_exact x H3.out.a.ok.1 (-1) ticks H3.out.ids HZ.out k)
        have HYN : Hid ((whSet x (-1) ticks).1.now ≤ 200) := hid (by rw [whSet_now]; have := H3.out.now; omega)
        generalize (whSet x (-1) ticks).1 = y at *
        clear hfull HZ
        obtain ⟨tt, rfl⟩ : ∃ m : Nat, ticks = (m : Int) := ⟨ticks.toNat, by omega⟩
        go_wp2_with fail
        refine HS.out.mono ?_
        rintro e w4 ⟨rfl, hW4, ho4⟩
        have H4 := hid (And.intro hW4 (WlH.low H3.out.a H3.out.bel ho4))
        generalize Grw S w3 w4 = S2 at *
        clear hW4 ho4 HS H3 HXN HQ
        go_wp2_with fail
        go_loopg [10] st (fun g1 vk wr => ∃ i : Nat, vk = .int .i64 ((i + 1 : Nat) : Int) ∧ i ≤ st ∧ st - i ≤ g1 ∧ Hid (WlH S2 w.heap.size wr g (whIter i y) ∧ Below w.heap.size w wr))
        case atStart => exact ⟨0, rfl, by omega, by omega, H4⟩
        case round =>
          obtain ⟨i, rfl, hist, hgi, HI⟩ := hrel
          obtain ⟨wz, hwz⟩ : ∃ wz, wz = wr := ⟨_, rfl⟩
          subst hwz
          clear H4
          obtain ⟨k, hk⟩ : ∃ k, i + 1 = k := ⟨_, rfl⟩
          rw [hk]
          by_cases hlt : k ≤ st
          · have hle : (k : Int) ≤ (st : Int) := by omega
            have hled : decide ((k : Int) ≤ (st : Int)) = true := decide_eq_true hle
            have hledn : decide (k ≤ st) = true := decide_eq_true hlt
            have hkadd : IntKind.i64.wrap ((k : Int) + 1) = (k : Int) + 1 := IntWalk.i64_in _ (by omega)
            have HCT := hid (HEX.out i)
            have hnow2 : (whIter i y).now ≤ 1000000 := by rw [whIter_now]; have := HYN.out; omega
            have hlen := whStep_len (x := whIter i y)
            have hfew := HI.out.1.ok.1.few
            obtain ⟨D, hD⟩ : ∃ D, whDue (whIter i y) = D := ⟨_, rfl⟩
            obtain ⟨m, hm⟩ : ∃ m, D.length = m := ⟨_, rfl⟩
            rw [hD] at HCT hlen
            have hm32 : m ≤ 32 := by omega
            have HS := hid (wlstep_lit S2 w.heap.size g _ wz HI.out.1 hnow2 hD hm (x' := whIter (i + 1) y) rfl)
            have HM := hid hm
            clear hD hm hlen hfew hnow2
            go_wp2_with fail
            refine HS.out.mono ?_
            rintro e w5 ⟨A5, c5, rfl, hg5, hW5, ho5⟩
            have H5 := hid (And.intro hW5 (WlH.low1 HI.out.1 HI.out.2 ho5))
            have HG5 : Hid (GX encWi 1 w5 (· < w5.heap.size) A5 D) := hid (hg5.imp fun b hb => hW5.wsub b hb.1)
            clear hg5 hW5 ho5 HS HI
            go_wp2_with fail
            go_loopg [11, 13] m (fun g2 vn vj wr => ∃ (jj cc : Nat), vn = .int .i64 cc ∧ vj = .int .i64 jj ∧ jj ≤ m ∧ m - jj ≤ g2 ∧ cc ≤ jj ∧ Hid (cc = ((D.take jj).filter fun x => decide (x = -1)).length ∧ Below w5.heap.size w5 wr))
            case atStart => exact ⟨0, 0, rfl, rfl, by omega, by omega, by omega, hid ⟨rfl, Below.refl _ _⟩⟩
            case round =>
              obtain ⟨jj, cc, rfl, rfl, hjm, hgj2, hcc, HC⟩ := hrel
              obtain ⟨wq, hwq⟩ : ∃ wq, wq = wr := ⟨_, rfl⟩
              subst hwq
              by_cases hlt3 : jj < m
              · have hjD : jj < D.length := by have := HM.out; omega
                obtain ⟨b, o, rfl, hb, hc0⟩ := (HG5.out.up HC.out.2).wi jj hjD
                have HFT := hid (flt_take_len D jj hjD)
                generalize D[jj] = d at *
                have hjz : (jj : Int) < (m : Int) := by omega
                have hjd : decide ((jj : Int) < (m : Int)) = true := decide_eq_true hjz
                have hjj0 : (0 : Int) ≤ (jj : Int) := by omega
                have hjadd : IntKind.i64.wrap ((jj : Int) + 1) = (jj : Int) + 1 := IntWalk.i64_in _ (by omega)
                have hcadd : IntKind.i64.wrap ((cc : Int) + 1) = (cc : Int) + 1 := IntWalk.i64_in _ (by omega)
                by_cases hd1 : d = -1
                · subst hd1
                  have HC2 : Hid (cc + 1 = ((D.take (jj + 1)).filter fun x => decide (x = -1)).length ∧ Below w5.heap.size w5 wq) := hid ⟨by rw [HFT.out, if_pos rfl, ← HC.out.1], HC.out.2⟩
                  clear HFT HC
                  go_wp2_with fail
                  go_roundg (m - (jj + 1))
                  case measure => omega
                  case rel => exact ⟨jj + 1, cc + 1, by first | rfl | go_num | simp, by first | rfl | go_num | simp, by omega, by omega, by omega, HC2⟩
                · have hq1 : (d == -1) = false := by simpa using hd1
                  have hq2 : decide (d = -1) = false := decide_eq_false hd1
                  have HC2 : Hid (cc = ((D.take (jj + 1)).filter fun x => decide (x = -1)).length ∧ Below w5.heap.size w5 wq) := hid ⟨by rw [HFT.out, if_neg hd1, ← HC.out.1]; rfl, HC.out.2⟩
                  clear HFT HC
                  go_wp2_with fail
                  go_roundg (m - (jj + 1))
                  case measure => omega
                  case rel => exact ⟨jj + 1, cc, by first | rfl | go_num | simp, by first | rfl | go_num | simp, by omega, by omega, by omega, HC2⟩
              · obtain rfl : jj = m := by omega
                have hjz : ¬ (jj : Int) < (jj : Int) := by omega
                have hcc2 : cc = if ((i + 1 : Nat) : Int) = (tt : Int) then 1 else 0 := by
                  rw [HC.out.1, show D.take jj = D by rw [← HM.out]; exact List.take_length]
                  exact HCT.out
                have H6 : Hid (WlH S2 w.heap.size wq g (whIter (i + 1) y) ∧ Below w.heap.size w wq) := hid ⟨H5.out.1.up HC.out.2, estep H5.out.2 HC.out.2⟩
                rw [hk] at hcc2
                clear HC HCT H5 HG5
                by_cases hkt : k = tt
                · subst hkt
                  rw [if_pos rfl] at hcc2
                  subst hcc2
                  go_wp2_with fail
                  go_roundg (st - (i + 1))
                  case measure => omega
                  case rel => exact ⟨i + 1, by rw [← hk]; first | rfl | go_num | simp, by omega, by omega, H6⟩
                · rw [if_neg (by omega)] at hcc2
                  subst hcc2
                  have hk1 : ((k : Int) == (tt : Int)) = false := by simp; omega
                  have hk2 : (k == tt) = false := by simpa using hkt
                  have hk3 : decide ((k : Int) = (tt : Int)) = false := decide_eq_false (by omega)
                  have hk4 : decide (k = tt) = false := decide_eq_false hkt
                  go_wp2_with fail
                  go_roundg (st - (i + 1))
                  case measure => omega
                  case rel => exact ⟨i + 1, by rw [← hk]; first | rfl | go_num | simp, by omega, by omega, H6⟩
          · have hle : ¬ (k : Int) ≤ (st : Int) := by omega
            have hled : decide ((k : Int) ≤ (st : Int)) = false := decide_eq_false hle
            have hledn : decide (k ≤ st) = false := decide_eq_false hlt
            go_wp2_with fail
            refine (known22_any _).mono ?_
            rintro e w6 ⟨rfl, hb6⟩
            go_wp2_with fail
            go_returns
            exact ⟨rfl, estep HI.out.2 hb6⟩
end Go.Proofs.Ytldilhbomilcpaa
