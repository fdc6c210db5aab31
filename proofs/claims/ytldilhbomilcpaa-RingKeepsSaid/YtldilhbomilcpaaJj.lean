/- ring: the walks of RingKeeps and RingPieces. -/
import Derived.Test.YtldilhbomilcpaaJh
import Derived.Test.YtldilhbomilcpaaJi
namespace Go.Proofs.Ytldilhbomilcpaa
set_option linter.unusedVariables false
set_option linter.unusedSimpArgs false
open Go.RowKit Go.Joins

set_option maxRecDepth 100000 in
set_option maxHeartbeats 8000000 in
theorem ringKeeps_walk (room : Int) (x : Value) (l : List (List UInt8)) (w : World) (hx : TXK w (· < w.heap.size) x l) :
    Calls Try.prog 4 #[.int .i64 room, x] w fun e w' => e = .returned (.bool true) ∧ Below w.heap.size w w' := by
  have hnot := enot
  obtain ⟨A, cap, rfl, hs, hA, hlc, hcm, -⟩ := hx
  obtain ⟨n, hn⟩ : ∃ n, l.length = n := ⟨_, rfl⟩
  rw [hn] at hlc ⊢
  by_cases h300 : n ≤ 300
  rotate_left
  · have hd : decide ((300 : Int) < (n : Int)) = true := decide_eq_true (by omega)
    go_enter Try.func4, Try.ntmps4
    go_wp2_with fail
    refine (known21_any _).mono ?_
    rintro e w1 ⟨rfl, hb1⟩
    go_wp2_with fail
    go_returns
    exact ⟨rfl, hb1⟩
  have hd : decide ((300 : Int) < (n : Int)) = false := decide_eq_false (by omega)
  obtain ⟨c, hc⟩ : ∃ c, rgRoom room = c := ⟨_, rfl⟩
  obtain ⟨hc1, hc2⟩ := rgRoom_le room
  rw [hc] at hc1 hc2
  obtain ⟨d, hdd⟩ : ∃ d, n - c = d := ⟨_, rfl⟩
  obtain ⟨k, hk⟩ : ∃ k, n - d = k := ⟨_, rfl⟩
  have HALL := hid (show rgAll c ([], 0) l = (l.drop d, d) by rw [rgAll_new c l (by omega), hn, hdd])
  have HDL := hid (show (l.drop d).length = k by rw [List.length_drop, hn, hk])
  have HNW := hid (rgnew_any room w)
  rw [hc] at HNW
  have HS := hid hs
  have HAX := hid hA
  have HNN := hid hn
  have e1 : max 0 (min room 64) = (c : Int) := by omega
  have e2 : decide ((c : Int) < (k : Int)) = false := decide_eq_false (by omega)
  have e2b : decide (c < k) = false := decide_eq_false (by omega)
  have e2c : k ≤ c := by omega
  have e3 : ((k : Int) + (d : Int)) = (n : Int) := by omega
  have e4 : (n : Int) - (k : Int) = (d : Int) := by omega
  have e5 : k ≤ 300 := by omega
  have e6 : d ≤ n := by omega
  have hcm2 : cap ≤ 9223372036854775807 := by unfold maxLen at hcm; omega
  have hcz : c ≤ 64 := hc1
  clear hn hc hs hdd hc2 hc1 hcm hA
  go_enter Try.func4, Try.ntmps4
  go_wp2_with fail
  refine HNW.out.mono ?_
  rintro e w1 ⟨g, p, rfl, hg, hp, hR, hb1⟩
  have HR1 := hid hR
  have H1 := hid (And.intro hg (And.intro hp hb1))
  have HPT := hid (rgPuts_any (fun b => ¬ (b = g ∨ b = p)) g p c ([], 0) A cap l w1 hR ((HS.out.below hb1).imp fun b hb => ⟨Nat.lt_of_lt_of_le hb hb1.size, by have : b < w.heap.size := hb; omega⟩) (fun b hb => hb) (by have := HNN.out; simp only; omega) (by have := HNN.out; omega))
  rw [HALL.out, HNN.out] at HPT
  clear hg hp hR hb1 HNW
  go_wp2_with fail
  refine HPT.out.mono ?_
  rintro e w2 ⟨rfl, hR2, ho2⟩
  have HR2 := hid hR2
  have H2 : Hid (Below w.heap.size w w2) := hid (OnS.to_below H1.out.2.2 ho2 (fun k _ hk => by have := H1.out.1; have := H1.out.2.1; omega) H1.out.2.2.size)
  have HAL := hid (rgAlls_lit g p c _ w2 hR2 (k := k) HDL.out)
  clear hR2 ho2 HPT
  go_wp2_with fail
  refine HAL.out.mono ?_
  rintro e w3 ⟨A3, c3, rfl, hs3, hb3⟩
  have HS3 := hid hs3
  have HR3 := hid (HR2.out.up hb3)
  have H3 := hid (estep H2.out hb3)
  have HLO := hid (rgLost_any g p c _ w3 (HR2.out.up hb3) (by simp only; omega) (k := d) (hid rfl))
  clear hs3 hb3 HAL
  go_wp2_with fail
  refine HLO.out.mono ?_
  rintro e w4 ⟨rfl, hb4⟩
  have HS4 := hid ((HS3.out.below hb4).imp fun b hb => Nat.lt_of_lt_of_le hb hb4.size)
  have HR4 := hid (HR3.out.up hb4)
  have H4 := hid (estep H3.out hb4)
  have HLN := hid (rgLen_any g p c _ w4 (HR3.out.up hb4) (k := k) (hid HDL.out))
  clear hb4 HLO
  go_wp2_with fail
  refine HLN.out.mono ?_
  rintro e w5 ⟨rfl, hb5⟩
  have HS5 := hid ((HS4.out.below hb5).imp fun b hb => Nat.lt_of_lt_of_le hb hb5.size)
  have H5 := hid (estep H4.out hb5)
  clear hb5 HLN
  rcases A with _ | ad
  · have := HAX.out rfl
    subst this
    have hn0 : n = 0 := by omega
    subst hn0
    have hd0 : d = 0 := by omega
    subst hd0
    have hk0 : k = 0 := by omega
    subst hk0
    have HT := hid (texts_lit A3 none c3 0 (l.drop 0) l w5 HS5.out (fun i hi => absurd hi (by have := HNN.out; omega)) (by have := HDL.out; omega) (by have := HNN.out; omega) HDL.out HNN.out rfl)
    go_wp2_with fail
    refine HT.out.mono ?_
    rintro e w6 ⟨rfl, hb6⟩
    have H6 := hid (estep H5.out hb6)
    clear hb6
    go_wp2_with fail
    refine (known21_any _).mono ?_
    rintro e w7 ⟨rfl, hb7⟩
    go_wp2_with fail
    go_returns
    exact ⟨rfl, estep H6.out hb7⟩
  · have HT1 := hid (fun (h : cap - d = 0) => texts_lit A3 (some ad) c3 0 (l.drop d) (l.drop d) w5 HS5.out (fun i hi => absurd hi (by have := HDL.out; omega)) (by have := HDL.out; omega) (by have := HDL.out; omega) HDL.out HDL.out rfl)
    have HT2 := hid (texts_lit A3 (some (ad.add d)) c3 (cap - d) (l.drop d) (l.drop d) w5 HS5.out (by
      intro i hi
      obtain ⟨ad2, f1, f2, f3⟩ := stx_tail (HS.out.below H5.out) d i hi
      injection f1 with f1
      obtain ⟨ad3, g1, g2, g3⟩ := HS.out 0 (by rw [List.length_drop] at hi; omega)
      injection g1 with g1
      subst g1
      have hp := plain_of_cell g3
      have hsp : ad.spot = none := by simpa [Addr.add] using congrArg Addr.spot hp
      refine ⟨ad.add d, rfl, ?_, ?_⟩
      · rw [add_block]; exact Nat.lt_of_lt_of_le g2 H5.out.size
      · have : ad.add d = ad2 := by
          rw [← f1]
          unfold Addr.add
          split
          · rename_i h0
            subst h0
            obtain ⟨b, o, s⟩ := ad
            simp only at hsp
            subst hsp
            rfl
          · rfl
        rw [this]; exact f3) (by have := HDL.out; omega) (by have := HDL.out; omega) HDL.out HDL.out rfl)
    go_wp2_with fail
    all_goals first
      | (with_reducible refine HT2.out.mono ?_)
      | (with_reducible refine (HT1.out (by omega)).mono ?_)
    all_goals
      rintro e w6 ⟨rfl, hb6⟩
      have H6 := hid (estep H5.out hb6)
      clear hb6
      go_wp2_with fail
      refine (known21_any _).mono ?_
      rintro e w7 ⟨rfl, hb7⟩
      go_wp2_with fail
      go_returns
      exact ⟨rfl, estep H6.out hb7⟩
end Go.Proofs.Ytldilhbomilcpaa
