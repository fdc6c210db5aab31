/- ring: the walk of RingPieces. -/
import Derived.Test.YtldilhbomilcpaaJh
import Derived.Test.YtldilhbomilcpaaJi
namespace Go.Proofs.Ytldilhbomilcpaa
set_option linter.unusedVariables false
set_option linter.unusedSimpArgs false
open Go.RowKit Go.Joins

theorem stx_single (w : World) (a : List UInt8) : STexts (w.alloc (.cells #[.string (bs a)] 9)) (fun x => x = w.heap.size) (some ⟨w.heap.size, 0, none⟩) [a] :=
  stx_of_gx (gx_new (enc := encS1) (M := [a]) encS1_len (Bk.new w 9 #[.string (bs a)]) rfl)
theorem rgPuts_one (g p c : Nat) (x : Rgs) (s : List UInt8) (w : World) (h : RgH w g p c x) (hn : x.2 + 1 ≤ 1099511627776) :
    Calls Try.prog 12 #[.pointer (some ⟨g, 0, none⟩), .slice (some ⟨w.heap.size, 0, none⟩) 1 1] (w.alloc (.cells #[.string (bs s)] 9)) fun e w' => e = .returned (.tuple #[]) ∧ RgH w' g p c (rgPut c x s) ∧ OnS (fun b => b = g ∨ b = p) w w' := by
  have hb := enew w (.cells #[.string (bs s)] 9)
  have := rgPuts_any (fun b => ¬ (b = g ∨ b = p)) g p c x (some ⟨w.heap.size, 0, none⟩) 1 [s] _ (h.up hb) ((stx_single w s).imp fun b hB => by
    subst hB
    have := h.lt
    refine ⟨by simp, by omega⟩) (fun b hB => hB) hn (by simp)
  refine this.mono ?_
  rintro e w' ⟨rfl, h1, h2⟩
  exact ⟨rfl, h1, (OnS.below hb).trans h2⟩
/-- What RingPieces' loop knows. -/
structure RgTwo (w wr : World) (g p g2 p2 c : Nat) (x y : Rgs) : Prop where
  ha : RgH wr g p c x
  hb : RgH wr g2 p2 c y
  bel : Below w.heap.size w wr
  apart : ¬ (g = g2 ∨ g = p2) ∧ ¬ (p = g2 ∨ p = p2)
  new : w.heap.size ≤ g2 ∧ w.heap.size ≤ p2
theorem RgTwo.up {w wr w2 : World} {g p g2 p2 c : Nat} {x y : Rgs} (h : RgTwo w wr g p g2 p2 c x y) (hb : Below wr.heap.size wr w2) : RgTwo w w2 g p g2 p2 c x y := ⟨h.ha.up hb, h.hb.up hb, estep h.bel hb, h.apart, h.new⟩
theorem RgTwo.two {w wr w2 : World} {g p g2 p2 c : Nat} {x y z : Rgs} (h : RgTwo w wr g p g2 p2 c x y) (hR : RgH w2 g2 p2 c z) (ho : OnS (fun b => b = g2 ∨ b = p2) wr w2) : RgTwo w w2 g p g2 p2 c x z :=
  ⟨h.ha.onS ho h.apart.1 h.apart.2, hR, OnS.to_below h.bel ho (fun k _ hk => by have := h.new; omega) h.bel.size, h.apart, h.new⟩
set_option maxRecDepth 100000 in
set_option maxHeartbeats 8000000 in
theorem ringPieces_walk (room : Int) (x : Value) (l : List (List UInt8)) (at_ : Int) (w : World) (hx : TXK w (· < w.heap.size) x l) :
    Calls Try.prog 5 #[.int .i64 room, x, .int .i64 at_] w fun e w' => e = .returned (.bool true) ∧ Below w.heap.size w w' := by
  have hnot := enot
  obtain ⟨A, cap, rfl, hs, hA, hlc, hcm, -⟩ := hx
  obtain ⟨n, hn⟩ : ∃ n, l.length = n := ⟨_, rfl⟩
  rw [hn] at hlc ⊢
  have HAX := hid hA
  have HS := hid hs
  have HNN := hid hn
  clear hA hs hn
  by_cases h300 : n ≤ 300
  rotate_left
  · have hd : decide ((300 : Int) < (n : Int)) = true := decide_eq_true (by omega)
    have hd2 : decide (300 < n) = true := decide_eq_true (by omega)
    go_enter Try.func5, Try.ntmps5
    go_wp2_with fail
    refine (known21_any _).mono ?_
    rintro e w1 ⟨rfl, hb1⟩
    go_wp2_with fail
    go_returns
    exact ⟨rfl, hb1⟩
  have hd : decide ((300 : Int) < (n : Int)) = false := decide_eq_false (by omega)
  have hdn : decide (300 < n) = false := decide_eq_false (by omega)
  by_cases hneg : 0 ≤ at_
  rotate_left
  · have hd2 : decide (at_ < 0) = true := decide_eq_true (by omega)
    go_enter Try.func5, Try.ntmps5
    go_wp2_with fail
    refine (known21_any _).mono ?_
    rintro e w1 ⟨rfl, hb1⟩
    go_wp2_with fail
    go_returns
    exact ⟨rfl, hb1⟩
  obtain ⟨m, rfl⟩ : ∃ m : Nat, at_ = (m : Int) := ⟨at_.toNat, by omega⟩
  have hdm : decide ((m : Int) < 0) = false := decide_eq_false (by omega)
  by_cases hmn : m ≤ n
  rotate_left
  · have hd2 : decide ((n : Int) < (m : Int)) = true := decide_eq_true (by omega)
    have hd3 : decide (n < m) = true := decide_eq_true (by omega)
    go_enter Try.func5, Try.ntmps5
    go_wp2_with fail
    refine (known21_any _).mono ?_
    rintro e w1 ⟨rfl, hb1⟩
    go_wp2_with fail
    go_returns
    exact ⟨rfl, hb1⟩
  have hdk : decide ((n : Int) < (m : Int)) = false := decide_eq_false (by omega)
  have hdk2 : decide (n < m) = false := decide_eq_false (by omega)
  obtain ⟨c, hc⟩ : ∃ c, rgRoom room = c := ⟨_, rfl⟩
  have HNW := hid (rgnew_any room)
  rw [hc] at HNW
  have hcz : c ≤ 64 := by rw [← hc]; exact (rgRoom_le room).1
  have hcm2 : cap ≤ 9223372036854775807 := by unfold maxLen at hcm; omega
  have hmc : m ≤ cap := by omega
  have hmz : (0 : Int) ≤ (m : Int) := by omega
  have hmz2 : (m : Int) ≤ (cap : Int) := by omega
  clear hc hcm hneg
  go_enter Try.func5, Try.ntmps5
  go_wp2_with fail
  refine (HNW.out w).mono ?_
  rintro e w1 ⟨g, p, rfl, hg, hp, hR, hb1⟩
  have HR1 := hid hR
  have H1 := hid (And.intro hg (And.intro hp hb1))
  clear hg hp hR hb1
  go_wp2_with fail
  refine (HNW.out w1).mono ?_
  rintro e w2 ⟨g2, p2, rfl, hg, hp, hR, hb2⟩
  have HT2 : Hid (RgTwo w w2 g p g2 p2 c ([], 0) ([], 0)) := hid ⟨HR1.out.up hb2, hR, estep H1.out.2.2 hb2, by have := HR1.out.lt; omega, by have := H1.out.2.2.size; omega⟩
  have HGP := hid (And.intro H1.out.1 H1.out.2.1)
  have HPT := hid (rgPuts_any (fun b => ¬ (b = g ∨ b = p)) g p c ([], 0) A cap l w2 HT2.out.ha ((HS.out.below HT2.out.bel).imp fun b hb => ⟨Nat.lt_of_lt_of_le hb HT2.out.bel.size, by have : b < w.heap.size := hb; have := H1.out.1; have := H1.out.2.1; omega⟩) (fun b hb => hb) (by have := HNN.out; simp only; omega) (by have := HNN.out; omega))
  rw [HNN.out] at HPT
  clear hg hp hR hb2 HNW HR1 H1
  go_wp2_with fail
  refine HPT.out.mono ?_
  rintro e w3 ⟨rfl, hR3, ho3⟩
  have HT3 : Hid (RgTwo w w3 g p g2 p2 c (rgAll c ([], 0) l) ([], 0)) := hid ⟨hR3, HT2.out.hb.onS ho3 (by have := HT2.out.apart; omega) (by have := HT2.out.apart; omega), OnS.to_below HT2.out.bel ho3 (fun k _ hk => by have := HGP.out; omega) HT2.out.bel.size, HT2.out.apart, HT2.out.new⟩
  clear hR3 ho3 HPT HT2
  have hlt : (l.take m).length = m := by rw [List.length_take, HNN.out]; omega
  have HPT := hid (fun A1 (e : A1 = A) c1 => rgPuts_any (fun b => ¬ (b = g2 ∨ b = p2)) g2 p2 c ([], 0) A1 c1 (l.take m) w3 HT3.out.hb (((by subst e; exact stx_take (HS.out.below HT3.out.bel) m : STexts w3 (· < w.heap.size) A1 (l.take m))).imp fun b hb => ⟨Nat.lt_of_lt_of_le hb HT3.out.bel.size, by have : b < w.heap.size := hb; have := HT3.out.new; omega⟩) (fun b hb => hb) (by have := hlt; simp only; omega) (by omega))
  rw [hlt] at HPT
  clear hlt
  have HPT2 : Hid (Calls Try.prog 12 #[.pointer (some ⟨g2, 0, none⟩), .slice A m cap] w3 fun e w' => e = .returned (.tuple #[]) ∧ RgH w' g2 p2 c (rgAll c ([], 0) (l.take m)) ∧ OnS (fun b => b = g2 ∨ b = p2) w3 w') := hid (HPT.out A rfl cap)
  clear HPT
  have hcase : (A = none ∧ n = 0 ∧ m = 0 ∧ cap = 0) ∨ ∃ ad, A = some ad := by
    rcases A with _ | ad
    · have := HAX.out rfl
      exact Or.inl ⟨rfl, by omega, by omega, this⟩
    · exact Or.inr ⟨ad, rfl⟩
  clear HAX
  obtain ⟨q, hq⟩ : ∃ q, (rgAll c ([], 0) l).1.length = q := ⟨_, rfl⟩
  have HQ := hid hq
  obtain ⟨q2, hq2⟩ : ∃ q, (rgAll c ([], 0) l).2 = q := ⟨_, rfl⟩
  have HQ2 := hid hq2
  have HLX : Hid ((rgAll c ([], 0) l).2 ≤ 1099511627776) := hid (by have := rgAll_lost1 c l ([], 0); simp only [HNN.out] at this; omega)
  have hq3 : q ≤ 64 := by
    have := rgAll_len (c := c) l (x := ([], 0)) (by simp)
    omega
  have hq4 : q2 ≤ 300 := by have := rgAll_lost1 c l ([], 0); simp only [HNN.out] at this; omega
  clear hq hq2
  rcases hcase with ⟨rfl, rfl, rfl, rfl⟩ | ⟨ad, rfl⟩
  · go_wp2_with fail
    refine HPT2.out.mono ?_
    rintro e w4 ⟨rfl, hR4, ho4⟩
    have HT4 : Hid (RgTwo w w4 g p g2 p2 c (rgAll c ([], 0) l) (rgAll c ([], 0) (l.take 0))) := hid (HT3.out.two hR4 ho4)
    clear hR4 ho4 HPT2 HT3
    have hl0 : l = [] := List.eq_nil_of_length_eq_zero HNN.out
    have HE : Hid (RgTwo w w4 g p g2 p2 c (rgAll c ([], 0) l) (rgAll c ([], 0) l)) := hid (by have := HT4.out; rw [hl0] at this ⊢; exact this)
    clear hl0 HT4
    go_wp2_with fail
    go_loopg [9] 1 (fun g1 vi wr => vi = .int .i64 0 ∧ wr = w4)
    case atStart => exact ⟨rfl, rfl⟩
    case round =>
      obtain ⟨rfl, rfl⟩ := hrel
      have HAA := hid (rgAlls_lit g p c _ wr HE.out.ha (k := q) HQ.out)
      go_wp2_with fail
      refine (HAA.out).mono ?_
      rintro e w5 ⟨A5, c5, rfl, hs5, hb5⟩
      have HT5 : Hid (RgTwo w w5 g p g2 p2 c (rgAll c ([], 0) l) (rgAll c ([], 0) l)) := hid (HE.out.up hb5)
      have HS5 := hid hs5
      have HBB := hid (rgAlls_lit g2 p2 c _ w5 HT5.out.hb (k := q) HQ.out)
      clear hs5 hb5 HAA
      go_wp2_with fail
      refine (HBB.out).mono ?_
      rintro e w6 ⟨A6, c6, rfl, hs6, hb6⟩
      have HT6 : Hid (RgTwo w w6 g p g2 p2 c (rgAll c ([], 0) l) (rgAll c ([], 0) l)) := hid (HT5.out.up hb6)
      have HTX := hid (texts_lit A5 A6 c5 c6 _ _ w6 ((HS5.out.below hb6).imp fun b hb => Nat.lt_of_lt_of_le hb hb6.size) hs6 (by have := HQ.out; omega) (by have := HQ.out; omega) HQ.out HQ.out rfl)
      clear hs6 hb6 HBB
      go_wp2_with fail
      refine (HTX.out).mono ?_
      rintro e w7 ⟨rfl, hb7⟩
      have HT7 : Hid (RgTwo w w7 g p g2 p2 c (rgAll c ([], 0) l) (rgAll c ([], 0) l)) := hid (HT6.out.up hb7)
      have HLA := hid (rgLost_any g p c _ w7 HT7.out.ha HLX.out (k := q2) HQ2)
      clear hb7 HTX
      go_wp2_with fail
      refine (HLA.out).mono ?_
      rintro e w8 ⟨rfl, hb8⟩
      have HT8 : Hid (RgTwo w w8 g p g2 p2 c (rgAll c ([], 0) l) (rgAll c ([], 0) l)) := hid (HT7.out.up hb8)
      have HLB := hid (rgLost_any g2 p2 c _ w8 HT8.out.hb HLX.out (k := q2) HQ2)
      clear hb8 HLA
      go_wp2_with fail
      refine (HLB.out).mono ?_
      rintro e w9 ⟨rfl, hb9⟩
      have HT9 : Hid (RgTwo w w9 g p g2 p2 c (rgAll c ([], 0) l) (rgAll c ([], 0) l)) := hid (HT8.out.up hb9)
      have HNA := hid (rgLen_any g p c _ w9 HT9.out.ha (k := q) HQ)
      clear hb9 HLB
      go_wp2_with fail
      refine (HNA.out).mono ?_
      rintro e wa ⟨rfl, hba⟩
      have HTa : Hid (RgTwo w wa g p g2 p2 c (rgAll c ([], 0) l) (rgAll c ([], 0) l)) := hid (HT9.out.up hba)
      have HNB := hid (rgLen_any g2 p2 c _ wa HTa.out.hb (k := q) HQ)
      clear hba HNA
      go_wp2_with fail
      refine (HNB.out).mono ?_
      rintro e wb ⟨rfl, hbb⟩
      have HTb : Hid (RgTwo w wb g p g2 p2 c (rgAll c ([], 0) l) (rgAll c ([], 0) l)) := hid (HTa.out.up hbb)
      clear hbb HNB
      go_wp2_with fail
      refine (known21_any _).mono ?_
      rintro e wc ⟨rfl, hbc⟩
      go_wp2_with fail
      go_returns
      exact ⟨rfl, estep HTb.out.bel hbc⟩
  · go_wp2_with fail
    refine HPT2.out.mono ?_
    rintro e w4 ⟨rfl, hR4, ho4⟩
    have HT4 : Hid (RgTwo w w4 g p g2 p2 c (rgAll c ([], 0) l) (rgAll c ([], 0) (l.take m))) := hid (HT3.out.two hR4 ho4)
    clear hR4 ho4 HPT2 HT3
    go_wp2_with fail
    go_loopg [9] (n - m) (fun g1 vi wr => ∃ i : Nat, vi = .int .i64 i ∧ i ≤ n ∧ n - i ≤ g1 ∧ Hid (RgTwo w wr g p g2 p2 c (rgAll c ([], 0) l) (rgAll c ([], 0) (l.take i))))
    case atStart => exact ⟨m, rfl, by omega, by omega, HT4⟩
    case round =>
      obtain ⟨i, rfl, hin, hgk, HI⟩ := hrel
      obtain ⟨wz, hwz⟩ : ∃ wz, wz = wr := ⟨_, rfl⟩
      subst hwz
      by_cases hlt : i < n
      · have hiL : i < l.length := by have := HNN.out; omega
        obtain ⟨ad2, e2, hB2, hc2⟩ := (HS.out.below HI.out.bel) i hiL
        injection e2 with e2
        subst e2
        have HSS := hid (rgAll_take c ([], 0) l i hiL)
        have hlo := rgAll_lost1 c (l.take i) ([], 0)
        have hlo2 := List.length_take_le i l
        have HPO := hid (rgPuts_one g2 p2 c _ l[i] wz HI.out.hb (by simp only at hlo; omega))
        generalize l[i] = s at *
        have hltz : (i : Int) < (n : Int) := by omega
        have hltd : decide ((i : Int) < (n : Int)) = true := decide_eq_true hltz
        have hltn : decide (i < n) = true := decide_eq_true hlt
        have hi0 : (0 : Int) ≤ (i : Int) := by omega
        have hadd : IntKind.i64.wrap ((i : Int) + 1) = (i : Int) + 1 := IntWalk.i64_in _ (by omega)
        clear hlo hlo2 hiL
        go_wp2_with fail
        refine HPO.out.mono ?_
        rintro e w5 ⟨rfl, hR5, ho5⟩
        have HT5 : Hid (RgTwo w w5 g p g2 p2 c (rgAll c ([], 0) l) (rgAll c ([], 0) (l.take (i + 1)))) := hid (by rw [HSS.out]; exact HI.out.two hR5 ho5)
        clear hR5 ho5 HPO hc2
        go_wp2_with fail
        go_roundg (n - (i + 1))
        case measure => omega
        case rel => exact ⟨i + 1, by first | rfl | go_num | simp, by omega, by omega, HT5⟩
      · obtain rfl : i = n := by omega
        have hltz : ¬ (i : Int) < (i : Int) := by omega
        have HE : Hid (RgTwo w wz g p g2 p2 c (rgAll c ([], 0) l) (rgAll c ([], 0) l)) := hid (by
          have := HI.out
          rw [show l.take i = l by rw [← HNN.out]; exact List.take_length] at this
          exact this)
        have HAA := hid (rgAlls_lit g p c _ wz HE.out.ha (k := q) HQ.out)
        clear HI
        go_wp2_with fail
        refine (HAA.out).mono ?_
        rintro e w5 ⟨A5, c5, rfl, hs5, hb5⟩
        have HT5 : Hid (RgTwo w w5 g p g2 p2 c (rgAll c ([], 0) l) (rgAll c ([], 0) l)) := hid (HE.out.up hb5)
        have HS5 := hid hs5
        have HBB := hid (rgAlls_lit g2 p2 c _ w5 HT5.out.hb (k := q) HQ.out)
        clear hs5 hb5 HAA
        go_wp2_with fail
        refine (HBB.out).mono ?_
        rintro e w6 ⟨A6, c6, rfl, hs6, hb6⟩
        have HT6 : Hid (RgTwo w w6 g p g2 p2 c (rgAll c ([], 0) l) (rgAll c ([], 0) l)) := hid (HT5.out.up hb6)
        have HTX := hid (texts_lit A5 A6 c5 c6 _ _ w6 ((HS5.out.below hb6).imp fun b hb => Nat.lt_of_lt_of_le hb hb6.size) hs6 (by have := HQ.out; omega) (by have := HQ.out; omega) HQ.out HQ.out rfl)
        clear hs6 hb6 HBB
        go_wp2_with fail
        refine (HTX.out).mono ?_
        rintro e w7 ⟨rfl, hb7⟩
        have HT7 : Hid (RgTwo w w7 g p g2 p2 c (rgAll c ([], 0) l) (rgAll c ([], 0) l)) := hid (HT6.out.up hb7)
        have HLA := hid (rgLost_any g p c _ w7 HT7.out.ha HLX.out (k := q2) HQ2)
        clear hb7 HTX
        go_wp2_with fail
        refine (HLA.out).mono ?_
        rintro e w8 ⟨rfl, hb8⟩
        have HT8 : Hid (RgTwo w w8 g p g2 p2 c (rgAll c ([], 0) l) (rgAll c ([], 0) l)) := hid (HT7.out.up hb8)
        have HLB := hid (rgLost_any g2 p2 c _ w8 HT8.out.hb HLX.out (k := q2) HQ2)
        clear hb8 HLA
        go_wp2_with fail
        refine (HLB.out).mono ?_
        rintro e w9 ⟨rfl, hb9⟩
        have HT9 : Hid (RgTwo w w9 g p g2 p2 c (rgAll c ([], 0) l) (rgAll c ([], 0) l)) := hid (HT8.out.up hb9)
        have HNA := hid (rgLen_any g p c _ w9 HT9.out.ha (k := q) HQ)
        clear hb9 HLB
        go_wp2_with fail
        refine (HNA.out).mono ?_
        rintro e wa ⟨rfl, hba⟩
        have HTa : Hid (RgTwo w wa g p g2 p2 c (rgAll c ([], 0) l) (rgAll c ([], 0) l)) := hid (HT9.out.up hba)
        have HNB := hid (rgLen_any g2 p2 c _ wa HTa.out.hb (k := q) HQ)
        clear hba HNA
        go_wp2_with fail
        refine (HNB.out).mono ?_
        rintro e wb ⟨rfl, hbb⟩
        have HTb : Hid (RgTwo w wb g p g2 p2 c (rgAll c ([], 0) l) (rgAll c ([], 0) l)) := hid (HTa.out.up hbb)
        clear hbb HNB
        go_wp2_with fail
        refine (known21_any _).mono ?_
        rintro e wc ⟨rfl, hbc⟩
        go_wp2_with fail
        go_returns
        exact ⟨rfl, estep HTb.out.bel hbc⟩
end Go.Proofs.Ytldilhbomilcpaa
