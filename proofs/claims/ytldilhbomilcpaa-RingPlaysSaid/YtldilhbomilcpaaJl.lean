/- ring: the walk of RingPlays. -/
import Derived.Test.YtldilhbomilcpaaJk
import Derived.Deep.RegionHeld3
namespace Go.Proofs.Ytldilhbomilcpaa
set_option linter.unusedVariables false
set_option linter.unusedSimpArgs false
open Go.RowKit Go.Joins

/-- A variable that holds the definition's ring. -/
def BRg (w : World) (b c : Nat) (y : Value) (n : Nat) : Prop := Bk w b 28 #[.int .i64 (c : Int), y, .int .i64 (n : Int)]
theorem BRg.cells {w : World} {b c : Nat} {y : Value} {n : Nat} (k : BRg w b c y n) : w.cell? ⟨b, 0, none⟩ = some (.int .i64 (c : Int)) ∧ w.cell? ⟨b, 1, none⟩ = some y ∧ w.cell? ⟨b, 2, none⟩ = some (.int .i64 (n : Int)) := ⟨Bk.cell k 0, Bk.cell k 1, Bk.cell k 2⟩
theorem BRg.up {w w' : World} {b c : Nat} {y : Value} {n : Nat} (k : BRg w b c y n) (hb : Below w.heap.size w w') : BRg w' b c y n := Bk.up k hb
/-- What RingPlays' loops know. -/
structure RpL (w wr : World) (g p bx c : Nat) (x y : Rgs) (A : Option Addr) (cap : Nat) : Prop where
  hr : RgH wr g p c x
  hx : BRg wr bx c (.slice A y.1.length cap) y.2
  gx : GX encS1 1 wr (In (fun b => b ≠ g ∧ b ≠ p ∧ b ≠ bx) wr) A y.1
  nil : A = none → cap = 0
  bel : Below w.heap.size w wr
  ap : (¬ (bx = g ∨ bx = p)) ∧ w.heap.size ≤ g ∧ w.heap.size ≤ p ∧ w.heap.size ≤ bx
section
variable {w wr w2 w6 : World} {g p bx c : Nat} {x y z : Rgs} {A A' : Option Addr} {cap cap' : Nat}
theorem RpL.up (h : RpL w wr g p bx c x y A cap) (hb : Below wr.heap.size wr w2) : RpL w w2 g p bx c x y A cap :=
  ⟨h.hr.up hb, h.hx.up hb, h.gx.inup hb, h.nil, estep h.bel hb, h.ap⟩
theorem RpL.ring (h : RpL w wr g p bx c x y A cap) (hR : RgH w2 g p c z) (ho : OnS (fun b => b = g ∨ b = p) wr w2) : RpL w w2 g p bx c z y A cap :=
  ⟨hR, Bk.onS h.hx ho h.ap.1, h.gx.onS ho (fun b hb => by omega), h.nil, OnS.to_below h.bel ho (fun k _ hk => by have := h.ap; omega) h.bel.size, h.ap⟩
theorem RpL.put (h : RpL w wr g p bx c x y A cap) (hb : Below wr.heap.size wr w6) (hg : GX encS1 1 w6 (fun b => wr.heap.size ≤ b ∧ b < w6.heap.size) A' z.1) (hn : A' = none → cap' = 0) :
    RpL w (((w6.setCell ⟨bx, 0, none⟩ (.int .i64 (c : Int))).setCell ⟨bx, 1, none⟩ (.slice A' z.1.length cap')).setCell ⟨bx, 2, none⟩ (.int .i64 (z.2 : Int))) g p bx c x z A' cap' := by
  have hs : OnS (fun b => b = bx) w6 (((w6.setCell ⟨bx, 0, none⟩ (.int .i64 (c : Int))).setCell ⟨bx, 1, none⟩ (.slice A' z.1.length cap')).setCell ⟨bx, 2, none⟩ (.int .i64 (z.2 : Int))) := (((OnS.refl (fun b => b = bx) w6).cell bx 0 _ rfl).cell bx 1 _ rfl).cell bx 2 _ rfl
  have h1 := h.up hb
  have hl := h.hr.lt
  have hbl := Bk.lt h.hx
  refine ⟨h1.hr.onS hs (by have := h.ap; omega) (by have := h.ap; omega), bk_set3 h1.hx _ _ _, ?_, hn, OnS.to_below h1.bel hs (fun k _ hk => by have := h.ap; omega) h1.bel.size, h.ap⟩
  exact (hg.imp (M := In (fun b => b ≠ g ∧ b ≠ p ∧ b ≠ bx) w6) fun b hB => ⟨hB.2, by have := hB.1; omega⟩).onS hs fun b hb => hb.2.2
end
theorem keepRp {v w' : World} {bx c : Nat} {A : Option Addr} {cap q n : Nat} (h : BRg v bx c (.slice A q cap) n) (hz : Below v.heap.size v w') : w'.cell? ⟨bx, 1, none⟩ = some (.slice A q cap) ∧ w'.cell? ⟨bx, 2, none⟩ = some (.int .i64 (n : Int)) ∧ Below v.heap.size v w' := ⟨(h.up hz).cells.2.1, (h.up hz).cells.2.2, hz⟩
set_option maxRecDepth 100000 in
set_option maxHeartbeats 16000000 in
theorem ringPlays_walk (room : Int) (x : Value) (LL : List (List (List UInt8))) (w : World) (hx : TXX w (· < w.heap.size) x LL) :
    Calls Try.prog 3 #[.int .i64 room, x] w fun e w' => e = .returned (.bool true) ∧ Below w.heap.size w w' := by
  have hnot := enot
  obtain ⟨A0, cap0, rfl, hm0, -⟩ := id hx
  obtain ⟨n, hn⟩ : ∃ n, LL.length = n := ⟨_, rfl⟩
  rw [hn] at hm0 hx ⊢
  have HX := hid hx
  have HNN := hid hn
  clear hx hn hm0
  by_cases h40 : n ≤ 40
  rotate_left
  · have hd : decide ((40 : Int) < (n : Int)) = true := decide_eq_true (by omega)
    go_enter Try.func3, Try.ntmps3
    go_wp2_with fail
    refine (known21_any _).mono ?_
    rintro e w1 ⟨rfl, hb1⟩
    go_wp2_with fail
    go_returns
    exact ⟨rfl, hb1⟩
  have hd : decide ((40 : Int) < (n : Int)) = false := decide_eq_false (by omega)
  obtain ⟨c, hc⟩ : ∃ c, rgRoom room = c := ⟨_, rfl⟩
  have HNW := hid (rgnew_any room w)
  have HRN := hid (rrnew_any room)
  rw [hc] at HNW HRN
  have hcz : c ≤ 64 := by rw [← hc]; exact (rgRoom_le room).1
  clear hc
  go_enter Try.func3, Try.ntmps3
  go_wp2_with fail
  refine HNW.out.mono ?_
  rintro e w1 ⟨g, p, rfl, hg, hp, hR, hb1⟩
  have HR1 := hid hR
  have H1 := hid (And.intro hg (And.intro hp hb1))
  clear hg hp hR hb1 HNW
  go_wp2_with fail
  refine (HRN.out w1).mono ?_
  rintro e w2 ⟨rfl, hb2⟩
  obtain ⟨bx, hbx⟩ : ∃ bx, w2.heap.size = bx := ⟨_, rfl⟩
  have hba := enew w2 (.cells #[.int .i64 (c : Int), .slice none 0 0, .int .i64 0] 28)
  have kx : BRg (w2.alloc (.cells #[.int .i64 (c : Int), .slice none 0 0, .int .i64 0] 28)) bx c (.slice none 0 0) 0 := by rw [← hbx]; exact Bk.new _ _ _
  have HST : Hid (RpL w (w2.alloc (.cells #[.int .i64 (c : Int), .slice none 0 0, .int .i64 0] 28)) g p bx c ([], 0) ([], 0) none 0) := hid ⟨HR1.out.up (estep hb2 hba), kx, GX.nil _ _ _, fun _ => rfl, estep H1.out.2.2 (estep hb2 hba), by have := HR1.out.lt; have := hb2.size; have := H1.out.1; have := H1.out.2.1; omega⟩
  clear hb2 hba kx
  go_upto_region 5 with (fail)
  clear hbx
  generalize w2.alloc (.cells #[.int .i64 (c : Int), .slice none 0 0, .int .i64 0] 28) = v1 at *
  go_wp2_with fail
  go_loopg [7] n (fun g1 vi wr => ∃ (i : Nat) (X : Rgs) (A : Option Addr) (cap : Nat), vi = .int .i64 i ∧ i ≤ n ∧ n - i ≤ g1 ∧ Hid (X.1.length ≤ c ∧ X.2 ≤ 80 * i ∧ RpL w wr g p bx c X X A cap))
  case atStart => exact ⟨0, ([], 0), none, 0, rfl, by omega, by omega, hid ⟨by simp, by simp, HST.out⟩⟩
  case round =>
    obtain ⟨i, X, A, cap, rfl, hin, hgk, HP⟩ := hrel
    obtain ⟨wz, hwz⟩ : ∃ wz, wz = wr := ⟨_, rfl⟩
    subst hwz
    by_cases hlt : i < n
    · have hiL : i < LL.length := by have := HNN.out; omega
      obtain ⟨ad, A1, cap1, e1, hB1, hc1, hs1, hm1, -⟩ := (HX.out.below HP.out.2.2.bel).at_ i hiL
      have HS1 : Hid (STexts wz (· < w.heap.size) A1 LL[i]) := hid hs1
      subst e1
      have HAB : Hid (ad.block < w.heap.size) := hid hB1
      generalize LL[i] = li at *
      obtain ⟨m, hm⟩ : ∃ m, li.length = m := ⟨_, rfl⟩
      rw [hm] at hc1 hm1
      have HM := hid hm
      have hltz : (i : Int) < (n : Int) := by omega
      have hltd : decide ((i : Int) < (n : Int)) = true := decide_eq_true hltz
      have hltn : decide (i < n) = true := decide_eq_true hlt
      have hi0 : (0 : Int) ≤ (i : Int) := by omega
      have hadd : IntKind.i64.wrap ((i : Int) + 1) = (i : Int) + 1 := IntWalk.i64_in _ (by omega)
      clear hs1 hB1 hm
      by_cases h80 : m ≤ 80
      rotate_left
      · have hd8 : decide ((80 : Int) < (m : Int)) = true := decide_eq_true (by omega)
        have hd9 : decide (80 < m) = true := decide_eq_true (by omega)
        go_wp2_with fail
        refine (known21_any _).mono ?_
        rintro e w3 ⟨rfl, hb3⟩
        go_wp2_with fail
        go_returns
        exact ⟨rfl, estep HP.out.2.2.bel hb3⟩
      have hd8 : decide ((80 : Int) < (m : Int)) = false := decide_eq_false (by omega)
      have hd9 : decide (80 < m) = false := decide_eq_false (by omega)
      have HPT := hid (rgPuts_any (fun b => ¬ (b = g ∨ b = p)) g p c X A1 cap1 li wz HP.out.2.2.hr (HS1.out.imp fun b hb => ⟨Nat.lt_of_lt_of_le hb HP.out.2.2.bel.size, by have : b < w.heap.size := hb; have := HP.out.2.2.ap; omega⟩) (fun b hb => hb) (by have := HM.out; have := HP.out.2.1; omega) (by have := HM.out; omega))
      rw [HM.out] at HPT
      go_wp2_with fail
      refine HPT.out.mono ?_
      rintro e w3 ⟨rfl, hR3, ho3⟩
      obtain ⟨Y, hY⟩ : ∃ Y, rgAll c X li = Y := ⟨_, rfl⟩
      rw [hY] at hR3
      have HY := hid hY
      have HP3 : Hid (RpL w w3 g p bx c Y X A cap) := hid (HP.out.2.2.ring hR3 ho3)
      have hc3 := (HP3.out.bel.cell (p := ad.add i) (by rw [add_block]; exact HAB.out))
      have hc0 := (HP.out.2.2.bel.cell (p := ad.add i) (by rw [add_block]; exact HAB.out))
      have HC : Hid (w.cell? (ad.add i) = some (.slice A1 m cap1)) := hid (hc0.symm.trans hc1)
      have HSW : Hid (STexts w (· < w.heap.size) A1 li) := hid (by
        intro k hk
        obtain ⟨ad2, e2, f1, f2⟩ := HS1.out k hk
        exact ⟨ad2, e2, f1, (HP.out.2.2.bel.cell (p := ad2.add k) (by rw [add_block]; exact f1)).symm.trans f2⟩)
      have HXB := hid (And.intro HP.out.1 HP.out.2.1)
      clear hR3 ho3 HPT hc1 hc3 hc0 hY HP HS1
      have hc3 := (HP3.out.bel.cell (p := ad.add i) (by rw [add_block]; exact HAB.out)).trans HC.out
      go_wp2_with fail
      clear hc3
      go_loopg [8] m (fun g2 vk wr => ∃ (k : Nat) (Z : Rgs) (A : Option Addr) (cap : Nat), vk = .int .i64 k ∧ k ≤ m ∧ m - k ≤ g2 ∧ Hid (Z = rgAll c X (li.take k) ∧ RpL w wr g p bx c Y Z A cap))
      case atStart => exact ⟨0, X, A, cap, rfl, by omega, by omega, hid ⟨rfl, HP3.out⟩⟩
      case round =>
        obtain ⟨k, Z, A, cap, rfl, hkm, hgk2, HQ⟩ := hrel
        obtain ⟨wy, hwy⟩ : ∃ wy, wy = wr := ⟨_, rfl⟩
        subst hwy
        by_cases hlt2 : k < m
        · have hkL : k < li.length := by have := HM.out; omega
          have HBW : Hid (Below w.heap.size w wy) := hid HQ.out.2.bel
          obtain ⟨ad2, e2, f1, f2⟩ := HSW.out k hkL
          subst e2
          have hc4 := (HBW.out.cell (p := ad.add i) (by rw [add_block]; exact HAB.out)).trans HC.out
          have hc5 := (HBW.out.cell (p := ad2.add k) (by rw [add_block]; exact f1)).trans f2
          have HSS := hid (rgAll_take c X li k hkL)
          have hlo := rgAll_lost1 c (li.take k) X
          have hlo2 := List.length_take_le k li
          have hlo3 := rgAll_len (c := c) (li.take k) (x := X) HXB.out.1
          have HZ : Hid (Z.1.length ≤ c ∧ Z.2 ≤ 1000000) := hid (by rw [HQ.out.1]; refine ⟨hlo3, ?_⟩; have := HXB.out.2; have := HM.out; omega)
          generalize li[k] = s at *
          have HZS : Hid (rgPut c Z s = rgAll c X (li.take (k + 1))) := hid (by rw [HSS.out, HQ.out.1])
          have hq3 : Hid (RpL w wy g p bx c Y Z A cap) := hid HQ.out.2
          clear HSS HQ hlo hlo2 hlo3 hkL f1 f2
          obtain ⟨zL, zn⟩ := Z
          have hkx := hq3.out.hx
          have hca := hkx.cells
          simp only at hca
          obtain ⟨q0, q1, q2⟩ := hca
          have HPU := hid (fun (w2 : World) (hb : Below wy.heap.size wy w2) => rrput_any c zL zn A cap s w2 ((hq3.out.up hb).gx.imp fun b hb => hb.1) hq3.out.nil (by have := HZ.out.1; simp only at this; omega) hcz (by have := HZ.out.2; simp only at this; exact this))
          have hk0 : (0 : Int) ≤ (k : Int) := by omega
          have hkz : (k : Int) < (m : Int) := by omega
          have hkd : decide ((k : Int) < (m : Int)) = true := decide_eq_true hkz
          have hkn : decide (k < m) = true := decide_eq_true hlt2
          have hkadd : IntKind.i64.wrap ((k : Int) + 1) = (k : Int) + 1 := IntWalk.i64_in _ (by omega)
          have hz0 : Below wy.heap.size wy wy.drew := (Below.refl _ _).drew
          clear hkx
          go_wp2_with fail
          go_region_law (
            go_simp
            go_at_call 13
            refine (HPU.out _ hz0).mono ?_
            rintro e w6 ⟨A6, cap6, rfl, hg6, hn6, hy⟩
            have hz6 := hz0.trans (hy.mono hz0.size)
            have hx6 := (hq3.out.up hz6).hx
            have q0 := Bk.cell hx6 0
            have q1 := Bk.cell hx6 1
            have q2 := Bk.cell hx6 2
            have z0 := Bk.frozen hx6 0
            have z1 := Bk.frozen hx6 1
            have z2 := Bk.frozen hx6 2)
          all_goals
            have HN6 : Hid (RpL w (((w6.setCell ⟨bx, 0, none⟩ (.int .i64 (c : Int))).setCell ⟨bx, 1, none⟩ (.slice A6 (rgPut c (zL, zn) s).1.length cap6)).setCell ⟨bx, 2, none⟩ (.int .i64 ((rgPut c (zL, zn) s).2 : Int))) g p bx c Y (rgPut c (zL, zn) s) A6 cap6) := hid (hq3.out.put hz6 (hg6.imp fun b hb => ⟨Nat.le_trans hz0.size hb.1, hb.2⟩) hn6)
            clear hg6 hn6 hy hz6 hx6 q0 q1 q2 z0 z1 z2 hc4 hc5 hz0 HPU hq3
            generalize (((w6.setCell ⟨bx, 0, none⟩ (.int .i64 (c : Int))).setCell ⟨bx, 1, none⟩ (.slice A6 (rgPut c (zL, zn) s).1.length cap6)).setCell ⟨bx, 2, none⟩ (.int .i64 ((rgPut c (zL, zn) s).2 : Int))) = w7 at *
            go_wp2_with fail
            go_roundg (m - (k + 1))
            case measure => omega
            case rel => exact ⟨k + 1, rgPut c (zL, zn) s, A6, cap6, by first | rfl | go_num | simp, by omega, by omega, hid ⟨HZS.out, HN6.out⟩⟩
        · obtain rfl : k = m := by omega
          have hkz : ¬ (k : Int) < (k : Int) := by omega
          have HZY : Hid (Z = Y) := hid (by rw [HQ.out.1, ← HY.out, show li.take k = li by rw [← HM.out]; exact List.take_length])
          have HQ3 : Hid (RpL w wy g p bx c Y Y A cap) := hid (by have := HQ.out.2; rwa [HZY.out] at this)
          have hc4 := (HQ3.out.bel.cell (p := ad.add i) (by rw [add_block]; exact HAB.out)).trans HC.out
          clear HQ HZY
          go_wp2_with fail
          clear hc4
          obtain ⟨q, hq⟩ : ∃ q, Y.1.length = q := ⟨_, rfl⟩
          have hyl := HQ3.out.hr.few.1
          have hyn : Y.2 ≤ 80 * (i + 1) := by rw [← HY.out]; have := rgAll_lost1 c li X; have := HXB.out.2; have := HM.out; omega
          have HYN := hid (And.intro hyl hyn)
          obtain ⟨yn, hyn2⟩ : ∃ yn, Y.2 = yn := ⟨_, rfl⟩
          have hkx := HQ3.out.hx
          rw [hq, hyn2] at hkx
          have hq64 : q ≤ 64 := by omega
          have hyn9 : yn ≤ 100000 := by omega
          have HAL := hid (fun (w2 : World) (hb : Below wy.heap.size wy w2) => rgAlls_lit g p c Y w2 (HQ3.out.hr.up hb) (k := q) hq)
          have HLN := hid (fun (w2 : World) (hb : Below wy.heap.size wy w2) => rgLen_any g p c Y w2 (HQ3.out.hr.up hb) (k := q) (hid hq))
          have HLO := hid (fun (w2 : World) (hb : Below wy.heap.size wy w2) => rgLost_any g p c Y w2 (HQ3.out.hr.up hb) (by omega) (k := yn) (hid hyn2))
          have HTX := hid (fun (w2 : World) (A5 : Option Addr) (c5 : Nat) (hb : Below wy.heap.size wy w2) (h5 : STexts w2 (· < w2.heap.size) A5 Y.1) => texts_lit A5 A c5 cap Y.1 Y.1 w2 h5 ((stx_of_gx (HQ3.out.up hb).gx).imp fun b hb => hb.1) (by omega) (by omega) hq hq rfl)
          obtain ⟨q0, q1, q2⟩ := hkx.cells
          have hz : Below wy.heap.size wy wy.drew := (Below.refl _ _).drew
          clear hyl hyn hyn2 hq
          go_region_held3 (fun w' => w'.cell? ⟨bx, 1, none⟩ = some (.slice A q cap) ∧ w'.cell? ⟨bx, 2, none⟩ = some (.int .i64 (yn : Int)) ∧ Below wy.heap.size wy w') (first | (with_reducible exact keepRp hkx hz) | (with_reducible exact keepRp hkx (hz.trans (Below.mono (by assumption) hz.size)))) (first
            | (go_at_call 15
               ((with_reducible refine (HAL.out _ hz).mono ?_); rintro e wa ⟨A5, c5, rfl, hs5, hy⟩)
               have hz := hz.trans (hy.mono hz.size))
            | (go_at_call 14
               ((with_reducible refine (HTX.out _ _ _ hz hs5).mono ?_); rintro e wa ⟨rfl, hy⟩)
               have hz := hz.trans (hy.mono hz.size))
            | (go_at_call 16
               ((with_reducible refine (HLN.out _ hz).mono ?_); rintro e wa ⟨rfl, hy⟩)
               have hz := hz.trans (hy.mono hz.size))
            | (go_at_call 17
               ((with_reducible refine (HLO.out _ hz).mono ?_); rintro e wa ⟨rfl, hy⟩)
               have hz := hz.trans (hy.mono hz.size)))
          all_goals
            have HPZ := hid (HQ3.out.up hz)
            clear q0 q1 q2 hkx HAL HLN HLO HTX
            go_wp2_with fail
            go_roundg (n - (i + 1))
            case measure => omega
            case rel => exact ⟨i + 1, Y, A, cap, by first | rfl | go_num | simp, by omega, by omega, hid ⟨HYN.out.1, HYN.out.2, HPZ.out⟩⟩
    · obtain rfl : i = n := by omega
      have hltz : ¬ (i : Int) < (i : Int) := by omega
      go_wp2_with fail
      refine (known21_any _).mono ?_
      rintro e w3 ⟨rfl, hb3⟩
      go_wp2_with fail
      go_returns
      exact ⟨rfl, estep HP.out.2.2.bel hb3⟩
end Go.Proofs.Ytldilhbomilcpaa
