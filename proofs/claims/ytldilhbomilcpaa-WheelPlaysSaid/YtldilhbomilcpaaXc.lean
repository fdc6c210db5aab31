/- wheel: the walk of WheelPlays. -/
import Derived.Test.YtldilhbomilcpaaXb
import Derived.Deep.RegionHeld3
import Derived.Deep.CutRange
namespace Go.Proofs.Ytldilhbomilcpaa
set_option linter.unusedVariables false
set_option linter.unusedSimpArgs false
open Go.RowKit Go.Joins

set_option maxRecDepth 100000 in
set_option maxHeartbeats 16000000 in
theorem wheelPlays_walk (v : Value) (L : List (Int × Int)) (w : World) (hx : MvV w (· < w.heap.size) v L) :
    Calls Try.prog 6 #[v] w fun e w' => e = .returned (.bool true) ∧ Below w.heap.size w w' := by
  have hnot := enot
  obtain ⟨A, cap, rfl, hgx, -⟩ := hx
  obtain ⟨n, hn⟩ : ∃ n, L.length = n := ⟨_, rfl⟩
  rw [hn]
  have HG := hid hgx
  have HN := hid hn
  clear hgx hn
  by_cases hnn : n ≤ 300
  rotate_left
  · have hd4 : decide ((300 : Int) < (n : Int)) = true := decide_eq_true (by omega)
    have hd5 : decide (300 < n) = true := decide_eq_true (by omega)
    go_enter Try.func6, Try.ntmps6
    go_wp2_with fail
    refine (known22_any _).mono ?_
    rintro e w1 ⟨rfl, hb1⟩
    go_wp2_with fail
    go_returns
    exact ⟨rfl, hb1⟩
  have hd4 : decide ((300 : Int) < (n : Int)) = false := decide_eq_false (by omega)
  have hd5 : decide (300 < n) = false := decide_eq_false (by omega)
  go_enter Try.func6, Try.ntmps6
  go_wp2_with fail
  refine (wlnew_any w.heap.size w (Nat.le_refl _)).mono ?_
  rintro e w1 ⟨g, rfl, hg, hW, hb1⟩
  obtain ⟨bx, hbx⟩ : ∃ bx, w1.heap.size = bx := ⟨_, rfl⟩
  have hba := enew w1 (.cells #[.int .i64 0, .slice none 0 0] 43)
  have kx := BWh.new w1 0 (.slice none 0 0)
  have H1 : Hid (WpL w (w1.alloc (.cells #[.int .i64 0, .slice none 0 0] 43)) (fun b => b = g) g w1.heap.size ⟨0, []⟩ ⟨0, []⟩ none 0) := hid ⟨hW.up hba, kx, GX.nil _ _ _, fun _ => rfl, estep hb1 hba, by have := hW.wsub g rfl; show ¬ (w1.heap.size = g); omega, hb1.size⟩
  rw [hbx] at H1
  clear hg hW hb1 hba kx
  go_upto_region 5 with (fail)
  clear hbx
  generalize w1.alloc (.cells #[.int .i64 0, .slice none 0 0] 43) = v1 at *
  go_wp2_with fail
  go_loopg [5] n (fun g1 vi wr => ∃ (i : Nat) (S : Nat → Prop) (x : Whl) (A : Option Addr) (cap : Nat), vi = .int .i64 i ∧ i ≤ n ∧ n - i ≤ g1 ∧ Hid (x.now ≤ (i : Int) ∧ WpL w wr S g bx x x A cap))
  case atStart => exact ⟨0, fun b => b = g, ⟨0, []⟩, none, 0, rfl, by omega, by omega, hid ⟨by simp, H1.out⟩⟩
  case round =>
    obtain ⟨i, S, x, A1, cap1, rfl, hin, hgi, HJ⟩ := hrel
    obtain ⟨wz, hwz⟩ : ∃ wz, wz = wr := ⟨_, rfl⟩
    subst hwz
    clear H1
    by_cases hlt : i < n
    · have hiL : i < L.length := by have := HN.out; omega
      obtain ⟨b, o, rfl, hb, hc0, hc1⟩ := HG.out.du i hiL
      have HCC : Hid (∀ w2, Below w.heap.size w w2 → w2.cell? ⟨b, o + i * 2, none⟩ = some (.int .i64 L[i].1) ∧ w2.cell? ⟨b, o + i * 2 + 1, none⟩ = some (.int .i64 L[i].2)) := hid fun w2 h2 => ⟨(h2.cell hb).trans hc0, (h2.cell hb).trans hc1⟩
      clear hb hc0 hc1
      generalize L[i] = d at *
      obtain ⟨da, db⟩ := d
      simp only at HCC
      obtain ⟨hc0, hc1⟩ := HCC.out wz HJ.out.2.bel
      have hiz : (i : Int) < (n : Int) := by omega
      have hid' : decide ((i : Int) < (n : Int)) = true := decide_eq_true hiz
      have hi0 : (0 : Int) ≤ (i : Int) := by omega
      have hiadd : IntKind.i64.wrap ((i : Int) + 1) = (i : Int) + 1 := IntWalk.i64_in _ (by omega)
      have HXN : Hid (x.now ≤ 300 ∧ 0 ≤ x.now) := hid ⟨by have := HJ.out.1; omega, HJ.out.2.a.ok.2⟩
      obtain ⟨n1, hn1⟩ : ∃ q, x.all.length = q := ⟨_, rfl⟩
      have hn32 : n1 ≤ 32 := by rw [← hn1]; exact HJ.out.2.a.ok.1.few
      have hbx := HJ.out.2.hx
      rw [hn1] at hbx
      have HBX := hid hbx
      obtain ⟨x0, x1⟩ := hbx.cells
      have HN1 := hid hn1
      clear hbx hn1
      obtain ⟨nw, hnw⟩ : ∃ q, x.now = q := ⟨_, rfl⟩
      rw [hnw] at x0
      have HNW := hid hnw
      clear hnw
      by_cases hz : db = 0
      · subst hz
        have hq : ((0 : Int) == 0) = true := rfl
        have HS := hid (rstep_any x A1 cap1 wz (HJ.out.2.gx.imp fun b hb => hb.1) HXN.out.2 (by have := HXN.out.1; omega) HN1.out hn32)
        rw [HNW.out] at HS
        unfold RwT at HS
        obtain ⟨D, hD⟩ : ∃ D, whDue x = D := ⟨_, rfl⟩
        obtain ⟨m, hm⟩ : ∃ m, D.length = m := ⟨_, rfl⟩
        obtain ⟨x2, hx2⟩ : ∃ X, whStep x = X := ⟨_, rfl⟩
        have hlen := whStep_len (x := x)
        have hm32 : m ≤ 32 := by rw [← hm, ← hD]; have := HN1.out; omega
        have hnow2 : x2.now ≤ ((i + 1 : Nat) : Int) := by rw [← hx2]; show x.now + 1 ≤ _; have := HJ.out.1; omega
        rw [hD, hx2, hm] at HS
        have HWS := hid (fun (w2 : World) (h : WpL w w2 S g bx x x2 A1 cap1) => wlstep_lit S w.heap.size g x w2 h.a (by have := HXN.out.1; omega) hD hm hx2)
        have HWS2 := hid (fun (w2 : World) (A2 : Option Addr) (cap2 : Nat) (h : WpL w w2 S g bx x x2 A2 cap2) => wlstep_lit S w.heap.size g x w2 h.a (by have := HXN.out.1; omega) hD hm hx2)
        have HM := hid hm
        have HNX := hid hnow2
        clear hD hm hx2 hlen hnow2 HWS
        go_wp2_with fail
        refine HS.out.mono ?_
        rintro e w5 ⟨A4, c4, A2, c2, rfl, hg4, hg2, hn2, hb5⟩
        obtain ⟨n2, hn2l⟩ : ∃ q, x2.all.length = q := ⟨_, rfl⟩
        obtain ⟨nw2, hnw2⟩ : ∃ q, x2.now = q := ⟨_, rfl⟩
        rw [hn2l, hnw2]
        have hba := enew w5 (.cells #[.int .i64 nw2, .slice A2 n2 c2] 43)
        have hb6 := estep hb5 hba
        have hyb := BWh.new w5 nw2 (.slice A2 n2 c2)
        have hpt : WpL w (((w5.alloc (.cells #[.int .i64 nw2, .slice A2 n2 c2] 43)).setCell ⟨bx, 0, none⟩ (.int .i64 nw2)).setCell ⟨bx, 1, none⟩ (.slice A2 n2 c2)) S g bx x x2 A2 c2 := by
          have := HJ.out.2.put (z := x2) (A' := A2) (cap' := c2) hb6 ((hg2.same fun b hb => hba.block b hb.2).imp fun b hb => Or.inr ⟨hb.1, Nat.lt_of_lt_of_le hb.2 hba.size⟩) hn2
          rw [hn2l, hnw2] at this
          exact this
        have hbl := Bk.lt HBX.out
        have hg47 : GX encWi 1 (((w5.alloc (.cells #[.int .i64 nw2, .slice A2 n2 c2] 43)).setCell ⟨bx, 0, none⟩ (.int .i64 nw2)).setCell ⟨bx, 1, none⟩ (.slice A2 n2 c2)) (fun b => wz.heap.size ≤ b) A4 D :=
          (hg4.same fun b hb => ((Below.heap_setCell _ ⟨bx, 1, none⟩ _ b (by have := hb.1; show b ≠ bx; omega)).trans (Below.heap_setCell _ ⟨bx, 0, none⟩ _ b (by have := hb.1; show b ≠ bx; omega))).trans (hba.block b hb.2)).imp fun b hb => hb.1
        have hb67 : wz.heap.size ≤ (((w5.alloc (.cells #[.int .i64 nw2, .slice A2 n2 c2] 43)).setCell ⟨bx, 0, none⟩ (.int .i64 nw2)).setCell ⟨bx, 1, none⟩ (.slice A2 n2 c2)).heap.size := by rw [World.size_setCell, World.size_setCell]; exact hb6.size
        have hx6 := HBX.out.up hb6
        have HP7 := hid hpt
        have HG7 := hid hg47
        have HZ7 := hid hb67
        obtain ⟨y0, y1⟩ := hyb.cells
        obtain ⟨z0, z1⟩ := hx6.cells
        obtain ⟨f0, f1⟩ := hx6.froz
        have HGB := hid HJ.out.2.a.sub
        clear hb5 hba hb6 hyb hpt hg47 hb67 hx6 hg2 hg4 hn2 hbl x0 x1 hc0 hc1 HS
        go_upto_region 11 with (fail)
        clear y0 y1 z0 z1 f0 f1
        generalize (((w5.alloc (.cells #[.int .i64 nw2, .slice A2 n2 c2] 43)).setCell ⟨bx, 0, none⟩ (.int .i64 nw2)).setCell ⟨bx, 1, none⟩ (.slice A2 n2 c2)) = w7 at *
        have HW7 := hid (HWS2.out w7 A2 c2 HP7.out)
        have hgl : g < wz.heap.size := HJ.out.2.a.wsub g (WlH.sg HJ.out.2.a)
        clear hn2l hnw2 HWS2
        go_wp2_with fail
        refine HW7.out.mono ?_
        rintro e w8 ⟨A5, c5, rfl, hg5, hW8, ho8⟩
        have HP8 := hid (HP7.out.wstep hW8 ho8)
        have HG8 : Hid (GX encWi 1 w8 (· < w8.heap.size) A4 D) := hid (by
          intro k hk
          obtain ⟨b2, o2, e1, e2, e3⟩ := HG7.out k hk
          have hlt8 : b2 < w7.heap.size := lt_of_cell (e3 0 (by omega))
          exact ⟨b2, o2, e1, Nat.lt_of_lt_of_le hlt8 ho8.size, fun j hj => (World.cell?_of_block (ho8.block b2 hlt8 (by have : wz.heap.size ≤ b2 := e2; omega))).trans (e3 j hj)⟩)
        have HIN := hid (ints_same A5 A4 c5 c4 D HM.out w8 (hg5.imp fun b hb => HP8.out.a.wsub b hb.1) HG8.out (by omega))
        clear hg5 hW8 ho8 HW7 HG7 HG8 HP7
        go_wp2_with fail
        refine HIN.out.mono ?_
        rintro e wf ⟨rfl, hbf⟩
        have HPF : Hid (x2.now ≤ ((i + 1 : Nat) : Int) ∧ WpL w wf S g bx x2 x2 A2 c2) := hid ⟨HNX.out, HP8.out.up hbf⟩
        clear hbf HIN HP8 HM
        go_upto_region 17 with (fail)
        obtain ⟨q, hq⟩ : ∃ q, x2.all.length = q := ⟨_, rfl⟩
        obtain ⟨nq, hnq⟩ : ∃ q, x2.now = q := ⟨_, rfl⟩
        obtain ⟨SO, hso⟩ : ∃ SO, whSorted x2 = SO := ⟨_, rfl⟩
        obtain ⟨s, hsl⟩ : ∃ s, SO.length = s := ⟨_, rfl⟩
        have hq32 : q ≤ 32 := by rw [← hq]; exact HPF.out.2.a.ok.1.few
        have hs16 : s ≤ 1600 := by rw [← hsl, ← hso]; exact whSorted_len x2 HPF.out.2.a.ok.1.few
        have hnq3 : nq ≤ 301 := by rw [← hnq]; have := HPF.out.1; omega
        have hnq0 : 0 ≤ nq := by rw [← hnq]; exact HPF.out.2.a.ok.2
        have hbf := HPF.out.2.hx
        rw [hq, hnq] at hbf
        have HLN := hid (fun (w2 : World) (hb : Below wf.heap.size wf w2) => wllen_any S w.heap.size g x2 w2 (HPF.out.2.a.up hb) (hid hq))
        have HNO := hid (fun (w2 : World) (hb : Below wf.heap.size wf w2) => wlnow_any S w.heap.size g x2 w2 (HPF.out.2.a.up hb) (hid hnq))
        have HAL := hid (fun (w2 : World) (hb : Below wf.heap.size wf w2) => wlall_lit S w.heap.size g x2 w2 (HPF.out.2.a.up hb) (by omega) hso hsl)
        have HSR := hid (fun (w2 : World) (hb : Below wf.heap.size wf w2) => rsorted_lit x2 A2 c2 w2 ((HPF.out.2.up hb).gx.imp fun b hb => hb.1) (by omega) (by omega) (by omega) hq hnq hso hsl)
        have HSM := hid (fun (w2 : World) (A5 A6 : Option Addr) (c5 c6 : Nat) (h5 : GX encDu 2 w2 (· < w2.heap.size) A5 SO) (h6 : GX encDu 2 w2 (· < w2.heap.size) A6 SO) => dues_same A5 A6 c5 c6 SO hsl w2 h5 h6 (by omega))
        obtain ⟨y0, y1⟩ := hbf.cells
        have hz : Below wf.heap.size wf wf.drew := (Below.refl _ _).drew
        clear hq hnq hso hsl
        go_region_held3 (fun w' => w'.cell? ⟨bx, 0, none⟩ = some (.int .i64 nq) ∧ w'.cell? ⟨bx, 1, none⟩ = some (.slice A2 q c2) ∧ Below wf.heap.size wf w') (first | (with_reducible exact keepWb hbf hz) | (with_reducible exact keepWb hbf (hz.trans (Below.mono (by assumption) hz.size)))) (first
          | (go_at_call 25
             ((with_reducible refine (HLN.out _ hz).mono ?_); rintro e wa ⟨rfl, hy⟩)
             have hz := hz.trans (hy.mono hz.size))
          | (go_at_call 26
             ((with_reducible refine (HNO.out _ hz).mono ?_); rintro e wa ⟨rfl, hy⟩)
             have hz := hz.trans (hy.mono hz.size))
          | (go_at_call 28
             ((with_reducible refine (HAL.out _ hz).mono ?_); rintro e wa ⟨A5, c5, rfl, hg5, hy⟩)
             have hz := hz.trans (hy.mono hz.size))
          | (go_at_call 29
             ((with_reducible refine (HSR.out _ hz).mono ?_); rintro e wa ⟨A6, c6, rfl, hg6, hy⟩)
             have hg5 := GX.up hg5 hy
             have hz := hz.trans (hy.mono hz.size))
          | (go_at_call 27
             ((with_reducible refine (HSM.out _ _ _ _ _ hg5 hg6).mono ?_); rintro e wa ⟨rfl, hy⟩)
             have hz := hz.trans (hy.mono hz.size)))
        all_goals
          have HPZ := hid (And.intro HPF.out.1 (HPF.out.2.up hz))
          clear y0 y1 hbf HLN HNO HAL HSR HSM hz
          go_wp2_with fail
          go_roundg (n - (i + 1))
          case measure => omega
          case rel => exact ⟨i + 1, S, x2, A2, c2, by first | rfl | go_num | simp, by omega, by omega, HPZ⟩
      · have hq : (db == 0) = false := by simpa using hz
        have hq2 : decide (db = 0) = false := decide_eq_false hz
        clear hz
        obtain ⟨z, hzz⟩ : ∃ z, (whSet x da db).2 = z := ⟨_, rfl⟩
        obtain ⟨x2, hx2⟩ : ∃ X, (whSet x da db).1 = X := ⟨_, rfl⟩
        obtain ⟨n2, hn2l⟩ : ∃ q, x2.all.length = q := ⟨_, rfl⟩
        obtain ⟨nw2, hnw2⟩ : ∃ q, x2.now = q := ⟨_, rfl⟩
        have HZ := hid hzz
        have HX2 := hid hx2
        have HNN2 := hid (And.intro hn2l hnw2)
        have HNX : Hid (x2.now ≤ ((i + 1 : Nat) : Int)) := hid (by rw [← hx2, whSet_now]; have := HJ.out.1; omega)
        have HNb : Hid (∀ b, Nn S bx wz b → b < wz.heap.size) := hid fun b hb => hb.1
        have HRS := hid (fun (w2 : World) (hb : Below wz.heap.size wz w2) => rwset_lit (Nn S bx wz) x A1 cap1 da db w2 (HJ.out.2.gx.same fun b h => hb.block b h.1) (fun b h => Nat.lt_of_lt_of_le (HNb.out b h) hb.size) HJ.out.2.nil HXN.out.2 (by have := HXN.out.1; omega) (by have := HN1.out; omega) HN1.out HNW.out HZ hx2 hn2l hnw2)
        have HWS := hid (fun (w2 : World) (A2 : Option Addr) (c2 : Nat) (h : WpL w w2 S g bx x x2 A2 c2) => wlset_any S w.heap.size g x da db w2 h.a (by have := HXN.out.1; omega) HZ)
        clear hzz hx2 hn2l hnw2
        have hbx := HBX.out
        rw [HNW.out] at hbx
        go_upto_region 13 with (fail)
        go_cut [8, 9] from 39 to 53 (fun s8 s9 wx => ∃ (yb : Nat) (A2 : Option Addr) (c2 : Nat), s8 = .pointer (some ⟨yb, 0, none⟩) ∧ s9 = .int .i64 z ∧ Hid (NwH wz wx (Nn S bx wz) yb x2 A2 n2 c2))
        case first =>
          have hz : Below wz.heap.size wz wz.drew := (Below.refl _ _).drew
          have hza : Below wz.heap.size wz (wz.alloc (.cells #[.int .i64 0, .slice none 0 0] 43)).drew := (enew _ _).drew
          have hwl : wz.heap.size ≤ wz.heap.size := Nat.le_refl _
          go_region_held3 (fun w' => w'.cell? ⟨bx, 0, none⟩ = some (.int .i64 nw) ∧ w'.cell? ⟨bx, 1, none⟩ = some (.slice A1 n1 cap1) ∧ w'.cell? ⟨b, o + i * 2, none⟩ = some (.int .i64 da) ∧ w'.cell? ⟨b, o + i * 2 + 1, none⟩ = some (.int .i64 db) ∧ Below wz.heap.size wz w') (first | (with_reducible exact keepWa hbx hc0 hc1 hz) | (with_reducible exact keepWa hbx hc0 hc1 hza) | (with_reducible exact keepWa hbx hc0 hc1 (hz.alloc hz.size _)) | (with_reducible exact keepWa hbx hc0 hc1 (below_put2 hz wz.heap.size hwl _ _))) (first
            | (go_at_call 23
               first
                 | ((with_reducible refine (HRS.out _ hz).mono ?_); rintro e w4 ⟨A2, c2, rfl, hg4, hn4, hy4⟩; have hz := hz.trans (hy4.mono hz.size))
                 | ((with_reducible refine (HRS.out _ hza).mono ?_); rintro e w4 ⟨A2, c2, rfl, hg4, hn4, hy4⟩; have hz := hza.trans (hy4.mono hza.size); have ky : BWh w4 wz.heap.size 0 (.slice none 0 0) := BWh.up (Bk.drew (BWh.new wz 0 (.slice none 0 0))) hy4; obtain ⟨y0, y1⟩ := BWh.cells ky; obtain ⟨f0, f1⟩ := BWh.froz ky)))
          all_goals
            go_wp2_with fail
            go_meet
            first
              | with_reducible exact ⟨_, _, _, rfl, rfl, hid (nwA3 hz HNb.out hg4 hn4 HNN2.out.1 HNN2.out.2)⟩
              | with_reducible exact ⟨_, _, _, rfl, rfl, hid (nwB3 hz HNb.out ky hg4 hn4 HNN2.out.1 HNN2.out.2)⟩
        case rest =>
          obtain ⟨yb, A2, c2, rfl, rfl, HC⟩ := hcut
          obtain ⟨v5, hv5⟩ : ∃ v5, v5 = wc := ⟨_, rfl⟩
          subst hv5
          have hx5 := HBX.out.up HC.out.2.2.2.2.2
          rw [HNW.out] at hx5
          have hpt : WpL w ((v5.setCell ⟨bx, 0, none⟩ (.int .i64 nw2)).setCell ⟨bx, 1, none⟩ (.slice A2 n2 c2)) S g bx x x2 A2 c2 := by
            have := HJ.out.2.put (z := x2) (A' := A2) (cap' := c2) HC.out.2.2.2.2.2 HC.out.2.1 HC.out.2.2.1
            rw [HNN2.out.1, HNN2.out.2] at this
            exact this
          have hyb := HC.out.1
          rw [HNN2.out.2] at hyb
          obtain ⟨y0, y1⟩ := hyb.cells
          obtain ⟨z0, z1⟩ := hx5.cells
          obtain ⟨f0, f1⟩ := hx5.froz
          have HP7 := hid hpt
          clear hyb hx5 hpt HC x0 x1 hc0 hc1 hbx HRS
          go_upto_region 15 with (fail)
          clear y0 y1 z0 z1 f0 f1
          generalize (v5.setCell ⟨bx, 0, none⟩ (.int .i64 nw2)).setCell ⟨bx, 1, none⟩ (.slice A2 n2 c2) = w7 at *
          obtain ⟨hc0, hc1⟩ := HCC.out w7 HP7.out.bel
          have hz0 : Below w7.heap.size w7 w7.drew := (Below.refl _ _).drew
          have hzb : Below w.heap.size w w7.drew := HP7.out.bel.drew
          go_region_held3 (fun w' => w'.cell? ⟨b, o + i * 2, none⟩ = some (.int .i64 da) ∧ w'.cell? ⟨b, o + i * 2 + 1, none⟩ = some (.int .i64 db) ∧ Below w.heap.size w w') (first | (with_reducible exact keepMv HCC.out hzb)) (first
            | (go_at_call 24
               ((with_reducible refine (HWS.out _ _ _ (HP7.out.up hz0)).mono ?_); rintro e w5 ⟨rfl, hW5, ho5⟩)
               have HT5 := (HP7.out.up hz0).wset hW5 ho5
               have hzb := HT5.bel))
          all_goals
            rw [HX2.out] at HT5
            have HPF : Hid (x2.now ≤ ((i + 1 : Nat) : Int) ∧ WpL w w5 (Grw S w7.drew w5) g bx x2 x2 A2 c2) := hid ⟨HNX.out, HT5⟩
            clear hW5 ho5 HT5 hzb HWS hz0 hc0 hc1 HP7
            generalize Grw S w7.drew w5 = S5 at *
            obtain ⟨wf, hwf⟩ : ∃ wf, wf = w5 := ⟨_, rfl⟩
            subst hwf
            go_upto_region 17 with (fail)
          obtain ⟨q, hq⟩ : ∃ q, x2.all.length = q := ⟨_, rfl⟩
          obtain ⟨nq, hnq⟩ : ∃ q, x2.now = q := ⟨_, rfl⟩
          obtain ⟨SO, hso⟩ : ∃ SO, whSorted x2 = SO := ⟨_, rfl⟩
          obtain ⟨s, hsl⟩ : ∃ s, SO.length = s := ⟨_, rfl⟩
          have hq32 : q ≤ 32 := by rw [← hq]; exact HPF.out.2.a.ok.1.few
          have hs16 : s ≤ 1600 := by rw [← hsl, ← hso]; exact whSorted_len x2 HPF.out.2.a.ok.1.few
          have hnq3 : nq ≤ 301 := by rw [← hnq]; have := HPF.out.1; omega
          have hnq0 : 0 ≤ nq := by rw [← hnq]; exact HPF.out.2.a.ok.2
          have hbf := HPF.out.2.hx
          rw [hq, hnq] at hbf
          have HLN := hid (fun (w2 : World) (hb : Below wf.heap.size wf w2) => wllen_any S5 w.heap.size g x2 w2 (HPF.out.2.a.up hb) (hid hq))
          have HNO := hid (fun (w2 : World) (hb : Below wf.heap.size wf w2) => wlnow_any S5 w.heap.size g x2 w2 (HPF.out.2.a.up hb) (hid hnq))
          have HAL := hid (fun (w2 : World) (hb : Below wf.heap.size wf w2) => wlall_lit S5 w.heap.size g x2 w2 (HPF.out.2.a.up hb) (by omega) hso hsl)
          have HSR := hid (fun (w2 : World) (hb : Below wf.heap.size wf w2) => rsorted_lit x2 A2 c2 w2 ((HPF.out.2.up hb).gx.imp fun b hb => hb.1) (by omega) (by omega) (by omega) hq hnq hso hsl)
          have HSM := hid (fun (w2 : World) (A5 A6 : Option Addr) (c5 c6 : Nat) (h5 : GX encDu 2 w2 (· < w2.heap.size) A5 SO) (h6 : GX encDu 2 w2 (· < w2.heap.size) A6 SO) => dues_same A5 A6 c5 c6 SO hsl w2 h5 h6 (by omega))
          obtain ⟨y0, y1⟩ := hbf.cells
          have hz : Below wf.heap.size wf wf.drew := (Below.refl _ _).drew
          clear hq hnq hso hsl
          go_region_held3 (fun w' => w'.cell? ⟨bx, 0, none⟩ = some (.int .i64 nq) ∧ w'.cell? ⟨bx, 1, none⟩ = some (.slice A2 q c2) ∧ Below wf.heap.size wf w') (first | (with_reducible exact keepWb hbf hz) | (with_reducible exact keepWb hbf (hz.trans (Below.mono (by assumption) hz.size)))) (first
            | (go_at_call 25
               ((with_reducible refine (HLN.out _ hz).mono ?_); rintro e wa ⟨rfl, hy⟩)
               have hz := hz.trans (hy.mono hz.size))
            | (go_at_call 26
               ((with_reducible refine (HNO.out _ hz).mono ?_); rintro e wa ⟨rfl, hy⟩)
               have hz := hz.trans (hy.mono hz.size))
            | (go_at_call 28
               ((with_reducible refine (HAL.out _ hz).mono ?_); rintro e wa ⟨A5, c5, rfl, hg5, hy⟩)
               have hz := hz.trans (hy.mono hz.size))
            | (go_at_call 29
               ((with_reducible refine (HSR.out _ hz).mono ?_); rintro e wa ⟨A6, c6, rfl, hg6, hy⟩)
               have hg5 := GX.up hg5 hy
               have hz := hz.trans (hy.mono hz.size))
            | (go_at_call 27
               ((with_reducible refine (HSM.out _ _ _ _ _ hg5 hg6).mono ?_); rintro e wa ⟨rfl, hy⟩)
               have hz := hz.trans (hy.mono hz.size)))
          all_goals
            have HPZ := hid (And.intro HPF.out.1 (HPF.out.2.up hz))
            clear y0 y1 hbf HLN HNO HAL HSR HSM hz
            go_wp2_with fail
            go_roundg (n - (i + 1))
            case measure => omega
            case rel => exact ⟨i + 1, S5, x2, A2, c2, by first | rfl | go_num | simp, by omega, by omega, HPZ⟩
    · obtain rfl : i = n := by omega
      have hiz : ¬ (i : Int) < (i : Int) := by omega
      go_wp2_with fail
      refine (known22_any _).mono ?_
      rintro e w6 ⟨rfl, hb6⟩
      go_wp2_with fail
      go_returns
      exact ⟨rfl, estep HJ.out.2.bel hb6⟩
end Go.Proofs.Ytldilhbomilcpaa
