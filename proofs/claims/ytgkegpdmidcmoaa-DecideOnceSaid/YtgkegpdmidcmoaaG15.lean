/- Texts put together: Ef Eh. -/
import Derived.Test.YtgkegpdmidcmoaaG14
import Derived.Deep.RegionHeld3
import Derived.StillTailTactics
namespace Go.Proofs.Ytgkegpdmidcmoaa
set_option linter.unusedVariables false
set_option linter.unusedSimpArgs false
open Go.RowKit Go.Joins

theorem rall_tx (x : Value) (L : List Hd) (n : List UInt8) (w : World) (hx : HV w x L) (hl : L.length ≤ 1000000) :
    Calls Try.prog 44 #[x, .string (bs n)] w fun e w' => (∃ A c, e = .returned (.slice A (allS L n).length c) ∧ STexts w' (· < w'.heap.size) A (allS L n)) ∧ Below w.heap.size w w' := by
  obtain ⟨A, c, rfl, hR⟩ := hx
  refine (rall_any A c L n w hR hl).mono fun e w' ⟨v, h1, h2, h3⟩ => ?_
  obtain ⟨A', c', rfl, h4⟩ := TB.reads h2
  exact ⟨⟨A', c', h1, h4.imp fun b hb => hb.2⟩, h3⟩
set_option maxRecDepth 100000 in
set_option maxHeartbeats 4000000 in
theorem rmatch_any (m h p b : List UInt8) (x : Value) (L : List Hd) (k : Int) (n v : List UInt8) (w : World) (hx : HV w x L) (hl : L.length ≤ 1000000) (hpl : p.length ≤ 140737488351232) (hvl : v.length ≤ 140737488351232) {z : Bool} (H : Hid (mE k n v m h p L = z)) :
    Calls Try.prog 42 #[.agg #[.int .i64 k, .string (bs n), .string (bs v)], .agg #[.string (bs m), .string (bs h), .string (bs p), x, .string (bs b)]] w fun e w' => e = .returned (.bool z) ∧ Below w.heap.size w w' := by
  have hb0 := estep (enew w (.cells #[.int .i64 k, .string (bs n), .string (bs v)] 69)) (enew _ (.cells #[.string (bs m), .string (bs h), .string (bs p), x, .string (bs b)] 36))
  have hp0 := (BP.new w k n v).up (enew _ (.cells #[.string (bs m), .string (bs h), .string (bs p), x, .string (bs b)] 36))
  have hq0 := BQ.new (w.alloc (.cells #[.int .i64 k, .string (bs n), .string (bs v)] 69)) m h p x b
  rw [World.size_alloc] at hq0
  have hx0 := hx.up hb0
  have hln : (allS L n).length ≤ 1000000 := Nat.le_trans (allS_length L n) hl
  have HA := hid (fun w2 (h2 : HV w2 x L) => rall_tx x L n w2 h2 hl)
  have HM5 := hid (memH_allS L n v)
  have HM6 := hid (getH_allS L n)
  clear hx
  generalize hal : allS L n = al at *
  clear hal
  go_enter Try.func42, Try.ntmps42
  go_upto_region 1 with (fail)
  generalize (w.alloc (.cells #[.int .i64 k, .string (bs n), .string (bs v)] 69)).alloc (.cells #[.string (bs m), .string (bs h), .string (bs p), x, .string (bs b)] 36) = v0 at *
  obtain ⟨k0, k1, k2⟩ := hp0.cells
  obtain ⟨q0, q1, q2, q3, q4⟩ := hq0.cells
  go_wp2_with (go_at_call 44; refine (HA.out _ hx0).mono ?_)
  rintro e w1 ⟨⟨A, c, rfl, hT⟩, hb1⟩
  have hb2 := estep hb0 hb1
  have hp2 := hp0.up hb1
  have hq2 := hq0.up hb1
  clear hb0 hb1 hp0 hq0 hx0 k0 k1 k2 q0 q1 q2 q3 q4
  obtain ⟨k0, k1, k2⟩ := hp2.cells
  obtain ⟨q0, q1, q2, q3, q4⟩ := hq2.cells
  by_cases e1 : k = 1
  · subst e1
    have HZ := hid (show z = (m == v) by rw [← H.out]; rfl)
    go_wp2_with fail
    go_returns
    exact ⟨by rw [HZ.out]; rfl, hb2⟩
  have b1 : (k == 1) = false := by simpa using e1
  by_cases e2 : k = 2
  · subst e2
    have HZ := hid (show z = (h == v) by rw [← H.out]; rfl)
    go_wp2_with fail
    go_returns
    exact ⟨by rw [HZ.out]; rfl, hb2⟩
  have b2 : (k == 2) = false := by simpa using e2
  by_cases e3 : k = 3
  · subst e3
    have HZ := hid (show z = (p == v) by rw [← H.out]; rfl)
    go_wp2_with fail
    go_returns
    exact ⟨by rw [HZ.out]; rfl, hb2⟩
  have b3 : (k == 3) = false := by simpa using e3
  by_cases e4 : k = 4
  · subst e4
    have HZ := hid (show z = List.isPrefixOf v p by rw [← H.out]; rfl)
    by_cases hlen : v.length ≤ p.length
    · have hd : decide ((v.length : Int) ≤ (p.length : Int)) = true := by simp; omega
      have HT := hid (show (((bs p).extract 0 v.length).toList == v) = List.isPrefixOf v p by rw [bs_extract, List.drop_zero, Nat.sub_zero, bs_toList]; exact prefix_take v p hlen)
      go_upto_region 10 with (fail)
      go_quiet (fail)
      go_wp2_with fail
      go_returns
      exact ⟨by rw [HZ.out, ← HT.out]; rfl, below_drewN hb2 _⟩
    · have hd : decide ((v.length : Int) ≤ (p.length : Int)) = false := by simp; omega
      have HT := hid (prefix_long v p (by omega))
      go_upto_region 10 with (fail)
      go_quiet (fail)
      go_wp2_with fail
      go_returns
      exact ⟨by rw [HZ.out, HT.out]; rfl, below_drewN hb2 _⟩
  have b4 : (k == 4) = false := by simpa using e4
  by_cases e5 : k = 5
  · subst e5
    have HZ := hid (show z = al.contains v by rw [← H.out, HM5.out]; rfl)
    have HTT := hid hT
    have HPP := hid hp2
    clear hT k0 k1 k2 q0 q1 q2 q3 q4 hp2 hq2
    obtain ⟨k0, k1, k2⟩ := HPP.out.cells
    go_upto_region 12 with (fail)
    go_wp2_with fail
    go_loopw [6] (fun i wr => ∃ j : Nat, j ≤ al.length ∧ i = .int .i64 j ∧ Hid ((∀ u (hu : u < al.length), u < j → (al[u] == v) = false) ∧ Below w1.heap.size w1 wr)) (fun i _ => al.length - (intOf i).toNat)
    case atStart => exact ⟨0, by omega, rfl, hid ⟨fun u hu hj => absurd hj (by omega), Below.refl _ _⟩⟩
    case round =>
      obtain ⟨j, hj, rfl, HW⟩ := hrel
      clear k0 k1 k2
      obtain ⟨k0, k1, k2⟩ := (HPP.out.up HW.out.2).cells
      by_cases hlt : j < al.length
      · obtain ⟨ad, rfl, hB, hc⟩ := HTT.out j hlt
        have hc2 : wr.cell? (ad.add j) = some (.string (bs al[j])) := (HW.out.2.cell (by rw [add_block]; exact hB)).trans hc
        clear hc
        have hi0 : (0 : Int) ≤ (j : Int) := by omega
        have hi1 : (j : Int) < (al.length : Int) := by omega
        have hki : decide ((j : Int) < ((al.length : Nat) : Int)) = true := by simp; omega
        cases hs : (al[j] == v)
        · have HS := hid hs
          have HN := hid (show ∀ u (hu : u < al.length), u = j → al[u] = al[j] from fun u hu e => by subst e; rfl)
          go_wp2_with fail
          go_quiet (fail)
          go_wp2_with fail
          go_roundw
          case rel => exact ⟨j + 1, by omega, by go_num, hid ⟨fun u hu h' => by
            by_cases e : u = j
            · rw [HN.out u hu e]; exact HS.out
            · exact HW.out.1 u hu (by omega), below_drewN HW.out.2 _⟩⟩
          case measure => simp [intOf]; omega
        · have HS := hid (show al.contains v = true by rw [List.contains_iff_mem]; have : al[j] = v := by simpa using hs
                                                       rw [← this]; exact List.getElem_mem hlt)
          go_wp2_with fail
          go_quiet (fail)
          go_wp2_with fail
          go_returns
          exact ⟨by rw [HZ.out, HS.out]; rfl, estep hb2 (below_drewN HW.out.2 _)⟩
      · obtain rfl : j = al.length := by omega
        have HS := hid (show al.contains v = false by
          rw [Bool.eq_false_iff]
          intro hc
          obtain ⟨u, hu, e⟩ := List.getElem_of_mem (List.contains_iff_mem.1 hc)
          have := HW.out.1 u hu hu
          rw [e] at this; simp at this)
        go_wp2_with fail
        go_returns
        exact ⟨by rw [HZ.out, HS.out]; rfl, estep hb2 HW.out.2⟩
  have b5 : (k == 5) = false := by simpa using e5
  by_cases e6 : k = 6
  · subst e6
    have HZ := hid (show z = decide (0 < al.length) by rw [← H.out, HM6.out]; rfl)
    by_cases h0 : al.length = 0
    · have HS := hid h0
      have hd : decide ((0 : Int) < ((al.length : Nat) : Int)) = false := decide_eq_false (by omega)
      clear h0
      go_wp2_with fail
      go_returns
      exact ⟨by rw [HZ.out, decide_eq_false (show ¬ 0 < al.length by have := HS.out; omega)]; rfl, hb2⟩
    · have HS := hid h0
      have hd : decide ((0 : Int) < ((al.length : Nat) : Int)) = true := decide_eq_true (by omega)
      clear h0
      go_wp2_with fail
      go_returns
      exact ⟨by rw [HZ.out, decide_eq_true (show 0 < al.length by have := HS.out; omega)]; rfl, hb2⟩
  have b6 : (k == 6) = false := by simpa using e6
  have HZ := hid (show z = false by rw [← H.out, mE, if_neg e1, if_neg e2, if_neg e3, if_neg e4, if_neg e5, if_neg e6])
  clear e1 e2 e3 e4 e5 e6
  go_wp2_with fail
  go_returns
  exact ⟨by rw [HZ.out]; rfl, hb2⟩
set_option maxRecDepth 100000 in
set_option maxHeartbeats 4000000 in
theorem rallp_any (m h p b : List UInt8) (x : Value) (L : List Hd) (A : Option Addr) (c : Nat) (l : List Pd) (w : World) (hl : PX w (· < w.heap.size) A l) (hln : l.length ≤ 9223372036854775807) (hsm : smallP l) (hx : HV w x L) (hL : L.length ≤ 1000000) (hpl : p.length ≤ 140737488351232) {z : Bool} (H : Hid (allE l m h p L = z)) :
    Calls Try.prog 38 #[.slice A l.length c, .agg #[.string (bs m), .string (bs h), .string (bs p), x, .string (bs b)]] w fun e w' => e = .returned (.bool z) ∧ Below w.heap.size w w' := by
  have hnot := enot
  have hb0 := enew w (.cells #[.string (bs m), .string (bs h), .string (bs p), x, .string (bs b)] 36)
  have hq0 := BQ.new w m h p x b
  have hx0 := hx.up hb0
  have HR := hid (hl.up hb0)
  have HSM := hid hsm
  clear hl hx hsm
  go_enter Try.func38, Try.ntmps38
  go_upto_region 1 with (fail)
  generalize w.alloc (.cells #[.string (bs m), .string (bs h), .string (bs p), x, .string (bs b)] 36) = v0 at *
  have H0 := hid (And.intro hb0 (And.intro hq0 hx0))
  clear hb0 hq0 hx0
  go_wp2_with fail
  go_loopw [5] (fun i wr => ∃ k : Nat, k ≤ l.length ∧ i = .int .i64 k ∧ Hid (((l.take k).all fun e => mE e.k e.n e.v m h p L) = true ∧ Below v0.heap.size v0 wr)) (fun i _ => l.length - (intOf i).toNat)
  case atStart => exact ⟨0, by omega, rfl, hid ⟨rfl, Below.refl _ _⟩⟩
  case round =>
    obtain ⟨k, hk, rfl, HW⟩ := hrel
    by_cases hlt : k < l.length
    · obtain ⟨bb, o, rfl, hB, c0, c1, c2⟩ := (HR.out.up HW.out.2) k hlt
      have HT := hid (all_take' (fun e => mE e.k e.n e.v m h p L) l k hlt)
      have HF := hid (fun (hp : mE l[k].k l[k].n l[k].v m h p L = false) => all_false' (p := fun e => mE e.k e.n e.v m h p L) hlt hp)
      have hv2 := (HSM.out.at_ hlt).2
      generalize l[k] = y at *
      obtain ⟨yk, yn, yv⟩ := y
      simp only at c0 c1 c2 HT HF hv2
      have hki : decide ((k : Int) < ((l.length : Nat) : Int)) = true := by simp; omega
      have hi0 : (0 : Int) ≤ (k : Int) := by omega
      have hi1 : (k : Int) < (l.length : Int) := by omega
      have hx1 := H0.out.2.2.up HW.out.2
      obtain ⟨q0, q1, q2, q3, q4⟩ := (H0.out.2.1.up HW.out.2).cells
      obtain ⟨zz, hz⟩ : ∃ zz, mE yk yn yv m h p L = zz := ⟨_, rfl⟩
      have HZ := hid hz
      have HM := hid (fun w2 (h2 : HV w2 x L) => rmatch_any m h p b x L yk yn yv w2 h2 hL hpl hv2 HZ)
      have HX1 := hid hx1
      have hz0 : Below wr.heap.size wr wr.drew := (Below.refl _ _).drew
      clear hx1 hv2
      cases zz
      · have HE := hid (show allE l m h p L = false from HF.out hz)
        clear hz
        go_upto_region 4 with (fail)
        have e0 : wr.drew.cell? ⟨bb, o + k * 3, none⟩ = some (.int .i64 yk) := c0
        have e1 : wr.drew.cell? ⟨bb, o + k * 3 + 1, none⟩ = some (.string (bs yn)) := c1
        have e2 : wr.drew.cell? ⟨bb, o + k * 3 + 2, none⟩ = some (.string (bs yv)) := c2
        have r0 : wr.drew.cell? ⟨w.heap.size, 0, none⟩ = some (.string (bs m)) := q0
        have r1 : wr.drew.cell? ⟨w.heap.size, 1, none⟩ = some (.string (bs h)) := q1
        have r2 : wr.drew.cell? ⟨w.heap.size, 2, none⟩ = some (.string (bs p)) := q2
        have r3 : wr.drew.cell? ⟨w.heap.size, 3, none⟩ = some x := q3
        have r4 : wr.drew.cell? ⟨w.heap.size, 4, none⟩ = some (.string (bs b)) := q4
        clear c0 c1 c2 q0 q1 q2 q3 q4
        go_still_tail 5, (by kernel_rfl)
        change wpList _ _ _ _ _ wr.drew
        clear e0 e1 e2 r0 r1 r2 r3 r4
        go_wp2_with fail
        refine (HM.out _ (HX1.out.up hz0)).mono ?_
        rintro e w2 ⟨rfl, hb2⟩
        have hb3 := hid (estep hz0 hb2)
        clear hb2 hz0
        go_wp2_with fail
        go_returns
        exact ⟨by rw [← H.out, HE.out]; rfl, estep H0.out.1 (estep HW.out.2 hb3.out)⟩
      · clear hz
        go_upto_region 4 with (fail)
        have e0 : wr.drew.cell? ⟨bb, o + k * 3, none⟩ = some (.int .i64 yk) := c0
        have e1 : wr.drew.cell? ⟨bb, o + k * 3 + 1, none⟩ = some (.string (bs yn)) := c1
        have e2 : wr.drew.cell? ⟨bb, o + k * 3 + 2, none⟩ = some (.string (bs yv)) := c2
        have r0 : wr.drew.cell? ⟨w.heap.size, 0, none⟩ = some (.string (bs m)) := q0
        have r1 : wr.drew.cell? ⟨w.heap.size, 1, none⟩ = some (.string (bs h)) := q1
        have r2 : wr.drew.cell? ⟨w.heap.size, 2, none⟩ = some (.string (bs p)) := q2
        have r3 : wr.drew.cell? ⟨w.heap.size, 3, none⟩ = some x := q3
        have r4 : wr.drew.cell? ⟨w.heap.size, 4, none⟩ = some (.string (bs b)) := q4
        clear c0 c1 c2 q0 q1 q2 q3 q4
        go_still_tail 5, (by kernel_rfl)
        change wpList _ _ _ _ _ wr.drew
        clear e0 e1 e2 r0 r1 r2 r3 r4
        go_wp2_with fail
        refine (HM.out _ (HX1.out.up hz0)).mono ?_
        rintro e w2 ⟨rfl, hb2⟩
        have hb3 := hid (estep hz0 hb2)
        clear hb2 hz0
        go_wp2_with fail
        go_roundw
        case rel => exact ⟨k + 1, by omega, by go_num, hid ⟨by rw [HT.out, HW.out.1, HZ.out]; rfl, estep HW.out.2 hb3.out⟩⟩
        case measure => simp [intOf]; omega
    · obtain rfl : k = l.length := by omega
      have HE := hid (show allE l m h p L = true by have := HW.out.1; rw [List.take_length] at this; exact this)
      go_wp2_with fail
      go_returns
      exact ⟨by rw [← H.out, HE.out]; rfl, estep H0.out.1 HW.out.2⟩
end Go.Proofs.Ytgkegpdmidcmoaa
namespace Go.Proofs.Ytgkegpdmidcmoaa
set_option linter.unusedVariables false
set_option linter.unusedSimpArgs false
open Go.RowKit Go.Joins

def k11Q : List Hd := [([107], [118])]
theorem k11_m (k : Int) (n v : List UInt8) (x : Value) (w : World) (hx : HV w x k11Q) {z : Bool} (H : Hid (mE k n v [71, 69, 84] [97] [47, 97, 98] k11Q = z)) :
    Calls Try.prog 45 #[.agg #[.int .i64 k, .string (bs n), .string (bs v)], .agg #[.string (bs [71, 69, 84]), .string (bs [97]), .string (bs [47, 97, 98]), x, .string (bs [])]] w fun e w' => e = .returned (.bool z) ∧ Below w.heap.size w w' :=
  match_any _ _ _ _ x k11Q k n v w hx (by decide) H
end Go.Proofs.Ytgkegpdmidcmoaa
