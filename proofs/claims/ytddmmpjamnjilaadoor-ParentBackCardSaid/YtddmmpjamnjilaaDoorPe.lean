import Derived.Test.YtddmmpjamnjilaaDoorPd
namespace Go.Proofs.YtddmmpjamnjilaaDoor
set_option linter.unusedVariables false
set_option linter.unusedSimpArgs false
open Go.RowKit Go.Joins

theorem keep84 {w1 w2 : World} {g : Nat} {c0 c1 c2 c3 c4 p0 p1 p2 p3 x0 x1 x2 x3 : Value} {t5 t4 : TypeId}
    (hb : Below ((w1.alloc (.cells #[c0, c1, c2, c3, c4] t5)).alloc (.cells #[p0, p1, p2, p3] t4)).heap.size ((w1.alloc (.cells #[c0, c1, c2, c3, c4] t5)).alloc (.cells #[p0, p1, p2, p3] t4)) w2)
    (k0 : w1.cell? ⟨g, 0, none⟩ = some x0) (k1 : w1.cell? ⟨g, 1, none⟩ = some x1) (k2 : w1.cell? ⟨g, 2, none⟩ = some x2) (k3 : w1.cell? ⟨g, 3, none⟩ = some x3) (kf : ∀ i, w1.frozen? ⟨g, i, none⟩ = false) :
    w2.cell? ⟨g, 0, none⟩ = some x0 ∧ w2.cell? ⟨g, 1, none⟩ = some x1 ∧ w2.cell? ⟨g, 2, none⟩ = some x2 ∧ w2.cell? ⟨g, 3, none⟩ = some x3 ∧ (∀ i, w2.frozen? ⟨g, i, none⟩ = false) ∧
    w2.cell? ⟨w1.heap.size + 1, 0, none⟩ = some p0 ∧ w2.cell? ⟨w1.heap.size + 1, 1, none⟩ = some p1 ∧ w2.cell? ⟨w1.heap.size + 1, 2, none⟩ = some p2 ∧ w2.cell? ⟨w1.heap.size + 1, 3, none⟩ = some p3 ∧ g < w2.heap.size ∧ Below w1.heap.size w1 w2 := by
  have hg : g < w1.heap.size := lt_of_cell k0
  have hW : Below w1.heap.size w1 w2 := (((Below.refl _ _).alloc (Nat.le_refl _) _).alloc (by simp) _).trans (hb.mono (by simp; omega))
  have hn : w1.heap.size + 1 < ((w1.alloc (.cells #[c0, c1, c2, c3, c4] t5)).alloc (.cells #[p0, p1, p2, p3] t4)).heap.size := by simp
  refine ⟨(hW.cell (p := ⟨g, 0, none⟩) hg).trans k0, (hW.cell (p := ⟨g, 1, none⟩) hg).trans k1, (hW.cell (p := ⟨g, 2, none⟩) hg).trans k2, (hW.cell (p := ⟨g, 3, none⟩) hg).trans k3, fun i => (hW.frozen (p := ⟨g, i, none⟩) hg).trans (kf i), ?_, ?_, ?_, ?_, Nat.lt_of_lt_of_le hg hW.size, hW⟩
  · exact (hb.cell (p := ⟨w1.heap.size + 1, 0, none⟩) hn).trans (by simp)
  · exact (hb.cell (p := ⟨w1.heap.size + 1, 1, none⟩) hn).trans (by simp)
  · exact (hb.cell (p := ⟨w1.heap.size + 1, 2, none⟩) hn).trans (by simp)
  · exact (hb.cell (p := ⟨w1.heap.size + 1, 3, none⟩) hn).trans (by simp)
theorem pzero_num (a b s f : Nat) : pzero (a, b, s, 0) = pzero (a, b, s, f) := rfl
set_option maxRecDepth 100000 in
set_option maxHeartbeats 4000000 in
theorem parread_any (l : List UInt8) (w : World) (hs : l.length ≤ 140737488351232) (HT : Hid (Pce w)) :
    Calls Tryd.prog 10 #[.string (bs l)] w fun e w' => e = .returned (.tuple #[prV (parS l).1, .int .i64 (parS l).2]) ∧ Below w.heap.size w w' := by
  have HT1 := hid (HT.out.later (w' := w.alloc (.cells #[.int .u64 0, .int .u64 0, .int .u64 0, .int .i64 0] 27)) ((Below.refl _ _).alloc (Nat.le_refl _) _))
  cases hok : (decide (55 ≤ l.length) && cutOk l)
  · have HP := hid (show parS l = (noP7, 3) by
      rw [parS, if_neg]
      unfold formS
      rw [← Bool.and_assoc, hok]; simp)
    have HK := hid hok
    clear hok
    go_enter Tryd.func10, Tryd.ntmps10
    go_wp2_with fail
    refine (parcut_any l _ hs HT1).mono ?_
    rintro e w1 ⟨⟨c0, c1, c2, c3, c4, r, rfl, hc⟩, hb1⟩
    rw [HK.out]
    clear hc
    obtain ⟨k0, k1, k2, k3, kf, ksz, hbw⟩ := four_keep hb1
    clear hb1
    go_wp2_with fail
    (try simp only [Exit.inBlock, Exit.then])
    refine bodyPost_ret (by simp [results, Tryd.results10, go_sem, ksz, k0, k1, k2, k3, kf]; try rfl) rfl ?_
    exact ⟨by rw [HP.out]; rfl, by go_grown⟩
  have hl : 55 ≤ l.length := by
    rw [Bool.and_eq_true, decide_eq_true_eq] at hok; exact hok.1
  have hF : formS l = endS (pc l 0 2).1 (l.drop 55) := by
    unfold formS
    rw [← Bool.and_assoc, hok]; rfl
  have hf4 := (numP_lt l hl).2.2.2
  have HK := hid hok
  have hps : parS l = if formS l = true then (if pzero (numP l) = true then (noP7, 11) else (numP l, 0)) else (noP7, 3) := rfl
  have hnum : numP l = ((pc l 3 16).1, (pc l 19 16).1, (pc l 36 16).1, (pc l 53 2).1) := rfl
  clear hok
  cases hen : endS (pc l 0 2).1 (l.drop 55)
  · have HP := hid (show parS l = (noP7, 3) by rw [hps, hF, hen]; rfl)
    have hen2 := hid hen
    clear hen hF hps hnum
    go_enter Tryd.func10, Tryd.ntmps10
    go_wp2_with fail
    refine (parcut_any l _ hs HT1).mono ?_
    rintro e w1 ⟨⟨c0, c1, c2, c3, c4, r, rfl, hc⟩, hb1⟩
    obtain ⟨e0, e1, e2, e3, e4, er⟩ := hc HK.out
    rw [HK.out]
    clear hc
    have hE := hid (show endS c0 r = false by rw [e0, er]; exact hen2.out)
    clear e0 e1 e2 e3 e4 er
    obtain ⟨k0, k1, k2, k3, kf, ksz, hbw⟩ := four_keep hb1
    clear hb1
    go_wp2_with fail
    refine (mayend_any c0 r _).mono ?_
    rintro e w2 ⟨rfl, rfl⟩
    rw [hE.out]
    go_wp2_with fail
    (try simp only [Exit.inBlock, Exit.then])
    refine bodyPost_ret (by simp [results, Tryd.results10, go_sem, ksz, k0, k1, k2, k3, kf]; try rfl) rfl ?_
    exact ⟨by rw [HP.out]; rfl, by go_grown⟩
  have hen2 := hid hen
  have HP := hid (show parS l = if pzero (numP l) = true then (noP7, 11) else (numP l, 0) by rw [hps, hF, hen]; rfl)
  have HN := hid hnum
  clear hen hF hps hnum
  cases hz : pzero (numP l)
  all_goals
    have HZ := hid hz
    clear hz
    go_enter Tryd.func10, Tryd.ntmps10
    go_wp2_with fail
    refine (parcut_any l _ hs HT1).mono ?_
    rintro e w1 ⟨⟨c0, c1, c2, c3, c4, r, rfl, hc⟩, hb1⟩
    obtain ⟨e0, e1, e2, e3, e4, er⟩ := hc HK.out
    rw [HK.out]
    clear hc
    have hE := hid (show endS c0 r = true by rw [e0, er]; exact hen2.out)
    have HN2 := hid (show numP l = (c1, c2, c3, c4) by rw [HN.out, e1, e2, e3, e4])
    have h4 : c4 < 256 := by rw [e4]; exact hf4
    clear e0 e1 e2 e3 e4 er
    obtain ⟨k0, k1, k2, k3, kf, ksz, hbw⟩ := four_keep hb1
    clear hb1
    have HZ2 := HZ.out
    rw [HN2.out] at HZ2
    have HZ3 := hid (show pzero (c1, c2, c3, 0) = _ from HZ2)
    clear HZ2
    go_wp2_with fail
    refine (mayend_any c0 r _).mono ?_
    rintro e w2 ⟨rfl, rfl⟩
    rw [hE.out]
    go_wp2_with fail
    refine (parzero_at c1 c2 c3 _ _ HZ3).mono ?_
    rintro e w2 ⟨rfl, hb2⟩
    obtain ⟨q0, q1, q2, q3, qf, r0, r1, r2, r3, qsz, qbw⟩ := keep84 hb2 k0 k1 k2 k3 kf
    clear hb2 k0 k1 k2 k3 kf
    go_wp2_with fail
    (try simp only [Exit.inBlock, Exit.then])
    refine bodyPost_ret (by simp [results, Tryd.results10, go_sem, qsz, q0, q1, q2, q3, qf]; try rfl) rfl ?_
    have hfin : Below w.heap.size w w2 := hbw.trans (qbw.mono (Nat.le_of_lt ksz))
    exact ⟨by rw [HP.out, HZ.out, HN2.out]; rfl, by go_grown⟩
end Go.Proofs.YtddmmpjamnjilaaDoor
