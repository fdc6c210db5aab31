import Derived.Test.YtddmmpjamnjilaaDoorPa
namespace Go.Proofs.YtddmmpjamnjilaaDoor
set_option linter.unusedVariables false
set_option linter.unusedSimpArgs false
open Go.RowKit

def prV (p : Pr) : Value := .agg #[.int .u64 p.1, .int .u64 p.2.1, .int .u64 p.2.2.1, .int .i64 p.2.2.2]
theorem rformed_at (l : List UInt8) (w : World) (hs : l.length ≤ 140737488351232) {b : Bool} (H : Hid (formS l = b)) :
    Calls Tryd.prog 34 #[.string (bs l)] w fun e w' => e = .returned (.bool b) ∧ w = w' :=
  (rformed_any l w hs).mono fun e w' ⟨a, c⟩ => ⟨by rw [H.out] at a; exact a, c⟩
theorem rof_at (l : List UInt8) (w : World) (h : l.length ≤ 140737488351232) {a b : Nat} {c : Int} (H : Hid (ofS l = (a, b, c))) :
    Calls Tryd.prog 35 #[.string (bs l)] w fun e w' => e = .returned (.tuple #[.agg #[.int .u64 a, .int .u64 b], .int .i64 c]) ∧ Below w.heap.size w w' :=
  (rof_any l w h).mono fun e w' ⟨x, y⟩ => ⟨by rw [H.out] at x; exact x, y⟩
theorem rspanof_at (l : List UInt8) (w : World) (h : l.length ≤ 140737488351232) {a : Nat} {c : Int} (H : Hid (spanOfS l = (a, c))) :
    Calls Tryd.prog 36 #[.string (bs l)] w fun e w' => e = .returned (.tuple #[.int .u64 a, .int .i64 c]) ∧ w = w' :=
  (rspanof_any l w h).mono fun e w' ⟨x, y⟩ => ⟨by rw [H.out] at x; exact x, y⟩
/-- A block of four cells, kept. -/
theorem four_keep {w w1 : World} {x0 x1 x2 x3 : Value} {t : TypeId} (hb : Below (w.alloc (.cells #[x0, x1, x2, x3] t)).heap.size (w.alloc (.cells #[x0, x1, x2, x3] t)) w1) :
    w1.cell? ⟨w.heap.size, 0, none⟩ = some x0 ∧ w1.cell? ⟨w.heap.size, 1, none⟩ = some x1 ∧ w1.cell? ⟨w.heap.size, 2, none⟩ = some x2 ∧ w1.cell? ⟨w.heap.size, 3, none⟩ = some x3 ∧ (∀ i, w1.frozen? ⟨w.heap.size, i, none⟩ = false) ∧ w.heap.size < w1.heap.size ∧ Below w.heap.size w w1 := by
  have hlt : w.heap.size < (w.alloc (.cells #[x0, x1, x2, x3] t)).heap.size := by simp
  refine ⟨(hb.cell (p := ⟨w.heap.size, 0, none⟩) hlt).trans (by simp), (hb.cell (p := ⟨w.heap.size, 1, none⟩) hlt).trans (by simp), (hb.cell (p := ⟨w.heap.size, 2, none⟩) hlt).trans (by simp), (hb.cell (p := ⟨w.heap.size, 3, none⟩) hlt).trans (by simp), fun i => (hb.frozen (p := ⟨w.heap.size, i, none⟩) hlt).trans (by simp), Nat.lt_of_lt_of_le hlt hb.size, ?_⟩
  exact ((Below.refl _ _).alloc (Nat.le_refl _) _).trans (hb.mono (Nat.le_of_lt hlt))
set_option maxRecDepth 100000 in
set_option maxHeartbeats 1600000 in
theorem rparread_any (l : List UInt8) (w : World) (hs : l.length ≤ 140737488351232) :
    Calls Tryd.prog 11 #[.string (bs l)] w fun e w' => e = .returned (.tuple #[prV (parS l).1, .int .i64 (parS l).2]) ∧ Below w.heap.size w w' := by
  cases hf : formS l
  · have HP := hid (show parS l = (noP7, 3) by rw [parS, if_neg (by rw [hf]; decide)])
    have HF := hid hf
    clear hf
    go_enter Tryd.func11, Tryd.ntmps11
    go_wp2_with fail
    refine (rformed_at _ _ hs HF).mono ?_
    rintro e w1 ⟨rfl, rfl⟩
    go_wp2_with fail
    go_returns
    exact ⟨by rw [HP.out]; rfl, by go_grown⟩
  have hl := ((formS_iff l).1 hf).1
  have h1 := ofS_form hf
  have h2 := spanOfS_form hf
  have H3 := hid (flags_form hf)
  have hlt := (numP_lt l hl).2.2.2
  have HP := hid (show parS l = if pzero (numP l) = true then (noP7, 11) else (numP l, 0) by rw [parS, if_pos hf])
  have x3 : (bs l).extract 3 35 = bs ((l.drop 3).take 32) := by rw [bs_extract]
  have x36 : (bs l).extract 36 52 = bs ((l.drop 36).take 16) := by rw [bs_extract]
  have x53 : (bs l).extract 53 55 = bs ((l.drop 53).take 2) := by rw [bs_extract]
  have y3 : ((l.drop 3).take 32).length ≤ 140737488351232 := by rw [List.length_take]; omega
  have y36 : ((l.drop 36).take 16).length ≤ 140737488351232 := by rw [List.length_take]; omega
  have y53 : ((l.drop 53).take 2).length ≤ 140737488351232 := by rw [List.length_take]; omega
  have i53 : (53 : Int) < (l.length : Int) := by omega
  have HF := hid hf
  clear hf
  generalize numP l = q at *
  obtain ⟨a, b, s, f⟩ := q
  simp only at h1 h2 H3 hlt
  by_cases z : a = 0 ∧ b = 0
  · have HQ := hid (show pzero (a, b, s, f) = true by simp [pzero, z])
    rw [if_pos z] at h1
    have H1 := hid h1
    clear z h1
    by_cases z2 : s = 0
    · rw [if_pos z2] at h2
      have H2 := hid h2
      clear z2 h2
      go_enter Tryd.func11, Tryd.ntmps11
      go_wp2_with fail
      refine (rformed_at _ _ hs HF).mono ?_
      rintro e w1 ⟨rfl, rfl⟩
      go_wp2_with fail
      refine (rof_at _ _ y3 H1).mono ?_
      rintro e w1 ⟨rfl, hb1⟩
      obtain ⟨k0, k1, k2, k3, kf, ksz, hbw⟩ := four_keep hb1
      have n1 : ¬ w.heap.size = w1.heap.size := by omega
      have n2 : ¬ w1.heap.size = w.heap.size := by omega
      clear hb1
      go_wp2_with fail
      refine (rspanof_at _ _ y36 H2).mono ?_
      rintro e w2 ⟨rfl, rfl⟩
      go_wp2_with fail
      (try simp only [Exit.inBlock, Exit.then])
      refine bodyPost_ret (by simp [results, Tryd.results11, go_sem, ksz, k0, k1, k2, k3, kf, n1, n2]; try rfl) rfl ?_
      exact ⟨by rw [HP.out, HQ.out]; rfl, by first | go_grown | skip⟩
    · rw [if_neg z2] at h2
      have H2 := hid h2
      clear z2 h2
      go_enter Tryd.func11, Tryd.ntmps11
      go_wp2_with fail
      refine (rformed_at _ _ hs HF).mono ?_
      rintro e w1 ⟨rfl, rfl⟩
      go_wp2_with fail
      refine (rof_at _ _ y3 H1).mono ?_
      rintro e w1 ⟨rfl, hb1⟩
      obtain ⟨k0, k1, k2, k3, kf, ksz, hbw⟩ := four_keep hb1
      have n1 : ¬ w.heap.size = w1.heap.size := by omega
      have n2 : ¬ w1.heap.size = w.heap.size := by omega
      clear hb1
      go_wp2_with fail
      refine (rspanof_at _ _ y36 H2).mono ?_
      rintro e w2 ⟨rfl, rfl⟩
      go_wp2_with fail
      (try simp only [Exit.inBlock, Exit.then])
      refine bodyPost_ret (by simp [results, Tryd.results11, go_sem, ksz, k0, k1, k2, k3, kf, n1, n2]; try rfl) rfl ?_
      exact ⟨by rw [HP.out, HQ.out]; rfl, by go_grown⟩
  · rw [if_neg z] at h1
    have H1 := hid h1
    by_cases z2 : s = 0
    · have HQ := hid (show pzero (a, b, s, f) = true by simp [pzero, z2])
      rw [if_pos z2] at h2
      have H2 := hid h2
      clear z z2 h2 h1
      go_enter Tryd.func11, Tryd.ntmps11
      go_wp2_with fail
      refine (rformed_at _ _ hs HF).mono ?_
      rintro e w1 ⟨rfl, rfl⟩
      go_wp2_with fail
      refine (rof_at _ _ y3 H1).mono ?_
      rintro e w1 ⟨rfl, hb1⟩
      obtain ⟨k0, k1, k2, k3, kf, ksz, hbw⟩ := four_keep hb1
      have n1 : ¬ w.heap.size = w1.heap.size := by omega
      have n2 : ¬ w1.heap.size = w.heap.size := by omega
      clear hb1
      go_wp2_with fail
      refine (rspanof_at _ _ y36 H2).mono ?_
      rintro e w2 ⟨rfl, rfl⟩
      go_wp2_with fail
      (try simp only [Exit.inBlock, Exit.then])
      refine bodyPost_ret (by simp [results, Tryd.results11, go_sem, ksz, k0, k1, k2, k3, kf, n1, n2]; try rfl) rfl ?_
      exact ⟨by rw [HP.out, HQ.out]; rfl, by go_grown⟩
    · have HQ := hid (show pzero (a, b, s, f) = false by simp only [pzero, decide_eq_false z, decide_eq_false z2]; rfl)
      rw [if_neg z2] at h2
      have H2 := hid h2
      clear z z2 h2 h1
      go_enter Tryd.func11, Tryd.ntmps11
      go_wp2_with fail
      refine (rformed_at _ _ hs HF).mono ?_
      rintro e w1 ⟨rfl, rfl⟩
      go_wp2_with fail
      refine (rof_at _ _ y3 H1).mono ?_
      rintro e w1 ⟨rfl, hb1⟩
      obtain ⟨k0, k1, k2, k3, kf, ksz, hbw⟩ := four_keep hb1
      have n1 : ¬ w.heap.size = w1.heap.size := by omega
      have n2 : ¬ w1.heap.size = w.heap.size := by omega
      clear hb1
      go_wp2_with fail
      refine (rspanof_at _ _ y36 H2).mono ?_
      rintro e w2 ⟨rfl, rfl⟩
      go_wp2_with fail
      refine (runhex_at _ _ y53 H3).mono ?_
      rintro e w2 ⟨rfl, rfl⟩
      go_wp2_with fail
      (try simp only [Exit.inBlock, Exit.then])
      refine bodyPost_ret (by simp [results, Tryd.results11, go_sem, ksz, k0, k1, k2, k3, kf, n1, n2]; try rfl) rfl ?_
      exact ⟨by rw [HP.out, HQ.out]; rfl, by go_grown⟩
end Go.Proofs.YtddmmpjamnjilaaDoor
