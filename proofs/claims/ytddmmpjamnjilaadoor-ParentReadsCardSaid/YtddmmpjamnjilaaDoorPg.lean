import Derived.Test.YtddmmpjamnjilaaDoorPf
namespace Go.Proofs.YtddmmpjamnjilaaDoor
set_option linter.unusedVariables false
set_option linter.unusedSimpArgs false
open Go.RowKit Go.Joins

theorem rhex_at (n : Nat) (wd : Int) (w : World) (hn : Hid (n < 18446744073709551616)) {t : List UInt8} {c : Int} (H : Hid (hexS n wd = (t, c))) :
    Calls Tryd.prog 40 #[.int .u64 n, .int .i64 wd] w fun e w' => e = .returned (.tuple #[.string (bs t), .int .i64 c]) ∧ Below w.heap.size w w' :=
  (rhex_any n wd w (by omega) (hid (by rw [Int.toNat_natCast]; exact hn.out))).mono fun e w' ⟨x, y⟩ => ⟨by rw [Int.toNat_natCast, H.out] at x; exact x, y⟩
theorem four_keep2 {w w1 : World} {g : Nat} {x0 x1 x2 x3 : Value} (hb : Below w.heap.size w w1) (k0 : w.cell? ⟨g, 0, none⟩ = some x0) (k1 : w.cell? ⟨g, 1, none⟩ = some x1) (k2 : w.cell? ⟨g, 2, none⟩ = some x2) (k3 : w.cell? ⟨g, 3, none⟩ = some x3) :
    w1.cell? ⟨g, 0, none⟩ = some x0 ∧ w1.cell? ⟨g, 1, none⟩ = some x1 ∧ w1.cell? ⟨g, 2, none⟩ = some x2 ∧ w1.cell? ⟨g, 3, none⟩ = some x3 := by
  have hg : g < w.heap.size := lt_of_cell k0
  exact ⟨(hb.cell (p := ⟨g, 0, none⟩) hg).trans k0, (hb.cell (p := ⟨g, 1, none⟩) hg).trans k1, (hb.cell (p := ⟨g, 2, none⟩) hg).trans k2, (hb.cell (p := ⟨g, 3, none⟩) hg).trans k3⟩
theorem keep_tr {w1 w' : World} {g : Nat} {x y z : Value} (h0 : w1.cell? ⟨g, 0, none⟩ = some x) (h1 : w1.cell? ⟨g, 1, none⟩ = some y) (h2 : w1.cell? ⟨g, 2, none⟩ = some z) (hb : Below w1.heap.size w1 w') :
    w'.cell? ⟨g, 0, none⟩ = some x ∧ w'.cell? ⟨g, 1, none⟩ = some y ∧ w'.cell? ⟨g, 2, none⟩ = some z ∧ Below w1.heap.size w1 w' :=
  ⟨(hb.cell (p := ⟨g, 0, none⟩) (lt_of_cell h0)).trans h0, (hb.cell (p := ⟨g, 1, none⟩) (lt_of_cell h1)).trans h1, (hb.cell (p := ⟨g, 2, none⟩) (lt_of_cell h2)).trans h2, hb⟩
theorem rzero_at (a b : Nat) (w : World) {z : Bool} (H : Hid (decide (a = 0 ∧ b = 0) = z)) :
    Calls Tryd.prog 39 #[.agg #[.int .u64 a, .int .u64 b]] w fun e w' => e = .returned (.bool z) ∧ Below w.heap.size w w' :=
  (rzero_any a b w).mono fun e w' ⟨x, y⟩ => ⟨by rw [H.out] at x; exact x, y⟩
set_option maxRecDepth 100000 in
set_option maxHeartbeats 1000000 in
theorem rparwrite_any (a b s : Nat) (f : Int) (w : World) (ha : Hid (a < 18446744073709551616)) (hb : Hid (b < 18446744073709551616)) (hs : Hid (s < 18446744073709551616)) (hf : Hid (-9223372036854775808 ≤ f ∧ f ≤ 9223372036854775807)) :
    Calls Tryd.prog 13 #[.agg #[.int .u64 a, .int .u64 b, .int .u64 s, .int .i64 f]] w fun e w' => e = .returned (.tuple #[.string (bs (wrS a b s f).1), .int .i64 (wrS a b s f).2]) ∧ Below w.heap.size w w' := by
  have q2 := beq0 s
  cases hab : decide (a = 0 ∧ b = 0)
  rotate_left
  · have HW := hid (show wrS a b s f = ([], 11) by rw [wrS, if_pos (by simp only [pzero, hab]; rfl)])
    have HZ := hid hab
    clear hab
    go_enter Tryd.func13, Tryd.ntmps13
    go_wp2_with fail
    refine (rzero_at a b _ HZ).mono ?_
    rintro e w1 ⟨rfl, hb1⟩
    obtain ⟨k0, k1, k2, k3, kf, ksz, hbw⟩ := four_keep hb1
    clear hb1
    go_wp2_with fail
    go_returns
    exact ⟨by rw [HW.out]; rfl, hbw⟩
  cases hs0 : decide (s = 0)
  rotate_left
  · have HW := hid (show wrS a b s f = ([], 11) by rw [wrS, if_pos (by simp only [pzero, hab, hs0]; rfl)])
    have HZ := hid hab
    rw [hs0] at q2
    clear hab hs0
    go_enter Tryd.func13, Tryd.ntmps13
    go_wp2_with fail
    refine (rzero_at a b _ HZ).mono ?_
    rintro e w1 ⟨rfl, hb1⟩
    obtain ⟨k0, k1, k2, k3, kf, ksz, hbw⟩ := four_keep hb1
    clear hb1
    go_wp2_with fail
    go_returns
    exact ⟨by rw [HW.out]; rfl, hbw⟩
  have HW := hid (show wrS a b s f = if f < 0 ∨ 255 < f then ([], 12) else (parT (a, b, s, f.toNat), 0) by rw [wrS, if_neg (by simp only [pzero, hab, hs0]; decide)])
  have HZ := hid hab
  rw [hs0] at q2
  clear hab hs0
  by_cases hneg : f < 0
  · go_enter Tryd.func13, Tryd.ntmps13
    go_wp2_with fail
    refine (rzero_at a b _ HZ).mono ?_
    rintro e w1 ⟨rfl, hb1⟩
    obtain ⟨k0, k1, k2, k3, kf, ksz, hbw⟩ := four_keep hb1
    clear hb1
    go_wp2_with fail
    go_returns
    exact ⟨by rw [HW.out, if_pos (Or.inl hneg)]; rfl, hbw⟩
  by_cases hbig : f > 255
  · go_enter Tryd.func13, Tryd.ntmps13
    go_wp2_with fail
    refine (rzero_at a b _ HZ).mono ?_
    rintro e w1 ⟨rfl, hb1⟩
    obtain ⟨k0, k1, k2, k3, kf, ksz, hbw⟩ := four_keep hb1
    clear hb1
    go_wp2_with fail
    go_returns
    exact ⟨by rw [HW.out, if_pos (Or.inr hbig)]; rfl, hbw⟩
  obtain ⟨v, rfl⟩ := Int.eq_ofNat_of_zero_le (show 0 ≤ f by omega)
  have hv255 : v ≤ 255 := by omega
  have HV := hid (show hexS v 2 = (hx 2 v, 0) by rw [hexS, putX_ok (by omega) (by omega) (Nat.div_eq_of_lt (by show v < 16 ^ 2; omega))]; rfl)
  have HV64 := hid (show v < 18446744073709551616 by omega)
  have HW2 := hid (show wrS a b s (v : Int) = ([48, 48, 45] ++ hx 16 a ++ hx 16 b ++ [45] ++ hx 16 s ++ [45] ++ hx 2 v, 0) by rw [HW.out, if_neg (by omega)]; rfl)
  obtain ⟨ti, hti⟩ : ∃ ti, idText a b = ti := ⟨_, rfl⟩
  obtain ⟨ts, hts⟩ : ∃ ts, hx 16 s = ts := ⟨_, rfl⟩
  obtain ⟨tv, htv⟩ : ∃ tv, hx 2 v = tv := ⟨_, rfl⟩
  obtain ⟨l3, hl3⟩ : ∃ l3 : List UInt8, l3 = [48, 48, 45] := ⟨_, rfl⟩
  obtain ⟨l1, hl1⟩ : ∃ l1 : List UInt8, l1 = [45] := ⟨_, rfl⟩
  have c3 : (ByteArray.mk #[48, 48, 45]) = bs l3 := by rw [hl3]; rfl
  have c1 : (ByteArray.mk #[45]) = bs l1 := by rw [hl1]; rfl
  have n1 : ti.length ≤ 32 := by rw [← hti, idText, List.length_append, hx_length, hx_length]; omega
  have n2 : ts.length ≤ 16 := by rw [← hts, hx_length]; omega
  have n3 : tv.length ≤ 2 := by rw [← htv, hx_length]; omega
  have n4 : l3.length ≤ 3 := by rw [hl3]; simp
  have n5 : l1.length ≤ 1 := by rw [hl1]; simp
  have HW3 := hid (show wrS a b s (v : Int) = (l3 ++ (ti ++ (l1 ++ (ts ++ (l1 ++ tv)))), 0) by rw [HW2.out, ← hti, ← hts, ← htv, hl3, hl1, idText]; simp)
  have hT := fun w => ridtext_any a b w ha hb
  rw [hti] at hT
  have HTi := hid hT
  have hS := fun w => rspan_any s w hs
  rw [hts] at hS
  have HSs := hid hS
  have HV2 := HV.out
  rw [htv] at HV2
  have HV3 := hid HV2
  clear hT hS HV2 hti hts htv hl3 hl1
  go_enter Tryd.func13, Tryd.ntmps13
  go_wp2_with fail
  refine (rzero_at a b _ HZ).mono ?_
  rintro e w1 ⟨rfl, hb1⟩
  obtain ⟨k0, k1, k2, k3, kf, ksz, hbw⟩ := four_keep hb1
  clear hb1
  go_wp2_with fail
  refine (rhex_at v 2 _ HV64 HV3).mono ?_
  rintro e w2 ⟨rfl, hb2⟩
  obtain ⟨q0, q1, q2, q3⟩ := four_keep2 hb2 k0 k1 k2 k3
  clear k0 k1 k2 k3 kf
  go_wp2_with fail
  have hz : Below w2.heap.size w2 w2.drew := (Below.refl _ _).drew
  have s1 : ¬ 9223372036854775807 < l3.length + ti.length := by omega
  have s2 : ¬ 9223372036854775807 < l3.length + ti.length + l1.length := by omega
  have s3 : ¬ 9223372036854775807 < l3.length + (ti.length + l1.length) + ts.length := by omega
  have s4 : ¬ 9223372036854775807 < l3.length + (ti.length + (l1.length + ts.length)) + l1.length := by omega
  have s5 : ¬ 9223372036854775807 < l3.length + (ti.length + (l1.length + (ts.length + l1.length))) + tv.length := by omega
  go_region_held3 (fun w' => w'.cell? ⟨w.heap.size, 0, none⟩ = some (.int .u64 (a : Int)) ∧ w'.cell? ⟨w.heap.size, 1, none⟩ = some (.int .u64 (b : Int)) ∧ w'.cell? ⟨w.heap.size, 2, none⟩ = some (.int .u64 (s : Int)) ∧ Below w2.heap.size w2 w') (first | exact keep_tr q0 q1 q2 hz | exact keep_tr q0 q1 q2 (hz.trans (Below.mono (by assumption) hz.size))) (first
    | (go_at_call 41
       ((with_reducible refine (HTi.out _).mono ?_); rintro e w3 ⟨rfl, hy⟩)
       have hz := hz.trans (hy.mono hz.size))
    | (go_at_call 42
       ((with_reducible refine (HSs.out _).mono ?_); rintro e w3 ⟨rfl, hy⟩)
       have hz := hz.trans (hy.mono hz.size)))
  all_goals
    go_wp2_with fail
    go_returns
    exact ⟨by rw [HW3.out]; rfl, below_step2 (below_step2 hbw hb2) hz⟩
end Go.Proofs.YtddmmpjamnjilaaDoor
