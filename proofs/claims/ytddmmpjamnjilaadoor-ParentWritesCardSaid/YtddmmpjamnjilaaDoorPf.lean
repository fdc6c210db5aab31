import Derived.Test.YtddmmpjamnjilaaDoorPe
import Derived.Deep.RegionHeld3
namespace Go.Proofs.YtddmmpjamnjilaaDoor
set_option linter.unusedVariables false
set_option linter.unusedSimpArgs false
open Go.RowKit Go.Joins

theorem ohex_at (n : Nat) (wd : Int) (w : World) {t : List UInt8} {c : Int} (H : Hid (hexS n wd = (t, c))) :
    Calls Tryd.prog 38 #[.int .u64 n, .int .i64 wd] w fun e w' => e = .returned (.tuple #[.string (bs t), .int .i64 c]) ∧ Below w.heap.size w w' :=
  (ohex_any n wd w (by omega)).mono fun e w' ⟨x, y⟩ => ⟨by rw [Int.toNat_natCast, H.out] at x; exact x, y⟩
theorem ohex_zero (w : World) :
    Calls Tryd.prog 38 #[.int .u64 0, .int .i64 2] w fun e w' => e = .returned (.tuple #[.string (bs [48, 48]), .int .i64 0]) ∧ Below w.heap.size w w' :=
  (ohex_any 0 2 w (by omega)).mono fun e w' ⟨x, y⟩ => ⟨by rw [show hexS (Int.toNat 0) 2 = ([48, 48], 0) from by decide] at x; exact x, y⟩
theorem keep_three {w1 w' : World} {g h : Nat} {x y z : Value} {i : Nat} (h0 : w1.cell? ⟨g, i, none⟩ = some x) (h1 : w1.cell? ⟨h, 0, none⟩ = some y) (h2 : w1.cell? ⟨h, 1, none⟩ = some z) (hb : Below w1.heap.size w1 w') :
    w'.cell? ⟨g, i, none⟩ = some x ∧ w'.cell? ⟨h, 0, none⟩ = some y ∧ w'.cell? ⟨h, 1, none⟩ = some z ∧ Below w1.heap.size w1 w' :=
  ⟨(hb.cell (p := ⟨g, i, none⟩) (lt_of_cell h0)).trans h0, (hb.cell (p := ⟨h, 0, none⟩) (lt_of_cell h1)).trans h1, (hb.cell (p := ⟨h, 1, none⟩) (lt_of_cell h2)).trans h2, hb⟩
/-- The text of the first k pieces. -/
def wrT (a b s : Nat) (dv : List UInt8) (k : Int) : List UInt8 :=
  if k = 0 then [] else if k = 1 then [48, 48, 45] else if k = 2 then [48, 48, 45] ++ hx 16 a else if k = 3 then [48, 48, 45] ++ hx 16 a ++ hx 16 b ++ [45] else if k = 4 then [48, 48, 45] ++ hx 16 a ++ hx 16 b ++ [45] ++ hx 16 s ++ [45] else [48, 48, 45] ++ hx 16 a ++ hx 16 b ++ [45] ++ hx 16 s ++ [45] ++ dv
theorem flag_num (f : Int) (h1 : -9223372036854775808 ≤ f) (h2 : f ≤ 9223372036854775807) : ∃ v : Nat, IntKind.u64.wrap f = (v : Int) ∧ v < 18446744073709551616 ∧ ((0 ≤ f ∧ f ≤ 255) → v = f.toNat ∧ hexS v 2 = (hx 2 f.toNat, 0)) ∧ (¬ (0 ≤ f ∧ f ≤ 255) → hexS v 2 = ([], 12)) := by
  have hw : IntKind.u64.wrap f = if 0 ≤ f then f else f + 18446744073709551616 := by
    rw [IntKind.wrap_u64]; split <;> omega
  rw [hw]
  split
  · rename_i h0
    refine ⟨f.toNat, by omega, by omega, fun h => ⟨rfl, ?_⟩, fun h => ?_⟩
    · rw [hexS, putX_ok (by omega) (by omega) (Nat.div_eq_of_lt (by show f.toNat < 16 ^ 2; omega))]; rfl
    · rw [hexS, putX_range (by omega) (by omega)]
      intro e
      have := Nat.div_eq_zero_iff.1 e
      have h16 : (16 : Nat) ^ (2 : Int).toNat = 256 := rfl
      omega
  · rename_i h0
    refine ⟨(f + 18446744073709551616).toNat, by omega, by omega, fun h => absurd h.1 h0, fun h => ?_⟩
    rw [hexS, putX_range (by omega) (by omega)]
    intro e
    have := Nat.div_eq_zero_iff.1 e
    have h16 : (16 : Nat) ^ (2 : Int).toNat = 256 := rfl
    omega
set_option maxRecDepth 100000 in
set_option maxHeartbeats 4000000 in
theorem parwrite_any (a b s : Nat) (f : Int) (w : World) (ha : Hid (a < 18446744073709551616)) (hb : Hid (b < 18446744073709551616)) (hs : Hid (s < 18446744073709551616)) (hf : Hid (-9223372036854775808 ≤ f ∧ f ≤ 9223372036854775807)) (HT : Hid (Pce w)) :
    Calls Tryd.prog 12 #[.agg #[.int .u64 a, .int .u64 b, .int .u64 s, .int .i64 f]] w fun e w' => e = .returned (.tuple #[.string (bs (wrS a b s f).1), .int .i64 (wrS a b s f).2]) ∧ Below w.heap.size w w' := by
  cases hz : pzero (a, b, s, 0)
  rotate_left
  · have HW := hid (show wrS a b s f = ([], 11) by rw [wrS, if_pos hz])
    have HZ := hid hz
    clear hz
    go_enter Tryd.func12, Tryd.ntmps12
    go_wp2_with fail
    refine (parzero_at a b s f _ HZ).mono ?_
    rintro e w1 ⟨rfl, hb1⟩
    obtain ⟨k0, k1, k2, k3, kf, ksz, hbw⟩ := four_keep hb1
    clear hb1
    go_wp2_with fail
    go_returns
    exact ⟨by rw [HW.out]; rfl, hbw⟩
  have HW := hid (show wrS a b s f = if f < 0 ∨ 255 < f then ([], 12) else (parT (a, b, s, f.toNat), 0) by rw [wrS, if_neg (by rw [hz]; decide)])
  have HZ := hid hz
  clear hz
  obtain ⟨v, hv, hv64, hv1, hv2⟩ := flag_num f hf.out.1 hf.out.2
  have HVV := hid (And.intro hv1 hv2)
  have HV64 := hid hv64
  clear hv1 hv2 hv64
  obtain ⟨dv, cv, hdc⟩ : ∃ dv cv, hexS v 2 = (dv, cv) := ⟨_, _, rfl⟩
  have HV := hid hdc
  have hdl : dv.length ≤ 2 := by
    by_cases h : 0 ≤ f ∧ f ≤ 255
    · have := (HVV.out.1 h).2; rw [hdc, Prod.mk.injEq] at this; rw [this.1, hx_length]; omega
    · have := HVV.out.2 h; rw [hdc, Prod.mk.injEq] at this; rw [this.1]; simp
  clear hdc
  have HAa := hid (hexS16 ha.out)
  have HBb := hid (hexS16 hb.out)
  have HSs := hid (hexS16 hs.out)
  have hla : (hx 16 a).length ≤ 16 := by rw [hx_length]; omega
  have hlb : (hx 16 b).length ≤ 16 := by rw [hx_length]; omega
  have hls : (hx 16 s).length ≤ 16 := by rw [hx_length]; omega
  have HT0 := hid (HT.out.later (w' := w.alloc (.cells #[.int .u64 (a : Int), .int .u64 (b : Int), .int .u64 (s : Int), .int .i64 f] 27)) ((Below.refl _ _).alloc (Nat.le_refl _) _))
  go_enter Tryd.func12, Tryd.ntmps12
  go_wp2_with fail
  refine (parzero_at a b s f _ HZ).mono ?_
  rintro e w1 ⟨rfl, hb1⟩
  have HT1 := hid (HT0.out.later hb1)
  obtain ⟨k0, k1, k2, k3, kf, ksz, hbw⟩ := four_keep hb1
  clear hb1
  have t0 : w1.cell? ⟨0, 0, none⟩ = some (.int .i64 2) := HT1.out.cell 0
  have t1 : w1.cell? ⟨0, 1, none⟩ = some (.string (bs [45])) := HT1.out.cell 1
  have t2 : w1.cell? ⟨0, 2, none⟩ = some (.int .i64 16) := HT1.out.cell 2
  have t3 : w1.cell? ⟨0, 3, none⟩ = some (.string (bs [])) := HT1.out.cell 3
  have t4 : w1.cell? ⟨0, 4, none⟩ = some (.int .i64 16) := HT1.out.cell 4
  have t5 : w1.cell? ⟨0, 5, none⟩ = some (.string (bs [45])) := HT1.out.cell 5
  have t6 : w1.cell? ⟨0, 6, none⟩ = some (.int .i64 16) := HT1.out.cell 6
  have t7 : w1.cell? ⟨0, 7, none⟩ = some (.string (bs [45])) := HT1.out.cell 7
  have t8 : w1.cell? ⟨0, 8, none⟩ = some (.int .i64 2) := HT1.out.cell 8
  have t9 : w1.cell? ⟨0, 9, none⟩ = some (.string (bs [])) := HT1.out.cell 9
  have hg0 := lt_of_cell t0
  go_wp2_with fail
  clear t0 t1 t2 t3 t4 t5 t6 t7 t8 t9 hg0
  clear k0 k1 k2 k3 kf
  go_loopw [5, 25] (fun t0 i wr => ∃ k : Int, ∃ t : List UInt8, (k = 0 ∨ k = 1 ∨ k = 2 ∨ k = 3 ∨ k = 4 ∨ k = 5) ∧ i = .int .i64 k ∧ t0 = .string (bs t) ∧ t.length ≤ 60 ∧ Hid (t = wrT a b s dv k ∧ (k = 5 → cv = 0) ∧ Below w.heap.size w wr) ∧ C5 wr w1.heap.size (.int .u64 0) (.int .u64 a) (.int .u64 b) (.int .u64 s) (.int .u64 v)) (fun _ i _ => (5 - intOf i).toNat)
  case atStart => exact ⟨0, [], by omega, rfl, rfl, by simp, hid ⟨rfl, fun h => absurd h (by omega), by go_grown⟩, C5.new _ _ _ _ _ _ _⟩
  case round =>
    obtain ⟨k, t, hk, rfl, rfl, ht60, HU, hc⟩ := hrel
    have HC := hid hc
    obtain ⟨k0, k1, k2, k3, k4, f0, f1, f2, f3, f4⟩ := hc
    have hg1 : w1.heap.size < wr.heap.size := lt_of_cell k0
    rcases hk with rfl | rfl | rfl | rfl | rfl | rfl
    · have hix := idx7_0
      have hal := (Below.refl wr.heap.size wr).alloc (Nat.le_refl _) (.cells #[.int .i64 2, .string (bs [45])] 59)
      have d0 : (wr.alloc (.cells #[.int .i64 2, .string (bs [45])] 59)).cell? ⟨wr.heap.size, 0, none⟩ = some (.int .i64 2) := by simp
      have d1 : (wr.alloc (.cells #[.int .i64 2, .string (bs [45])] 59)).cell? ⟨wr.heap.size, 1, none⟩ = some (.string (bs [45])) := by simp
      have dk := (hal.cell (p := ⟨w1.heap.size, 0, none⟩) hg1).trans k0
      go_wp2_with fail
      generalize wr.alloc (.cells #[.int .i64 2, .string (bs [45])] 59) = w3 at *
      have hz : Below w3.heap.size w3 w3.drew := (Below.refl _ _).drew
      go_region_held3 (fun w' => w'.cell? ⟨w1.heap.size, 0, none⟩ = some (.int .u64 0) ∧ w'.cell? ⟨wr.heap.size, 0, none⟩ = some (.int .i64 2) ∧ w'.cell? ⟨wr.heap.size, 1, none⟩ = some (.string (bs [45])) ∧ Below w3.heap.size w3 w') (first | exact keep_three dk d0 d1 hz | exact keep_three dk d0 d1 (hz.trans (Below.mono (by assumption) hz.size))) (first
        | (go_at_call 38
           ((with_reducible refine (ohex_zero _).mono ?_); rintro e w4 ⟨rfl, hy⟩)
           have hz := hz.trans (hy.mono hz.size)))
      all_goals
        have hkeep := keep_three dk d0 d1 hz
        obtain ⟨m0, m1, m2, m3⟩ := hkeep
        go_wp2_with fail
        go_roundw
        case rel =>
          refine ⟨1, _, by omega, rfl, rfl, ?_, hid ⟨?_, ?_, ?_⟩, ?_⟩
          · rw [HU.out.1]; simp [wrT, hx_length]
          · rw [HU.out.1]; simp [wrT]
          · exact fun h => absurd h (by omega)
          · exact below_step2 (below_step2 HU.out.2.2 hal) m3
          · exact (HC.out.below hal).below m3
        case measure => simp [intOf]
    · have hix := idx7_1
      have hal := (Below.refl wr.heap.size wr).alloc (Nat.le_refl _) (.cells #[.int .i64 16, .string (bs [])] 59)
      have d0 : (wr.alloc (.cells #[.int .i64 16, .string (bs [])] 59)).cell? ⟨wr.heap.size, 0, none⟩ = some (.int .i64 16) := by simp
      have d1 : (wr.alloc (.cells #[.int .i64 16, .string (bs [])] 59)).cell? ⟨wr.heap.size, 1, none⟩ = some (.string (bs [])) := by simp
      have dk := (hal.cell (p := ⟨w1.heap.size, 1, none⟩) hg1).trans k1
      go_wp2_with fail
      generalize wr.alloc (.cells #[.int .i64 16, .string (bs [])] 59) = w3 at *
      have hz : Below w3.heap.size w3 w3.drew := (Below.refl _ _).drew
      go_region_held3 (fun w' => w'.cell? ⟨w1.heap.size, 1, none⟩ = some (.int .u64 (a : Int)) ∧ w'.cell? ⟨wr.heap.size, 0, none⟩ = some (.int .i64 16) ∧ w'.cell? ⟨wr.heap.size, 1, none⟩ = some (.string (bs [])) ∧ Below w3.heap.size w3 w') (first | exact keep_three dk d0 d1 hz | exact keep_three dk d0 d1 (hz.trans (Below.mono (by assumption) hz.size))) (first
        | (go_at_call 38
           ((with_reducible refine (ohex_at a 16 _ HAa).mono ?_); rintro e w4 ⟨rfl, hy⟩)
           have hz := hz.trans (hy.mono hz.size)))
      all_goals
        have hkeep := keep_three dk d0 d1 hz
        obtain ⟨m0, m1, m2, m3⟩ := hkeep
        go_wp2_with fail
        go_roundw
        case rel =>
          refine ⟨2, _, by omega, rfl, rfl, ?_, hid ⟨?_, ?_, ?_⟩, ?_⟩
          · rw [HU.out.1]; simp [wrT, hx_length]
          · rw [HU.out.1]; simp [wrT]
          · exact fun h => absurd h (by omega)
          · exact below_step2 (below_step2 HU.out.2.2 hal) m3
          · exact (HC.out.below hal).below m3
        case measure => simp [intOf]
    · have hix := idx7_2
      have hal := (Below.refl wr.heap.size wr).alloc (Nat.le_refl _) (.cells #[.int .i64 16, .string (bs [45])] 59)
      have d0 : (wr.alloc (.cells #[.int .i64 16, .string (bs [45])] 59)).cell? ⟨wr.heap.size, 0, none⟩ = some (.int .i64 16) := by simp
      have d1 : (wr.alloc (.cells #[.int .i64 16, .string (bs [45])] 59)).cell? ⟨wr.heap.size, 1, none⟩ = some (.string (bs [45])) := by simp
      have dk := (hal.cell (p := ⟨w1.heap.size, 2, none⟩) hg1).trans k2
      go_wp2_with fail
      generalize wr.alloc (.cells #[.int .i64 16, .string (bs [45])] 59) = w3 at *
      have hz : Below w3.heap.size w3 w3.drew := (Below.refl _ _).drew
      go_region_held3 (fun w' => w'.cell? ⟨w1.heap.size, 2, none⟩ = some (.int .u64 (b : Int)) ∧ w'.cell? ⟨wr.heap.size, 0, none⟩ = some (.int .i64 16) ∧ w'.cell? ⟨wr.heap.size, 1, none⟩ = some (.string (bs [45])) ∧ Below w3.heap.size w3 w') (first | exact keep_three dk d0 d1 hz | exact keep_three dk d0 d1 (hz.trans (Below.mono (by assumption) hz.size))) (first
        | (go_at_call 38
           ((with_reducible refine (ohex_at b 16 _ HBb).mono ?_); rintro e w4 ⟨rfl, hy⟩)
           have hz := hz.trans (hy.mono hz.size)))
      all_goals
        have hkeep := keep_three dk d0 d1 hz
        obtain ⟨m0, m1, m2, m3⟩ := hkeep
        go_wp2_with fail
        go_roundw
        case rel =>
          refine ⟨3, _, by omega, rfl, rfl, ?_, hid ⟨?_, ?_, ?_⟩, ?_⟩
          · rw [HU.out.1]; simp [wrT, hx_length]
          · rw [HU.out.1]; simp [wrT]
          · exact fun h => absurd h (by omega)
          · exact below_step2 (below_step2 HU.out.2.2 hal) m3
          · exact (HC.out.below hal).below m3
        case measure => simp [intOf]
    · have hix := idx7_3
      have hal := (Below.refl wr.heap.size wr).alloc (Nat.le_refl _) (.cells #[.int .i64 16, .string (bs [45])] 59)
      have d0 : (wr.alloc (.cells #[.int .i64 16, .string (bs [45])] 59)).cell? ⟨wr.heap.size, 0, none⟩ = some (.int .i64 16) := by simp
      have d1 : (wr.alloc (.cells #[.int .i64 16, .string (bs [45])] 59)).cell? ⟨wr.heap.size, 1, none⟩ = some (.string (bs [45])) := by simp
      have dk := (hal.cell (p := ⟨w1.heap.size, 3, none⟩) hg1).trans k3
      go_wp2_with fail
      generalize wr.alloc (.cells #[.int .i64 16, .string (bs [45])] 59) = w3 at *
      have hz : Below w3.heap.size w3 w3.drew := (Below.refl _ _).drew
      go_region_held3 (fun w' => w'.cell? ⟨w1.heap.size, 3, none⟩ = some (.int .u64 (s : Int)) ∧ w'.cell? ⟨wr.heap.size, 0, none⟩ = some (.int .i64 16) ∧ w'.cell? ⟨wr.heap.size, 1, none⟩ = some (.string (bs [45])) ∧ Below w3.heap.size w3 w') (first | exact keep_three dk d0 d1 hz | exact keep_three dk d0 d1 (hz.trans (Below.mono (by assumption) hz.size))) (first
        | (go_at_call 38
           ((with_reducible refine (ohex_at s 16 _ HSs).mono ?_); rintro e w4 ⟨rfl, hy⟩)
           have hz := hz.trans (hy.mono hz.size)))
      all_goals
        have hkeep := keep_three dk d0 d1 hz
        obtain ⟨m0, m1, m2, m3⟩ := hkeep
        go_wp2_with fail
        go_roundw
        case rel =>
          refine ⟨4, _, by omega, rfl, rfl, ?_, hid ⟨?_, ?_, ?_⟩, ?_⟩
          · rw [HU.out.1]; simp [wrT, hx_length]
          · rw [HU.out.1]; simp [wrT]
          · exact fun h => absurd h (by omega)
          · exact below_step2 (below_step2 HU.out.2.2 hal) m3
          · exact (HC.out.below hal).below m3
        case measure => simp [intOf]
    · have hix := idx7_4
      have hal := (Below.refl wr.heap.size wr).alloc (Nat.le_refl _) (.cells #[.int .i64 2, .string (bs [])] 59)
      have d0 : (wr.alloc (.cells #[.int .i64 2, .string (bs [])] 59)).cell? ⟨wr.heap.size, 0, none⟩ = some (.int .i64 2) := by simp
      have d1 : (wr.alloc (.cells #[.int .i64 2, .string (bs [])] 59)).cell? ⟨wr.heap.size, 1, none⟩ = some (.string (bs [])) := by simp
      have dk := (hal.cell (p := ⟨w1.heap.size, 4, none⟩) hg1).trans k4
      go_wp2_with fail
      generalize wr.alloc (.cells #[.int .i64 2, .string (bs [])] 59) = w3 at *
      have hz : Below w3.heap.size w3 w3.drew := (Below.refl _ _).drew
      go_region_held3 (fun w' => w'.cell? ⟨w1.heap.size, 4, none⟩ = some (.int .u64 (v : Int)) ∧ w'.cell? ⟨wr.heap.size, 0, none⟩ = some (.int .i64 2) ∧ w'.cell? ⟨wr.heap.size, 1, none⟩ = some (.string (bs [])) ∧ Below w3.heap.size w3 w') (first | exact keep_three dk d0 d1 hz | exact keep_three dk d0 d1 (hz.trans (Below.mono (by assumption) hz.size))) (first
        | (go_at_call 38
           ((with_reducible refine (ohex_at v 2 _ HV).mono ?_); rintro e w4 ⟨rfl, hy⟩)
           have hz := hz.trans (hy.mono hz.size)))
      all_goals
        have hkeep := keep_three dk d0 d1 hz
        obtain ⟨m0, m1, m2, m3⟩ := hkeep
        by_cases hcv : cv = 0
        · subst hcv
          go_wp2_with fail
          go_roundw
          case rel =>
            refine ⟨5, _, by omega, rfl, rfl, ?_, hid ⟨?_, ?_, ?_⟩, ?_⟩
            · rw [HU.out.1]; simp [wrT, hx_length]; omega
            · rw [HU.out.1]; simp [wrT]
            · first | trivial | (intro _; rfl)
            · exact below_step2 (below_step2 HU.out.2.2 hal) m3
            · exact (HC.out.below hal).below m3
          case measure => simp [intOf]
        · have hne : (cv != 0) = true := by simpa using hcv
          go_wp2_with fail
          go_returns
          have hbad : ¬ (0 ≤ f ∧ f ≤ 255) := fun h => by have h2 := (HVV.out.1 h).2; rw [HV.out, Prod.mk.injEq] at h2; exact hcv h2.2
          have h3 := HVV.out.2 hbad
          rw [HV.out, Prod.mk.injEq] at h3
          rw [HW.out, if_pos (by omega)]
          refine ⟨?_, below_step2 (below_step2 HU.out.2.2 hal) m3⟩
          rw [← h3.2]; rfl
    · go_wp2_with fail
      go_returns
      have h0 := HU.out.2.1 (by trivial)
      have hgood : 0 ≤ f ∧ f ≤ 255 := Classical.byContradiction fun h => by have h2 := HVV.out.2 h; rw [HV.out, Prod.mk.injEq] at h2; omega
      have h2 := (HVV.out.1 hgood).2
      rw [HV.out, Prod.mk.injEq] at h2
      rw [HW.out, if_neg (by omega)]
      refine ⟨?_, HU.out.2.2⟩
      rw [HU.out.1, h2.1]; rfl
end Go.Proofs.YtddmmpjamnjilaaDoor
