/- Texts put together: Tc. -/
import Derived.Test.YtnbkpannhcamjaaGreatDoorG16
import Derived.Lib.SmallJoins
import Derived.Deep.RegionHeld3
namespace Go.Proofs.YtnbkpannhcamjaaGreatDoor
set_option linter.unusedVariables false
set_option linter.unusedSimpArgs false
open Go.RowKit Go.Joins

theorem tkeep2 {w1 w' : World} {p q : Addr} {x y : Value} (h0 : w1.cell? p = some x) (h1 : w1.cell? q = some y) (hb : Below w1.heap.size w1 w') :
    w'.cell? p = some x ∧ w'.cell? q = some y ∧ Below w1.heap.size w1 w' := ⟨(hb.cell (lt_of_cell h0)).trans h0, (hb.cell (lt_of_cell h1)).trans h1, hb⟩
theorem ttwo_new (w : World) (x y : Value) (t : TypeId) : (w.alloc (.cells #[x, y] t)).cell? ⟨w.heap.size, 0, none⟩ = some x ∧ (w.alloc (.cells #[x, y] t)).cell? ⟨w.heap.size, 1, none⟩ = some y := ⟨by simp, by simp⟩
theorem HReads.len_take {w : World} {A : Option Addr} {L : List Hd} (h : HReads w (· < w.heap.size) A L) (i : Nat) : HReads w (· < w.heap.size) A (L.take i) := h.take i
set_option maxHeartbeats 1600000 in
theorem rone_any (A : Option Addr) (cap : Nat) (L : List Hd) (k v : List UInt8) (w : World) (hR : HReads w (· < w.heap.size) A L) (hl : L.length ≤ 9223372036854775807) (hk : k.length ≤ 140737488351232) (hv : v.length ≤ 140737488351232) :
    Calls Tryz.prog 44 #[.slice A L.length cap, .agg #[.string (bs k), .string (bs v)]] w fun e w' => e = .returned (.int .i64 (oneM L (k, v))) ∧ Below w.heap.size w w' := by
  have HA := hid (tbelow_new w (.cells #[Value.string (bs k), Value.string (bs v)] 71))
  have HR := hid (hR.up HA.out)
  have hm := ttwo_new w (.string (bs k)) (.string (bs v)) 71
  have HM := hid hm
  have HO := hid (show oneM L (k, v) = if keyB k = false then 3 else if valM v = false then 3 else if (getM L k).2 = true then 10 else if 32 ≤ L.length then 8 else 0 from rfl)
  clear hR hm
  have hnot := notB'
  cases h1 : keyB k
  · have H1 := hid h1
    clear h1
    go_enter Tryz.func44, Tryz.ntmps44
    go_wp2_with fail
    refine (rkey_any _ _ hk).mono ?_
    rintro e w1 ⟨rfl, rfl⟩
    rw [H1.out]
    go_wp2_with fail
    go_ret
    exact ⟨by rw [HO.out, if_pos H1.out]; rfl, HA.out⟩
  have H1 := hid h1
  clear h1
  cases h2 : valM v
  · have H2 := hid h2
    clear h2
    go_enter Tryz.func44, Tryz.ntmps44
    go_wp2_with fail
    refine (rkey_any _ _ hk).mono ?_
    rintro e w1 ⟨rfl, rfl⟩
    rw [H1.out]
    go_wp2_with fail
    refine (rval_any _ _ hv).mono ?_
    rintro e w1 ⟨rfl, rfl⟩
    rw [H2.out]
    go_wp2_with fail
    go_ret
    exact ⟨by rw [HO.out, if_neg (by rw [H1.out]; simp), if_pos H2.out]; rfl, HA.out⟩
  have H2 := hid h2
  clear h2
  go_enter Tryz.func44, Tryz.ntmps44
  go_wp2_with fail
  refine (rkey_any _ _ hk).mono ?_
  rintro e w1 ⟨rfl, rfl⟩
  rw [H1.out]
  go_wp2_with fail
  refine (rval_any _ _ hv).mono ?_
  rintro e w1 ⟨rfl, rfl⟩
  rw [H2.out]
  go_wp2_with fail
  generalize w.alloc (.cells #[Value.string (bs k), Value.string (bs v)] 71) = v1 at *
  go_loopw [5] (fun i wr => ∃ j : Nat, j ≤ L.length ∧ i = .int .i64 j ∧ Hid ((getM L k).2 = (getM (L.drop j) k).2 ∧ Below v1.heap.size v1 wr)) (fun i _ => L.length - (intOf i).toNat)
  case atStart => exact ⟨0, by omega, rfl, hid ⟨rfl, Below.refl _ _⟩⟩
  case round =>
    obtain ⟨j, hj, rfl, HW⟩ := hrel
    by_cases hlt : j < L.length
    · obtain ⟨b, o, rfl, hB, hc0, hc1⟩ := (HR.out.below HW.out.2) j hlt
      obtain ⟨hm0, hm1, _⟩ := tkeep2 HM.out.1 HM.out.2 HW.out.2
      have HD := hid (getM_drop L k j hlt)
      generalize L[j] = h at *
      obtain ⟨h0, h1⟩ := h
      have hi0 : (0 : Int) ≤ (j : Int) := by omega
      have hi1 : (j : Int) < (L.length : Int) := by omega
      cases he : (h0 == k)
      · have HE := hid he
        go_wp2_with fail
        go_quiet (fail)
        go_wp2_with fail
        go_roundw
        case rel => exact ⟨j + 1, by omega, by go_num, hid ⟨by rw [HW.out.1, HD.out, if_neg (by rw [HE.out]; simp)], below_drewN HW.out.2 _⟩⟩
        case measure => simp [intOf]; omega
      · have HE := hid he
        go_wp2_with fail
        go_quiet (fail)
        go_wp2_with fail
        go_ret
        exact ⟨by rw [HO.out, if_neg (by rw [H1.out]; simp), if_neg (by rw [H2.out]; simp), HW.out.1, HD.out, if_pos HE.out, if_pos rfl]; rfl, tbelow_step HA.out (below_drewN HW.out.2 _)⟩
    · obtain rfl : j = L.length := by omega
      have HF := hid (show (getM L k).2 = false by rw [HW.out.1, List.drop_length]; rfl)
      by_cases h32 : 32 ≤ L.length
      · go_wp2_with fail
        go_ret
        exact ⟨by rw [HO.out, if_neg (by rw [H1.out]; simp), if_neg (by rw [H2.out]; simp), if_neg (by rw [HF.out]; simp), if_pos h32]; rfl, tbelow_step HA.out HW.out.2⟩
      · go_wp2_with fail
        go_ret
        exact ⟨by rw [HO.out, if_neg (by rw [H1.out]; simp), if_neg (by rw [H2.out]; simp), if_neg (by rw [HF.out]; simp), if_neg h32]; rfl, tbelow_step HA.out HW.out.2⟩
theorem tfault_take (A : Option Addr) (cap : Nat) (L : List Hd) (i : Nat) (hi : i < L.length) (k v : List UInt8) (w : World) (hR : HReads w (· < w.heap.size) A L) (hl : L.length ≤ 9223372036854775807) (hk : k.length ≤ 140737488351232) (hv : v.length ≤ 140737488351232) :
    Calls Tryz.prog 62 #[.slice A i cap, .agg #[.string (bs k), .string (bs v)]] w fun e w' => e = .returned (.int .i64 (oneM (L.take i) (k, v))) ∧ Below w.heap.size w w' := by
  have := tfault_any A cap (L.take i) k v w (hR.take i) (Nat.le_trans (List.length_take_le' i L) hl) hk hv
  rwa [List.length_take, Nat.min_eq_left (by omega)] at this
theorem rone_take (A : Option Addr) (cap : Nat) (L : List Hd) (i : Nat) (hi : i < L.length) (k v : List UInt8) (w : World) (hR : HReads w (· < w.heap.size) A L) (hl : L.length ≤ 9223372036854775807) (hk : k.length ≤ 140737488351232) (hv : v.length ≤ 140737488351232) :
    Calls Tryz.prog 44 #[.slice A i cap, .agg #[.string (bs k), .string (bs v)]] w fun e w' => e = .returned (.int .i64 (oneM (L.take i) (k, v))) ∧ Below w.heap.size w w' := by
  have := rone_any A cap (L.take i) k v w (hR.take i) (Nat.le_trans (List.length_take_le' i L) hl) hk hv
  rwa [List.length_take, Nat.min_eq_left (by omega)] at this
set_option maxHeartbeats 3200000 in
theorem tcheck_any (A : Option Addr) (cap : Nat) (L : List Hd) (w : World) (hR : HReads w (· < w.heap.size) A L) (hcap : L.length ≤ cap) (hl : L.length ≤ 9223372036854775807) (hs : ∀ h ∈ L, h.1.length ≤ 140737488351232 ∧ h.2.length ≤ 140737488351232) :
    Calls Tryz.prog 58 #[.slice A L.length cap] w fun e w' => e = .returned (.int .i64 (chkM [] L)) ∧ Below w.heap.size w w' := by
  have HR := hid hR
  have HS := hid hs
  clear hR hs
  go_enter Tryz.func58, Tryz.ntmps58
  go_wp2_with fail
  go_loopw [8] (fun i wr => ∃ k : Nat, k ≤ L.length ∧ i = .int .i64 k ∧ Hid (chkM [] L = chkM (L.take k) (L.drop k) ∧ Below w.heap.size w wr)) (fun i _ => L.length - (intOf i).toNat)
  case atStart => exact ⟨0, by omega, rfl, hid ⟨rfl, Below.refl _ _⟩⟩
  case round =>
    obtain ⟨k, hk, rfl, HW⟩ := hrel
    by_cases hlt : k < L.length
    · have HRk := hid (HR.out.up HW.out.2)
      obtain ⟨b, o, hA, hB, hc0, hc1⟩ := HRk.out k hlt
      have HD := hid (chkM_step L k hlt)
      obtain ⟨hs0, hs1⟩ := HS.out _ (List.getElem_mem hlt)
      have HF := hid (fun (w2 : World) (hz : Below wr.heap.size wr w2) => tfault_take A cap L k hlt (L[k]).1 (L[k]).2 w2 (HRk.out.up hz) hl hs0 hs1)
      subst hA
      generalize hx : oneM (L.take k) L[k] = x at *
      have HF2 := hid (fun (w2 : World) (hz : Below wr.heap.size wr w2) => show Calls Tryz.prog 62 #[.slice (some ⟨b, o, none⟩) k cap, .agg #[.string (bs L[k].1), .string (bs L[k].2)]] w2 fun e w' => e = .returned (.int .i64 x) ∧ Below w2.heap.size w2 w' by
        exact HF.out w2 hz)
      clear HF hx hs0 hs1
      generalize L[k] = h at *
      obtain ⟨h0, h1⟩ := h
      have hal := tbelow_new wr (.cells #[Value.string (bs h0), Value.string (bs h1)] 71)
      obtain ⟨d0, d1⟩ := ttwo_new wr (.string (bs h0)) (.string (bs h1)) 71
      have hi0 : (0 : Int) ≤ (k : Int) := by omega
      have hi1 : (k : Int) < (L.length : Int) := by omega
      have hi2 : (k : Int) ≤ (cap : Int) := by omega
      have hi3 : k ≤ cap := by omega
      go_wp2_with fail
      generalize wr.alloc (.cells #[Value.string (bs h0), Value.string (bs h1)] 71) = v3 at *
      have HAL := hid hal
      have hz : Below v3.heap.size v3 v3.drew := (Below.refl _ _).drew
      go_region_held3 (fun w' => w'.cell? ⟨wr.heap.size, 0, none⟩ = some (.string (bs h0)) ∧ w'.cell? ⟨wr.heap.size, 1, none⟩ = some (.string (bs h1)) ∧ Below v3.heap.size v3 w') (first | exact tkeep2 d0 d1 hz | exact tkeep2 d0 d1 (hz.trans (Below.mono (by assumption) hz.size))) (first
        | (go_at_call 62
           ((with_reducible refine (HF2.out _ (HAL.out.trans (hz.mono HAL.out.size))).mono ?_); rintro e w4 ⟨rfl, hy⟩)
           have hz := hz.trans (hy.mono hz.size)))
      all_goals
        have HZ := hid (tbelow_step HW.out.2 (tbelow_step hal hz))
        by_cases hx0 : x = 0
        · have HX := hid hx0
          subst hx0
          go_wp2_with fail
          go_roundw
          case rel => exact ⟨k + 1, by omega, by go_num, hid ⟨by rw [HW.out.1, HD.out, if_pos rfl], HZ.out⟩⟩
          case measure => simp [intOf]; omega
        · have hne : (x != 0) = true := by simpa using hx0
          have HX := hid hx0
          clear hx0
          go_wp2_with fail
          go_ret
          exact ⟨by rw [HW.out.1, HD.out, if_neg HX.out]; rfl, HZ.out⟩
    · obtain rfl : k = L.length := by omega
      go_wp2_with fail
      go_ret
      exact ⟨by rw [HW.out.1, List.drop_length]; rfl, HW.out.2⟩
set_option maxHeartbeats 3200000 in
theorem rtcheck_any (A : Option Addr) (cap : Nat) (L : List Hd) (w : World) (hR : HReads w (· < w.heap.size) A L) (hcap : L.length ≤ cap) (hl : L.length ≤ 9223372036854775807) (hs : ∀ h ∈ L, h.1.length ≤ 140737488351232 ∧ h.2.length ≤ 140737488351232) :
    Calls Tryz.prog 47 #[.slice A L.length cap] w fun e w' => e = .returned (.int .i64 (chkM [] L)) ∧ Below w.heap.size w w' := by
  have HR := hid hR
  have HS := hid hs
  clear hR hs
  go_enter Tryz.func47, Tryz.ntmps47
  go_wp2_with fail
  go_loopw [3] (fun i wr => ∃ k : Nat, k ≤ L.length ∧ i = .int .i64 k ∧ Hid (chkM [] L = chkM (L.take k) (L.drop k) ∧ Below w.heap.size w wr)) (fun i _ => L.length - (intOf i).toNat)
  case atStart => exact ⟨0, by omega, rfl, hid ⟨rfl, Below.refl _ _⟩⟩
  case round =>
    obtain ⟨k, hk, rfl, HW⟩ := hrel
    by_cases hlt : k < L.length
    · have HRk := hid (HR.out.up HW.out.2)
      obtain ⟨b, o, hA, hB, hc0, hc1⟩ := HRk.out k hlt
      have HD := hid (chkM_step L k hlt)
      obtain ⟨hs0, hs1⟩ := HS.out _ (List.getElem_mem hlt)
      have HF := hid (fun (w2 : World) (hz : Below wr.heap.size wr w2) => rone_take A cap L k hlt (L[k]).1 (L[k]).2 w2 (HRk.out.up hz) hl hs0 hs1)
      subst hA
      generalize hx : oneM (L.take k) L[k] = x at *
      have HF2 := hid (fun (w2 : World) (hz : Below wr.heap.size wr w2) => show Calls Tryz.prog 44 #[.slice (some ⟨b, o, none⟩) k cap, .agg #[.string (bs L[k].1), .string (bs L[k].2)]] w2 fun e w' => e = .returned (.int .i64 x) ∧ Below w2.heap.size w2 w' by
        exact HF.out w2 hz)
      clear HF hx hs0 hs1
      generalize L[k] = h at *
      obtain ⟨h0, h1⟩ := h
      have hi0 : (0 : Int) ≤ (k : Int) := by omega
      have hi1 : (k : Int) < (L.length : Int) := by omega
      have hi2 : (k : Int) ≤ (cap : Int) := by omega
      have hi3 : k ≤ cap := by omega
      go_wp2_with fail
      have hz : Below wr.heap.size wr wr.drew := (Below.refl _ _).drew
      go_region_held3 (fun w' => w'.cell? ⟨b, o + k * 2, none⟩ = some (.string (bs h0)) ∧ w'.cell? ⟨b, o + k * 2 + 1, none⟩ = some (.string (bs h1)) ∧ Below wr.heap.size wr w') (first | exact tkeep2 hc0 hc1 hz | exact tkeep2 hc0 hc1 (hz.trans (Below.mono (by assumption) hz.size))) (first
        | (go_at_call 44
           ((with_reducible refine (HF2.out _ hz).mono ?_); rintro e w4 ⟨rfl, hy⟩)
           have hz := hz.trans (hy.mono hz.size)))
      all_goals
        have HZ := hid (tbelow_step HW.out.2 hz)
        by_cases hx0 : x = 0
        · have HX := hid hx0
          subst hx0
          go_wp2_with fail
          go_roundw
          case rel => exact ⟨k + 1, by omega, by go_num, hid ⟨by rw [HW.out.1, HD.out, if_pos rfl], HZ.out⟩⟩
          case measure => simp [intOf]; omega
        · have hne : (x != 0) = true := by simpa using hx0
          have HX := hid hx0
          clear hx0
          go_wp2_with fail
          go_ret
          exact ⟨by rw [HW.out.1, HD.out, if_neg HX.out]; rfl, HZ.out⟩
    · obtain rfl : k = L.length := by omega
      go_wp2_with fail
      go_ret
      exact ⟨by rw [HW.out.1, List.drop_length]; rfl, HW.out.2⟩
end Go.Proofs.YtnbkpannhcamjaaGreatDoor
