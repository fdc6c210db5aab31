import Derived.Test.YtddmmpjamnjilaaDoorIb
import Derived.Test.YtddmmpjamnjilaaDoorPp
import Derived.Test.YtddmmpjamnjilaaDoorShelf
namespace Go.Proofs.YtddmmpjamnjilaaDoor
set_option linter.unusedVariables false
set_option linter.unusedSimpArgs false
open Go.RowKit

theorem lib_cutPrefix (s p : List UInt8) (w : World) :
    Calls Tryd.prog 55 #[.string (bs s), .string (bs p)] w fun e w' => e = .returned (.tuple #[.string (bs (Lib.trimPrefix s p)), .bool (Lib.hasPrefix s p)]) ∧ w = w' :=
  (Tryd.strings_CutPrefix (bs s) (bs p) w).mono fun e w' ⟨a, b⟩ => ⟨by rw [bs_data, bs_data] at a; exact a, b.symm⟩
theorem lib_hasPrefix (s p : List UInt8) (w : World) :
    Calls Tryd.prog 56 #[.string (bs s), .string (bs p)] w fun e w' => e = .returned (.bool (List.isPrefixOf p s)) ∧ w = w' :=
  (Tryd.strings_HasPrefix (bs s) (bs p) w).mono fun e w' ⟨a, b⟩ => ⟨by rw [bs_data, bs_data] at a; exact a, b.symm⟩
theorem allx_hit {l : List UInt8} {p : UInt8 → Bool} {k : Nat} (h : k < l.length) (hp : p l[k] = false) : l.all p = false := by
  rw [Bool.eq_false_iff]; intro ha
  have := List.all_eq_true.1 ha l[k] (List.getElem_mem h)
  rw [hp] at this; cases this
theorem allx_step {l : List UInt8} {p : UInt8 → Bool} {k : Nat} (h : k < l.length) (h1 : (l.take k).all p = true) (hp : p l[k] = true) : (l.take (k + 1)).all p = true := by
  rw [take_snoc l k h, List.all_append, h1]; simp [hp]
set_option maxHeartbeats 800000 in
theorem rdigits_any (l : List UInt8) (w : World) (hs : l.length ≤ 140737488351232) :
    Calls Tryd.prog 58 #[.string (bs l)] w fun e w' => e = .returned (.bool (l.all isHex)) ∧ w = w' := by
  go_enter Tryd.func58, Tryd.ntmps58
  go_wp2_with fail
  go_loop [3] (fun i => ∃ k : Nat, k ≤ l.length ∧ Hid ((l.take k).all isHex = true) ∧ i = .int .i64 k) (fun i => l.length - (intOf i).toNat)
  case atStart => exact ⟨0, by omega, hid rfl, rfl⟩
  case round =>
    obtain ⟨k, hk, Hk, rfl⟩ := hrel
    by_cases hlt : k < l.length
    · have hx1 : (bs l).extract k (k + 1) = bs [l[k]] := by
        rw [bs_extract, show k + 1 - k = 1 from by omega, List.drop_eq_getElem_cons hlt]; rfl
      have h1 := unhexS_one l[k]
      have hl1 : [l[k]].length ≤ 140737488351232 := by simp
      cases hd : hexv l[k] with
      | none =>
        rw [hd] at h1
        have HH := hid (allx_hit (p := isHex) hlt (by rw [isHex, hd]; rfl))
        have H1 := hid h1
        clear h1 hd
        go_wp2_with fail
        refine (runhex_at _ _ hl1 H1).mono ?_
        rintro e w' ⟨rfl, rfl⟩
        go_wp2_with fail
        go_returns
        exact ⟨by rw [HH.out]; rfl, rfl⟩
      | some d =>
        rw [hd] at h1
        have HH := hid (allx_step (p := isHex) hlt Hk.out (by rw [isHex, hd]; rfl))
        have H1 := hid h1
        clear h1 hd
        go_wp2_with fail
        refine (runhex_at _ _ hl1 H1).mono ?_
        rintro e w' ⟨rfl, rfl⟩
        go_wp2_with fail
        go_round
        case rel => exact ⟨k + 1, by omega, HH, by go_num⟩
        case measure => simp [intOf]; omega
    · obtain rfl : k = l.length := by omega
      go_wp2_with fail
      go_returns
      have h1 := Hk.out
      rw [List.take_length] at h1
      exact ⟨by rw [h1]; rfl, rfl⟩
theorem rdigits_at (l : List UInt8) (w : World) (hs : l.length ≤ 140737488351232) {b : Bool} (H : Hid (l.all isHex = b)) :
    Calls Tryd.prog 58 #[.string (bs l)] w fun e w' => e = .returned (.bool b) ∧ w = w' :=
  (rdigits_any l w hs).mono fun e w' ⟨a, c⟩ => ⟨by rw [H.out] at a; exact a, c⟩
theorem at_ne {l : List UInt8} {i : Nat} (h : i < l.length) {b : Bool} (hb : decide (l[i]? = some 45) = b) : ((l[i].toNat : Int) != 45) = !b := by
  rw [← hb, at_of h, Bool.eq_iff_iff]
  simp
  constructor
  · intro x e; apply x; rw [e]; rfl
  · intro x e; apply x; apply UInt8.toNat_inj.1; have : ((45 : UInt8).toNat : Int) = 45 := rfl; omega
theorem not_form {l : List UInt8} (h : ¬ formR l) : formS l = false := by rw [Bool.eq_false_iff]; exact fun e => h ((formS_iff l).1 e)
set_option maxRecDepth 100000 in
set_option maxHeartbeats 1600000 in
theorem rformed_any (l : List UInt8) (w : World) (hs : l.length ≤ 140737488351232) :
    Calls Tryd.prog 34 #[.string (bs l)] w fun e w' => e = .returned (.bool (formS l)) ∧ w = w' := by
  by_cases h0 : (l.length : Int) < 55
  · have HF := hid (not_form (l := l) fun h => by have := h.1; omega)
    go_enter Tryd.func34, Tryd.ntmps34
    go_wp2_with fail
    go_returns
    exact ⟨by rw [HF.out]; rfl, rfl⟩
  have h2 : 2 < l.length := by omega
  have h35 : 35 < l.length := by omega
  have h52 : 52 < l.length := by omega
  have i2 : (2 : Int) < (l.length : Int) := by omega
  have i35 : (35 : Int) < (l.length : Int) := by omega
  have i52 : (52 : Int) < (l.length : Int) := by omega
  by_cases a2 : l[2]? = some 45
  rotate_left
  · have HF := hid (not_form (l := l) fun h => a2 h.2.1)
    have b2 := at_ne h2 (decide_eq_false a2)
    clear a2
    go_enter Tryd.func34, Tryd.ntmps34
    go_wp2_with fail
    go_returns
    exact ⟨by rw [HF.out]; rfl, rfl⟩
  have b2 := at_ne h2 (decide_eq_true a2)
  have A2 := hid a2
  clear a2
  by_cases a35 : l[35]? = some 45
  rotate_left
  · have HF := hid (not_form (l := l) fun h => a35 h.2.2.1)
    have b35 := at_ne h35 (decide_eq_false a35)
    clear a35
    go_enter Tryd.func34, Tryd.ntmps34
    go_wp2_with fail
    go_returns
    exact ⟨by rw [HF.out]; rfl, rfl⟩
  have b35 := at_ne h35 (decide_eq_true a35)
  have A35 := hid a35
  clear a35
  by_cases a52 : l[52]? = some 45
  rotate_left
  · have HF := hid (not_form (l := l) fun h => a52 h.2.2.2.1)
    have b52 := at_ne h52 (decide_eq_false a52)
    clear a52
    go_enter Tryd.func34, Tryd.ntmps34
    go_wp2_with fail
    go_returns
    exact ⟨by rw [HF.out]; rfl, rfl⟩
  have b52 := at_ne h52 (decide_eq_true a52)
  have A52 := hid a52
  clear a52
  have x2 : (bs l).extract 0 2 = bs (l.take 2) := by rw [bs_extract]; simp
  have x3 : (bs l).extract 3 35 = bs ((l.drop 3).take 32) := by rw [bs_extract]
  have x36 : (bs l).extract 36 52 = bs ((l.drop 36).take 16) := by rw [bs_extract]
  have x53 : (bs l).extract 53 55 = bs ((l.drop 53).take 2) := by rw [bs_extract]
  have c1 : (ByteArray.mk #[102, 102]) = bs [102, 102] := rfl
  have c2 : (ByteArray.mk #[48, 48]) = bs [48, 48] := rfl
  have y2 : (l.take 2).length ≤ 140737488351232 := by rw [List.length_take]; omega
  have y3 : ((l.drop 3).take 32).length ≤ 140737488351232 := by rw [List.length_take]; omega
  have y36 : ((l.drop 36).take 16).length ≤ 140737488351232 := by rw [List.length_take]; omega
  have y53 : ((l.drop 53).take 2).length ≤ 140737488351232 := by rw [List.length_take]; omega
  by_cases v0 : (l.take 2).all isHex = true
  rotate_left
  · have HF := hid (not_form (l := l) fun h => v0 h.2.2.2.2.1)
    have V0 := hid (Bool.eq_false_iff.2 v0)
    clear v0
    go_enter Tryd.func34, Tryd.ntmps34
    go_wp2_with fail
    refine (rdigits_at _ _ y2 V0).mono ?_
    rintro e w1 ⟨rfl, rfl⟩
    go_wp2_with fail
    go_returns
    exact ⟨by rw [HF.out]; rfl, rfl⟩
  have V0 := hid v0
  clear v0
  by_cases vf : l.take 2 = [102, 102]
  · have HF := hid (not_form (l := l) fun h => h.2.2.2.2.2.1 vf)
    have bf : (l.take 2 == [102, 102]) = true := by simpa using vf
    clear vf
    go_enter Tryd.func34, Tryd.ntmps34
    go_wp2_with fail
    refine (rdigits_at _ _ y2 V0).mono ?_
    rintro e w1 ⟨rfl, rfl⟩
    go_wp2_with fail
    go_returns
    exact ⟨by rw [HF.out]; rfl, rfl⟩
  have bf : (l.take 2 == [102, 102]) = false := by simpa using vf
  have VF := hid vf
  clear vf
  by_cases vz : l.take 2 = [48, 48] ∧ l.length ≠ 55
  · have HF := hid (not_form (l := l) fun h => h.2.2.2.2.2.2.1 vz)
    have bz : (l.take 2 == [48, 48]) = true := by simpa using vz.1
    have bl : ((l.length : Int) != 55) = true := by simp; have := vz.2; omega
    clear vz
    go_enter Tryd.func34, Tryd.ntmps34
    go_wp2_with fail
    refine (rdigits_at _ _ y2 V0).mono ?_
    rintro e w1 ⟨rfl, rfl⟩
    go_wp2_with fail
    go_returns
    exact ⟨by rw [HF.out]; rfl, rfl⟩
  have VZ := hid vz
  by_cases ve : 55 < l.length ∧ l[55]? ≠ some 45
  · have HF := hid (not_form (l := l) fun h => h.2.2.2.2.2.2.2.1 ve)
    have bz : (l.take 2 == [48, 48]) = false := by
      rw [Bool.eq_false_iff]; intro e; have := ve.1; exact vz ⟨by simpa using e, by omega⟩
    have h55 := ve.1
    have i55 : (55 : Int) < (l.length : Int) := by omega
    have b55 := at_ne h55 (decide_eq_false ve.2)
    clear vz ve
    go_enter Tryd.func34, Tryd.ntmps34
    go_wp2_with fail
    refine (rdigits_at _ _ y2 V0).mono ?_
    rintro e w1 ⟨rfl, rfl⟩
    go_wp2_with fail
    go_returns
    exact ⟨by rw [HF.out]; rfl, rfl⟩
  have VE := hid ve
  have HG := hid (show ∀ (_ : ((l.drop 3).take 32).all isHex = true) (_ : ((l.drop 36).take 16).all isHex = true), formS l = ((l.drop 53).take 2).all isHex from fun d1 d2 => by
    rw [Bool.eq_iff_iff, formS_iff]
    exact ⟨fun h => h.2.2.2.2.2.2.2.2.2.2, fun h => ⟨by omega, A2.out, A35.out, A52.out, V0.out, VF.out, VZ.out, VE.out, d1, d2, h⟩⟩)
  have hway : ((l.take 2 == [48, 48]) = true ∧ ((l.length : Int) != 55) = false ∧ ¬ (l.length : Int) > 55) ∨ ((l.take 2 == [48, 48]) = false ∧ ((l.length : Int) > 55 ∧ ∃ h : 55 < l.length, ((l[55].toNat : Int) != 45) = false)) ∨ ((l.take 2 == [48, 48]) = false ∧ ¬ (l.length : Int) > 55) := by
    by_cases e : l.take 2 = [48, 48]
    · left
      have : l.length = 55 := Classical.byContradiction fun x => vz ⟨e, x⟩
      exact ⟨by simpa using e, by simp; omega, by omega⟩
    · right
      have e' : (l.take 2 == [48, 48]) = false := by simpa using e
      by_cases g : 55 < l.length
      · left
        refine ⟨e', by omega, g, ?_⟩
        exact at_ne g (decide_eq_true (Classical.byContradiction fun x => ve ⟨g, x⟩))
      · right; exact ⟨e', by omega⟩
  clear vz ve
  cases d1 : ((l.drop 3).take 32).all isHex
  · have HF := hid (not_form (l := l) fun h => by have := h.2.2.2.2.2.2.2.2.1; rw [d1] at this; cases this)
    have D1 := hid d1
    clear d1
    rcases hway with ⟨z1, z2, z3⟩ | ⟨z1, z2, z3, z4⟩ | ⟨z1, z2⟩
    all_goals
      go_enter Tryd.func34, Tryd.ntmps34
      go_wp2_with fail
      refine (rdigits_at _ _ y2 V0).mono ?_
      rintro e w1 ⟨rfl, rfl⟩
      go_wp2_with fail
      refine (rdigits_at _ _ y3 D1).mono ?_
      rintro e w1 ⟨rfl, rfl⟩
      go_wp2_with fail
      go_returns
      exact ⟨by rw [HF.out]; rfl, rfl⟩
  have D1 := hid d1
  clear d1
  cases d2 : ((l.drop 36).take 16).all isHex
  · have HF := hid (not_form (l := l) fun h => by have := h.2.2.2.2.2.2.2.2.2.1; rw [d2] at this; cases this)
    have D2 := hid d2
    clear d2
    rcases hway with ⟨z1, z2, z3⟩ | ⟨z1, z2, z3, z4⟩ | ⟨z1, z2⟩
    all_goals
      go_enter Tryd.func34, Tryd.ntmps34
      go_wp2_with fail
      refine (rdigits_at _ _ y2 V0).mono ?_
      rintro e w1 ⟨rfl, rfl⟩
      go_wp2_with fail
      refine (rdigits_at _ _ y3 D1).mono ?_
      rintro e w1 ⟨rfl, rfl⟩
      go_wp2_with fail
      refine (rdigits_at _ _ y36 D2).mono ?_
      rintro e w1 ⟨rfl, rfl⟩
      go_wp2_with fail
      go_returns
      exact ⟨by rw [HF.out]; rfl, rfl⟩
  have D2 := hid d2
  clear d2
  have HF := hid (HG.out D1.out D2.out)
  rcases hway with ⟨z1, z2, z3⟩ | ⟨z1, z2, z3, z4⟩ | ⟨z1, z2⟩
  all_goals
    go_enter Tryd.func34, Tryd.ntmps34
    go_wp2_with fail
    refine (rdigits_at _ _ y2 V0).mono ?_
    rintro e w1 ⟨rfl, rfl⟩
    go_wp2_with fail
    refine (rdigits_at _ _ y3 D1).mono ?_
    rintro e w1 ⟨rfl, rfl⟩
    go_wp2_with fail
    refine (rdigits_at _ _ y36 D2).mono ?_
    rintro e w1 ⟨rfl, rfl⟩
    go_wp2_with fail
    refine (rdigits_any _ _ y53).mono ?_
    rintro e w1 ⟨rfl, rfl⟩
    go_wp2_with fail
    go_returns
    exact ⟨by rw [HF.out]; rfl, rfl⟩
end Go.Proofs.YtddmmpjamnjilaaDoor
