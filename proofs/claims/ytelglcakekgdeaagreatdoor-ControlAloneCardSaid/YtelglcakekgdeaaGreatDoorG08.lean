/- Texts put together: Ma Kq. -/
import Derived.Test.YtelglcakekgdeaaGreatDoorG05
import Derived.Test.YtelglcakekgdeaaGreatDoorG02
import Derived.Test.YtelglcakekgdeaaGreatDoorG07
import Derived.Handy
namespace Go.Proofs.YtelglcakekgdeaaGreatDoor
set_option linter.unusedVariables false
set_option linter.unusedSimpArgs false
open Go.RowKit

set_option maxHeartbeats 800000 in
theorem within_any (l : List UInt8) (a b : Nat) (w : World) (hs : l.length ≤ 140737488351232) (ha : a ≤ 255) (hb : b ≤ 255) :
    Calls Tryz.prog 113 #[.string (bs l), .int .u8 (a : Int), .int .u8 (b : Int)] w fun e w' => e = .returned (.bool (l.all (inB a b))) ∧ w = w' := by
  go_enter Tryz.func113, Tryz.ntmps113
  go_wp2_with fail
  go_loop [10] (fun i => ∃ k : Nat, k ≤ l.length ∧ Hid ((l.take k).all (inB a b) = true) ∧ i = .int .i64 k) (fun i => l.length - (intOf i).toNat)
  case atStart => exact ⟨0, by omega, hid rfl, rfl⟩
  case round =>
    obtain ⟨k, hk, Hk, rfl⟩ := hrel
    by_cases hlt : k < l.length
    · have hc := UInt8.toNat_lt l[k]
      by_cases h1 : (l[k].toNat : Int) < (a : Int)
      · go_wp2_with fail
        go_ret
        exact ⟨by rw [all_false hlt (by simp [inB]; omega)]; rfl, rfl⟩
      · by_cases h2 : (l[k].toNat : Int) > (b : Int)
        · go_wp2_with fail
          go_ret
          exact ⟨by rw [all_false hlt (by simp [inB]; omega)]; rfl, rfl⟩
        · go_wp2_with fail
          go_round
          case rel => exact ⟨k + 1, by omega, hid (by rw [all_take _ _ _ hlt, Hk.out]; simp [inB]; omega), by go_num⟩
          case measure => simp [intOf]; omega
    · obtain rfl : k = l.length := by omega
      go_wp2_with fail
      go_ret
      have h1 := Hk.out
      rw [List.take_length] at h1
      exact ⟨by rw [h1]; rfl, rfl⟩
set_option maxHeartbeats 800000 in
theorem reach_any (l : List UInt8) (lo hi a b : Nat) (w : World) (hs : l.length ≤ 140737488351232) (hlo : lo ≤ 100) (hhi : hi ≤ 100) (ha : a ≤ 255) (hb : b ≤ 255) :
    Calls Tryz.prog 85 #[.string (bs l), .int .i64 (lo : Int), .int .i64 (hi : Int), .int .u8 (a : Int), .int .u8 (b : Int)] w fun e w' => e = .returned (.bool (decide (lo ≤ l.length) && (decide (l.length ≤ hi) && l.all (inB a b)))) ∧ w = w' := by
  by_cases h1 : (l.length : Int) < (lo : Int)
  · have hd := hid (show (decide (lo ≤ l.length) && (decide (l.length ≤ hi) && l.all (inB a b))) = false by rw [decide_eq_false (by omega)]; rfl)
    go_enter Tryz.func85, Tryz.ntmps85
    go_wp2_with fail
    go_ret
    exact ⟨by rw [hd.out]; rfl, rfl⟩
  · by_cases h2 : (l.length : Int) > (hi : Int)
    · have hd := hid (show (decide (lo ≤ l.length) && (decide (l.length ≤ hi) && l.all (inB a b))) = false by rw [decide_eq_false (show ¬ l.length ≤ hi by omega)]; simp)
      go_enter Tryz.func85, Tryz.ntmps85
      go_wp2_with fail
      go_ret
      exact ⟨by rw [hd.out]; rfl, rfl⟩
    · have hd := hid (show (decide (lo ≤ l.length) && (decide (l.length ≤ hi) && l.all (inB a b))) = l.all (inB a b) by rw [decide_eq_true (show lo ≤ l.length by omega), decide_eq_true (show l.length ≤ hi by omega)]; rfl)
      go_enter Tryz.func85, Tryz.ntmps85
      go_wp2_with fail
      go_loop [11] (fun i => ∃ k : Nat, k ≤ l.length ∧ Hid ((l.take k).all (inB a b) = true) ∧ i = .int .i64 k) (fun i => l.length - (intOf i).toNat)
      case atStart => exact ⟨0, by omega, hid rfl, rfl⟩
      case round =>
        obtain ⟨k, hk, Hk, rfl⟩ := hrel
        by_cases hlt : k < l.length
        · have hc := UInt8.toNat_lt l[k]
          by_cases h1 : (l[k].toNat : Int) < (a : Int)
          · go_wp2_with fail
            go_ret
            exact ⟨by rw [hd.out, all_false hlt (by simp [inB]; omega)]; rfl, rfl⟩
          · by_cases h2 : (l[k].toNat : Int) > (b : Int)
            · go_wp2_with fail
              go_ret
              exact ⟨by rw [hd.out, all_false hlt (by simp [inB]; omega)]; rfl, rfl⟩
            · go_wp2_with fail
              go_round
              case rel => exact ⟨k + 1, by omega, hid (by rw [all_take _ _ _ hlt, Hk.out]; simp [inB]; omega), by go_num⟩
              case measure => simp [intOf]; omega
        · obtain rfl : k = l.length := by omega
          go_wp2_with fail
          go_ret
          have h1 := Hk.out
          rw [List.take_length] at h1
          exact ⟨by rw [hd.out, h1]; rfl, rfl⟩
set_option maxHeartbeats 800000 in
theorem ismethod_any (l : List UInt8) (w : World) (hs : l.length ≤ 140737488351232) :
    Calls Tryz.prog 99 #[.string (bs l)] w fun e w' => e = .returned (.bool (methodB l)) ∧ w = w' := by
  have HE := hid (within_any l 65 90 w hs (by omega) (by omega))
  by_cases h0 : l = []
  · subst h0
    clear HE
    go_enter Tryz.func99, Tryz.ntmps99
    go_wp2_with fail
    go_ret
    exact ⟨rfl, rfl⟩
  · have hb : (l == []) = false := by simpa using h0
    have HN := hid (show methodB l = (decide (l.length ≤ 8) && l.all (inB 65 90)) by cases l <;> simp_all [methodB])
    clear h0
    by_cases h8 : l.length ≤ 8
    · go_enter Tryz.func99, Tryz.ntmps99
      go_wp2_with fail
      refine HE.out.mono ?_
      rintro e w' ⟨rfl, rfl⟩
      go_wp2_with fail
      go_ret
      exact ⟨by rw [HN.out, decide_eq_true h8]; rfl, rfl⟩
    · clear HE
      go_enter Tryz.func99, Tryz.ntmps99
      go_wp2_with fail
      go_ret
      exact ⟨by rw [HN.out, decide_eq_false h8]; rfl, rfl⟩
theorem prefix_slash (l : List UInt8) (w : World) : Calls Tryz.prog 109 #[.string (bs l), .string (ByteArray.mk #[47])] w fun e w' => e = .returned (.bool (List.isPrefixOf [47] l)) ∧ w = w' :=
  (Tryz.strings_HasPrefix (bs l) (ByteArray.mk #[47]) w).mono fun e w' ⟨h1, h2⟩ => ⟨by rw [h1, bs_data]; rfl, h2.symm⟩
set_option maxHeartbeats 800000 in
theorem ispath_any (l : List UInt8) (w : World) (hs : l.length ≤ 140737488351232) :
    Calls Tryz.prog 100 #[.string (bs l)] w fun e w' => e = .returned (.bool (pathB l)) ∧ w = w' := by
  have HE := hid (within_any l 33 126 w hs (by omega) (by omega))
  have HP := prefix_slash l w
  cases h0 : List.isPrefixOf [47] l
  · have HN := hid (show pathB l = false by rw [pathB, h0]; rfl)
    rw [h0] at HP
    have HP := hid HP
    clear HE h0
    go_enter Tryz.func100, Tryz.ntmps100
    go_wp2_with fail
    refine HP.out.mono ?_
    rintro e w' ⟨rfl, rfl⟩
    go_wp2_with fail
    go_ret
    exact ⟨by rw [HN.out]; rfl, rfl⟩
  · have HN := hid (show pathB l = (decide (l.length ≤ 64) && l.all (inB 33 126)) by rw [pathB, h0]; rfl)
    rw [h0] at HP
    have HP := hid HP
    clear h0
    by_cases h64 : l.length ≤ 64
    · go_enter Tryz.func100, Tryz.ntmps100
      go_wp2_with fail
      refine HP.out.mono ?_
      rintro e w' ⟨rfl, rfl⟩
      go_wp2_with fail
      refine HE.out.mono ?_
      rintro e w' ⟨rfl, rfl⟩
      go_wp2_with fail
      go_ret
      exact ⟨by rw [HN.out, decide_eq_true h64]; rfl, rfl⟩
    · clear HE
      go_enter Tryz.func100, Tryz.ntmps100
      go_wp2_with fail
      refine HP.out.mono ?_
      rintro e w' ⟨rfl, rfl⟩
      go_wp2_with fail
      go_ret
      exact ⟨by rw [HN.out, decide_eq_false h64]; rfl, rfl⟩
theorem methodB_of (l : List UInt8) : (decide (1 ≤ l.length) && (decide (l.length ≤ 8) && l.all (inB 65 90))) = methodB l := by
  cases l with
  | nil => rfl
  | cons c r => simp [methodB]
set_option maxHeartbeats 800000 in
theorem rmethod_any (l : List UInt8) (w : World) (hs : l.length ≤ 140737488351232) :
    Calls Tryz.prog 71 #[.string (bs l)] w fun e w' => e = .returned (.bool (methodB l)) ∧ w = w' := by
  have HE := reach_any l 1 8 65 90 w hs (by omega) (by omega) (by omega) (by omega)
  rw [methodB_of] at HE
  have HE := hid HE
  go_enter Tryz.func71, Tryz.ntmps71
  go_wp2_with fail
  refine HE.out.mono ?_
  rintro e w' ⟨rfl, rfl⟩
  go_wp2_with fail
  go_ret
  exact ⟨rfl, rfl⟩
set_option maxHeartbeats 800000 in
theorem rpath_any (l : List UInt8) (w : World) (hs : l.length ≤ 140737488351232) :
    Calls Tryz.prog 73 #[.string (bs l)] w fun e w' => e = .returned (.bool (pathB l)) ∧ w = w' := by
  have HE := reach_any l 1 64 33 126 w hs (by omega) (by omega) (by omega) (by omega)
  cases hb : (decide (1 ≤ l.length) && (decide (l.length ≤ 64) && l.all (inB 33 126)))
  · have HN := hid (show pathB l = false by
      cases l with
      | nil => rfl
      | cons c r =>
        have : (decide ((c :: r).length ≤ 64) && (c :: r).all (inB 33 126)) = false := by simpa using hb
        rw [pathB, this]; simp)
    rw [hb] at HE
    have HE := hid HE
    clear hb
    go_enter Tryz.func73, Tryz.ntmps73
    go_wp2_with fail
    refine HE.out.mono ?_
    rintro e w' ⟨rfl, rfl⟩
    go_wp2_with fail
    go_ret
    exact ⟨by rw [HN.out]; rfl, rfl⟩
  · rw [hb] at HE
    have HE := hid HE
    cases l with
    | nil => simp at hb
    | cons c r =>
      have HN := hid (show pathB (c :: r) = decide (c.toNat = 47) by
        have : (decide ((c :: r).length ≤ 64) && (c :: r).all (inB 33 126)) = true := by simpa using hb
        rw [pathB, this, Bool.eq_iff_iff]
        simp
        constructor
        · intro h; rw [← h]; rfl
        · intro h; exact (UInt8.toNat_inj.1 (by rw [h]; rfl)))
      have hc := c.toNat_lt
      clear hb
      have h0 : (c :: r)[0] = c := rfl
      have hl0 : 0 < (c :: r).length := by simp
      by_cases h47 : c.toNat = 47
      all_goals
        have H47 := hid h47
        have hbe : ((c.toNat : Int) == 47) = decide (c.toNat = 47) := by rw [Bool.eq_iff_iff]; simp; omega
        first | rw [decide_eq_true h47] at hbe | rw [decide_eq_false h47] at hbe
        clear h47
        go_enter Tryz.func73, Tryz.ntmps73
        go_wp2_with fail
        refine HE.out.mono ?_
        rintro e w' ⟨rfl, rfl⟩
        go_wp2_with fail
        go_ret
        refine ⟨?_, rfl⟩
        rw [HN.out]
        first | (rw [decide_eq_true H47.out]; rfl) | (rw [decide_eq_false H47.out]; rfl) | skip
end Go.Proofs.YtelglcakekgdeaaGreatDoor
namespace Go.Proofs.YtelglcakekgdeaaGreatDoor
set_option linter.unusedVariables false
set_option linter.unusedSimpArgs false
open Go.RowKit

set_option maxHeartbeats 800000 in
theorem oformat_any (l : List UInt8) (w : World) (hs : l.length ≤ 140737488351232) :
    Calls Tryz.prog 48 #[.string (bs l)] w fun e w' => e = .returned (.bool (fmtOK l)) ∧ w = w' := by
  by_cases h12 : l.length ≤ 120
  · have HN := hid (show fmtOK l = l.all (inB 32 126) by rw [fmtOK, decide_eq_true h12]; rfl)
    go_enter Tryz.func48, Tryz.ntmps48
    go_wp2_with fail
    go_loop [9] (fun i => ∃ k : Nat, k ≤ l.length ∧ Hid ((l.take k).all (inB 32 126) = true) ∧ i = .int .i64 k) (fun i => l.length - (intOf i).toNat)
    case atStart => exact ⟨0, by omega, hid rfl, rfl⟩
    case round =>
      obtain ⟨k, hk, Hk, rfl⟩ := hrel
      by_cases hlt : k < l.length
      · have hc := UInt8.toNat_lt l[k]
        by_cases h1 : (l[k].toNat : Int) < 32
        · go_wp2_with fail
          go_ret
          exact ⟨by rw [HN.out, all_false hlt (by simp [inB]; omega)]; rfl, rfl⟩
        · by_cases h2 : (l[k].toNat : Int) > 126
          · go_wp2_with fail
            go_ret
            exact ⟨by rw [HN.out, all_false hlt (by simp [inB]; omega)]; rfl, rfl⟩
          · go_wp2_with fail
            go_round
            case rel => exact ⟨k + 1, by omega, hid (by rw [all_take _ _ _ hlt, Hk.out]; simp [inB]; omega), by go_num⟩
            case measure => simp [intOf]; omega
      · obtain rfl : k = l.length := by omega
        go_wp2_with fail
        go_ret
        have h1 := Hk.out
        rw [List.take_length] at h1
        exact ⟨by rw [HN.out, h1]; rfl, rfl⟩
  · have HN := hid (show fmtOK l = false by rw [fmtOK, decide_eq_false h12]; rfl)
    go_enter Tryz.func48, Tryz.ntmps48
    go_wp2_with fail
    go_ret
    exact ⟨by rw [HN.out]; rfl, rfl⟩
set_option maxHeartbeats 800000 in
theorem rformat_any (l : List UInt8) (w : World) (hs : l.length ≤ 140737488351232) :
    Calls Tryz.prog 43 #[.string (bs l)] w fun e w' => e = .returned (.bool (fmtOK l)) ∧ w = w' := by
  by_cases h12 : l.length ≤ 120
  · have HN := hid (show fmtOK l = l.all (inB 32 126) by rw [fmtOK, decide_eq_true h12]; rfl)
    go_enter Tryz.func43, Tryz.ntmps43
    go_wp2_with fail
    go_loop [3] (fun i => ∃ k : Nat, k ≤ l.length ∧ Hid ((l.take k).all (inB 32 126) = true) ∧ i = .int .i64 k) (fun i => l.length - (intOf i).toNat)
    case atStart => exact ⟨0, by omega, hid rfl, rfl⟩
    case round =>
      obtain ⟨k, hk, Hk, rfl⟩ := hrel
      by_cases hlt : k < l.length
      · have hc := UInt8.toNat_lt l[k]
        by_cases h1 : (l[k].toNat : Int) < 32
        · go_wp2_with fail
          go_ret
          exact ⟨by rw [HN.out, all_false hlt (by simp [inB]; omega)]; rfl, rfl⟩
        · by_cases h2 : (l[k].toNat : Int) > 126
          · go_wp2_with fail
            go_ret
            exact ⟨by rw [HN.out, all_false hlt (by simp [inB]; omega)]; rfl, rfl⟩
          · go_wp2_with fail
            go_round
            case rel => exact ⟨k + 1, by omega, hid (by rw [all_take _ _ _ hlt, Hk.out]; simp [inB]; omega), by go_num⟩
            case measure => simp [intOf]; omega
      · obtain rfl : k = l.length := by omega
        go_wp2_with fail
        go_ret
        have h1 := Hk.out
        rw [List.take_length] at h1
        exact ⟨by rw [HN.out, h1]; rfl, rfl⟩
  · have HN := hid (show fmtOK l = false by rw [fmtOK, decide_eq_false h12]; rfl)
    go_enter Tryz.func43, Tryz.ntmps43
    go_wp2_with fail
    go_ret
    exact ⟨by rw [HN.out]; rfl, rfl⟩
end Go.Proofs.YtelglcakekgdeaaGreatDoor
