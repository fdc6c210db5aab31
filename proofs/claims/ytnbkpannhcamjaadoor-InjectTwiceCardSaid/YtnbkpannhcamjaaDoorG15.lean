/- Texts put together: Ta. -/
import Derived.Test.YtnbkpannhcamjaaDoorG06
import Derived.Test.YtnbkpannhcamjaaDoorG04
import Derived.Test.YtnbkpannhcamjaaDoorG14
namespace Go.Proofs.YtnbkpannhcamjaaDoor
set_option linter.unusedVariables false
set_option linter.unusedSimpArgs false
open Go.RowKit

theorem lib_ib (l : List UInt8) (c : UInt8) (w : World) :
    Calls Tryd.prog 73 #[.string (bs l), .int .u8 c.toNat] w fun e w' => e = .returned (.int .i64 (Lib.indexByte l c)) ∧ w = w' :=
  (Tryd.strings_IndexByte (bs l) (c.toNat : Int) w).mono fun e w' ⟨a, b⟩ => ⟨by rw [a, bs_data]; simp, b.symm⟩
theorem idx_sign' : ∀ c : Fin 256, decide (0 ≤ Lib.indexByte [95, 45, 42, 47, 64] (UInt8.ofNat c.val)) = inSign (UInt8.ofNat c.val) := by decide +kernel
theorem idx_sign (c : UInt8) : decide (0 ≤ Lib.indexByte [95, 45, 42, 47, 64] c) = inSign c := by simpa using idx_sign' ⟨c.toNat, c.toNat_lt⟩
theorem idx_ce' : ∀ c : Fin 256, decide (Lib.indexByte [44, 61] (UInt8.ofNat c.val) < 0) = (decide ((UInt8.ofNat c.val).toNat ≠ 44) && decide ((UInt8.ofNat c.val).toNat ≠ 61)) := by decide +kernel
theorem idx_ce (c : UInt8) : decide (Lib.indexByte [44, 61] c < 0) = (decide (c.toNat ≠ 44) && decide (c.toNat ≠ 61)) := by simpa using idx_ce' ⟨c.toNat, c.toNat_lt⟩
set_option maxHeartbeats 800000 in
theorem tinkey_any (c : UInt8) (f : Bool) (w : World) :
    Calls Tryd.prog 60 #[.int .u8 c.toNat, .bool f] w fun e w' => e = .returned (.bool (inKeyB f c)) ∧ w = w' := by
  have hc := c.toNat_lt
  have hI := idx_sign c
  have HBd := hid (show inKeyB f c = (inKey0 c || (!f && inSign c)) from rfl)
  have H0 := hid (show inKey0 c = ((decide (97 ≤ c.toNat) && decide (c.toNat ≤ 122)) || (decide (48 ≤ c.toNat) && decide (c.toNat ≤ 57))) from rfl)
  have HS := hid (show inSign c = true → inKey0 c = false by
    simp only [inSign, inKey0, Bool.or_eq_true, decide_eq_true_eq, Bool.or_eq_false_iff, Bool.and_eq_false_iff, decide_eq_false_iff_not]; omega)
  have HX := hid (lib_ib [95, 45, 42, 47, 64] c)
  generalize Lib.indexByte [95, 45, 42, 47, 64] c = I at *
  generalize inKeyB f c = r at *
  cases hs : inSign c
  · have h0 : ¬ 0 ≤ I := by rw [hs] at hI; simpa using hI
    have HS2 := hid hs
    clear hI hs HS
    generalize c.toNat = m at *
    go_enter Tryd.func60, Tryd.ntmps60
    go_wp2_with fail
    refine (HX.out _).mono ?_
    rintro e w' ⟨rfl, rfl⟩
    go_wp2_with fail
    all_goals
      go_ret
      refine ⟨ret_bool ?_, rfl⟩
      rw [HBd.out, HS2.out, H0.out, Bool.eq_iff_iff]
      simp
      try omega
  · have h0 : 0 ≤ I := by rw [hs] at hI; simpa using hI
    have HS2 := hid hs
    have HS3 := hid (HS.out hs)
    clear hI hs HS H0
    generalize c.toNat = m at *
    cases f
    all_goals
      go_enter Tryd.func60, Tryd.ntmps60
      go_wp2_with fail
      refine (HX.out _).mono ?_
      rintro e w' ⟨rfl, rfl⟩
      go_wp2_with fail
      go_ret
      exact ⟨by rw [HBd.out, HS2.out, HS3.out]; rfl, rfl⟩
set_option maxHeartbeats 800000 in
theorem tinval_any (c : UInt8) (w : World) :
    Calls Tryd.prog 61 #[.int .u8 c.toNat] w fun e w' => e = .returned (.bool (inValB c)) ∧ w = w' := by
  have hc := c.toNat_lt
  have hI := idx_ce c
  have HX := hid (lib_ib [44, 61] c)
  have HBd := hid (show inValB c = (decide (32 ≤ c.toNat) && (decide (c.toNat ≤ 126) && (decide (Lib.indexByte [44, 61] c < 0)))) by rw [hI]; rfl)
  clear hI
  generalize Lib.indexByte [44, 61] c = I at *
  generalize inValB c = r at *
  generalize c.toNat = m at *
  by_cases h1 : 32 ≤ m ∧ m ≤ 126
  · obtain ⟨h1, h2⟩ := h1
    go_enter Tryd.func61, Tryd.ntmps61
    go_wp2_with fail
    refine (HX.out _).mono ?_
    rintro e w' ⟨rfl, rfl⟩
    go_wp2_with fail
    all_goals
      go_ret
      refine ⟨ret_bool ?_, rfl⟩
      rw [HBd.out, Bool.eq_iff_iff]
      simp
      try omega
  · have HN := hid (show r = false by rw [HBd.out, Bool.and_eq_false_iff, Bool.and_eq_false_iff, decide_eq_false_iff_not, decide_eq_false_iff_not]; omega)
    have h1' : m < 32 ∨ 126 < m := by omega
    clear h1
    rcases h1' with h1 | h1
    all_goals
      go_enter Tryd.func61, Tryd.ntmps61
      go_wp2_with fail
      go_ret
      exact ⟨by rw [HN.out]; rfl, rfl⟩
set_option maxHeartbeats 1600000 in
theorem tkey_any (l : List UInt8) (w : World) (hs : l.length ≤ 140737488351232) :
    Calls Tryd.prog 41 #[.string (bs l)] w fun e w' => e = .returned (.bool (keyB l)) ∧ w = w' := by
  by_cases h0 : l = []
  · subst h0
    go_enter Tryd.func41, Tryd.ntmps41
    go_wp2_with fail
    go_ret
    exact ⟨rfl, rfl⟩
  have hb : (l == []) = false := by simpa using h0
  have hpos : 0 < l.length := List.length_pos_iff.2 h0
  have HN := hid (show keyB l = (decide (l.length ≤ 32) && allK true l) by cases l <;> simp_all [keyB])
  clear h0
  by_cases h32 : l.length ≤ 32
  · have HN2 := hid (show keyB l = allK true (l.drop 0) by rw [HN.out, decide_eq_true h32]; rfl)
    clear HN
    have hnot := notB'
    go_enter Tryd.func41, Tryd.ntmps41
    go_wp2_with fail
    go_loop [13] (fun i => ∃ k : Nat, k ≤ l.length ∧ Hid (keyB l = allK (decide (k = 0)) (l.drop k)) ∧ i = .int .i64 k) (fun i => l.length - (intOf i).toNat)
    case atStart => exact ⟨0, by omega, hid (by rw [HN2.out]; rfl), rfl⟩
    case round =>
      obtain ⟨k, hk, Hk, rfl⟩ := hrel
      by_cases hlt : k < l.length
      · have HD := hid (allK_drop l (decide (k = 0)) k hlt)
        have he : ((k : Int) == 0) = decide (k = 0) := by rw [Bool.eq_iff_iff]; simp
        cases hp : inKeyB (decide (k = 0)) l[k]
        · have HP := hid hp
          clear hp
          go_wp2_with fail
          refine (tinkey_any _ _ _).mono ?_
          rintro e w' ⟨rfl, rfl⟩
          rw [HP.out]
          go_wp2_with fail
          go_ret
          exact ⟨by rw [Hk.out, HD.out, HP.out]; rfl, rfl⟩
        · have HP := hid hp
          clear hp
          go_wp2_with fail
          refine (tinkey_any _ _ _).mono ?_
          rintro e w' ⟨rfl, rfl⟩
          rw [HP.out]
          go_wp2_with fail
          go_round
          case rel => exact ⟨k + 1, by omega, hid (by rw [Hk.out, HD.out, HP.out, decide_eq_false (show ¬ k + 1 = 0 by omega)]; rfl), by go_num⟩
          case measure => simp [intOf]; omega
      · obtain rfl : k = l.length := by omega
        go_wp2_with fail
        go_ret
        exact ⟨by rw [Hk.out, List.drop_length]; rfl, rfl⟩
  · go_enter Tryd.func41, Tryd.ntmps41
    go_wp2_with fail
    go_ret
    exact ⟨by rw [HN.out, decide_eq_false h32]; rfl, rfl⟩
set_option maxHeartbeats 1600000 in
theorem tval_any (l : List UInt8) (w : World) (hs : l.length ≤ 140737488351232) :
    Calls Tryd.prog 42 #[.string (bs l)] w fun e w' => e = .returned (.bool (valM l)) ∧ w = w' := by
  by_cases h0 : l = []
  · subst h0
    go_enter Tryd.func42, Tryd.ntmps42
    go_wp2_with fail
    go_ret
    exact ⟨rfl, rfl⟩
  have hb : (l == []) = false := by simpa using h0
  have hpos : 0 < l.length := List.length_pos_iff.2 h0
  have HN := hid (show valM l = (decide (l.length ≤ 64) && (decide (l[l.length - 1].toNat ≠ 32) && l.all inValB)) by rw [valM, getLastD_at hpos]; cases l <;> simp_all)
  clear h0
  by_cases h64 : l.length ≤ 64
  · by_cases hl : l[l.length - 1].toNat = 32
    · have HZ := hid (show valM l = false by rw [HN.out, decide_eq_false (show ¬ l[l.length - 1].toNat ≠ 32 from fun h => h hl)]; simp)
      clear HN
      go_enter Tryd.func42, Tryd.ntmps42
      go_wp2_with fail
      go_ret
      exact ⟨by rw [HZ.out]; rfl, rfl⟩
    · have HN2 := hid (show valM l = l.all inValB by rw [HN.out, decide_eq_true h64, decide_eq_true hl]; rfl)
      have hl2 : ((l[l.length - 1].toNat : Int) == 32) = false := by simp; omega
      clear HN
      have hnot := notB'
      go_enter Tryd.func42, Tryd.ntmps42
      go_wp2_with fail
      clear hl hl2
      go_loop [21] (fun i => ∃ k : Nat, k ≤ l.length ∧ Hid ((l.take k).all inValB = true) ∧ i = .int .i64 k) (fun i => l.length - (intOf i).toNat)
      case atStart => exact ⟨0, by omega, hid rfl, rfl⟩
      case round =>
        obtain ⟨k, hk, Hk, rfl⟩ := hrel
        by_cases hlt : k < l.length
        · cases hp : inValB l[k]
          · have HP := hid hp
            clear hp
            go_wp2_with fail
            refine (tinval_any _ _).mono ?_
            rintro e w' ⟨rfl, rfl⟩
            rw [HP.out]
            go_wp2_with fail
            go_ret
            exact ⟨by rw [HN2.out, all_false hlt HP.out]; rfl, rfl⟩
          · have HP := hid hp
            clear hp
            go_wp2_with fail
            refine (tinval_any _ _).mono ?_
            rintro e w' ⟨rfl, rfl⟩
            rw [HP.out]
            go_wp2_with fail
            go_round
            case rel => exact ⟨k + 1, by omega, hid (by rw [all_take _ _ _ hlt, Hk.out, HP.out]; rfl), by go_num⟩
            case measure => simp [intOf]; omega
        · obtain rfl : k = l.length := by omega
          go_wp2_with fail
          go_ret
          have h1 := Hk.out
          rw [List.take_length] at h1
          exact ⟨by rw [HN2.out, h1]; rfl, rfl⟩
  · go_enter Tryd.func42, Tryd.ntmps42
    go_wp2_with fail
    go_ret
    exact ⟨by rw [HN.out, decide_eq_false h64]; rfl, rfl⟩
end Go.Proofs.YtnbkpannhcamjaaDoor
