/- Texts put together: Ha Hb. -/
import Derived.Test.YtelglcakekgdeaaGreatDoorRows
import Derived.Test.YtelglcakekgdeaaGreatDoorG01
import Derived.Test.YtelglcakekgdeaaGreatDoorG04
import Derived.Lib.SmallJoins
import Derived.WalkLawsBesides
namespace Go.Proofs.YtelglcakekgdeaaGreatDoor
set_option linter.unusedVariables false
set_option linter.unusedSimpArgs false
open Go.RowKit

theorem ret_bool {a b : Bool} (h : a = b) : Ending.returned (.bool a) = Ending.returned (.bool b) := by rw [h]
theorem notB' (x : Bool) (w : World) : (Op.unary .not (.bool x)).run Tryz.prog w = .ok (.bool (!x)) w := rfl
set_option maxHeartbeats 400000 in
theorem inName_any (c : UInt8) (w : World) :
    Calls Tryz.prog 83 #[.int .u8 c.toNat] w fun e w' => e = .returned (.bool (inNameB c)) ∧ w = w' := by
  have hc := c.toNat_lt
  unfold inNameB
  generalize c.toNat = m at *
  go_enter Tryz.func83, Tryz.ntmps83
  go_wp2_with fail
  all_goals
    go_ret
    refine ⟨ret_bool ?_, rfl⟩
    rw [Bool.eq_iff_iff]
    simp
    omega
set_option maxHeartbeats 400000 in
theorem inValue_any (c : UInt8) (w : World) :
    Calls Tryz.prog 132 #[.int .u8 c.toNat] w fun e w' => e = .returned (.bool (inValueB c)) ∧ w = w' := by
  have hc := c.toNat_lt
  unfold inValueB
  generalize c.toNat = m at *
  go_enter Tryz.func132, Tryz.ntmps132
  go_wp2_with fail
  all_goals
    go_ret
    refine ⟨ret_bool ?_, rfl⟩
    rw [Bool.eq_iff_iff]
    simp
    omega
set_option maxHeartbeats 800000 in
theorem each_any (F : Nat) (p : UInt8 → Bool) (l : List UInt8) (w : World) (hs : l.length ≤ 140737488351232)
    (eg : ∀ args w, (callFunc F args).run Tryz.prog w = .ok (.enter F args) w) (hF : ∀ (c : UInt8) (w : World), Calls Tryz.prog F #[.int .u8 c.toNat] w fun e w' => e = .returned (.bool (p c)) ∧ w = w') :
    Calls Tryz.prog 82 #[.string (bs l), .func (.func F) #[] #[]] w fun e w' => e = .returned (.bool (l.all p)) ∧ w = w' := by
  have HF := hid hF
  clear hF
  have hnot := notB'
  go_enter Tryz.func82, Tryz.ntmps82
  go_wp2_with fail
  go_loop [8] (fun i => ∃ k : Nat, k ≤ l.length ∧ Hid ((l.take k).all p = true) ∧ i = .int .i64 k) (fun i => l.length - (intOf i).toNat)
  case atStart => exact ⟨0, by omega, hid rfl, rfl⟩
  case round =>
    obtain ⟨k, hk, Hk, rfl⟩ := hrel
    by_cases hlt : k < l.length
    · by_cases hp : p l[k] = true
      · have HP := hid hp
        clear hp
        go_wp2_with fail
        refine (HF.out _ _).mono ?_
        rintro e w' ⟨rfl, rfl⟩
        rw [HP.out]
        go_wp2_with fail
        go_round
        case rel => exact ⟨k + 1, by omega, hid (by rw [all_take _ _ _ hlt, Hk.out, HP.out]; rfl), by go_num⟩
        case measure => simp [intOf]; omega
      · have hp' : p l[k] = false := by simpa using hp
        have HP := hid hp'
        clear hp hp'
        go_wp2_with fail
        refine (HF.out _ _).mono ?_
        rintro e w' ⟨rfl, rfl⟩
        rw [HP.out]
        go_wp2_with fail
        go_ret
        exact ⟨by rw [all_false hlt HP.out]; rfl, rfl⟩
    · obtain rfl : k = l.length := by omega
      go_wp2_with fail
      go_ret
      have h1 := Hk.out
      rw [List.take_length] at h1
      exact ⟨by rw [h1]; rfl, rfl⟩
set_option maxHeartbeats 800000 in
theorem hname_any (l : List UInt8) (w : World) (hs : l.length ≤ 140737488351232) :
    Calls Tryz.prog 63 #[.string (bs l)] w fun e w' => e = .returned (.bool (nameB l)) ∧ w = w' := by
  have HE := hid (each_any 83 inNameB l · hs (fun _ _ => by kernel_rfl) inName_any)
  by_cases h0 : l = []
  · subst h0
    clear HE
    go_enter Tryz.func63, Tryz.ntmps63
    go_wp2_with fail
    go_ret
    exact ⟨rfl, rfl⟩
  · have hb : (l == []) = false := by simpa using h0
    have HN := hid (show nameB l = (decide (l.length ≤ 32) && l.all inNameB) by cases l <;> simp_all [nameB])
    clear h0
    by_cases h32 : l.length ≤ 32
    · go_enter Tryz.func63, Tryz.ntmps63
      go_wp2_with fail
      refine (HE.out _).mono ?_
      rintro e w' ⟨rfl, rfl⟩
      go_wp2_with fail
      go_ret
      exact ⟨by rw [HN.out, decide_eq_true h32]; rfl, rfl⟩
    · go_enter Tryz.func63, Tryz.ntmps63
      go_wp2_with fail
      go_ret
      exact ⟨by rw [HN.out, decide_eq_false h32]; rfl, rfl⟩
theorem headD_at' (l : List UInt8) (h : 0 < l.length) : (l.headD 0).toNat = l[0].toNat := by rw [headD_at h]
set_option maxHeartbeats 1600000 in
theorem hvalue_any (l : List UInt8) (w : World) (hs : l.length ≤ 140737488351232) :
    Calls Tryz.prog 124 #[.string (bs l)] w fun e w' => e = .returned (.bool (valueB l)) ∧ w = w' := by
  have HE := hid (each_any 132 inValueB l · hs (fun _ _ => by kernel_rfl) inValue_any)
  have hnot := notB'
  by_cases h64 : l.length ≤ 64
  · by_cases ha : l.all inValueB = true
    · have HN := hid (show valueB l = endsB l by rw [valueB, decide_eq_true h64, ha]; rfl)
      have HA := hid ha
      clear ha
      by_cases h0 : l = []
      · subst h0
        go_enter Tryz.func124, Tryz.ntmps124
        go_wp2_with fail
        refine (HE.out _).mono ?_
        rintro e w' ⟨rfl, rfl⟩
        rw [HA.out]
        go_wp2_with fail
        go_ret
        exact ⟨by rw [HN.out]; rfl, rfl⟩
      · have hb : (l == []) = false := by simpa using h0
        have hl : 0 < l.length := List.length_pos_iff.2 h0
        have HN2 := hid (show endsB l = (decide (l[0].toNat ≠ 32) && decide (l[l.length - 1].toNat ≠ 32)) by rw [endsB, headD_at hl, getLastD_at hl]; cases l <;> simp_all)
        clear h0
        go_enter Tryz.func124, Tryz.ntmps124
        go_wp2_with fail
        refine (HE.out _).mono ?_
        rintro e w' ⟨rfl, rfl⟩
        rw [HA.out]
        go_wp2_with fail
        all_goals
          go_ret
          refine ⟨ret_bool ?_, rfl⟩
          rw [HN.out, HN2.out, Bool.eq_iff_iff]
          simp
          omega
    · have ha' : l.all inValueB = false := by simpa using ha
      have HN := hid (show valueB l = false by rw [valueB, ha']; simp)
      have HA := hid ha'
      clear ha ha'
      go_enter Tryz.func124, Tryz.ntmps124
      go_wp2_with fail
      refine (HE.out _).mono ?_
      rintro e w' ⟨rfl, rfl⟩
      rw [HA.out]
      go_wp2_with fail
      go_ret
      exact ⟨by rw [HN.out]; rfl, rfl⟩
  · have HN := hid (show valueB l = false by rw [valueB, decide_eq_false h64]; rfl)
    clear HE
    go_enter Tryz.func124, Tryz.ntmps124
    go_wp2_with fail
    go_ret
    exact ⟨by rw [HN.out]; rfl, rfl⟩
set_option maxHeartbeats 1600000 in
theorem rname_any (l : List UInt8) (w : World) (hs : l.length ≤ 140737488351232) :
    Calls Tryz.prog 72 #[.string (bs l)] w fun e w' => e = .returned (.bool (nameB l)) ∧ w = w' := by
  by_cases h1 : 1 ≤ l.length ∧ l.length ≤ 32
  · obtain ⟨h1, h2⟩ := h1
    have HN := hid (show nameB l = l.all inNameB by rw [nameB, decide_eq_true h2]; cases l <;> simp_all)
    go_enter Tryz.func72, Tryz.ntmps72
    go_wp2_with fail
    go_loop [3] (fun i => ∃ k : Nat, k ≤ l.length ∧ Hid ((l.take k).all inNameB = true) ∧ i = .int .i64 k) (fun i => l.length - (intOf i).toNat)
    case atStart => exact ⟨0, by omega, hid rfl, rfl⟩
    case round =>
      obtain ⟨k, hk, Hk, rfl⟩ := hrel
      by_cases hlt : k < l.length
      · have hc := UInt8.toNat_lt l[k]
        by_cases h45 : l[k].toNat = 45
        · have hb : ((l[k].toNat : Int) != 45) = false := by simp; omega
          have H45 := hid h45
          clear h45
          go_wp2_with fail
          go_round
          case rel => exact ⟨k + 1, by omega, hid (by rw [all_take _ _ _ hlt, Hk.out]; simp [inNameB]; have := H45.out; omega), by go_num⟩
          case measure => simp [intOf]; omega
        · have hb : ((l[k].toNat : Int) != 45) = true := by simp; omega
          go_wp2_with fail
          all_goals first
            | (go_round
               case rel => exact ⟨k + 1, by omega, hid (by rw [all_take _ _ _ hlt, Hk.out]; simp [inNameB]; omega), by go_num⟩
               case measure => simp [intOf]; omega)
            | (go_ret
               exact ⟨by rw [HN.out, all_false hlt (by simp [inNameB]; omega)]; rfl, rfl⟩)
      · obtain rfl : k = l.length := by omega
        go_wp2_with fail
        go_ret
        have h1 := Hk.out
        rw [List.take_length] at h1
        exact ⟨by rw [HN.out, h1]; rfl, rfl⟩
  · have HN := hid (show nameB l = false by
      unfold nameB
      by_cases h0 : l = []
      · subst h0; rfl
      · have : 0 < l.length := List.length_pos_iff.2 h0
        rw [decide_eq_false (show ¬ l.length ≤ 32 by omega)]; simp)
    have h1' : l.length < 1 ∨ 32 < l.length := by omega
    clear h1
    rcases h1' with h1 | h1
    all_goals
      go_enter Tryz.func72, Tryz.ntmps72
      go_wp2_with fail
      go_ret
      exact ⟨by rw [HN.out]; rfl, rfl⟩
set_option maxHeartbeats 1600000 in
theorem rvalue_any (l : List UInt8) (w : World) (hs : l.length ≤ 140737488351232) :
    Calls Tryz.prog 74 #[.string (bs l)] w fun e w' => e = .returned (.bool (valueB l)) ∧ w = w' := by
  by_cases h64 : l.length ≤ 64
  · have HN := hid (show valueB l = (l.all inValueB && endsB l) by rw [valueB, decide_eq_true h64]; rfl)
    go_enter Tryz.func74, Tryz.ntmps74
    go_wp2_with fail
    go_loop [3] (fun i => ∃ k : Nat, k ≤ l.length ∧ Hid ((l.take k).all inValueB = true) ∧ i = .int .i64 k) (fun i => l.length - (intOf i).toNat)
    case atStart => exact ⟨0, by omega, hid rfl, rfl⟩
    case round =>
      obtain ⟨k, hk, Hk, rfl⟩ := hrel
      by_cases hlt : k < l.length
      · have hc := UInt8.toNat_lt l[k]
        go_wp2_with fail
        all_goals first
          | (go_round
             case rel => exact ⟨k + 1, by omega, hid (by rw [all_take _ _ _ hlt, Hk.out]; simp [inValueB]; omega), by go_num⟩
             case measure => simp [intOf]; omega)
          | (go_ret
             exact ⟨by rw [HN.out, all_false hlt (by simp [inValueB]; omega)]; rfl, rfl⟩)
      · obtain rfl : k = l.length := by omega
        have h1 := Hk.out
        rw [List.take_length] at h1
        have HA := hid h1
        clear h1
        by_cases h0 : l = []
        · subst h0
          go_wp2_with fail
          go_ret
          exact ⟨by rw [HN.out]; rfl, rfl⟩
        · have hl : 0 < l.length := List.length_pos_iff.2 h0
          have HN2 := hid (show endsB l = (decide (l[0].toNat ≠ 32) && decide (l[l.length - 1].toNat ≠ 32)) by rw [endsB, headD_at hl, getLastD_at hl]; cases l <;> simp_all)
          have hn0 : ((l.length : Int) == 0) = false := by simp; omega
          clear h0
          go_wp2_with fail
          all_goals
            go_ret
            refine ⟨ret_bool ?_, rfl⟩
            rw [HN.out, HA.out, HN2.out, Bool.eq_iff_iff]
            simp
            omega
  · have HN := hid (show valueB l = false by rw [valueB, decide_eq_false h64]; rfl)
    go_enter Tryz.func74, Tryz.ntmps74
    go_wp2_with fail
    go_ret
    exact ⟨by rw [HN.out]; rfl, rfl⟩
end Go.Proofs.YtelglcakekgdeaaGreatDoor
namespace Go.Proofs.YtelglcakekgdeaaGreatDoor
set_option linter.unusedVariables false
set_option linter.unusedSimpArgs false
open Go.RowKit

set_option maxHeartbeats 1600000 in
theorem hcheck_any (A : Option Addr) (cap : Nat) (L : List Hd) (w : World) (hR : HReads w (· < w.heap.size) A L) (hl : L.length ≤ 1000000) (hs : ∀ h ∈ L, h.1.length ≤ 140737488351232 ∧ h.2.length ≤ 140737488351232) :
    Calls Tryz.prog 114 #[.slice A L.length cap] w fun e w' => e = .returned (.int .i64 (checkS L)) ∧ Below w.heap.size w w' := by
  have HR := hid hR
  have HS := hid hs
  clear hR hs
  by_cases h16 : 16 < L.length
  · have HC := hid (show checkS L = 8 by rw [checkS, if_pos h16])
    go_enter Tryz.func114, Tryz.ntmps114
    go_wp2_with fail
    go_ret
    exact ⟨by rw [HC.out]; rfl, Below.refl _ _⟩
  · have HC := hid (show checkS L = faultS (L.drop 0) by rw [checkS, if_neg h16]; rfl)
    have hnot := notB'
    go_enter Tryz.func114, Tryz.ntmps114
    go_wp2_with fail
    go_loopw [10] (fun i wr => ∃ k : Nat, k ≤ L.length ∧ i = .int .i64 k ∧ Hid (faultS (L.drop 0) = faultS (L.drop k) ∧ Below w.heap.size w wr)) (fun i _ => L.length - (intOf i).toNat)
    case atStart => exact ⟨0, by omega, rfl, hid ⟨rfl, Below.refl _ _⟩⟩
    case round =>
      obtain ⟨k, hk, rfl, HW⟩ := hrel
      by_cases hlt : k < L.length
      · obtain ⟨b, o, rfl, hB, hc0, hc1⟩ := (HR.out.below HW.out.2) k hlt
        have HF := hid (faultS_drop L k hlt)
        obtain ⟨hs0, hs1⟩ := HS.out _ (List.getElem_mem hlt)
        generalize L[k] = h at *
        obtain ⟨h0, h1⟩ := h
        have hsz : w.heap.size ≤ wr.heap.size := HW.out.2.size
        have HA := hid (HW.out.2.alloc hsz (.cells #[Value.string (bs h0), Value.string (bs h1)] 149))
        cases hn : nameB h0
        · have HN := hid hn
          clear hn
          go_wp2_with fail
          refine (hname_any _ _ hs0).mono ?_
          rintro e w1 ⟨rfl, rfl⟩
          rw [HN.out]
          go_wp2_with fail
          go_ret
          exact ⟨by rw [HC.out, HW.out.1, HF.out, if_pos HN.out]; rfl, HA.out⟩
        · have HN := hid hn
          clear hn
          cases hv : valueB h1
          all_goals
            have HV := hid hv
            clear hv
            go_wp2_with fail
            refine (hname_any _ _ hs0).mono ?_
            rintro e w1 ⟨rfl, rfl⟩
            rw [HN.out]
            go_wp2_with fail
            refine (hvalue_any _ _ hs1).mono ?_
            rintro e w1 ⟨rfl, rfl⟩
            rw [HV.out]
            go_wp2_with fail
          · go_ret
            exact ⟨by rw [HC.out, HW.out.1, HF.out, if_neg (by simp [HN.out]), if_pos HV.out]; rfl, HA.out⟩
          · go_roundw
            case rel => exact ⟨k + 1, by omega, by go_num, hid ⟨by rw [HW.out.1, HF.out, if_neg (by simp [HN.out]), if_neg (by simp [HV.out])], HA.out⟩⟩
            case measure => simp [intOf]; omega
      · obtain rfl : k = L.length := by omega
        go_wp2_with fail
        go_ret
        exact ⟨by rw [HC.out, HW.out.1, List.drop_length]; rfl, HW.out.2⟩
end Go.Proofs.YtelglcakekgdeaaGreatDoor
