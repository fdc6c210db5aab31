/- Texts put together: Ha Hb. -/
import Derived.Test.YtpfhmpblcmednaaRows
import Derived.Test.YtpfhmpblcmednaaD01
import Derived.Test.YtpfhmpblcmednaaD05
import Derived.Lib.SmallJoins
import Derived.WalkLawsBesides
namespace Go.Proofs.Ytpfhmpblcmednaa
set_option linter.unusedVariables false
set_option linter.unusedSimpArgs false
open Go.RowKit

theorem ret_bool {a b : Bool} (h : a = b) : Ending.returned (.bool a) = Ending.returned (.bool b) := by rw [h]
theorem notB' (x : Bool) (w : World) : (Op.unary .not (.bool x)).run Try.prog w = .ok (.bool (!x)) w := rfl
set_option maxHeartbeats 400000 in
theorem inName_any (c : UInt8) (w : World) :
    Calls Try.prog 120 #[.int .u8 c.toNat] w fun e w' => e = .returned (.bool (inNameB c)) ∧ w = w' := by
  have hc := c.toNat_lt
  unfold inNameB
  generalize c.toNat = m at *
  go_enter Try.func120, Try.ntmps120
  go_wp2_with fail
  all_goals
    go_ret
    refine ⟨ret_bool ?_, rfl⟩
    rw [Bool.eq_iff_iff]
    simp
    omega
set_option maxHeartbeats 800000 in
theorem each_any (F : Nat) (p : UInt8 → Bool) (l : List UInt8) (w : World) (hs : l.length ≤ 140737488351232)
    (eg : ∀ args w, (callFunc F args).run Try.prog w = .ok (.enter F args) w) (hF : ∀ (c : UInt8) (w : World), Calls Try.prog F #[.int .u8 c.toNat] w fun e w' => e = .returned (.bool (p c)) ∧ w = w') :
    Calls Try.prog 119 #[.string (bs l), .func (.func F) #[] #[]] w fun e w' => e = .returned (.bool (l.all p)) ∧ w = w' := by
  have HF := hid hF
  clear hF
  have hnot := notB'
  go_enter Try.func119, Try.ntmps119
  go_wp2_with fail
  go_loop [8] (fun i => ∃ k : Nat, k ≤ l.length ∧ Hid ((l.take k).all p = true) ∧ i = .int .i64 k) (fun i => l.length - (intOf i).toNat)
  case atStart => exact ⟨0, by omega, hid rfl, rfl⟩
  case round =>
    obtain ⟨k, hk, Hk, rfl⟩ := hrel
    by_cases hlt : k < l.length
    · by_cases hp : p l[k] = true
      · have HP := hid hp
        clear hp
        go_wp2_with fail
        refine (HF.out _ _).mono ?_
        rintro e w' ⟨rfl, rfl⟩
        rw [HP.out]
        go_wp2_with fail
        go_round
        case rel => exact ⟨k + 1, by omega, hid (by rw [all_take _ _ _ hlt, Hk.out, HP.out]; rfl), by go_num⟩
        case measure => simp [intOf]; omega
      · have hp' : p l[k] = false := by simpa using hp
        have HP := hid hp'
        clear hp hp'
        go_wp2_with fail
        refine (HF.out _ _).mono ?_
        rintro e w' ⟨rfl, rfl⟩
        rw [HP.out]
        go_wp2_with fail
        go_ret
        exact ⟨by rw [all_false hlt HP.out]; rfl, rfl⟩
    · obtain rfl : k = l.length := by omega
      go_wp2_with fail
      go_ret
      have h1 := Hk.out
      rw [List.take_length] at h1
      exact ⟨by rw [h1]; rfl, rfl⟩
set_option maxHeartbeats 800000 in
theorem hname_any (l : List UInt8) (w : World) (hs : l.length ≤ 140737488351232) :
    Calls Try.prog 84 #[.string (bs l)] w fun e w' => e = .returned (.bool (nameB l)) ∧ w = w' := by
  have HE := hid (each_any 120 inNameB l · hs (fun _ _ => by kernel_rfl) inName_any)
  by_cases h0 : l = []
  · subst h0
    clear HE
    go_enter Try.func84, Try.ntmps84
    go_wp2_with fail
    go_ret
    exact ⟨rfl, rfl⟩
  · have hb : (l == []) = false := by simpa using h0
    have HN := hid (show nameB l = (decide (l.length ≤ 32) && l.all inNameB) by cases l <;> simp_all [nameB])
    clear h0
    by_cases h32 : l.length ≤ 32
    · go_enter Try.func84, Try.ntmps84
      go_wp2_with fail
      refine (HE.out _).mono ?_
      rintro e w' ⟨rfl, rfl⟩
      go_wp2_with fail
      go_ret
      exact ⟨by rw [HN.out, decide_eq_true h32]; rfl, rfl⟩
    · go_enter Try.func84, Try.ntmps84
      go_wp2_with fail
      go_ret
      exact ⟨by rw [HN.out, decide_eq_false h32]; rfl, rfl⟩
theorem headD_at' (l : List UInt8) (h : 0 < l.length) : (l.headD 0).toNat = l[0].toNat := by rw [headD_at h]
set_option maxHeartbeats 1600000 in
theorem rname_any (l : List UInt8) (w : World) (hs : l.length ≤ 140737488351232) :
    Calls Try.prog 49 #[.string (bs l)] w fun e w' => e = .returned (.bool (nameB l)) ∧ w = w' := by
  by_cases h1 : 1 ≤ l.length ∧ l.length ≤ 32
  · obtain ⟨h1, h2⟩ := h1
    have HN := hid (show nameB l = l.all inNameB by rw [nameB, decide_eq_true h2]; cases l <;> simp_all)
    go_enter Try.func49, Try.ntmps49
    go_wp2_with fail
    go_loop [3] (fun i => ∃ k : Nat, k ≤ l.length ∧ Hid ((l.take k).all inNameB = true) ∧ i = .int .i64 k) (fun i => l.length - (intOf i).toNat)
    case atStart => exact ⟨0, by omega, hid rfl, rfl⟩
    case round =>
      obtain ⟨k, hk, Hk, rfl⟩ := hrel
      by_cases hlt : k < l.length
      · have hc := UInt8.toNat_lt l[k]
        by_cases h45 : l[k].toNat = 45
        · have hb : ((l[k].toNat : Int) != 45) = false := by simp; omega
          have H45 := hid h45
          clear h45
          go_wp2_with fail
          go_round
          case rel => exact ⟨k + 1, by omega, hid (by rw [all_take _ _ _ hlt, Hk.out]; simp [inNameB]; have := H45.out; omega), by go_num⟩
          case measure => simp [intOf]; omega
        · have hb : ((l[k].toNat : Int) != 45) = true := by simp; omega
          go_wp2_with fail
          all_goals first
            | (go_round
               case rel => exact ⟨k + 1, by omega, hid (by rw [all_take _ _ _ hlt, Hk.out]; simp [inNameB]; omega), by go_num⟩
               case measure => simp [intOf]; omega)
            | (go_ret
               exact ⟨by rw [HN.out, all_false hlt (by simp [inNameB]; omega)]; rfl, rfl⟩)
      · obtain rfl : k = l.length := by omega
        go_wp2_with fail
        go_ret
        have h1 := Hk.out
        rw [List.take_length] at h1
        exact ⟨by rw [HN.out, h1]; rfl, rfl⟩
  · have HN := hid (show nameB l = false by
      unfold nameB
      by_cases h0 : l = []
      · subst h0; rfl
      · have : 0 < l.length := List.length_pos_iff.2 h0
        rw [decide_eq_false (show ¬ l.length ≤ 32 by omega)]; simp)
    have h1' : l.length < 1 ∨ 32 < l.length := by omega
    clear h1
    rcases h1' with h1 | h1
    all_goals
      go_enter Try.func49, Try.ntmps49
      go_wp2_with fail
      go_ret
      exact ⟨by rw [HN.out]; rfl, rfl⟩
end Go.Proofs.Ytpfhmpblcmednaa
namespace Go.Proofs.Ytpfhmpblcmednaa
set_option linter.unusedVariables false
set_option linter.unusedSimpArgs false
open Go.RowKit

end Go.Proofs.Ytpfhmpblcmednaa
