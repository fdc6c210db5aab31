import Derived.Test.YtmdlkoigjacipaaRe
import Derived.Test.YtmdlkoigjacipaaEe
import Derived.Test.YtmdlkoigjacipaaHd
namespace Go.Proofs.Ytmdlkoigjacipaa
set_option linter.unusedVariables false
set_option linter.unusedSimpArgs false
open Go.RowKit Go.Joins

theorem rwithin_any (n p q : Int) (w : World) {z : Bool} (H : Hid ((decide (p ≤ n) && decide (n ≤ q)) = z)) :
    Calls Try.prog 38 #[.int .i64 n, .int .i64 p, .int .i64 q] w fun e w' => e = .returned (.bool z) ∧ w = w' := by
  by_cases h1 : p ≤ n
  all_goals by_cases h2 : n ≤ q
  all_goals
    go_enter Try.func38, Try.ntmps38
    go_wp2_with fail
    go_ret
    exact ⟨by rw [← H.out]; simp [h1, h2], rfl⟩
theorem ispart_any (n : Int) (w : World) {z : Bool} (H : Hid (inPct n = z)) :
    Calls Try.prog 66 #[.int .i64 n] w fun e w' => e = .returned (.bool z) ∧ w = w' := by
  have HW := hid (fun w2 => rwithin_any n 0 100 w2 H)
  go_enter Try.func66, Try.ntmps66
  go_wp2_with fail
  refine (HW.out _).mono ?_
  rintro e w1 ⟨rfl, rfl⟩
  go_wp2_with fail
  go_ret
  exact ⟨rfl, rfl⟩
theorem part_any (n : Int) (w : World) {z : Bool} (H : Hid (inPct n = z)) :
    Calls Try.prog 43 #[.int .i64 n] w fun e w' => e = .returned (.bool z) ∧ w = w' := by
  by_cases h1 : 0 ≤ n
  all_goals by_cases h2 : n ≤ 100
  all_goals
    go_enter Try.func43, Try.ntmps43
    go_wp2_with fail
    go_ret
    exact ⟨by rw [← H.out]; simp [inPct, h1, h2], rfl⟩
theorem unused_any (a b : Int) (w : World) {z : Bool} (H : Hid ((decide (a = 0) && decide (b = 0)) = z)) :
    Calls Try.prog 67 #[.int .i64 a, .int .i64 b] w fun e w' => e = .returned (.bool z) ∧ w = w' := by
  by_cases h1 : a = 0
  all_goals by_cases h2 : b = 0
  all_goals
    have d1 : decide (a = 0) = decide (a = 0) := rfl
    go_enter Try.func67, Try.ntmps67
    go_wp2_with fail
    go_ret
    exact ⟨by rw [← H.out]; simp [h1, h2], rfl⟩
/-- names: not too many, and none is too long. -/
def fewN (l : List (List UInt8)) : Bool := decide (l.length ≤ 20) && l.all fun e => decide (e.length ≤ 400)
set_option maxHeartbeats 4000000 in
theorem in_any (A : Option Addr) (cap : Nat) (l : List (List UInt8)) (v : List UInt8) (N : Nat → Prop) (w : World) (hR : STexts w N A l) (hl : l.length ≤ 9223372036854775807) {z : Bool} (H : Hid (inN l v = z)) :
    Calls Try.prog 42 #[.slice A l.length cap, .string (bs v)] w fun e w' => e = .returned (.bool z) ∧ w = w' := by
  have HR := hid hR
  clear hR
  go_enter Try.func42, Try.ntmps42
  go_wp2_with fail
  go_loop [5] (fun i => ∃ k : Nat, k ≤ l.length ∧ i = .int .i64 k ∧ Hid (inN (l.take k) v = false)) (fun i => l.length - (intOf i).toNat)
  case atStart => exact ⟨0, by omega, rfl, hid (by simp [inN, memB])⟩
  case round =>
    obtain ⟨k, hk, rfl, HW⟩ := hrel
    by_cases hlt : k < l.length
    · obtain ⟨ad, rfl, hB, hc⟩ := HR.out k hlt
      by_cases he : (l[k] == v) = true
      · have HE := hid (show inN l v = true by
          rw [inN, memB, List.contains_iff_mem]
          exact (eq_of_beq he) ▸ List.getElem_mem hlt)
        go_wp2_with fail
        go_ret
        exact ⟨by rw [← H.out, HE.out]; rfl, rfl⟩
      · have he' : (l[k] == v) = false := by simpa using he
        have HE := hid (show inN (l.take (k + 1)) v = false by
          have h1 := HW.out
          rw [Bool.eq_false_iff] at h1 ⊢
          intro h2
          have h1 : v ∉ l.take k := fun hm => h1 (List.contains_iff_mem.2 hm)
          rw [inN, memB, List.contains_iff_mem] at h2
          rw [← List.take_append_getElem hlt, List.mem_append] at h2
          rcases h2 with h2 | h2
          · exact h1 h2
          · rw [List.mem_singleton] at h2
            rw [← h2] at he'
            simp at he')
        clear he
        go_wp2_with fail
        go_round
        case rel => exact ⟨k + 1, by omega, by go_num, hid HE.out⟩
        case measure => simp [intOf]; omega
    · obtain rfl : k = l.length := by omega
      have HE := hid (show inN l v = false by have := HW.out; rw [List.take_length] at this; exact this)
      go_wp2_with fail
      go_ret
      exact ⟨by rw [← H.out, HE.out]; rfl, rfl⟩
set_option maxHeartbeats 4000000 in
theorem names_any (A : Option Addr) (cap : Nat) (l : List (List UInt8)) (N : Nat → Prop) (w : World) (hR : STexts w N A l) (hl : l.length ≤ 9223372036854775807) (hs : ∀ e ∈ l, e.length ≤ 9223372036854775807) {z : Bool} (H : Hid (fewN l = z)) :
    Calls Try.prog 18 #[.slice A l.length cap] w fun e w' => e = .returned (.bool z) ∧ w = w' := by
  have HR := hid hR
  have HS := hid hs
  clear hR hs
  go_enter Try.func18, Try.ntmps18
  go_wp2_with fail
  go_loop [3] (fun i => ∃ k : Nat, k ≤ l.length ∧ k ≤ 21 ∧ i = .int .i64 k ∧ Hid ((l.take k).all (fun e => decide (e.length ≤ 400)) = true)) (fun i => l.length - (intOf i).toNat)
  case atStart => exact ⟨0, by omega, by omega, rfl, hid rfl⟩
  case round =>
    obtain ⟨k, hk, hk2, rfl, HW⟩ := hrel
    by_cases hlt : k < l.length
    · have hd0 : decide ((k : Int) < (l.length : Int)) = true := decide_eq_true (by omega)
      by_cases h20 : k ≤ 20
      · have hd1 : decide ((k : Int) ≤ 20) = true := decide_eq_true (by omega)
        obtain ⟨ad, rfl, hB, hc⟩ := HR.out k hlt
        have hsz := HS.out l[k] (List.getElem_mem hlt)
        have HT := hid (all_take' (fun e : List UInt8 => decide (e.length ≤ 400)) l k hlt)
        have HF := hid (fun (hp : decide (l[k].length ≤ 400) = false) => all_false' (p := fun e : List UInt8 => decide (e.length ≤ 400)) hlt hp)
        generalize l[k] = y at *
        by_cases hle : y.length ≤ 400
        · have hd : decide ((400 : Int) < (y.length : Int)) = false := decide_eq_false (by omega)
          go_wp2_with fail
          go_round
          case rel => exact ⟨k + 1, by omega, by omega, by go_num, hid (by rw [HT.out, HW.out, decide_eq_true hle]; rfl)⟩
          case measure => simp [intOf]; omega
        · have hd : decide ((400 : Int) < (y.length : Int)) = true := decide_eq_true (by omega)
          have HE := hid (show fewN l = false by rw [fewN, HF.out (decide_eq_false hle), Bool.and_false])
          go_wp2_with fail
          go_ret
          exact ⟨by rw [← H.out, HE.out]; rfl, rfl⟩
      · have hd1 : decide ((k : Int) ≤ 20) = false := decide_eq_false (by omega)
        have hd2 : decide ((l.length : Int) ≤ 20) = false := decide_eq_false (by omega)
        have HE := hid (show fewN l = false by rw [fewN, decide_eq_false (by omega), Bool.false_and])
        go_wp2_with fail
        go_ret
        exact ⟨by rw [← H.out, HE.out]; rfl, rfl⟩
    · obtain rfl : k = l.length := by omega
      have hd0 : decide ((l.length : Int) < (l.length : Int)) = false := decide_eq_false (by omega)
      have hall : l.all (fun e => decide (e.length ≤ 400)) = true := by have := HW.out; rw [List.take_length] at this; exact this
      have HE := hid (show fewN l = decide ((l.length : Int) ≤ 20) by rw [fewN, hall, Bool.and_true]; exact decide_eq_decide.2 (by omega))
      clear hall
      go_wp2_with fail
      go_ret
      exact ⟨by rw [← H.out, HE.out]; rfl, rfl⟩
end Go.Proofs.Ytmdlkoigjacipaa
