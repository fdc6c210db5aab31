import Derived.Test.YtjoahiagohhckaaVc
import Derived.Test.YtjoahiagohhckaaOlaws
namespace Go.Proofs.Ytjoahiagohhckaa
set_option linter.unusedVariables false
open Go.RowKit

set_option maxRecDepth 100000 in
set_option maxHeartbeats 2000000 in
theorem known2_any (w : World) :
    Calls Try.prog 23 #[] w fun e w' => e = .returned (.bool true) ∧ Below w.heap.size w w' := by
  go_enter Try.func23, Try.ntmps23
  go_wp2_with fail
  refine (vget_any [172, 2, 120] 0 _ (by decide)).mono ?_
  rintro e w1 ⟨rfl, rfl⟩
  rw [show vgetS [172, 2, 120] 0 = (300, 2, 0) from by decide +kernel]
  go_wp2_with fail
  refine (vtake_any [120, 2, 97, 98, 99] 1 9 _ (by decide) (by decide) (by decide)).mono ?_
  rintro e w2 ⟨rfl, rfl⟩
  rw [show takeS [120, 2, 97, 98, 99] 1 9 = ([97, 98], 4, 0) from by decide +kernel]
  go_wp2_with fail
  refine (vput_any 300 _ (hid (by decide))).mono ?_
  rintro e w3 ⟨rfl, hb3⟩
  rw [show vput 300 = [172, 2] from by decide +kernel]
  go_wp2_with fail
  refine (vtext_any [97, 98] _ (by decide)).mono ?_
  rintro e w4 ⟨rfl, hb4⟩
  rw [show textS [97, 98] = [2, 97, 98] from by decide +kernel]
  go_wp2_with fail
  go_goals
  go_ret
  exact ⟨rfl, hb3.trans (hb4.mono hb3.size)⟩

set_option maxRecDepth 100000 in
set_option maxHeartbeats 2000000 in
theorem varintForms_walk (n : Int) (s : ByteArray) (a : Int) (w0 : (Lit.int .u64 n).wf = true) (w1 : s.data.toList.length ≤ reachBytes) (w2 : (Lit.int .i64 a).wf = true) (w : World) :
    Calls Try.prog 7 #[.int .u64 n, .string s, .int .i64 a] w fun e w' => e = .returned (.bool true) ∧ Below w.heap.size w w' := by
  obtain ⟨l, rfl⟩ : ∃ l, s = bs l := ⟨_, bs_of s⟩
  rw [bs_data] at w1
  have hs : l.length ≤ 140737488351232 := w1
  obtain ⟨h0, hn⟩ := u64_bd w0
  obtain ⟨n, rfl⟩ := Int.eq_ofNat_of_zero_le h0
  rw [Int.toNat_natCast] at hn
  have ha := i64_bd w2
  clear w0 w1 w2 h0
  go_enter Try.func7, Try.ntmps7
  go_wp2_with fail
  refine (vget_any l a _ (by omega)).mono ?_
  rintro e w1 ⟨rfl, rfl⟩
  go_wp2_with fail
  refine (rvget_any l a _ (by omega) ha).mono ?_
  rintro e w1 ⟨rfl, rfl⟩
  go_wp2_with fail
  refine (vput_any n _ hn).mono ?_
  rintro e w3 ⟨rfl, hb3⟩
  go_wp2_with fail
  refine (rvput_any 9 n _ (by omega) (hid ⟨Nat.lt_of_lt_of_le hn.out (by decide), hn.out⟩)).mono ?_
  rintro e w4 ⟨rfl, hb4⟩
  rw [show vf 9 n = vput n from rfl]
  go_wp2_with fail
  refine (known2_any _).mono ?_
  rintro e w5 ⟨rfl, hb5⟩
  go_wp2_with fail
  go_ret
  have e1 := hb3.trans (hb4.mono hb3.size)
  exact ⟨rfl, e1.trans (hb5.mono e1.size)⟩

set_option maxRecDepth 100000 in
set_option maxHeartbeats 2000000 in
theorem varintTexts_walk (s : ByteArray) (a most : Int) (w0 : s.data.toList.length ≤ reachBytes) (w1 : (Lit.int .i64 a).wf = true) (w2 : (Lit.int .i64 most).wf = true) (w : World) :
    Calls Try.prog 8 #[.string s, .int .i64 a, .int .i64 most] w fun e w' => e = .returned (.bool true) ∧ Below w.heap.size w w' := by
  obtain ⟨l, rfl⟩ : ∃ l, s = bs l := ⟨_, bs_of s⟩
  rw [bs_data] at w0
  have hs : l.length ≤ 140737488351232 := w0
  have ha := i64_bd w1
  have hm := i64_bd w2
  clear w0 w1 w2
  by_cases hl : 2000 < l.length
  · go_enter Try.func8, Try.ntmps8
    go_wp2_with fail
    refine (known2_any _).mono ?_
    rintro e w5 ⟨rfl, hb5⟩
    go_wp2_with fail
    go_ret
    exact ⟨rfl, hb5⟩
  · go_enter Try.func8, Try.ntmps8
    go_wp2_with fail
    refine (vtake_any l a most _ hs ha hm).mono ?_
    rintro e w1 ⟨rfl, rfl⟩
    go_wp2_with fail
    refine (rvtake_any l a most _ hs ha hm).mono ?_
    rintro e w1 ⟨rfl, rfl⟩
    go_wp2_with fail
    refine (vtext_any l _ hs).mono ?_
    rintro e w3 ⟨rfl, hb3⟩
    go_wp2_with fail
    refine (rvtext_any l _ hs).mono ?_
    rintro e w4 ⟨rfl, hb4⟩
    go_wp2_with fail
    refine (known2_any _).mono ?_
    rintro e w5 ⟨rfl, hb5⟩
    go_wp2_with fail
    go_ret
    have e1 := hb3.trans (hb4.mono hb3.size)
    exact ⟨rfl, e1.trans (hb5.mono e1.size)⟩
end Go.Proofs.Ytjoahiagohhckaa
