import Derived.Test.YtjoahiagohhckaaVl
import Derived.Test.YtjoahiagohhckaaVq
import Derived.Deep.QuietTactic
import Derived.BigQuiet
import Derived.Deep.RegionHeld3
namespace Go.Proofs.Ytjoahiagohhckaa
set_option linter.unusedVariables false
open Go.RowKit

theorem below_step {a b c : World} (h : Below a.heap.size a b) (k : Below b.heap.size b c) : Below a.heap.size a c := h.trans (k.mono h.size)
set_option maxRecDepth 100000 in
set_option maxHeartbeats 400000 in
theorem varintBack_small (n : Nat) (la lb : List UInt8) (hn : Hid (n < 18446744073709551616)) (ha : la.length ≤ 2000) (hb : lb.length ≤ 2000) (w : World) :
    Calls Try.prog 9 #[.int .u64 n, .string (bs la), .string (bs lb)] w fun e w' => e = .returned (.bool true) ∧ Below w.heap.size w w' := by
  have hl := vput_length_le n
  have hl2 := vput_length_le lb.length
  have htl : (textS lb).length ≤ 2010 := by rw [textS, List.length_append]; omega
  have G1 := hid (vgetS_vput n la lb hn.out)
  have TT := hid (takeS_textS la lb (by omega))
  obtain ⟨N, X, E, hv⟩ : ∃ N X E, vgetS lb 0 = (N, X, E) := ⟨_, _, _, rfl⟩
  have HV := hid hv
  clear hv
  by_cases he : E = 0
  · subst he
    obtain ⟨g1, g2, g3, g4⟩ := vgetS_back HV.out
    obtain ⟨x, rfl⟩ := Int.eq_ofNat_of_zero_le (show 0 ≤ X by omega)
    rw [Int.toNat_natCast] at g4
    have G3 := hid g1
    have G4 := hid g4
    clear g1 g4
    have hd1 : decide ((x : Int) < 1) = false := by simp; omega
    have hd2 : decide (lb.length < x) = false := by simp; omega
    have hd3 : decide (x < 1) = false := by simp; omega
    have hcut : (bs lb).extract 0 x = bs (lb.take x) := by rw [bs_extract]; simp
    go_enter Try.func9, Try.ntmps9
    go_wp2_with fail
    refine (vput_any n _ hn).mono ?_
    rintro e w1 ⟨rfl, hb1⟩
    go_wp2_with fail
    refine (vget_any _ _ _ ?_).mono ?_
    · simp; omega
    rintro e w2 ⟨rfl, rfl⟩
    rw [G1.out]
    go_wp2_with fail
    refine (vget_any lb 0 _ (by omega)).mono ?_
    rintro e w2 ⟨rfl, rfl⟩
    rw [HV.out]
    go_wp2_with fail
    have hb1d := hb1.drew
    go_region_held3 (fun w' => Below w.heap.size w w') (first | exact hb1d | assumption | exact below_step (by assumption) hb3) (first | (go_at_call 21; refine (vput_any N _ G3).mono ?_; rintro e w3 ⟨rfl, hb3⟩; rw [G4.out]))
    rename_i hb13
    go_wp2_with fail
    refine (vtext_any lb _ (by omega)).mono ?_
    rintro e w4 ⟨rfl, hb4⟩
    go_wp2_with fail
    refine (vtake_any _ _ _ _ ?_ (by omega) (by omega)).mono ?_
    · simp; omega
    rintro e w5 ⟨rfl, rfl⟩
    rw [TT.out]
    go_wp2_with fail
    refine (vtext_any lb _ (by omega)).mono ?_
    rintro e w6 ⟨rfl, hb6⟩
    go_wp2_with fail
    refine (known2_any _).mono ?_
    rintro e w7 ⟨rfl, hb7⟩
    go_wp2_with fail
    go_ret

    exact ⟨rfl, below_step (below_step (below_step hb13 hb4) hb6) hb7⟩
  · have hb1 : (E == 0) = false := by simpa using he
    clear he
    go_enter Try.func9, Try.ntmps9
    go_wp2_with fail
    refine (vput_any n _ hn).mono ?_
    rintro e w1 ⟨rfl, hb1⟩
    go_wp2_with fail
    refine (vget_any _ _ _ ?_).mono ?_
    · simp; omega
    rintro e w2 ⟨rfl, rfl⟩
    rw [G1.out]
    go_wp2_with fail
    refine (vget_any lb 0 _ (by omega)).mono ?_
    rintro e w2 ⟨rfl, rfl⟩
    rw [HV.out]
    go_wp2_with fail
    go_quiet (fail)
    go_wp2_with fail
    refine (vtext_any lb _ (by omega)).mono ?_
    rintro e w4 ⟨rfl, hb4⟩
    go_wp2_with fail
    refine (vtake_any _ _ _ _ ?_ (by omega) (by omega)).mono ?_
    · simp; omega
    rintro e w5 ⟨rfl, rfl⟩
    rw [TT.out]
    go_wp2_with fail
    refine (vtext_any lb _ (by omega)).mono ?_
    rintro e w6 ⟨rfl, hb6⟩
    go_wp2_with fail
    refine (known2_any _).mono ?_
    rintro e w7 ⟨rfl, hb7⟩
    go_wp2_with fail
    go_ret

    exact ⟨rfl, below_step (below_step (below_step (below_drewN hb1 _) hb4) hb6) hb7⟩

set_option maxRecDepth 100000 in
set_option maxHeartbeats 1000000 in
theorem varintBack_walk (n : Int) (a b : ByteArray) (w0 : (Lit.int .u64 n).wf = true) (w1 : a.data.toList.length ≤ reachBytes) (w2 : b.data.toList.length ≤ reachBytes) (w : World) :
    Calls Try.prog 9 #[.int .u64 n, .string a, .string b] w fun e w' => e = .returned (.bool true) ∧ Below w.heap.size w w' := by
  obtain ⟨h0, hn⟩ := u64_bd w0
  obtain ⟨n, rfl⟩ := Int.eq_ofNat_of_zero_le h0
  rw [Int.toNat_natCast] at hn
  obtain ⟨la, rfl⟩ : ∃ l, a = bs l := ⟨_, bs_of a⟩
  obtain ⟨lb, rfl⟩ : ∃ l, b = bs l := ⟨_, bs_of b⟩
  rw [bs_data] at w1 w2
  have ha : la.length ≤ 140737488351232 := w1
  have hb : lb.length ≤ 140737488351232 := w2
  clear w0 w1 w2 h0
  by_cases h : 2000 < la.length ∨ 2000 < lb.length
  · go_enter Try.func9, Try.ntmps9
    go_wp2_with (go_at_call 23; refine (known2_any _).mono ?_; rintro e w5 ⟨rfl, hb5⟩)
    all_goals
      go_ret
      exact ⟨rfl, hb5⟩
  · exact varintBack_small n la lb hn (by omega) (by omega) w
end Go.Proofs.Ytjoahiagohhckaa
