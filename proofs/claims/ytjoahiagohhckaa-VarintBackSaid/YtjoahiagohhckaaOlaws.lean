import Derived.Test.YtjoahiagohhckaaOk
import Derived.OpenShut
namespace Go.Proofs.Ytjoahiagohhckaa
set_option linter.unusedVariables false
open Go.RowKit

theorem u64_bd {n : Int} (h : (Lit.int .u64 n).wf = true) : 0 ≤ n ∧ Hid (n.toNat < 18446744073709551616) := by
  have := bounds_u64 h
  exact ⟨by omega, hid (by omega)⟩
theorem i64_bd {n : Int} (h : (Lit.int .i64 n).wf = true) : n ≤ 9223372036854775807 := by
  have := bounds_i64 h
  omega

set_option maxHeartbeats 800000 in
theorem octetPuts_walk (n wd : Int) (w0 : (Lit.int .u64 n).wf = true) (_w1 : (Lit.int .i64 wd).wf = true) (w : World) :
    Calls Try.prog 3 #[.int .u64 n, .int .i64 wd] w fun e w' => e = .returned (.bool true) ∧ Below w.heap.size w w' := by
  obtain ⟨h0, hn⟩ := u64_bd w0
  clear w0 _w1
  go_enter Try.func3, Try.ntmps3
  go_wp2_with fail
  refine (oput_any _ _ _ h0).mono ?_
  rintro e w1 ⟨rfl, hb1⟩
  go_wp2_with fail
  refine (rput_any _ _ _ h0 hn).mono ?_
  rintro e w2 ⟨rfl, hb2⟩
  go_wp2_with fail
  refine (known1_any _).mono ?_
  rintro e w3 ⟨rfl, hb3⟩
  go_wp2_with fail
  go_ret
  have h12 := hb1.trans (hb2.mono hb1.size)
  exact ⟨rfl, h12.trans (hb3.mono h12.size)⟩

theorem reach_size {s : ByteArray} (h : s.data.toList.length ≤ reachBytes) : s.size ≤ 140737488351232 := by
  have : s.size = s.data.toList.length := by rw [Array.length_toList]; rfl
  rw [this]; exact h
theorem max_of {s : ByteArray} (h : s.size ≤ 140737488351232) : s.size ≤ maxLen := by unfold maxLen; omega

set_option maxHeartbeats 800000 in
theorem octetGets_walk (s : ByteArray) (at' wd : Int) (w0 : s.data.toList.length ≤ reachBytes) (w1 : (Lit.int .i64 at').wf = true) (_w2 : (Lit.int .i64 wd).wf = true) (w : World) :
    Calls Try.prog 4 #[.string s, .int .i64 at', .int .i64 wd] w fun e w' => e = .returned (.bool true) ∧ Below w.heap.size w w' := by
  have hs := max_of (reach_size w0)
  have ha := i64_bd w1
  clear w0 w1 _w2
  go_enter Try.func4, Try.ntmps4
  go_wp2_with fail
  refine (oget_any _ _ _ _ hs ha).mono ?_
  rintro e w1 ⟨rfl, rfl⟩
  go_wp2_with fail
  refine (rget_any _ _ _ _ hs ha).mono ?_
  rintro e w2 ⟨rfl, rfl⟩
  go_wp2_with fail
  refine (known1_any _).mono ?_
  rintro e w3 ⟨rfl, hb3⟩
  go_wp2_with fail
  go_ret
  exact ⟨rfl, hb3⟩

set_option maxHeartbeats 800000 in
theorem octetDigits_walk (n wd : Int) (s : ByteArray) (w0 : (Lit.int .u64 n).wf = true) (_w1 : (Lit.int .i64 wd).wf = true) (w2 : s.data.toList.length ≤ reachBytes) (w : World) :
    Calls Try.prog 5 #[.int .u64 n, .int .i64 wd, .string s] w fun e w' => e = .returned (.bool true) ∧ Below w.heap.size w w' := by
  have hs := max_of (reach_size w2)
  obtain ⟨h0, hn⟩ := u64_bd w0
  clear w0 _w1 w2
  go_enter Try.func5, Try.ntmps5
  go_wp2_with fail
  refine (ohex_any _ _ _ h0).mono ?_
  rintro e w1 ⟨rfl, hb1⟩
  go_wp2_with fail
  refine (rhex_any _ _ _ h0 hn).mono ?_
  rintro e w2 ⟨rfl, hb2⟩
  go_wp2_with fail
  refine (ounhex_any _ _ hs).mono ?_
  rintro e w2 ⟨rfl, rfl⟩
  go_wp2_with fail
  refine (runhex_any _ _ hs).mono ?_
  rintro e w2 ⟨rfl, rfl⟩
  go_wp2_with fail
  refine (known1_any _).mono ?_
  rintro e w3 ⟨rfl, hb3⟩
  go_wp2_with fail
  go_ret
  have h12 := hb1.trans (hb2.mono hb1.size)
  exact ⟨rfl, h12.trans (hb3.mono h12.size)⟩
end Go.Proofs.Ytjoahiagohhckaa
