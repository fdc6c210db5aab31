import Derived.Test.YtpmefaoplgjbdaaDoorMh
import Derived.Test.YtpmefaoplgjbdaaDoorHh
namespace Go.Proofs.YtpmefaoplgjbdaaDoor
set_option linter.unusedVariables false
set_option linter.unusedSimpArgs false
open Go.RowKit Go.Joins

set_option maxRecDepth 100000 in
set_option maxHeartbeats 1600000 in
/-- Two requests of the same parts are alike. -/
theorem same5_any (m h p : List UInt8) (A B : Option Addr) (ca cb : Nat) (L : List Hd) (b : List UInt8) (w : World) (hA : HReads w (· < w.heap.size) A L) (hB : HReads w (· < w.heap.size) B L) (hl : L.length ≤ 1000000) :
    Calls Tryd.prog 22 #[.agg #[.string (bs m), .string (bs h), .string (bs p), .slice A L.length ca, .string (bs b)], .agg #[.string (bs m), .string (bs h), .string (bs p), .slice B L.length cb, .string (bs b)]] w fun e w' => e = .returned (.bool true) ∧ Below w.heap.size w w' := by
  have hal := below_step' (below_new' w (.cells #[.string (bs m), .string (bs h), .string (bs p), .slice A L.length ca, .string (bs b)] 24)) (below_new' _ (.cells #[.string (bs m), .string (bs h), .string (bs p), .slice B L.length cb, .string (bs b)] 24))
  have HS := same_any A B ca cb L L _ (hA.later' hal) (hB.later' hal) (by omega) (by omega)
  rw [decide_eq_true rfl] at HS
  have HS := hid HS
  have k1 := five_new w (.string (bs m)) (.string (bs h)) (.string (bs p)) (.slice A L.length ca) (.string (bs b)) 24
  have K1 := hid (keep_five k1 (below_new' _ (.cells #[.string (bs m), .string (bs h), .string (bs p), .slice B L.length cb, .string (bs b)] 24)))
  have K2 := hid (five_new (w.alloc (.cells #[.string (bs m), .string (bs h), .string (bs p), .slice A L.length ca, .string (bs b)] 24)) (.string (bs m)) (.string (bs h)) (.string (bs p)) (.slice B L.length cb) (.string (bs b)) 24)
  have HAL := hid hal
  clear hA hB hal k1
  go_enter Tryd.func22, Tryd.ntmps22
  go_wp2_with fail
  generalize hv : (w.alloc (.cells #[.string (bs m), .string (bs h), .string (bs p), .slice A L.length ca, .string (bs b)] 24)).alloc (.cells #[.string (bs m), .string (bs h), .string (bs p), .slice B L.length cb, .string (bs b)] 24) = v at *
  refine HS.out.mono ?_
  rintro e w1 ⟨rfl, hb1⟩
  have a4 := (keep_five ⟨K1.out.1, K1.out.2.1, K1.out.2.2.1, K1.out.2.2.2.1, K1.out.2.2.2.2.1⟩ hb1).2.2.2.2.1
  have b4 := (keep_five K2.out hb1).2.2.2.2.1
  rw [World.size_alloc] at b4
  go_wp2_with fail
  go_ret
  exact ⟨rfl, below_step' HAL.out hb1⟩
set_option maxRecDepth 100000 in
set_option maxHeartbeats 1600000 in
theorem same3_any (n : Int) (A B : Option Addr) (ca cb : Nat) (L : List Hd) (b : List UInt8) (w : World) (hA : HReads w (· < w.heap.size) A L) (hB : HReads w (· < w.heap.size) B L) (hl : L.length ≤ 1000000) :
    Calls Tryd.prog 23 #[.agg #[.int .i64 n, .slice A L.length ca, .string (bs b)], .agg #[.int .i64 n, .slice B L.length cb, .string (bs b)]] w fun e w' => e = .returned (.bool true) ∧ Below w.heap.size w w' := by
  have hal := below_step' (below_new' w (.cells #[.int .i64 n, .slice A L.length ca, .string (bs b)] 32)) (below_new' _ (.cells #[.int .i64 n, .slice B L.length cb, .string (bs b)] 32))
  have HS := same_any A B ca cb L L _ (hA.later' hal) (hB.later' hal) (by omega) (by omega)
  rw [decide_eq_true rfl] at HS
  have HS := hid HS
  have K1 := hid (keep_three (three_new w (.int .i64 n) (.slice A L.length ca) (.string (bs b)) 32) (below_new' _ (.cells #[.int .i64 n, .slice B L.length cb, .string (bs b)] 32)))
  have K2 := hid (three_new (w.alloc (.cells #[.int .i64 n, .slice A L.length ca, .string (bs b)] 32)) (.int .i64 n) (.slice B L.length cb) (.string (bs b)) 32)
  have HAL := hid hal
  clear hA hB hal
  go_enter Tryd.func23, Tryd.ntmps23
  go_wp2_with fail
  generalize hv : (w.alloc (.cells #[.int .i64 n, .slice A L.length ca, .string (bs b)] 32)).alloc (.cells #[.int .i64 n, .slice B L.length cb, .string (bs b)] 32) = v at *
  refine HS.out.mono ?_
  rintro e w1 ⟨rfl, hb1⟩
  have a4 := (keep_three ⟨K1.out.1, K1.out.2.1, K1.out.2.2.1⟩ hb1).2.2.1
  have b4 := (keep_three K2.out hb1).2.2.1
  rw [World.size_alloc] at b4
  go_wp2_with fail
  go_ret
  exact ⟨rfl, below_step' HAL.out hb1⟩
def fewQ (m h p : List UInt8) (L : List Hd) (b : List UInt8) : Bool := decide (m.length + h.length + p.length + b.length ≤ 2000) && (decide (L.length ≤ 40) && L.all fun h => decide (h.1.length + h.2.length ≤ 400))
end Go.Proofs.YtpmefaoplgjbdaaDoor
