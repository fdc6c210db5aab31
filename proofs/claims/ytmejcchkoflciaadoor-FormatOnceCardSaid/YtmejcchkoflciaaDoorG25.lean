/- Texts put together: Ca. -/
import Derived.Test.YtmejcchkoflciaaDoorG02
import Derived.Test.YtmejcchkoflciaaDoorG01
import Derived.Laws.BitsAllLaws
namespace Go.Proofs.YtmejcchkoflciaaDoor
set_option linter.unusedVariables false
open Go.RowKit

theorem u32xor (a b : Nat) (ha : a < 4294967296) (hb : b < 4294967296) : bits .xor .u32 (a : Int) (b : Int) = ((a ^^^ b : Nat) : Int) := u32_xor_nat a b ha hb
theorem and1_true {m : Nat} (hm : m < 4294967296) (h : m % 2 = 1) : (bits .and .u32 (m : Int) 1 == 1) = true := by
  rw [show bits .and .u32 (m : Int) 1 = ((m &&& 1 : Nat) : Int) from u32_and_nat m 1 hm (by omega), Nat.and_one_is_mod, h]; rfl
theorem and1_false {m : Nat} (hm : m < 4294967296) (h : ¬ m % 2 = 1) : (bits .and .u32 (m : Int) 1 == 1) = false := by
  rw [show bits .and .u32 (m : Int) 1 = ((m &&& 1 : Nat) : Int) from u32_and_nat m 1 hm (by omega), Nat.and_one_is_mod, show m % 2 = 0 from by omega]; rfl
theorem sA_odd' {m : Nat} (hm : m < 4294967296) (h : m % 2 = 1) : bits .xor .u32 ((m : Int) / 2) 3988292384 = (sA m : Nat) := by
  rw [sA_odd h]; exact u32xor (m / 2) 3988292384 (by omega) (by omega)
theorem sA_even' {m : Nat} (h : ¬ m % 2 = 1) : ((m : Int) / 2) = (sA m : Nat) := by rw [sA_even h]; rfl
theorem stepC_eq' (r : Nat) (c : UInt8) (hr : r < 4294967296) : bits .xor .u32 ((r : Int) / 256) ((tab (r % 256 ^^^ c.toNat) : Nat) : Int) = (stepC r c.toNat : Nat) := by
  rw [stepC_eq _ _ (UInt8.toNat_lt c)]
  exact u32xor (r / 256) _ (by omega) (tab_lt (Nat.xor_lt_two_pow (n := 8) (by omega) (UInt8.toNat_lt c)))
theorem idx_eq (r : Nat) (c : UInt8) : bits .xor .u8 ((r : Int) % 256) (c.toNat : Int) = ((r % 256 ^^^ c.toNat : Nat) : Int) :=
  u8_xor_nat (r % 256) _ (by omega) (UInt8.toNat_lt c)
theorem ne_cast (q c j : Nat) : ((q : Int) % 2 != (c : Int) / 2 ^ j % 2) = decide (q % 2 ≠ c / 2 ^ j % 2) := by
  have h1 : (q : Int) % 2 = ((q % 2 : Nat) : Int) := by omega
  have h2 : (c : Int) / 2 ^ j % 2 = ((c / 2 ^ j % 2 : Nat) : Int) := by simp
  rw [h1, h2, Bool.eq_iff_iff]
  simp only [bne_iff_ne, decide_eq_true_eq, ne_eq]
  omega
end Go.Proofs.YtmejcchkoflciaaDoor
