/- Texts put together: Ib. -/
import Derived.Test.YtnbkpannhcamjaaDoorG22
import Derived.Handy
namespace Go.Proofs.YtnbkpannhcamjaaDoor
set_option linter.unusedVariables false
set_option linter.unusedSimpArgs false
open Go.RowKit

theorem unhex_at (l : List UInt8) (w : World) (h : l.length ≤ 140737488351232) {n : Nat} {e : Int} (H : Hid (unhexS l = (n, e))) :
    Calls Tryd.prog 45 #[.string (bs l)] w fun x w' => x = .returned (.tuple #[.int .u64 n, .int .i64 e]) ∧ w = w' :=
  (ounhex_any (bs l) w (max_len h)).mono fun x w' ⟨h1, h2⟩ => ⟨by rw [bs_data, H.out] at h1; exact h1, h2⟩
def trTuple (x : Nat × Nat × Int) : Value := .tuple #[.agg #[.int .u64 x.1, .int .u64 x.2.1], .int .i64 x.2.2]
def spTuple (x : Nat × Int) : Value := .tuple #[.int .u64 x.1, .int .i64 x.2]
theorem beq0 (a : Nat) : ((a : Int) == 0) = decide (a = 0) := by rw [Bool.eq_iff_iff]; simp
end Go.Proofs.YtnbkpannhcamjaaDoor
