import Derived.Test.YtnbkpannhcamjaaVa
namespace Go.Proofs.Ytnbkpannhcamjaa
set_option linter.unusedVariables false
open Go.RowKit

theorem ofNat_mod256 (m : Nat) : UInt8.ofNat (m % 256) = UInt8.ofNat m := by
  apply UInt8.toNat_inj.1; rw [UInt8.toNat_ofNat', UInt8.toNat_ofNat']; omega
def FirstPost (l : List UInt8) (w : World) (e : Ending) (w' : World) : Prop :=
  (∃ n : Nat, e = .returned (.tuple #[.int .u64 n, .int .i64 (vg 0 0 l).2.1, .int .i64 (vg 0 0 l).2.2]) ∧ ((vg 0 0 l).2.2 = 0 → n = (vg 0 0 l).1)) ∧ w = w'
theorem leaf_any (l : List UInt8) (w : World) {N S E : Int} (n s : Nat) (h : vg 0 0 l = (if E = 0 then n else 0, s, E)) (hN : N = n) (hS : S = s) :
    FirstPost l w (.returned (.tuple #[.int .u64 N, .int .i64 S, .int .i64 E])) w := by
  subst hN hS
  refine ⟨⟨n, by rw [h], fun h0 => ?_⟩, rfl⟩
  rw [h] at h0 ⊢
  rw [if_pos h0]
end Go.Proofs.Ytnbkpannhcamjaa
