import Derived.Test.YtnbkpannhcamjaaOa
namespace Go.Proofs.Ytnbkpannhcamjaa
set_option linter.unusedVariables false
open Go.RowKit
theorem unhexS_bad {l : List UInt8} (h : l.length < 1 ∨ 16 < l.length) : unhexS l = (0, 3) := by rw [unhexS, if_pos h]
theorem unhexS_none {l : List UInt8} (h : ¬ (l.length < 1 ∨ 16 < l.length)) (h2 : uh 0 l = none) : unhexS l = (0, 3) := by rw [unhexS, if_neg h, h2]
theorem unhexS_some {l : List UInt8} {n : Nat} (h : ¬ (l.length < 1 ∨ 16 < l.length)) (h2 : uh 0 l = some n) : unhexS l = (n, 0) := by rw [unhexS, if_neg h, h2]
end Go.Proofs.Ytnbkpannhcamjaa
