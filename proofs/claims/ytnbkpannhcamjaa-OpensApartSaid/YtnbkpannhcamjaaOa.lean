import Derived.Test.YtnbkpannhcamjaaRows
import Derived.Test.YtnbkpannhcamjaaPlain
import Derived.Lib.SmallJoins
import Derived.WalkLawsBesides

namespace Go.Proofs.Ytnbkpannhcamjaa
set_option linter.unusedVariables false
open Go.RowKit

theorem info5 : (Try.prog.info? 5).map (fun i => (i.zero, i.size, i.bytes)) = some (some (.int .u8 0), 1, 1) := by kernel_rfl
theorem madeCells_u8 (n : Nat) : madeCells (Value.cells (.int .u8 0)) (n * 1) = cellsOf (filled n []) := by
  apply Array.ext
  · simp [madeCells, cellsOf, filled]
  · intro i h1 h2
    simp [madeCells, cellsOf, filled, Value.cells, Nat.mod_one]
end Go.Proofs.Ytnbkpannhcamjaa
