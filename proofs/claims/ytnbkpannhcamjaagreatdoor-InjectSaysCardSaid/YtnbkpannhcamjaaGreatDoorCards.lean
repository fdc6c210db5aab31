/-
  DERIVED. GIVEN WITH THE SEED: THE CARDS: each row of YtnbkpannhcamjaaGreatDoorRows.lean that lists a variable, with what it lists TIED to the program's text (the seventh form; the later family's looks); each row that meets fmt, with fmt's text TOLD by the authors' own Lean function (tested against real Go, not proved from fmt's source: count such statements apart). THE CARD IS WHAT COUNTS. Prove the row's statement (the work); the ties are given (YtnbkpannhcamjaaGreatDoorTie.lean); close each card by the builder's one call (the guide's Derived/Test/ToyasCard.lean, 'card_holds'). Laid BY PROGRAM, IN A SANDBOX (cutbox-door.mjs). By AI agents, Wed Nov 11 2026. No macro, syntax, notation, axiom, sorry.
-/
import Derived.Test.YtnbkpannhcamjaaGreatDoorRows
import GoSem.ClaimSeven
namespace Go.Proofs.YtnbkpannhcamjaaGreatDoor
namespace Rows

/-- THE TIED CARD OF 'periscopelaw23.InjectSays'. -/
def injectSaysCard : Claim7 := { stood := { row := injectSaysRow, standIns := [], harness := (true, "1f0ed1417aeb469de080568cdddfbfe051309760ac35e56fb530117391662c69"), looks := false }, kinds := [], alts := [], laidByText := true, laidKinds := [.data, .data, .pinned], laidTests := true, laidLooks := .later }
def InjectSaysCardSaid : Prop := Claim7.holds Tryz.pinned (.plain (OpenSpec.ofChange injectSaysSpec)) injectSaysCard

/-- THE SECOND FORM's CARD OF 'periscopelaw23.InjectSays'. -/
def injectSaysUptoCard : Claim7 := { stood := { row := injectSaysUptoRow, standIns := [], harness := (true, "1f0ed1417aeb469de080568cdddfbfe051309760ac35e56fb530117391662c69"), looks := false }, kinds := [], alts := [], laidByText := true, laidKinds := [.data, .data, .pinned], laidTests := true, laidLooks := .later }
def InjectSaysUptoCardSaid : Prop := Claim7.holds Tryz.pinned (.plain (OpenSpec.upto injectSaysSpec)) injectSaysUptoCard
end Rows
end Go.Proofs.YtnbkpannhcamjaaGreatDoor
