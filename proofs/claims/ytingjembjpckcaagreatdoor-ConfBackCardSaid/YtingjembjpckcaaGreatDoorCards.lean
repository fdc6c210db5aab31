/-
  DERIVED. GIVEN WITH THE SEED: THE CARDS: each row of YtingjembjpckcaaGreatDoorRows.lean that lists a variable, with what it lists TIED to the program's text (the seventh form; the later family's looks); each row that meets fmt, with fmt's text TOLD by the authors' own Lean function (tested against real Go, not proved from fmt's source: count such statements apart). THE CARD IS WHAT COUNTS. Prove the row's statement (the work); the ties are given (YtingjembjpckcaaGreatDoorTie.lean); close each card by the builder's one call (the guide's Derived/Test/ToyasCard.lean, 'card_holds'). Laid BY PROGRAM, IN A SANDBOX (cutbox-door.mjs). By AI agents, Wed Nov 11 2026. No macro, syntax, notation, axiom, sorry.
-/
import Derived.Test.YtingjembjpckcaaGreatDoorRows
import GoSem.ClaimSeven
namespace Go.Proofs.YtingjembjpckcaaGreatDoor
namespace Rows

/-- THE TIED CARD OF 'periscopelaw13.ConfWrites'. -/
def confWritesCard : Claim7 := { stood := { row := confWritesRow, standIns := [], harness := (true, "9e000cca9c87f1070f70fda66fcbd3a6ca01f899745e292b974c8ee4657dcb2b"), looks := true }, kinds := [], alts := [], laidByText := true, laidKinds := [.data, .data, .data, .sentinel, .sentinel, .data], laidTests := true, laidLooks := .later }
def ConfWritesCardSaid : Prop := Claim7.holds Tryz.pinned (.plain (OpenSpec.ofChange confWritesSpec)) confWritesCard

/-- THE TIED CARD OF 'periscopelaw13.ConfBack'. -/
def confBackCard : Claim7 := { stood := { row := confBackRow, standIns := [], harness := (true, "9e000cca9c87f1070f70fda66fcbd3a6ca01f899745e292b974c8ee4657dcb2b"), looks := true }, kinds := [], alts := [], laidByText := true, laidKinds := [.data, .data, .data, .sentinel, .sentinel, .data], laidTests := true, laidLooks := .later }
def ConfBackCardSaid : Prop := Claim7.holds Tryz.pinned (.plain (OpenSpec.ofChange confBackSpec)) confBackCard

/-- THE SECOND FORM's CARD OF 'periscopelaw13.ConfWrites'. -/
def confWritesUptoCard : Claim7 := { stood := { row := confWritesUptoRow, standIns := [], harness := (true, "9e000cca9c87f1070f70fda66fcbd3a6ca01f899745e292b974c8ee4657dcb2b"), looks := true }, kinds := [], alts := [], laidByText := true, laidKinds := [.data, .data, .data, .sentinel, .sentinel, .data], laidTests := true, laidLooks := .later }
def ConfWritesUptoCardSaid : Prop := Claim7.holds Tryz.pinned (.plain (OpenSpec.upto confWritesSpec)) confWritesUptoCard

/-- THE SECOND FORM's CARD OF 'periscopelaw13.ConfBack'. -/
def confBackUptoCard : Claim7 := { stood := { row := confBackUptoRow, standIns := [], harness := (true, "9e000cca9c87f1070f70fda66fcbd3a6ca01f899745e292b974c8ee4657dcb2b"), looks := true }, kinds := [], alts := [], laidByText := true, laidKinds := [.data, .data, .data, .sentinel, .sentinel, .data], laidTests := true, laidLooks := .later }
def ConfBackUptoCardSaid : Prop := Claim7.holds Tryz.pinned (.plain (OpenSpec.upto confBackSpec)) confBackUptoCard
end Rows
end Go.Proofs.YtingjembjpckcaaGreatDoor
