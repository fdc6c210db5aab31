/-
  DERIVED. GIVEN WITH THE SEED: THE CARDS: each row of YtelglcakekgdeaaGreatDoorRows.lean that lists a variable, with what it lists TIED to the program's text (the seventh form; the later family's looks); each row that meets fmt, with fmt's text TOLD by the authors' own Lean function (tested against real Go, not proved from fmt's source: count such statements apart). THE CARD IS WHAT COUNTS. Prove the row's statement (the work); the ties are given (YtelglcakekgdeaaGreatDoorTie.lean); close each card by the builder's one call (the guide's Derived/Test/ToyasCard.lean, 'card_holds'). Laid BY PROGRAM, IN A SANDBOX (cutbox-door.mjs). By AI agents, Wed Nov 11 2026. No macro, syntax, notation, axiom, sorry.
-/
import Derived.Test.YtelglcakekgdeaaGreatDoorRows
import GoSem.ClaimSeven
namespace Go.Proofs.YtelglcakekgdeaaGreatDoor
namespace Rows

/-- THE TIED CARD OF 'periscopelaw18.ControlStays'. -/
def controlStaysCard : Claim7 := { stood := { row := controlStaysRow, standIns := [], harness := (true, "9013f78f92af25e481d976f863349f5fd8c2e0732c5ad952f5d4fe036e031b14"), looks := true }, kinds := [], alts := [], laidByText := true, laidKinds := [.data, .data, .data, .sentinel, .sentinel, .data], laidTests := true, laidLooks := .later }
def ControlStaysCardSaid : Prop := Claim7.holds Tryz.pinned (.plain (OpenSpec.ofChange controlStaysSpec)) controlStaysCard

/-- THE TIED CARD OF 'periscopelaw18.ControlAlone'. -/
def controlAloneCard : Claim7 := { stood := { row := controlAloneRow, standIns := [], harness := (true, "9013f78f92af25e481d976f863349f5fd8c2e0732c5ad952f5d4fe036e031b14"), looks := true }, kinds := [], alts := [], laidByText := true, laidKinds := [.data, .data, .data, .sentinel, .sentinel, .data], laidTests := true, laidLooks := .later }
def ControlAloneCardSaid : Prop := Claim7.holds Tryz.pinned (.plain (OpenSpec.ofChange controlAloneSpec)) controlAloneCard

/-- THE SECOND FORM's CARD OF 'periscopelaw18.ControlStays'. -/
def controlStaysUptoCard : Claim7 := { stood := { row := controlStaysUptoRow, standIns := [], harness := (true, "9013f78f92af25e481d976f863349f5fd8c2e0732c5ad952f5d4fe036e031b14"), looks := true }, kinds := [], alts := [], laidByText := true, laidKinds := [.data, .data, .data, .sentinel, .sentinel, .data], laidTests := true, laidLooks := .later }
def ControlStaysUptoCardSaid : Prop := Claim7.holds Tryz.pinned (.plain (OpenSpec.upto controlStaysSpec)) controlStaysUptoCard

/-- THE SECOND FORM's CARD OF 'periscopelaw18.ControlAlone'. -/
def controlAloneUptoCard : Claim7 := { stood := { row := controlAloneUptoRow, standIns := [], harness := (true, "9013f78f92af25e481d976f863349f5fd8c2e0732c5ad952f5d4fe036e031b14"), looks := true }, kinds := [], alts := [], laidByText := true, laidKinds := [.data, .data, .data, .sentinel, .sentinel, .data], laidTests := true, laidLooks := .later }
def ControlAloneUptoCardSaid : Prop := Claim7.holds Tryz.pinned (.plain (OpenSpec.upto controlAloneSpec)) controlAloneUptoCard
end Rows
end Go.Proofs.YtelglcakekgdeaaGreatDoor
