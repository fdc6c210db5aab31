/-
  DERIVED. GIVEN WITH THE SEED: THE CARDS: each row of YtnbkpannhcamjaaDoorRows.lean that lists a variable, with what it lists TIED to the program's text (the seventh form; the later family's looks); each row that meets fmt, with fmt's text TOLD by the authors' own Lean function (tested against real Go, not proved from fmt's source: count such statements apart). THE CARD IS WHAT COUNTS. Prove the row's statement (the work); the ties are given (YtnbkpannhcamjaaDoorTie.lean); close each card by the builder's one call (the guide's Derived/Test/ToyasCard.lean, 'card_holds'). Laid BY PROGRAM, IN A SANDBOX (cutbox-door.mjs). By AI agents, Wed Nov 11 2026. No macro, syntax, notation, axiom, sorry.
-/
import Derived.Test.YtnbkpannhcamjaaDoorRows
import GoSem.ClaimSeven
namespace Go.Proofs.YtnbkpannhcamjaaDoor
namespace Rows

/-- THE TIED CARD OF 'periscopelaw23.InjectBack'. -/
def injectBackCard : Claim7 := { stood := { row := injectBackRow, standIns := [], harness := (true, "40ff11a6e649c7aa9fa11045462bc35d5431dfc9df85acb1a094aa5bda2356ab"), looks := false }, kinds := [], alts := [], laidByText := true, laidKinds := [.data, .data, .pinned], laidTests := true, laidLooks := .later }
def InjectBackCardSaid : Prop := Claim7.holds Tryd.pinned (.plain (OpenSpec.ofChange injectBackSpec)) injectBackCard

/-- THE TIED CARD OF 'periscopelaw23.InjectTwice'. -/
def injectTwiceCard : Claim7 := { stood := { row := injectTwiceRow, standIns := [], harness := (true, "40ff11a6e649c7aa9fa11045462bc35d5431dfc9df85acb1a094aa5bda2356ab"), looks := false }, kinds := [], alts := [], laidByText := true, laidKinds := [.data, .data, .pinned], laidTests := true, laidLooks := .later }
def InjectTwiceCardSaid : Prop := Claim7.holds Tryd.pinned (.plain (OpenSpec.ofChange injectTwiceSpec)) injectTwiceCard

/-- THE SECOND FORM's CARD OF 'periscopelaw23.InjectBack'. -/
def injectBackUptoCard : Claim7 := { stood := { row := injectBackUptoRow, standIns := [], harness := (true, "40ff11a6e649c7aa9fa11045462bc35d5431dfc9df85acb1a094aa5bda2356ab"), looks := false }, kinds := [], alts := [], laidByText := true, laidKinds := [.data, .data, .pinned], laidTests := true, laidLooks := .later }
def InjectBackUptoCardSaid : Prop := Claim7.holds Tryd.pinned (.plain (OpenSpec.upto injectBackSpec)) injectBackUptoCard

/-- THE SECOND FORM's CARD OF 'periscopelaw23.InjectTwice'. -/
def injectTwiceUptoCard : Claim7 := { stood := { row := injectTwiceUptoRow, standIns := [], harness := (true, "40ff11a6e649c7aa9fa11045462bc35d5431dfc9df85acb1a094aa5bda2356ab"), looks := false }, kinds := [], alts := [], laidByText := true, laidKinds := [.data, .data, .pinned], laidTests := true, laidLooks := .later }
def InjectTwiceUptoCardSaid : Prop := Claim7.holds Tryd.pinned (.plain (OpenSpec.upto injectTwiceSpec)) injectTwiceUptoCard
end Rows
end Go.Proofs.YtnbkpannhcamjaaDoor
