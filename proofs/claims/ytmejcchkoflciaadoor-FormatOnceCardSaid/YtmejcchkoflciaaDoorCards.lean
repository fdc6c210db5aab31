/-
  DERIVED. GIVEN WITH THE SEED: THE CARDS: each row of YtmejcchkoflciaaDoorRows.lean that lists a variable, with what it lists TIED to the program's text (the seventh form; the later family's looks); each row that meets fmt, with fmt's text TOLD by the authors' own Lean function (tested against real Go, not proved from fmt's source: count such statements apart). THE CARD IS WHAT COUNTS. Prove the row's statement (the work); the ties are given (YtmejcchkoflciaaDoorTie.lean); close each card by the builder's one call (the guide's Derived/Test/ToyasCard.lean, 'card_holds'). Laid BY PROGRAM, IN A SANDBOX (cutbox-door.mjs). By AI agents, Wed Nov 11 2026. No macro, syntax, notation, axiom, sorry.
-/
import Derived.Test.YtmejcchkoflciaaDoorRows
import GoSem.ClaimSeven
namespace Go.Proofs.YtmejcchkoflciaaDoor
namespace Rows

/-- THE TIED CARD OF 'periscopelaw19.FormatCompiles'. -/
def formatCompilesCard : Claim7 := { stood := { row := formatCompilesRow, standIns := [], harness := (true, "d0be8a201e6e349319d1ebfce1542e216e5372832a4d7ba48e8813545b2ccf4b"), looks := false }, kinds := [], alts := [], laidByText := true, laidKinds := [.data, .data, .pinned], laidTests := true, laidLooks := .later }
def FormatCompilesCardSaid : Prop := Claim7.holds Tryd.pinned (.plain (OpenSpec.ofChange formatCompilesSpec)) formatCompilesCard

/-- THE TIED CARD OF 'periscopelaw19.FormatOnce'. -/
def formatOnceCard : Claim7 := { stood := { row := formatOnceRow, standIns := [], harness := (true, "d0be8a201e6e349319d1ebfce1542e216e5372832a4d7ba48e8813545b2ccf4b"), looks := false }, kinds := [], alts := [], laidByText := true, laidKinds := [.data, .data, .pinned], laidTests := true, laidLooks := .later }
def FormatOnceCardSaid : Prop := Claim7.holds Tryd.pinned (.plain (OpenSpec.ofChange formatOnceSpec)) formatOnceCard

/-- THE TIED CARD OF 'periscopelaw19.FormatBack'. -/
def formatBackCard : Claim7 := { stood := { row := formatBackRow, standIns := [], harness := (true, "d0be8a201e6e349319d1ebfce1542e216e5372832a4d7ba48e8813545b2ccf4b"), looks := false }, kinds := [], alts := [], laidByText := true, laidKinds := [.data, .data, .pinned], laidTests := true, laidLooks := .later }
def FormatBackCardSaid : Prop := Claim7.holds Tryd.pinned (.plain (OpenSpec.ofChange formatBackSpec)) formatBackCard

/-- THE TIED CARD OF 'periscopelaw20.LineEscapes'. -/
def lineEscapesCard : Claim7 := { stood := { row := lineEscapesRow, standIns := [], harness := (true, "d0be8a201e6e349319d1ebfce1542e216e5372832a4d7ba48e8813545b2ccf4b"), looks := false }, kinds := [], alts := [], laidByText := true, laidKinds := [.data, .data, .data], laidTests := true, laidLooks := .later }
def LineEscapesCardSaid : Prop := Claim7.holds Tryd.pinned (.plain (OpenSpec.ofChange lineEscapesSpec)) lineEscapesCard

/-- THE TIED CARD OF 'periscopelaw20.LineValues'. -/
def lineValuesCard : Claim7 := { stood := { row := lineValuesRow, standIns := [], harness := (true, "d0be8a201e6e349319d1ebfce1542e216e5372832a4d7ba48e8813545b2ccf4b"), looks := false }, kinds := [], alts := [], laidByText := true, laidKinds := [.data, .data, .data], laidTests := true, laidLooks := .later }
def LineValuesCardSaid : Prop := Claim7.holds Tryd.pinned (.plain (OpenSpec.ofChange lineValuesSpec)) lineValuesCard

/-- THE TIED CARD OF 'periscopelaw20.LineCaps'. -/
def lineCapsCard : Claim7 := { stood := { row := lineCapsRow, standIns := [], harness := (true, "d0be8a201e6e349319d1ebfce1542e216e5372832a4d7ba48e8813545b2ccf4b"), looks := false }, kinds := [], alts := [], laidByText := true, laidKinds := [.data, .data, .data], laidTests := true, laidLooks := .later }
def LineCapsCardSaid : Prop := Claim7.holds Tryd.pinned (.plain (OpenSpec.ofChange lineCapsSpec)) lineCapsCard

/-- THE TIED CARD OF 'periscopelaw20.LineApart'. -/
def lineApartCard : Claim7 := { stood := { row := lineApartRow, standIns := [], harness := (true, "d0be8a201e6e349319d1ebfce1542e216e5372832a4d7ba48e8813545b2ccf4b"), looks := false }, kinds := [], alts := [], laidByText := true, laidKinds := [.data, .data, .data], laidTests := true, laidLooks := .later }
def LineApartCardSaid : Prop := Claim7.holds Tryd.pinned (.plain (OpenSpec.ofChange lineApartSpec)) lineApartCard

/-- THE SECOND FORM's CARD OF 'periscopelaw19.FormatCompiles'. -/
def formatCompilesUptoCard : Claim7 := { stood := { row := formatCompilesUptoRow, standIns := [], harness := (true, "d0be8a201e6e349319d1ebfce1542e216e5372832a4d7ba48e8813545b2ccf4b"), looks := false }, kinds := [], alts := [], laidByText := true, laidKinds := [.data, .data, .pinned], laidTests := true, laidLooks := .later }
def FormatCompilesUptoCardSaid : Prop := Claim7.holds Tryd.pinned (.plain (OpenSpec.upto formatCompilesSpec)) formatCompilesUptoCard

/-- THE SECOND FORM's CARD OF 'periscopelaw19.FormatOnce'. -/
def formatOnceUptoCard : Claim7 := { stood := { row := formatOnceUptoRow, standIns := [], harness := (true, "d0be8a201e6e349319d1ebfce1542e216e5372832a4d7ba48e8813545b2ccf4b"), looks := false }, kinds := [], alts := [], laidByText := true, laidKinds := [.data, .data, .pinned], laidTests := true, laidLooks := .later }
def FormatOnceUptoCardSaid : Prop := Claim7.holds Tryd.pinned (.plain (OpenSpec.upto formatOnceSpec)) formatOnceUptoCard

/-- THE SECOND FORM's CARD OF 'periscopelaw19.FormatBack'. -/
def formatBackUptoCard : Claim7 := { stood := { row := formatBackUptoRow, standIns := [], harness := (true, "d0be8a201e6e349319d1ebfce1542e216e5372832a4d7ba48e8813545b2ccf4b"), looks := false }, kinds := [], alts := [], laidByText := true, laidKinds := [.data, .data, .pinned], laidTests := true, laidLooks := .later }
def FormatBackUptoCardSaid : Prop := Claim7.holds Tryd.pinned (.plain (OpenSpec.upto formatBackSpec)) formatBackUptoCard

/-- THE SECOND FORM's CARD OF 'periscopelaw20.LineEscapes'. -/
def lineEscapesUptoCard : Claim7 := { stood := { row := lineEscapesUptoRow, standIns := [], harness := (true, "d0be8a201e6e349319d1ebfce1542e216e5372832a4d7ba48e8813545b2ccf4b"), looks := false }, kinds := [], alts := [], laidByText := true, laidKinds := [.data, .data, .data], laidTests := true, laidLooks := .later }
def LineEscapesUptoCardSaid : Prop := Claim7.holds Tryd.pinned (.plain (OpenSpec.upto lineEscapesSpec)) lineEscapesUptoCard

/-- THE SECOND FORM's CARD OF 'periscopelaw20.LineValues'. -/
def lineValuesUptoCard : Claim7 := { stood := { row := lineValuesUptoRow, standIns := [], harness := (true, "d0be8a201e6e349319d1ebfce1542e216e5372832a4d7ba48e8813545b2ccf4b"), looks := false }, kinds := [], alts := [], laidByText := true, laidKinds := [.data, .data, .data], laidTests := true, laidLooks := .later }
def LineValuesUptoCardSaid : Prop := Claim7.holds Tryd.pinned (.plain (OpenSpec.upto lineValuesSpec)) lineValuesUptoCard

/-- THE SECOND FORM's CARD OF 'periscopelaw20.LineCaps'. -/
def lineCapsUptoCard : Claim7 := { stood := { row := lineCapsUptoRow, standIns := [], harness := (true, "d0be8a201e6e349319d1ebfce1542e216e5372832a4d7ba48e8813545b2ccf4b"), looks := false }, kinds := [], alts := [], laidByText := true, laidKinds := [.data, .data, .data], laidTests := true, laidLooks := .later }
def LineCapsUptoCardSaid : Prop := Claim7.holds Tryd.pinned (.plain (OpenSpec.upto lineCapsSpec)) lineCapsUptoCard

/-- THE SECOND FORM's CARD OF 'periscopelaw20.LineApart'. -/
def lineApartUptoCard : Claim7 := { stood := { row := lineApartUptoRow, standIns := [], harness := (true, "d0be8a201e6e349319d1ebfce1542e216e5372832a4d7ba48e8813545b2ccf4b"), looks := false }, kinds := [], alts := [], laidByText := true, laidKinds := [.data, .data, .data], laidTests := true, laidLooks := .later }
def LineApartUptoCardSaid : Prop := Claim7.holds Tryd.pinned (.plain (OpenSpec.upto lineApartSpec)) lineApartUptoCard
end Rows
end Go.Proofs.YtmejcchkoflciaaDoor
