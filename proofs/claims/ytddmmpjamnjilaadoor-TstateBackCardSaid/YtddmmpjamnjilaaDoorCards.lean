/-
  DERIVED. GIVEN WITH THE SEED: THE CARDS: each row of YtddmmpjamnjilaaDoorRows.lean that lists a variable, with what it lists TIED to the program's text (the seventh form; the later family's looks); each row that meets fmt, with fmt's text TOLD by the authors' own Lean function (tested against real Go, not proved from fmt's source: count such statements apart). THE CARD IS WHAT COUNTS. Prove the row's statement (the work); the ties are given (YtddmmpjamnjilaaDoorTie.lean); close each card by the builder's one call (the guide's Derived/Test/ToyasCard.lean, 'card_holds'). Laid BY PROGRAM, IN A SANDBOX (cutbox-door.mjs). By AI agents, Wed Nov 11 2026. No macro, syntax, notation, axiom, sorry.
-/
import Derived.Test.YtddmmpjamnjilaaDoorRows
import GoSem.ClaimSeven
namespace Go.Proofs.YtddmmpjamnjilaaDoor
namespace Rows

/-- THE TIED CARD OF 'periscopelaw07.ParentReads'. -/
def parentReadsCard : Claim7 := { stood := { row := parentReadsRow, standIns := [], harness := (true, "53171b33c45887b6aab3e668fde23c2de99880205b9710bf73da0b8ed60ea035"), looks := false }, kinds := [], alts := [], laidByText := true, laidKinds := [.data], laidTests := true, laidLooks := .later }
def ParentReadsCardSaid : Prop := Claim7.holds Tryd.pinned (.plain (OpenSpec.ofChange parentReadsSpec)) parentReadsCard

/-- THE TIED CARD OF 'periscopelaw07.ParentWrites'. -/
def parentWritesCard : Claim7 := { stood := { row := parentWritesRow, standIns := [], harness := (true, "53171b33c45887b6aab3e668fde23c2de99880205b9710bf73da0b8ed60ea035"), looks := false }, kinds := [], alts := [], laidByText := true, laidKinds := [.data], laidTests := true, laidLooks := .later }
def ParentWritesCardSaid : Prop := Claim7.holds Tryd.pinned (.plain (OpenSpec.ofChange parentWritesSpec)) parentWritesCard

/-- THE TIED CARD OF 'periscopelaw07.ParentBack'. -/
def parentBackCard : Claim7 := { stood := { row := parentBackRow, standIns := [], harness := (true, "53171b33c45887b6aab3e668fde23c2de99880205b9710bf73da0b8ed60ea035"), looks := false }, kinds := [], alts := [], laidByText := true, laidKinds := [.data], laidTests := true, laidLooks := .later }
def ParentBackCardSaid : Prop := Claim7.holds Tryd.pinned (.plain (OpenSpec.ofChange parentBackSpec)) parentBackCard

/-- THE TIED CARD OF 'periscopelaw08.TstateReads'. -/
def tstateReadsCard : Claim7 := { stood := { row := tstateReadsRow, standIns := [], harness := (true, "53171b33c45887b6aab3e668fde23c2de99880205b9710bf73da0b8ed60ea035"), looks := false }, kinds := [], alts := [], laidByText := true, laidKinds := [.data, .pinned], laidTests := true, laidLooks := .later }
def TstateReadsCardSaid : Prop := Claim7.holds Tryd.pinned (.plain (OpenSpec.ofChange tstateReadsSpec)) tstateReadsCard

/-- THE TIED CARD OF 'periscopelaw08.TstateLists'. -/
def tstateListsCard : Claim7 := { stood := { row := tstateListsRow, standIns := [], harness := (true, "53171b33c45887b6aab3e668fde23c2de99880205b9710bf73da0b8ed60ea035"), looks := false }, kinds := [], alts := [], laidByText := true, laidKinds := [.data, .pinned], laidTests := true, laidLooks := .later }
def TstateListsCardSaid : Prop := Claim7.holds Tryd.pinned (.plain (OpenSpec.ofChange tstateListsSpec)) tstateListsCard

/-- THE TIED CARD OF 'periscopelaw08.TstateBack'. -/
def tstateBackCard : Claim7 := { stood := { row := tstateBackRow, standIns := [], harness := (true, "53171b33c45887b6aab3e668fde23c2de99880205b9710bf73da0b8ed60ea035"), looks := false }, kinds := [], alts := [], laidByText := true, laidKinds := [.data, .pinned], laidTests := true, laidLooks := .later }
def TstateBackCardSaid : Prop := Claim7.holds Tryd.pinned (.plain (OpenSpec.ofChange tstateBackSpec)) tstateBackCard

/-- THE SECOND FORM's CARD OF 'periscopelaw07.ParentReads'. -/
def parentReadsUptoCard : Claim7 := { stood := { row := parentReadsUptoRow, standIns := [], harness := (true, "53171b33c45887b6aab3e668fde23c2de99880205b9710bf73da0b8ed60ea035"), looks := false }, kinds := [], alts := [], laidByText := true, laidKinds := [.data], laidTests := true, laidLooks := .later }
def ParentReadsUptoCardSaid : Prop := Claim7.holds Tryd.pinned (.plain (OpenSpec.upto parentReadsSpec)) parentReadsUptoCard

/-- THE SECOND FORM's CARD OF 'periscopelaw07.ParentWrites'. -/
def parentWritesUptoCard : Claim7 := { stood := { row := parentWritesUptoRow, standIns := [], harness := (true, "53171b33c45887b6aab3e668fde23c2de99880205b9710bf73da0b8ed60ea035"), looks := false }, kinds := [], alts := [], laidByText := true, laidKinds := [.data], laidTests := true, laidLooks := .later }
def ParentWritesUptoCardSaid : Prop := Claim7.holds Tryd.pinned (.plain (OpenSpec.upto parentWritesSpec)) parentWritesUptoCard

/-- THE SECOND FORM's CARD OF 'periscopelaw07.ParentBack'. -/
def parentBackUptoCard : Claim7 := { stood := { row := parentBackUptoRow, standIns := [], harness := (true, "53171b33c45887b6aab3e668fde23c2de99880205b9710bf73da0b8ed60ea035"), looks := false }, kinds := [], alts := [], laidByText := true, laidKinds := [.data], laidTests := true, laidLooks := .later }
def ParentBackUptoCardSaid : Prop := Claim7.holds Tryd.pinned (.plain (OpenSpec.upto parentBackSpec)) parentBackUptoCard

/-- THE SECOND FORM's CARD OF 'periscopelaw08.TstateReads'. -/
def tstateReadsUptoCard : Claim7 := { stood := { row := tstateReadsUptoRow, standIns := [], harness := (true, "53171b33c45887b6aab3e668fde23c2de99880205b9710bf73da0b8ed60ea035"), looks := false }, kinds := [], alts := [], laidByText := true, laidKinds := [.data, .pinned], laidTests := true, laidLooks := .later }
def TstateReadsUptoCardSaid : Prop := Claim7.holds Tryd.pinned (.plain (OpenSpec.upto tstateReadsSpec)) tstateReadsUptoCard

/-- THE SECOND FORM's CARD OF 'periscopelaw08.TstateLists'. -/
def tstateListsUptoCard : Claim7 := { stood := { row := tstateListsUptoRow, standIns := [], harness := (true, "53171b33c45887b6aab3e668fde23c2de99880205b9710bf73da0b8ed60ea035"), looks := false }, kinds := [], alts := [], laidByText := true, laidKinds := [.data, .pinned], laidTests := true, laidLooks := .later }
def TstateListsUptoCardSaid : Prop := Claim7.holds Tryd.pinned (.plain (OpenSpec.upto tstateListsSpec)) tstateListsUptoCard

/-- THE SECOND FORM's CARD OF 'periscopelaw08.TstateBack'. -/
def tstateBackUptoCard : Claim7 := { stood := { row := tstateBackUptoRow, standIns := [], harness := (true, "53171b33c45887b6aab3e668fde23c2de99880205b9710bf73da0b8ed60ea035"), looks := false }, kinds := [], alts := [], laidByText := true, laidKinds := [.data, .pinned], laidTests := true, laidLooks := .later }
def TstateBackUptoCardSaid : Prop := Claim7.holds Tryd.pinned (.plain (OpenSpec.upto tstateBackSpec)) tstateBackUptoCard
end Rows
end Go.Proofs.YtddmmpjamnjilaaDoor
