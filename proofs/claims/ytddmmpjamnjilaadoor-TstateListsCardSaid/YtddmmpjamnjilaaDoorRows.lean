/-
  NARROWER THAN 'FOR EVERY INPUT', by the rows' own cells (each row's printed sentence says how): ParentReads: laid · ParentWrites: laid · ParentBack: laid · TstateReads: laid · TstateLists: laid · TstateBack: laid.
  DERIVED. THE GIVEN ROWS OF THIS SEAT. 6 by the template 'for every input the law returns true; each argument reads behind the call as it read before'; 0 by the template 'total and deterministic' (their statements: YtddmmpjamnjilaaDoorTotals.lean).
  GIVEN WITH THE SEED: the statements are not yours to turn. If you find one false, say at which input.
  Laid BY PROGRAM, IN A SANDBOX (cutbox-rows.mjs): the forced cells as the released guide's own fill.sh prints them over the translation 7b0e1fd58bb583eb… (all of the seat's roots in one cut). By AI agents, Wed Nov 11 2026. No macro, syntax, notation, axiom, sorry.
-/
import Derived.Test.YtddmmpjamnjilaaDoorChecked
import GoSem.PinnedTables
import GoSem.Claim
import GoSem.ClaimJoined
import GoSem.ClaimMapViews
import Derived.JoinedTies
import Derived.KernelRfl
namespace Go.Proofs.YtddmmpjamnjilaaDoor
/- THE CELL 'sum', in the pinned program and in every row, IS THE sha256 OF THE DUMP (.gsa) THAT YtddmmpjamnjilaaDoorProg.lean LOADS. Nothing in Lean hashes anything: it is a label: what it is worth is what the hold of that sum in a sandbox is worth. -/
noncomputable def Tryd.pinned : Pinned := { name := "ytddmmpjamnjilaadoor", sum := "7b0e1fd58bb583eb206ca559b051aeb60d1756013438d0d8f74ebe8732fc5a02", checked := Tryd.checked }
namespace Rows
def none {H : Type} : Left H := { results := [], args := [] }

/- WHAT THE LISTED PACKAGE-LEVEL VARIABLES READ AS WHEN THE CALL BEGINS. Each datum BY PROGRAM (the guide's laid-datum.mjs) off the statement by which the dump's own 'gosem.cut.vars' lays the variable. In a bare row this is a premise. The card (YtddmmpjamnjilaaDoorCards.lean) ties it to the program's text. -/
def laid_periscope_parent_pieces {H : Type} : DataW H := .agg [.agg [.lit (.int .i64 2), .lit (.string [45])], .agg [.lit (.int .i64 16), .lit (.string [])], .agg [.lit (.int .i64 16), .lit (.string [45])], .agg [.lit (.int .i64 16), .lit (.string [45])], .agg [.lit (.int .i64 2), .lit (.string [])]]
def laid_unicode_utf8_acceptRanges {H : Type} : DataW H := .agg [.agg [.lit (.int .u8 128), .lit (.int .u8 191)], .agg [.lit (.int .u8 160), .lit (.int .u8 191)], .agg [.lit (.int .u8 128), .lit (.int .u8 159)], .agg [.lit (.int .u8 144), .lit (.int .u8 191)], .agg [.lit (.int .u8 128), .lit (.int .u8 143)], .agg [.lit (.int .u8 0), .lit (.int .u8 0)], .agg [.lit (.int .u8 0), .lit (.int .u8 0)], .agg [.lit (.int .u8 0), .lit (.int .u8 0)], .agg [.lit (.int .u8 0), .lit (.int .u8 0)], .agg [.lit (.int .u8 0), .lit (.int .u8 0)], .agg [.lit (.int .u8 0), .lit (.int .u8 0)], .agg [.lit (.int .u8 0), .lit (.int .u8 0)], .agg [.lit (.int .u8 0), .lit (.int .u8 0)], .agg [.lit (.int .u8 0), .lit (.int .u8 0)], .agg [.lit (.int .u8 0), .lit (.int .u8 0)], .agg [.lit (.int .u8 0), .lit (.int .u8 0)]]
/-- One of Go's own tables, pinned by name: the form's constant. -/
def laid_unicode_utf8_first : DataW Unit := Go.Pinned.utf8First

/-- 'periscopelaw07.ParentReads': WHATEVER THE INPUT: true; the input reads as it did. -/
def parentReadsSpec : ChangeSpec := { name := "parentReads", fn := fun _ => fun
  | [d] => { results := [.lit (.bool true)], args := [d] }
  | _ => none }
def parentReadsRow : OpenClaim := { program := "ytddmmpjamnjilaadoor", sum := "7b0e1fd58bb583eb206ca559b051aeb60d1756013438d0d8f74ebe8732fc5a02", func := "periscope/periscopelaw07.ParentReads", spec := "parentReads", named := ["periscope/parent.pieces"], apart := false, laid := [("periscope/parent.pieces", laid_periscope_parent_pieces)] }
def ParentReadsSaid : Prop := parentReadsRow.holds Tryd.pinned (OpenSpec.ofChange parentReadsSpec)

/-- ITS FALSE NEIGHBOUR: 'it returns false'. Refute it at one input. -/
def parentReadsWrong : ChangeSpec := { name := "parentReads", fn := fun _ => fun
  | [d] => { results := [.lit (.bool false)], args := [d] }
  | _ => none }
def ParentReadsWrongFalsely : Prop := parentReadsRow.holds Tryd.pinned (OpenSpec.ofChange parentReadsWrong)

/-- 'periscopelaw07.ParentWrites': WHATEVER THE INPUT: true; the input reads as it did. -/
def parentWritesSpec : ChangeSpec := { name := "parentWrites", fn := fun _ => fun
  | [d1, d2] => { results := [.lit (.bool true)], args := [d1, d2] }
  | _ => none }
def parentWritesRow : OpenClaim := { program := "ytddmmpjamnjilaadoor", sum := "7b0e1fd58bb583eb206ca559b051aeb60d1756013438d0d8f74ebe8732fc5a02", func := "periscope/periscopelaw07.ParentWrites", spec := "parentWrites", named := ["periscope/parent.pieces"], apart := false, laid := [("periscope/parent.pieces", laid_periscope_parent_pieces)] }
def ParentWritesSaid : Prop := parentWritesRow.holds Tryd.pinned (OpenSpec.ofChange parentWritesSpec)

/-- ITS FALSE NEIGHBOUR: 'it returns false'. Refute it at one input. -/
def parentWritesWrong : ChangeSpec := { name := "parentWrites", fn := fun _ => fun
  | [d1, d2] => { results := [.lit (.bool false)], args := [d1, d2] }
  | _ => none }
def ParentWritesWrongFalsely : Prop := parentWritesRow.holds Tryd.pinned (OpenSpec.ofChange parentWritesWrong)

/-- 'periscopelaw07.ParentBack': WHATEVER THE INPUT: true; the input reads as it did. -/
def parentBackSpec : ChangeSpec := { name := "parentBack", fn := fun _ => fun
  | [d1, d2] => { results := [.lit (.bool true)], args := [d1, d2] }
  | _ => none }
def parentBackRow : OpenClaim := { program := "ytddmmpjamnjilaadoor", sum := "7b0e1fd58bb583eb206ca559b051aeb60d1756013438d0d8f74ebe8732fc5a02", func := "periscope/periscopelaw07.ParentBack", spec := "parentBack", named := ["periscope/parent.pieces"], apart := false, laid := [("periscope/parent.pieces", laid_periscope_parent_pieces)] }
def ParentBackSaid : Prop := parentBackRow.holds Tryd.pinned (OpenSpec.ofChange parentBackSpec)

/-- ITS FALSE NEIGHBOUR: 'it returns false'. Refute it at one input. -/
def parentBackWrong : ChangeSpec := { name := "parentBack", fn := fun _ => fun
  | [d1, d2] => { results := [.lit (.bool false)], args := [d1, d2] }
  | _ => none }
def ParentBackWrongFalsely : Prop := parentBackRow.holds Tryd.pinned (OpenSpec.ofChange parentBackWrong)

/-- 'periscopelaw08.TstateReads': WHATEVER THE INPUT: true; the input reads as it did. -/
def tstateReadsSpec : ChangeSpec := { name := "tstateReads", fn := fun _ => fun
  | [d] => { results := [.lit (.bool true)], args := [d] }
  | _ => none }
def tstateReadsRow : OpenClaim := { program := "ytddmmpjamnjilaadoor", sum := "7b0e1fd58bb583eb206ca559b051aeb60d1756013438d0d8f74ebe8732fc5a02", func := "periscope/periscopelaw08.TstateReads", spec := "tstateReads", inPlace := ["internal/bytealg.IndexByteString", "internal/bytealg.IndexString", "internal/abi.NoEscape", "internal/bytealg.MakeNoZero"], named := ["internal/bytealg.MaxLen", "unicode/utf8.first", "unicode/utf8.acceptRanges"], apart := false, laid := [("unicode/utf8.acceptRanges", laid_unicode_utf8_acceptRanges), ("unicode/utf8.first", laid_unicode_utf8_first)] }
def TstateReadsSaid : Prop := tstateReadsRow.holds Tryd.pinned (OpenSpec.ofChange tstateReadsSpec)

/-- ITS FALSE NEIGHBOUR: 'it returns false'. Refute it at one input. -/
def tstateReadsWrong : ChangeSpec := { name := "tstateReads", fn := fun _ => fun
  | [d] => { results := [.lit (.bool false)], args := [d] }
  | _ => none }
def TstateReadsWrongFalsely : Prop := tstateReadsRow.holds Tryd.pinned (OpenSpec.ofChange tstateReadsWrong)

/-- 'periscopelaw08.TstateLists': WHATEVER THE INPUT: true; the input reads as it did. -/
def tstateListsSpec : ChangeSpec := { name := "tstateLists", fn := fun _ => fun
  | [d1, d2, d3] => { results := [.lit (.bool true)], args := [d1, d2, d3] }
  | _ => none }
def tstateListsRow : OpenClaim := { program := "ytddmmpjamnjilaadoor", sum := "7b0e1fd58bb583eb206ca559b051aeb60d1756013438d0d8f74ebe8732fc5a02", func := "periscope/periscopelaw08.TstateLists", spec := "tstateLists", inPlace := ["internal/bytealg.IndexByteString", "internal/bytealg.IndexString", "internal/abi.NoEscape", "internal/bytealg.MakeNoZero"], named := ["internal/bytealg.MaxLen", "unicode/utf8.first", "unicode/utf8.acceptRanges"], apart := false, laid := [("unicode/utf8.acceptRanges", laid_unicode_utf8_acceptRanges), ("unicode/utf8.first", laid_unicode_utf8_first)] }
def TstateListsSaid : Prop := tstateListsRow.holds Tryd.pinned (OpenSpec.ofChange tstateListsSpec)

/-- ITS FALSE NEIGHBOUR: 'it returns false'. Refute it at one input. -/
def tstateListsWrong : ChangeSpec := { name := "tstateLists", fn := fun _ => fun
  | [d1, d2, d3] => { results := [.lit (.bool false)], args := [d1, d2, d3] }
  | _ => none }
def TstateListsWrongFalsely : Prop := tstateListsRow.holds Tryd.pinned (OpenSpec.ofChange tstateListsWrong)

/-- 'periscopelaw08.TstateBack': WHATEVER THE INPUT: true; the input reads as it did. -/
def tstateBackSpec : ChangeSpec := { name := "tstateBack", fn := fun _ => fun
  | [d1, d2, d3] => { results := [.lit (.bool true)], args := [d1, d2, d3] }
  | _ => none }
def tstateBackRow : OpenClaim := { program := "ytddmmpjamnjilaadoor", sum := "7b0e1fd58bb583eb206ca559b051aeb60d1756013438d0d8f74ebe8732fc5a02", func := "periscope/periscopelaw08.TstateBack", spec := "tstateBack", inPlace := ["internal/bytealg.IndexByteString", "internal/bytealg.IndexString", "internal/abi.NoEscape", "internal/bytealg.MakeNoZero"], named := ["internal/bytealg.MaxLen", "unicode/utf8.first", "unicode/utf8.acceptRanges"], apart := false, laid := [("unicode/utf8.acceptRanges", laid_unicode_utf8_acceptRanges), ("unicode/utf8.first", laid_unicode_utf8_first)] }
def TstateBackSaid : Prop := tstateBackRow.holds Tryd.pinned (OpenSpec.ofChange tstateBackSpec)

/-- ITS FALSE NEIGHBOUR: 'it returns false'. Refute it at one input. -/
def tstateBackWrong : ChangeSpec := { name := "tstateBack", fn := fun _ => fun
  | [d1, d2, d3] => { results := [.lit (.bool false)], args := [d1, d2, d3] }
  | _ => none }
def TstateBackWrongFalsely : Prop := tstateBackRow.holds Tryd.pinned (OpenSpec.ofChange tstateBackWrong)

/- THE SECOND FORM. 'bulk': how many values and letters a reading holds, each counted each time it is reached (what is shared counts as often as it is met; a slice's spare places count too). A statement '..UptoSaid' is the law's where the arguments, and the package variables that the reading takes, are together of bulk at most 1048576: NARROWER than '..Said'. Prove '..Said' where nothing that the law and all that it calls make is longer than what came in: it says more and counts as full. Else prove '..UptoSaid'. A law counts once. -/
mutual
def uptoBulk {H : Type} : DataW H → Nat
  | .lit (.string bytes) => bytes.length + 1
  | .lit _ => 1
  | .nil => 1
  | .ptr d => uptoBulk d + 1
  | .slice elems spare => uptoBulkAll elems + uptoBulkAll spare + 1
  | .agg parts => uptoBulkAll parts + 1
  | .iface _ d => uptoBulk d + 1
  | .map entries => uptoBulkEntries entries + 1
  | .held _ => 1
def uptoBulkAll {H : Type} : List (DataW H) → Nat
  | [] => 0
  | d :: r => uptoBulk d + uptoBulkAll r
def uptoBulkEntries {H : Type} : List (Lit × DataW H) → Nat
  | [] => 0
  | x :: r => uptoBulkEntry x + uptoBulkEntries r
def uptoBulkEntry {H : Type} : Lit × DataW H → Nat
  | (.string bytes, d) => bytes.length + uptoBulk d + 1
  | (_, d) => uptoBulk d + 1
 end
def uptoSmall : (H : Type) → List (DataW H) → Bool := fun _ ds => decide (uptoBulkAll ds ≤ 1048576)
def OpenSpec.upto (s : _root_.Go.ChangeSpec) : _root_.Go.OpenSpec := { _root_.Go.OpenSpec.ofChange s with cond := some uptoSmall }

/-- 'periscopelaw07.ParentReads', WHERE WHAT IT READS IS OF BULK AT MOST 1048576: true; the input reads as it did. -/
def parentReadsUptoRow : OpenClaim := { program := "ytddmmpjamnjilaadoor", sum := "7b0e1fd58bb583eb206ca559b051aeb60d1756013438d0d8f74ebe8732fc5a02", func := "periscope/periscopelaw07.ParentReads", spec := "parentReads", named := ["periscope/parent.pieces"], apart := false, laid := [("periscope/parent.pieces", laid_periscope_parent_pieces)], narrowed := true }
def ParentReadsUptoSaid : Prop := parentReadsUptoRow.holds Tryd.pinned (OpenSpec.upto parentReadsSpec)

/-- 'periscopelaw07.ParentWrites', WHERE WHAT IT READS IS OF BULK AT MOST 1048576: true; the input reads as it did. -/
def parentWritesUptoRow : OpenClaim := { program := "ytddmmpjamnjilaadoor", sum := "7b0e1fd58bb583eb206ca559b051aeb60d1756013438d0d8f74ebe8732fc5a02", func := "periscope/periscopelaw07.ParentWrites", spec := "parentWrites", named := ["periscope/parent.pieces"], apart := false, laid := [("periscope/parent.pieces", laid_periscope_parent_pieces)], narrowed := true }
def ParentWritesUptoSaid : Prop := parentWritesUptoRow.holds Tryd.pinned (OpenSpec.upto parentWritesSpec)

/-- 'periscopelaw07.ParentBack', WHERE WHAT IT READS IS OF BULK AT MOST 1048576: true; the input reads as it did. -/
def parentBackUptoRow : OpenClaim := { program := "ytddmmpjamnjilaadoor", sum := "7b0e1fd58bb583eb206ca559b051aeb60d1756013438d0d8f74ebe8732fc5a02", func := "periscope/periscopelaw07.ParentBack", spec := "parentBack", named := ["periscope/parent.pieces"], apart := false, laid := [("periscope/parent.pieces", laid_periscope_parent_pieces)], narrowed := true }
def ParentBackUptoSaid : Prop := parentBackUptoRow.holds Tryd.pinned (OpenSpec.upto parentBackSpec)

/-- 'periscopelaw08.TstateReads', WHERE WHAT IT READS IS OF BULK AT MOST 1048576: true; the input reads as it did. -/
def tstateReadsUptoRow : OpenClaim := { program := "ytddmmpjamnjilaadoor", sum := "7b0e1fd58bb583eb206ca559b051aeb60d1756013438d0d8f74ebe8732fc5a02", func := "periscope/periscopelaw08.TstateReads", spec := "tstateReads", inPlace := ["internal/bytealg.IndexByteString", "internal/bytealg.IndexString", "internal/abi.NoEscape", "internal/bytealg.MakeNoZero"], named := ["internal/bytealg.MaxLen", "unicode/utf8.first", "unicode/utf8.acceptRanges"], apart := false, laid := [("unicode/utf8.acceptRanges", laid_unicode_utf8_acceptRanges), ("unicode/utf8.first", laid_unicode_utf8_first)], narrowed := true }
def TstateReadsUptoSaid : Prop := tstateReadsUptoRow.holds Tryd.pinned (OpenSpec.upto tstateReadsSpec)

/-- 'periscopelaw08.TstateLists', WHERE WHAT IT READS IS OF BULK AT MOST 1048576: true; the input reads as it did. -/
def tstateListsUptoRow : OpenClaim := { program := "ytddmmpjamnjilaadoor", sum := "7b0e1fd58bb583eb206ca559b051aeb60d1756013438d0d8f74ebe8732fc5a02", func := "periscope/periscopelaw08.TstateLists", spec := "tstateLists", inPlace := ["internal/bytealg.IndexByteString", "internal/bytealg.IndexString", "internal/abi.NoEscape", "internal/bytealg.MakeNoZero"], named := ["internal/bytealg.MaxLen", "unicode/utf8.first", "unicode/utf8.acceptRanges"], apart := false, laid := [("unicode/utf8.acceptRanges", laid_unicode_utf8_acceptRanges), ("unicode/utf8.first", laid_unicode_utf8_first)], narrowed := true }
def TstateListsUptoSaid : Prop := tstateListsUptoRow.holds Tryd.pinned (OpenSpec.upto tstateListsSpec)

/-- 'periscopelaw08.TstateBack', WHERE WHAT IT READS IS OF BULK AT MOST 1048576: true; the input reads as it did. -/
def tstateBackUptoRow : OpenClaim := { program := "ytddmmpjamnjilaadoor", sum := "7b0e1fd58bb583eb206ca559b051aeb60d1756013438d0d8f74ebe8732fc5a02", func := "periscope/periscopelaw08.TstateBack", spec := "tstateBack", inPlace := ["internal/bytealg.IndexByteString", "internal/bytealg.IndexString", "internal/abi.NoEscape", "internal/bytealg.MakeNoZero"], named := ["internal/bytealg.MaxLen", "unicode/utf8.first", "unicode/utf8.acceptRanges"], apart := false, laid := [("unicode/utf8.acceptRanges", laid_unicode_utf8_acceptRanges), ("unicode/utf8.first", laid_unicode_utf8_first)], narrowed := true }
def TstateBackUptoSaid : Prop := tstateBackUptoRow.holds Tryd.pinned (OpenSpec.upto tstateBackSpec)

end Rows
end Go.Proofs.YtddmmpjamnjilaaDoor
