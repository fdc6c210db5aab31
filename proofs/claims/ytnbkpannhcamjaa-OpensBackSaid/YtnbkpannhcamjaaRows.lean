/-
  No cell of these rows narrows 'for every input' (looked for: loops, veiled, ifaces, maps, wideKeys, modest, calm, conditions, laid).
  DERIVED. THE GIVEN ROWS OF THIS SEAT. 3 by the template 'for every input the law returns true; each argument reads behind the call as it read before'; 0 by the template 'total and deterministic' (their statements: YtnbkpannhcamjaaTotals.lean).
  GIVEN WITH THE SEED: the statements are not yours to turn. If you find one false, say at which input.
  Laid BY PROGRAM, IN A SANDBOX (cutbox-rows.mjs): the forced cells as the released guide's own fill.sh prints them over the translation b030770c46763db5… (all of the seat's roots in one cut). By AI agents, Wed Nov 11 2026. No macro, syntax, notation, axiom, sorry.
-/
import Derived.Test.YtnbkpannhcamjaaChecked
import GoSem.Claim
import GoSem.ClaimJoined
import GoSem.ClaimMapViews
import Derived.JoinedTies
import Derived.KernelRfl
namespace Go.Proofs.Ytnbkpannhcamjaa
/- THE CELL 'sum', in the pinned program and in every row, IS THE sha256 OF THE DUMP (.gsa) THAT YtnbkpannhcamjaaProg.lean LOADS. Nothing in Lean hashes anything: it is a label: what it is worth is what the hold of that sum in a sandbox is worth. -/
noncomputable def Try.pinned : Pinned := { name := "ytnbkpannhcamjaa", sum := "b030770c46763db5778a114e63d2bf3b870e70d8e31ee83718a50e7772df9851", checked := Try.checked }
namespace Rows
def none {H : Type} : Left H := { results := [], args := [] }

/-- 'periscopelaw24.OpensSays': WHATEVER THE INPUT: true; the input reads as it did. -/
def opensSaysSpec : ChangeSpec := { name := "opensSays", fn := fun _ => fun
  | [d1, d2, d3, d4] => { results := [.lit (.bool true)], args := [d1, d2, d3, d4] }
  | _ => none }
def opensSaysRow : OpenClaim := { program := "ytnbkpannhcamjaa", sum := "b030770c46763db5778a114e63d2bf3b870e70d8e31ee83718a50e7772df9851", func := "periscope/periscopelaw24.OpensSays", spec := "opensSays", unfollowed := true, recurses := true, apart := false }
def OpensSaysSaid : Prop := opensSaysRow.holds Try.pinned (OpenSpec.ofChange opensSaysSpec)

/-- ITS FALSE NEIGHBOUR: 'it returns false'. Refute it at one input. -/
def opensSaysWrong : ChangeSpec := { name := "opensSays", fn := fun _ => fun
  | [d1, d2, d3, d4] => { results := [.lit (.bool false)], args := [d1, d2, d3, d4] }
  | _ => none }
def OpensSaysWrongFalsely : Prop := opensSaysRow.holds Try.pinned (OpenSpec.ofChange opensSaysWrong)

/-- 'periscopelaw24.OpensBack': WHATEVER THE INPUT: true; the input reads as it did. -/
def opensBackSpec : ChangeSpec := { name := "opensBack", fn := fun _ => fun
  | [d1, d2, d3] => { results := [.lit (.bool true)], args := [d1, d2, d3] }
  | _ => none }
def opensBackRow : OpenClaim := { program := "ytnbkpannhcamjaa", sum := "b030770c46763db5778a114e63d2bf3b870e70d8e31ee83718a50e7772df9851", func := "periscope/periscopelaw24.OpensBack", spec := "opensBack", unfollowed := true, recurses := true, apart := false }
def OpensBackSaid : Prop := opensBackRow.holds Try.pinned (OpenSpec.ofChange opensBackSpec)

/-- ITS FALSE NEIGHBOUR: 'it returns false'. Refute it at one input. -/
def opensBackWrong : ChangeSpec := { name := "opensBack", fn := fun _ => fun
  | [d1, d2, d3] => { results := [.lit (.bool false)], args := [d1, d2, d3] }
  | _ => none }
def OpensBackWrongFalsely : Prop := opensBackRow.holds Try.pinned (OpenSpec.ofChange opensBackWrong)

/-- 'periscopelaw24.OpensApart': WHATEVER THE INPUT: true; the input reads as it did. -/
def opensApartSpec : ChangeSpec := { name := "opensApart", fn := fun _ => fun
  | [d1, d2, d3] => { results := [.lit (.bool true)], args := [d1, d2, d3] }
  | _ => none }
def opensApartRow : OpenClaim := { program := "ytnbkpannhcamjaa", sum := "b030770c46763db5778a114e63d2bf3b870e70d8e31ee83718a50e7772df9851", func := "periscope/periscopelaw24.OpensApart", spec := "opensApart", unfollowed := true, recurses := true, apart := false }
def OpensApartSaid : Prop := opensApartRow.holds Try.pinned (OpenSpec.ofChange opensApartSpec)

/-- ITS FALSE NEIGHBOUR: 'it returns false'. Refute it at one input. -/
def opensApartWrong : ChangeSpec := { name := "opensApart", fn := fun _ => fun
  | [d1, d2, d3] => { results := [.lit (.bool false)], args := [d1, d2, d3] }
  | _ => none }
def OpensApartWrongFalsely : Prop := opensApartRow.holds Try.pinned (OpenSpec.ofChange opensApartWrong)

/- THE SECOND FORM. 'bulk': how many values and letters a reading holds, each counted each time it is reached (what is shared counts as often as it is met; a slice's spare places count too). A statement '..UptoSaid' is the law's where the arguments, and the package variables that the reading takes, are together of bulk at most 1048576: NARROWER than '..Said'. Prove '..Said' where nothing that the law and all that it calls make is longer than what came in: it says more and counts as full. Else prove '..UptoSaid'. A law counts once. -/
mutual
def uptoBulk {H : Type} : DataW H → Nat
  | .lit (.string bytes) => bytes.length + 1
  | .lit _ => 1
  | .nil => 1
  | .ptr d => uptoBulk d + 1
  | .slice elems spare => uptoBulkAll elems + uptoBulkAll spare + 1
  | .agg parts => uptoBulkAll parts + 1
  | .iface _ d => uptoBulk d + 1
  | .map entries => uptoBulkEntries entries + 1
  | .held _ => 1
def uptoBulkAll {H : Type} : List (DataW H) → Nat
  | [] => 0
  | d :: r => uptoBulk d + uptoBulkAll r
def uptoBulkEntries {H : Type} : List (Lit × DataW H) → Nat
  | [] => 0
  | x :: r => uptoBulkEntry x + uptoBulkEntries r
def uptoBulkEntry {H : Type} : Lit × DataW H → Nat
  | (.string bytes, d) => bytes.length + uptoBulk d + 1
  | (_, d) => uptoBulk d + 1
 end
def uptoSmall : (H : Type) → List (DataW H) → Bool := fun _ ds => decide (uptoBulkAll ds ≤ 1048576)
def OpenSpec.upto (s : _root_.Go.ChangeSpec) : _root_.Go.OpenSpec := { _root_.Go.OpenSpec.ofChange s with cond := some uptoSmall }

/-- 'periscopelaw24.OpensSays', WHERE WHAT IT READS IS OF BULK AT MOST 1048576: true; the input reads as it did. -/
def opensSaysUptoRow : OpenClaim := { program := "ytnbkpannhcamjaa", sum := "b030770c46763db5778a114e63d2bf3b870e70d8e31ee83718a50e7772df9851", func := "periscope/periscopelaw24.OpensSays", spec := "opensSays", unfollowed := true, recurses := true, apart := false, narrowed := true }
def OpensSaysUptoSaid : Prop := opensSaysUptoRow.holds Try.pinned (OpenSpec.upto opensSaysSpec)

/-- 'periscopelaw24.OpensBack', WHERE WHAT IT READS IS OF BULK AT MOST 1048576: true; the input reads as it did. -/
def opensBackUptoRow : OpenClaim := { program := "ytnbkpannhcamjaa", sum := "b030770c46763db5778a114e63d2bf3b870e70d8e31ee83718a50e7772df9851", func := "periscope/periscopelaw24.OpensBack", spec := "opensBack", unfollowed := true, recurses := true, apart := false, narrowed := true }
def OpensBackUptoSaid : Prop := opensBackUptoRow.holds Try.pinned (OpenSpec.upto opensBackSpec)

/-- 'periscopelaw24.OpensApart', WHERE WHAT IT READS IS OF BULK AT MOST 1048576: true; the input reads as it did. -/
def opensApartUptoRow : OpenClaim := { program := "ytnbkpannhcamjaa", sum := "b030770c46763db5778a114e63d2bf3b870e70d8e31ee83718a50e7772df9851", func := "periscope/periscopelaw24.OpensApart", spec := "opensApart", unfollowed := true, recurses := true, apart := false, narrowed := true }
def OpensApartUptoSaid : Prop := opensApartUptoRow.holds Try.pinned (OpenSpec.upto opensApartSpec)

end Rows
end Go.Proofs.Ytnbkpannhcamjaa
