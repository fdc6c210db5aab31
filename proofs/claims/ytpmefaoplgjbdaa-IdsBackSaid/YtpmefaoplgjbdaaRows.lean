/-
  No cell of these rows narrows 'for every input' (looked for: loops, veiled, ifaces, maps, wideKeys, modest, calm, conditions, laid).
  DERIVED. THE GIVEN ROWS OF THIS SEAT. 3 by the template 'for every input the law returns true; each argument reads behind the call as it read before'; 0 by the template 'total and deterministic' (their statements: YtpmefaoplgjbdaaTotals.lean).
  GIVEN WITH THE SEED: the statements are not yours to turn. If you find one false, say at which input.
  Laid BY PROGRAM, IN A SANDBOX (cutbox-rows.mjs): the forced cells as the released guide's own fill.sh prints them over the translation ff771071aab46417… (all of the seat's roots in one cut). By AI agents, Wed Nov 11 2026. No macro, syntax, notation, axiom, sorry.
-/
import Derived.Test.YtpmefaoplgjbdaaChecked
import GoSem.Claim
import GoSem.ClaimJoined
import GoSem.ClaimMapViews
import Derived.JoinedTies
import Derived.KernelRfl
namespace Go.Proofs.Ytpmefaoplgjbdaa
/- THE CELL 'sum', in the pinned program and in every row, IS THE sha256 OF THE DUMP (.gsa) THAT YtpmefaoplgjbdaaProg.lean LOADS. Nothing in Lean hashes anything: it is a label: what it is worth is what the hold of that sum in a sandbox is worth. -/
noncomputable def Try.pinned : Pinned := { name := "ytpmefaoplgjbdaa", sum := "ff771071aab464176a988e1d1aa37411ab2736ae93831205378a92d864a8ca20", checked := Try.checked }
namespace Rows
def none {H : Type} : Left H := { results := [], args := [] }

/-- 'periscopelaw06.IdsTexts': WHATEVER THE INPUT: true; the input reads as it did. -/
def idsTextsSpec : ChangeSpec := { name := "idsTexts", fn := fun _ => fun
  | [d1, d2] => { results := [.lit (.bool true)], args := [d1, d2] }
  | _ => none }
def idsTextsRow : OpenClaim := { program := "ytpmefaoplgjbdaa", sum := "ff771071aab464176a988e1d1aa37411ab2736ae93831205378a92d864a8ca20", func := "periscope/periscopelaw06.IdsTexts", spec := "idsTexts", apart := false }
def IdsTextsSaid : Prop := idsTextsRow.holds Try.pinned (OpenSpec.ofChange idsTextsSpec)

/-- ITS FALSE NEIGHBOUR: 'it returns false'. Refute it at one input. -/
def idsTextsWrong : ChangeSpec := { name := "idsTexts", fn := fun _ => fun
  | [d1, d2] => { results := [.lit (.bool false)], args := [d1, d2] }
  | _ => none }
def IdsTextsWrongFalsely : Prop := idsTextsRow.holds Try.pinned (OpenSpec.ofChange idsTextsWrong)

/-- 'periscopelaw06.IdsDrawn': WHATEVER THE INPUT: true; the input reads as it did. -/
def idsDrawnSpec : ChangeSpec := { name := "idsDrawn", fn := fun _ => fun
  | [d1, d2] => { results := [.lit (.bool true)], args := [d1, d2] }
  | _ => none }
def idsDrawnRow : OpenClaim := { program := "ytpmefaoplgjbdaa", sum := "ff771071aab464176a988e1d1aa37411ab2736ae93831205378a92d864a8ca20", func := "periscope/periscopelaw06.IdsDrawn", spec := "idsDrawn", apart := false }
def IdsDrawnSaid : Prop := idsDrawnRow.holds Try.pinned (OpenSpec.ofChange idsDrawnSpec)

/-- ITS FALSE NEIGHBOUR: 'it returns false'. Refute it at one input. -/
def idsDrawnWrong : ChangeSpec := { name := "idsDrawn", fn := fun _ => fun
  | [d1, d2] => { results := [.lit (.bool false)], args := [d1, d2] }
  | _ => none }
def IdsDrawnWrongFalsely : Prop := idsDrawnRow.holds Try.pinned (OpenSpec.ofChange idsDrawnWrong)

/-- 'periscopelaw06.IdsBack': WHATEVER THE INPUT: true; the input reads as it did. -/
def idsBackSpec : ChangeSpec := { name := "idsBack", fn := fun _ => fun
  | [d1, d2, d3, d4] => { results := [.lit (.bool true)], args := [d1, d2, d3, d4] }
  | _ => none }
def idsBackRow : OpenClaim := { program := "ytpmefaoplgjbdaa", sum := "ff771071aab464176a988e1d1aa37411ab2736ae93831205378a92d864a8ca20", func := "periscope/periscopelaw06.IdsBack", spec := "idsBack", apart := false }
def IdsBackSaid : Prop := idsBackRow.holds Try.pinned (OpenSpec.ofChange idsBackSpec)

/-- ITS FALSE NEIGHBOUR: 'it returns false'. Refute it at one input. -/
def idsBackWrong : ChangeSpec := { name := "idsBack", fn := fun _ => fun
  | [d1, d2, d3, d4] => { results := [.lit (.bool false)], args := [d1, d2, d3, d4] }
  | _ => none }
def IdsBackWrongFalsely : Prop := idsBackRow.holds Try.pinned (OpenSpec.ofChange idsBackWrong)

/- THE SECOND FORM. 'bulk': how many values and letters a reading holds, each counted each time it is reached (what is shared counts as often as it is met; a slice's spare places count too). A statement '..UptoSaid' is the law's where the arguments, and the package variables that the reading takes, are together of bulk at most 1048576: NARROWER than '..Said'. Prove '..Said' where nothing that the law and all that it calls make is longer than what came in: it says more and counts as full. Else prove '..UptoSaid'. A law counts once. -/
mutual
def uptoBulk {H : Type} : DataW H → Nat
  | .lit (.string bytes) => bytes.length + 1
  | .lit _ => 1
  | .nil => 1
  | .ptr d => uptoBulk d + 1
  | .slice elems spare => uptoBulkAll elems + uptoBulkAll spare + 1
  | .agg parts => uptoBulkAll parts + 1
  | .iface _ d => uptoBulk d + 1
  | .map entries => uptoBulkEntries entries + 1
  | .held _ => 1
def uptoBulkAll {H : Type} : List (DataW H) → Nat
  | [] => 0
  | d :: r => uptoBulk d + uptoBulkAll r
def uptoBulkEntries {H : Type} : List (Lit × DataW H) → Nat
  | [] => 0
  | x :: r => uptoBulkEntry x + uptoBulkEntries r
def uptoBulkEntry {H : Type} : Lit × DataW H → Nat
  | (.string bytes, d) => bytes.length + uptoBulk d + 1
  | (_, d) => uptoBulk d + 1
 end
def uptoSmall : (H : Type) → List (DataW H) → Bool := fun _ ds => decide (uptoBulkAll ds ≤ 1048576)
def OpenSpec.upto (s : _root_.Go.ChangeSpec) : _root_.Go.OpenSpec := { _root_.Go.OpenSpec.ofChange s with cond := some uptoSmall }

/-- 'periscopelaw06.IdsTexts', WHERE WHAT IT READS IS OF BULK AT MOST 1048576: true; the input reads as it did. -/
def idsTextsUptoRow : OpenClaim := { program := "ytpmefaoplgjbdaa", sum := "ff771071aab464176a988e1d1aa37411ab2736ae93831205378a92d864a8ca20", func := "periscope/periscopelaw06.IdsTexts", spec := "idsTexts", apart := false, narrowed := true }
def IdsTextsUptoSaid : Prop := idsTextsUptoRow.holds Try.pinned (OpenSpec.upto idsTextsSpec)

/-- 'periscopelaw06.IdsDrawn', WHERE WHAT IT READS IS OF BULK AT MOST 1048576: true; the input reads as it did. -/
def idsDrawnUptoRow : OpenClaim := { program := "ytpmefaoplgjbdaa", sum := "ff771071aab464176a988e1d1aa37411ab2736ae93831205378a92d864a8ca20", func := "periscope/periscopelaw06.IdsDrawn", spec := "idsDrawn", apart := false, narrowed := true }
def IdsDrawnUptoSaid : Prop := idsDrawnUptoRow.holds Try.pinned (OpenSpec.upto idsDrawnSpec)

/-- 'periscopelaw06.IdsBack', WHERE WHAT IT READS IS OF BULK AT MOST 1048576: true; the input reads as it did. -/
def idsBackUptoRow : OpenClaim := { program := "ytpmefaoplgjbdaa", sum := "ff771071aab464176a988e1d1aa37411ab2736ae93831205378a92d864a8ca20", func := "periscope/periscopelaw06.IdsBack", spec := "idsBack", apart := false, narrowed := true }
def IdsBackUptoSaid : Prop := idsBackUptoRow.holds Try.pinned (OpenSpec.upto idsBackSpec)

end Rows
end Go.Proofs.Ytpmefaoplgjbdaa
