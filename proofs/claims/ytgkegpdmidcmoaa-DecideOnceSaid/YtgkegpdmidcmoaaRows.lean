/-
  No cell of these rows narrows 'for every input' (looked for: loops, veiled, ifaces, maps, wideKeys, modest, calm, conditions, laid).
  DERIVED. THE GIVEN ROWS OF THIS SEAT. 6 by the template 'for every input the law returns true; each argument reads behind the call as it read before'; 0 by the template 'total and deterministic' (their statements: YtgkegpdmidcmoaaTotals.lean).
  GIVEN WITH THE SEED: the statements are not yours to turn. If you find one false, say at which input.
  Laid BY PROGRAM, IN A SANDBOX (cutbox-rows.mjs): the forced cells as the released guide's own fill.sh prints them over the translation a1cf56573bf1e3ef… (all of the seat's roots in one cut). By AI agents, Wed Nov 11 2026. No macro, syntax, notation, axiom, sorry.
-/
import Derived.Test.YtgkegpdmidcmoaaChecked
import GoSem.Claim
import GoSem.ClaimJoined
import GoSem.ClaimMapViews
import Derived.JoinedTies
import Derived.KernelRfl
namespace Go.Proofs.Ytgkegpdmidcmoaa
/- THE CELL 'sum', in the pinned program and in every row, IS THE sha256 OF THE DUMP (.gsa) THAT YtgkegpdmidcmoaaProg.lean LOADS. Nothing in Lean hashes anything: it is a label: what it is worth is what the hold of that sum in a sandbox is worth. -/
noncomputable def Try.pinned : Pinned := { name := "ytgkegpdmidcmoaa", sum := "a1cf56573bf1e3ef81e3b320cc9aa90b018f43651feaff3d44e0b3023730ddfa", checked := Try.checked }
namespace Rows
def none {H : Type} : Left H := { results := [], args := [] }

/-- 'periscopelaw15.ChanceSays': WHATEVER THE INPUT: true; the input reads as it did. -/
def chanceSaysSpec : ChangeSpec := { name := "chanceSays", fn := fun _ => fun
  | [d1, d2, d3, d4] => { results := [.lit (.bool true)], args := [d1, d2, d3, d4] }
  | _ => none }
def chanceSaysRow : OpenClaim := { program := "ytgkegpdmidcmoaa", sum := "a1cf56573bf1e3ef81e3b320cc9aa90b018f43651feaff3d44e0b3023730ddfa", func := "periscope/periscopelaw15.ChanceSays", spec := "chanceSays", apart := false }
def ChanceSaysSaid : Prop := chanceSaysRow.holds Try.pinned (OpenSpec.ofChange chanceSaysSpec)

/-- ITS FALSE NEIGHBOUR: 'it returns false'. Refute it at one input. -/
def chanceSaysWrong : ChangeSpec := { name := "chanceSays", fn := fun _ => fun
  | [d1, d2, d3, d4] => { results := [.lit (.bool false)], args := [d1, d2, d3, d4] }
  | _ => none }
def ChanceSaysWrongFalsely : Prop := chanceSaysRow.holds Try.pinned (OpenSpec.ofChange chanceSaysWrong)

/-- 'periscopelaw15.ChanceParts': WHATEVER THE INPUT: true; the input reads as it did. -/
def chancePartsSpec : ChangeSpec := { name := "chanceParts", fn := fun _ => fun
  | [d1, d2, d3] => { results := [.lit (.bool true)], args := [d1, d2, d3] }
  | _ => none }
def chancePartsRow : OpenClaim := { program := "ytgkegpdmidcmoaa", sum := "a1cf56573bf1e3ef81e3b320cc9aa90b018f43651feaff3d44e0b3023730ddfa", func := "periscope/periscopelaw15.ChanceParts", spec := "chanceParts", apart := false }
def ChancePartsSaid : Prop := chancePartsRow.holds Try.pinned (OpenSpec.ofChange chancePartsSpec)

/-- ITS FALSE NEIGHBOUR: 'it returns false'. Refute it at one input. -/
def chancePartsWrong : ChangeSpec := { name := "chanceParts", fn := fun _ => fun
  | [d1, d2, d3] => { results := [.lit (.bool false)], args := [d1, d2, d3] }
  | _ => none }
def ChancePartsWrongFalsely : Prop := chancePartsRow.holds Try.pinned (OpenSpec.ofChange chancePartsWrong)

/-- 'periscopelaw15.ChanceDraws': WHATEVER THE INPUT: true; the input reads as it did. -/
def chanceDrawsSpec : ChangeSpec := { name := "chanceDraws", fn := fun _ => fun
  | [d1, d2, d3] => { results := [.lit (.bool true)], args := [d1, d2, d3] }
  | _ => none }
def chanceDrawsRow : OpenClaim := { program := "ytgkegpdmidcmoaa", sum := "a1cf56573bf1e3ef81e3b320cc9aa90b018f43651feaff3d44e0b3023730ddfa", func := "periscope/periscopelaw15.ChanceDraws", spec := "chanceDraws", apart := false }
def ChanceDrawsSaid : Prop := chanceDrawsRow.holds Try.pinned (OpenSpec.ofChange chanceDrawsSpec)

/-- ITS FALSE NEIGHBOUR: 'it returns false'. Refute it at one input. -/
def chanceDrawsWrong : ChangeSpec := { name := "chanceDraws", fn := fun _ => fun
  | [d1, d2, d3] => { results := [.lit (.bool false)], args := [d1, d2, d3] }
  | _ => none }
def ChanceDrawsWrongFalsely : Prop := chanceDrawsRow.holds Try.pinned (OpenSpec.ofChange chanceDrawsWrong)

/-- 'periscopelaw16.DecideSays': WHATEVER THE INPUT: true; the input reads as it did. -/
def decideSaysSpec : ChangeSpec := { name := "decideSays", fn := fun _ => fun
  | [d1, d2, d3, d4] => { results := [.lit (.bool true)], args := [d1, d2, d3, d4] }
  | _ => none }
def decideSaysRow : OpenClaim := { program := "ytgkegpdmidcmoaa", sum := "a1cf56573bf1e3ef81e3b320cc9aa90b018f43651feaff3d44e0b3023730ddfa", func := "periscope/periscopelaw16.DecideSays", spec := "decideSays", unfollowed := true, recurses := true, apart := false }
def DecideSaysSaid : Prop := decideSaysRow.holds Try.pinned (OpenSpec.ofChange decideSaysSpec)

/-- ITS FALSE NEIGHBOUR: 'it returns false'. Refute it at one input. -/
def decideSaysWrong : ChangeSpec := { name := "decideSays", fn := fun _ => fun
  | [d1, d2, d3, d4] => { results := [.lit (.bool false)], args := [d1, d2, d3, d4] }
  | _ => none }
def DecideSaysWrongFalsely : Prop := decideSaysRow.holds Try.pinned (OpenSpec.ofChange decideSaysWrong)

/-- 'periscopelaw16.DecideOnce': WHATEVER THE INPUT: true; the input reads as it did. -/
def decideOnceSpec : ChangeSpec := { name := "decideOnce", fn := fun _ => fun
  | [d1, d2, d3] => { results := [.lit (.bool true)], args := [d1, d2, d3] }
  | _ => none }
def decideOnceRow : OpenClaim := { program := "ytgkegpdmidcmoaa", sum := "a1cf56573bf1e3ef81e3b320cc9aa90b018f43651feaff3d44e0b3023730ddfa", func := "periscope/periscopelaw16.DecideOnce", spec := "decideOnce", unfollowed := true, recurses := true, apart := false }
def DecideOnceSaid : Prop := decideOnceRow.holds Try.pinned (OpenSpec.ofChange decideOnceSpec)

/-- ITS FALSE NEIGHBOUR: 'it returns false'. Refute it at one input. -/
def decideOnceWrong : ChangeSpec := { name := "decideOnce", fn := fun _ => fun
  | [d1, d2, d3] => { results := [.lit (.bool false)], args := [d1, d2, d3] }
  | _ => none }
def DecideOnceWrongFalsely : Prop := decideOnceRow.holds Try.pinned (OpenSpec.ofChange decideOnceWrong)

/-- 'periscopelaw16.DecideLeft': WHATEVER THE INPUT: true; the input reads as it did. -/
def decideLeftSpec : ChangeSpec := { name := "decideLeft", fn := fun _ => fun
  | [d1, d2, d3, d4] => { results := [.lit (.bool true)], args := [d1, d2, d3, d4] }
  | _ => none }
def decideLeftRow : OpenClaim := { program := "ytgkegpdmidcmoaa", sum := "a1cf56573bf1e3ef81e3b320cc9aa90b018f43651feaff3d44e0b3023730ddfa", func := "periscope/periscopelaw16.DecideLeft", spec := "decideLeft", unfollowed := true, recurses := true, apart := false }
def DecideLeftSaid : Prop := decideLeftRow.holds Try.pinned (OpenSpec.ofChange decideLeftSpec)

/-- ITS FALSE NEIGHBOUR: 'it returns false'. Refute it at one input. -/
def decideLeftWrong : ChangeSpec := { name := "decideLeft", fn := fun _ => fun
  | [d1, d2, d3, d4] => { results := [.lit (.bool false)], args := [d1, d2, d3, d4] }
  | _ => none }
def DecideLeftWrongFalsely : Prop := decideLeftRow.holds Try.pinned (OpenSpec.ofChange decideLeftWrong)

/- THE SECOND FORM. 'bulk': how many values and letters a reading holds, each counted each time it is reached (what is shared counts as often as it is met; a slice's spare places count too). A statement '..UptoSaid' is the law's where the arguments, and the package variables that the reading takes, are together of bulk at most 1048576: NARROWER than '..Said'. Prove '..Said' where nothing that the law and all that it calls make is longer than what came in: it says more and counts as full. Else prove '..UptoSaid'. A law counts once. -/
mutual
def uptoBulk {H : Type} : DataW H → Nat
  | .lit (.string bytes) => bytes.length + 1
  | .lit _ => 1
  | .nil => 1
  | .ptr d => uptoBulk d + 1
  | .slice elems spare => uptoBulkAll elems + uptoBulkAll spare + 1
  | .agg parts => uptoBulkAll parts + 1
  | .iface _ d => uptoBulk d + 1
  | .map entries => uptoBulkEntries entries + 1
  | .held _ => 1
def uptoBulkAll {H : Type} : List (DataW H) → Nat
  | [] => 0
  | d :: r => uptoBulk d + uptoBulkAll r
def uptoBulkEntries {H : Type} : List (Lit × DataW H) → Nat
  | [] => 0
  | x :: r => uptoBulkEntry x + uptoBulkEntries r
def uptoBulkEntry {H : Type} : Lit × DataW H → Nat
  | (.string bytes, d) => bytes.length + uptoBulk d + 1
  | (_, d) => uptoBulk d + 1
 end
def uptoSmall : (H : Type) → List (DataW H) → Bool := fun _ ds => decide (uptoBulkAll ds ≤ 1048576)
def OpenSpec.upto (s : _root_.Go.ChangeSpec) : _root_.Go.OpenSpec := { _root_.Go.OpenSpec.ofChange s with cond := some uptoSmall }

/-- 'periscopelaw15.ChanceSays', WHERE WHAT IT READS IS OF BULK AT MOST 1048576: true; the input reads as it did. -/
def chanceSaysUptoRow : OpenClaim := { program := "ytgkegpdmidcmoaa", sum := "a1cf56573bf1e3ef81e3b320cc9aa90b018f43651feaff3d44e0b3023730ddfa", func := "periscope/periscopelaw15.ChanceSays", spec := "chanceSays", apart := false, narrowed := true }
def ChanceSaysUptoSaid : Prop := chanceSaysUptoRow.holds Try.pinned (OpenSpec.upto chanceSaysSpec)

/-- 'periscopelaw15.ChanceParts', WHERE WHAT IT READS IS OF BULK AT MOST 1048576: true; the input reads as it did. -/
def chancePartsUptoRow : OpenClaim := { program := "ytgkegpdmidcmoaa", sum := "a1cf56573bf1e3ef81e3b320cc9aa90b018f43651feaff3d44e0b3023730ddfa", func := "periscope/periscopelaw15.ChanceParts", spec := "chanceParts", apart := false, narrowed := true }
def ChancePartsUptoSaid : Prop := chancePartsUptoRow.holds Try.pinned (OpenSpec.upto chancePartsSpec)

/-- 'periscopelaw15.ChanceDraws', WHERE WHAT IT READS IS OF BULK AT MOST 1048576: true; the input reads as it did. -/
def chanceDrawsUptoRow : OpenClaim := { program := "ytgkegpdmidcmoaa", sum := "a1cf56573bf1e3ef81e3b320cc9aa90b018f43651feaff3d44e0b3023730ddfa", func := "periscope/periscopelaw15.ChanceDraws", spec := "chanceDraws", apart := false, narrowed := true }
def ChanceDrawsUptoSaid : Prop := chanceDrawsUptoRow.holds Try.pinned (OpenSpec.upto chanceDrawsSpec)

/-- 'periscopelaw16.DecideSays', WHERE WHAT IT READS IS OF BULK AT MOST 1048576: true; the input reads as it did. -/
def decideSaysUptoRow : OpenClaim := { program := "ytgkegpdmidcmoaa", sum := "a1cf56573bf1e3ef81e3b320cc9aa90b018f43651feaff3d44e0b3023730ddfa", func := "periscope/periscopelaw16.DecideSays", spec := "decideSays", unfollowed := true, recurses := true, apart := false, narrowed := true }
def DecideSaysUptoSaid : Prop := decideSaysUptoRow.holds Try.pinned (OpenSpec.upto decideSaysSpec)

/-- 'periscopelaw16.DecideOnce', WHERE WHAT IT READS IS OF BULK AT MOST 1048576: true; the input reads as it did. -/
def decideOnceUptoRow : OpenClaim := { program := "ytgkegpdmidcmoaa", sum := "a1cf56573bf1e3ef81e3b320cc9aa90b018f43651feaff3d44e0b3023730ddfa", func := "periscope/periscopelaw16.DecideOnce", spec := "decideOnce", unfollowed := true, recurses := true, apart := false, narrowed := true }
def DecideOnceUptoSaid : Prop := decideOnceUptoRow.holds Try.pinned (OpenSpec.upto decideOnceSpec)

/-- 'periscopelaw16.DecideLeft', WHERE WHAT IT READS IS OF BULK AT MOST 1048576: true; the input reads as it did. -/
def decideLeftUptoRow : OpenClaim := { program := "ytgkegpdmidcmoaa", sum := "a1cf56573bf1e3ef81e3b320cc9aa90b018f43651feaff3d44e0b3023730ddfa", func := "periscope/periscopelaw16.DecideLeft", spec := "decideLeft", unfollowed := true, recurses := true, apart := false, narrowed := true }
def DecideLeftUptoSaid : Prop := decideLeftUptoRow.holds Try.pinned (OpenSpec.upto decideLeftSpec)

end Rows
end Go.Proofs.Ytgkegpdmidcmoaa
