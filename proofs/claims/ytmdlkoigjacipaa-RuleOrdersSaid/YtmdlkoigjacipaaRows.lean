/-
  No cell of these rows narrows 'for every input' (looked for: loops, veiled, ifaces, maps, wideKeys, modest, calm, conditions, laid).
  DERIVED. THE GIVEN ROWS OF THIS SEAT. 6 by the template 'for every input the law returns true; each argument reads behind the call as it read before'; 0 by the template 'total and deterministic' (their statements: YtmdlkoigjacipaaTotals.lean).
  GIVEN WITH THE SEED: the statements are not yours to turn. If you find one false, say at which input.
  Laid BY PROGRAM, IN A SANDBOX (cutbox-rows.mjs): the forced cells as the released guide's own fill.sh prints them over the translation 3aaf0e7e31d9ec54… (all of the seat's roots in one cut). By AI agents, Wed Nov 11 2026. No macro, syntax, notation, axiom, sorry.
-/
import Derived.Test.YtmdlkoigjacipaaChecked
import GoSem.Claim
import GoSem.ClaimJoined
import GoSem.ClaimMapViews
import Derived.JoinedTies
import Derived.KernelRfl
namespace Go.Proofs.Ytmdlkoigjacipaa
/- THE CELL 'sum', in the pinned program and in every row, IS THE sha256 OF THE DUMP (.gsa) THAT YtmdlkoigjacipaaProg.lean LOADS. Nothing in Lean hashes anything: it is a label: what it is worth is what the hold of that sum in a sandbox is worth. -/
noncomputable def Try.pinned : Pinned := { name := "ytmdlkoigjacipaa", sum := "3aaf0e7e31d9ec5497fa9aa28330bc6cdfe1e2729f3371009869e8a071722e38", checked := Try.checked }
namespace Rows
def none {H : Type} : Left H := { results := [], args := [] }

/-- 'periscopelaw11.PredChecks': WHATEVER THE INPUT: true; the input reads as it did. -/
def predChecksSpec : ChangeSpec := { name := "predChecks", fn := fun _ => fun
  | [d] => { results := [.lit (.bool true)], args := [d] }
  | _ => none }
def predChecksRow : OpenClaim := { program := "ytmdlkoigjacipaa", sum := "3aaf0e7e31d9ec5497fa9aa28330bc6cdfe1e2729f3371009869e8a071722e38", func := "periscope/periscopelaw11.PredChecks", spec := "predChecks", unfollowed := true, recurses := true, apart := false }
def PredChecksSaid : Prop := predChecksRow.holds Try.pinned (OpenSpec.ofChange predChecksSpec)

/-- ITS FALSE NEIGHBOUR: 'it returns false'. Refute it at one input. -/
def predChecksWrong : ChangeSpec := { name := "predChecks", fn := fun _ => fun
  | [d] => { results := [.lit (.bool false)], args := [d] }
  | _ => none }
def PredChecksWrongFalsely : Prop := predChecksRow.holds Try.pinned (OpenSpec.ofChange predChecksWrong)

/-- 'periscopelaw11.PredMatches': WHATEVER THE INPUT: true; the input reads as it did. -/
def predMatchesSpec : ChangeSpec := { name := "predMatches", fn := fun _ => fun
  | [d1, d2, d3] => { results := [.lit (.bool true)], args := [d1, d2, d3] }
  | _ => none }
def predMatchesRow : OpenClaim := { program := "ytmdlkoigjacipaa", sum := "3aaf0e7e31d9ec5497fa9aa28330bc6cdfe1e2729f3371009869e8a071722e38", func := "periscope/periscopelaw11.PredMatches", spec := "predMatches", unfollowed := true, recurses := true, apart := false }
def PredMatchesSaid : Prop := predMatchesRow.holds Try.pinned (OpenSpec.ofChange predMatchesSpec)

/-- ITS FALSE NEIGHBOUR: 'it returns false'. Refute it at one input. -/
def predMatchesWrong : ChangeSpec := { name := "predMatches", fn := fun _ => fun
  | [d1, d2, d3] => { results := [.lit (.bool false)], args := [d1, d2, d3] }
  | _ => none }
def PredMatchesWrongFalsely : Prop := predMatchesRow.holds Try.pinned (OpenSpec.ofChange predMatchesWrong)

/-- 'periscopelaw11.PredMore': WHATEVER THE INPUT: true; the input reads as it did. -/
def predMoreSpec : ChangeSpec := { name := "predMore", fn := fun _ => fun
  | [d1, d2, d3, d4] => { results := [.lit (.bool true)], args := [d1, d2, d3, d4] }
  | _ => none }
def predMoreRow : OpenClaim := { program := "ytmdlkoigjacipaa", sum := "3aaf0e7e31d9ec5497fa9aa28330bc6cdfe1e2729f3371009869e8a071722e38", func := "periscope/periscopelaw11.PredMore", spec := "predMore", unfollowed := true, recurses := true, apart := false }
def PredMoreSaid : Prop := predMoreRow.holds Try.pinned (OpenSpec.ofChange predMoreSpec)

/-- ITS FALSE NEIGHBOUR: 'it returns false'. Refute it at one input. -/
def predMoreWrong : ChangeSpec := { name := "predMore", fn := fun _ => fun
  | [d1, d2, d3, d4] => { results := [.lit (.bool false)], args := [d1, d2, d3, d4] }
  | _ => none }
def PredMoreWrongFalsely : Prop := predMoreRow.holds Try.pinned (OpenSpec.ofChange predMoreWrong)

/-- 'periscopelaw12.RuleChecks': WHATEVER THE INPUT: true; the input reads as it did. -/
def ruleChecksSpec : ChangeSpec := { name := "ruleChecks", fn := fun _ => fun
  | [d1, d2] => { results := [.lit (.bool true)], args := [d1, d2] }
  | _ => none }
def ruleChecksRow : OpenClaim := { program := "ytmdlkoigjacipaa", sum := "3aaf0e7e31d9ec5497fa9aa28330bc6cdfe1e2729f3371009869e8a071722e38", func := "periscope/periscopelaw12.RuleChecks", spec := "ruleChecks", unfollowed := true, recurses := true, apart := false }
def RuleChecksSaid : Prop := ruleChecksRow.holds Try.pinned (OpenSpec.ofChange ruleChecksSpec)

/-- ITS FALSE NEIGHBOUR: 'it returns false'. Refute it at one input. -/
def ruleChecksWrong : ChangeSpec := { name := "ruleChecks", fn := fun _ => fun
  | [d1, d2] => { results := [.lit (.bool false)], args := [d1, d2] }
  | _ => none }
def RuleChecksWrongFalsely : Prop := ruleChecksRow.holds Try.pinned (OpenSpec.ofChange ruleChecksWrong)

/-- 'periscopelaw12.RuleFinds': WHATEVER THE INPUT: true; the input reads as it did. -/
def ruleFindsSpec : ChangeSpec := { name := "ruleFinds", fn := fun _ => fun
  | [d1, d2] => { results := [.lit (.bool true)], args := [d1, d2] }
  | _ => none }
def ruleFindsRow : OpenClaim := { program := "ytmdlkoigjacipaa", sum := "3aaf0e7e31d9ec5497fa9aa28330bc6cdfe1e2729f3371009869e8a071722e38", func := "periscope/periscopelaw12.RuleFinds", spec := "ruleFinds", unfollowed := true, recurses := true, apart := false }
def RuleFindsSaid : Prop := ruleFindsRow.holds Try.pinned (OpenSpec.ofChange ruleFindsSpec)

/-- ITS FALSE NEIGHBOUR: 'it returns false'. Refute it at one input. -/
def ruleFindsWrong : ChangeSpec := { name := "ruleFinds", fn := fun _ => fun
  | [d1, d2] => { results := [.lit (.bool false)], args := [d1, d2] }
  | _ => none }
def RuleFindsWrongFalsely : Prop := ruleFindsRow.holds Try.pinned (OpenSpec.ofChange ruleFindsWrong)

/-- 'periscopelaw12.RuleOrders': WHATEVER THE INPUT: true; the input reads as it did. -/
def ruleOrdersSpec : ChangeSpec := { name := "ruleOrders", fn := fun _ => fun
  | [d1, d2] => { results := [.lit (.bool true)], args := [d1, d2] }
  | _ => none }
def ruleOrdersRow : OpenClaim := { program := "ytmdlkoigjacipaa", sum := "3aaf0e7e31d9ec5497fa9aa28330bc6cdfe1e2729f3371009869e8a071722e38", func := "periscope/periscopelaw12.RuleOrders", spec := "ruleOrders", unfollowed := true, recurses := true, apart := false }
def RuleOrdersSaid : Prop := ruleOrdersRow.holds Try.pinned (OpenSpec.ofChange ruleOrdersSpec)

/-- ITS FALSE NEIGHBOUR: 'it returns false'. Refute it at one input. -/
def ruleOrdersWrong : ChangeSpec := { name := "ruleOrders", fn := fun _ => fun
  | [d1, d2] => { results := [.lit (.bool false)], args := [d1, d2] }
  | _ => none }
def RuleOrdersWrongFalsely : Prop := ruleOrdersRow.holds Try.pinned (OpenSpec.ofChange ruleOrdersWrong)

/- THE SECOND FORM. 'bulk': how many values and letters a reading holds, each counted each time it is reached (what is shared counts as often as it is met; a slice's spare places count too). A statement '..UptoSaid' is the law's where the arguments, and the package variables that the reading takes, are together of bulk at most 1048576: NARROWER than '..Said'. Prove '..Said' where nothing that the law and all that it calls make is longer than what came in: it says more and counts as full. Else prove '..UptoSaid'. A law counts once. -/
mutual
def uptoBulk {H : Type} : DataW H → Nat
  | .lit (.string bytes) => bytes.length + 1
  | .lit _ => 1
  | .nil => 1
  | .ptr d => uptoBulk d + 1
  | .slice elems spare => uptoBulkAll elems + uptoBulkAll spare + 1
  | .agg parts => uptoBulkAll parts + 1
  | .iface _ d => uptoBulk d + 1
  | .map entries => uptoBulkEntries entries + 1
  | .held _ => 1
def uptoBulkAll {H : Type} : List (DataW H) → Nat
  | [] => 0
  | d :: r => uptoBulk d + uptoBulkAll r
def uptoBulkEntries {H : Type} : List (Lit × DataW H) → Nat
  | [] => 0
  | x :: r => uptoBulkEntry x + uptoBulkEntries r
def uptoBulkEntry {H : Type} : Lit × DataW H → Nat
  | (.string bytes, d) => bytes.length + uptoBulk d + 1
  | (_, d) => uptoBulk d + 1
 end
def uptoSmall : (H : Type) → List (DataW H) → Bool := fun _ ds => decide (uptoBulkAll ds ≤ 1048576)
def OpenSpec.upto (s : _root_.Go.ChangeSpec) : _root_.Go.OpenSpec := { _root_.Go.OpenSpec.ofChange s with cond := some uptoSmall }

/-- 'periscopelaw11.PredChecks', WHERE WHAT IT READS IS OF BULK AT MOST 1048576: true; the input reads as it did. -/
def predChecksUptoRow : OpenClaim := { program := "ytmdlkoigjacipaa", sum := "3aaf0e7e31d9ec5497fa9aa28330bc6cdfe1e2729f3371009869e8a071722e38", func := "periscope/periscopelaw11.PredChecks", spec := "predChecks", unfollowed := true, recurses := true, apart := false, narrowed := true }
def PredChecksUptoSaid : Prop := predChecksUptoRow.holds Try.pinned (OpenSpec.upto predChecksSpec)

/-- 'periscopelaw11.PredMatches', WHERE WHAT IT READS IS OF BULK AT MOST 1048576: true; the input reads as it did. -/
def predMatchesUptoRow : OpenClaim := { program := "ytmdlkoigjacipaa", sum := "3aaf0e7e31d9ec5497fa9aa28330bc6cdfe1e2729f3371009869e8a071722e38", func := "periscope/periscopelaw11.PredMatches", spec := "predMatches", unfollowed := true, recurses := true, apart := false, narrowed := true }
def PredMatchesUptoSaid : Prop := predMatchesUptoRow.holds Try.pinned (OpenSpec.upto predMatchesSpec)

/-- 'periscopelaw11.PredMore', WHERE WHAT IT READS IS OF BULK AT MOST 1048576: true; the input reads as it did. -/
def predMoreUptoRow : OpenClaim := { program := "ytmdlkoigjacipaa", sum := "3aaf0e7e31d9ec5497fa9aa28330bc6cdfe1e2729f3371009869e8a071722e38", func := "periscope/periscopelaw11.PredMore", spec := "predMore", unfollowed := true, recurses := true, apart := false, narrowed := true }
def PredMoreUptoSaid : Prop := predMoreUptoRow.holds Try.pinned (OpenSpec.upto predMoreSpec)

/-- 'periscopelaw12.RuleChecks', WHERE WHAT IT READS IS OF BULK AT MOST 1048576: true; the input reads as it did. -/
def ruleChecksUptoRow : OpenClaim := { program := "ytmdlkoigjacipaa", sum := "3aaf0e7e31d9ec5497fa9aa28330bc6cdfe1e2729f3371009869e8a071722e38", func := "periscope/periscopelaw12.RuleChecks", spec := "ruleChecks", unfollowed := true, recurses := true, apart := false, narrowed := true }
def RuleChecksUptoSaid : Prop := ruleChecksUptoRow.holds Try.pinned (OpenSpec.upto ruleChecksSpec)

/-- 'periscopelaw12.RuleFinds', WHERE WHAT IT READS IS OF BULK AT MOST 1048576: true; the input reads as it did. -/
def ruleFindsUptoRow : OpenClaim := { program := "ytmdlkoigjacipaa", sum := "3aaf0e7e31d9ec5497fa9aa28330bc6cdfe1e2729f3371009869e8a071722e38", func := "periscope/periscopelaw12.RuleFinds", spec := "ruleFinds", unfollowed := true, recurses := true, apart := false, narrowed := true }
def RuleFindsUptoSaid : Prop := ruleFindsUptoRow.holds Try.pinned (OpenSpec.upto ruleFindsSpec)

/-- 'periscopelaw12.RuleOrders', WHERE WHAT IT READS IS OF BULK AT MOST 1048576: true; the input reads as it did. -/
def ruleOrdersUptoRow : OpenClaim := { program := "ytmdlkoigjacipaa", sum := "3aaf0e7e31d9ec5497fa9aa28330bc6cdfe1e2729f3371009869e8a071722e38", func := "periscope/periscopelaw12.RuleOrders", spec := "ruleOrders", unfollowed := true, recurses := true, apart := false, narrowed := true }
def RuleOrdersUptoSaid : Prop := ruleOrdersUptoRow.holds Try.pinned (OpenSpec.upto ruleOrdersSpec)

end Rows
end Go.Proofs.Ytmdlkoigjacipaa
