/-
  No cell of these rows narrows 'for every input' (looked for: loops, veiled, ifaces, maps, wideKeys, modest, calm, conditions, laid).
  DERIVED. THE GIVEN ROWS OF THIS SEAT. 7 by the template 'for every input the law returns true; each argument reads behind the call as it read before'; 0 by the template 'total and deterministic' (their statements: YtgpioafkahoahaaTotals.lean).
  GIVEN WITH THE SEED: the statements are not yours to turn. If you find one false, say at which input.
  Laid BY PROGRAM, IN A SANDBOX (cutbox-rows.mjs): the forced cells as the released guide's own fill.sh prints them over the translation ed18a734156a47fe… (all of the seat's roots in one cut). By AI agents, Wed Nov 11 2026. No macro, syntax, notation, axiom, sorry.
-/
import Derived.Test.YtgpioafkahoahaaChecked
import GoSem.Claim
import GoSem.ClaimJoined
import GoSem.ClaimMapViews
import Derived.JoinedTies
import Derived.KernelRfl
namespace Go.Proofs.Ytgpioafkahoahaa
/- THE CELL 'sum', in the pinned program and in every row, IS THE sha256 OF THE DUMP (.gsa) THAT YtgpioafkahoahaaProg.lean LOADS. Nothing in Lean hashes anything: it is a label: what it is worth is what the hold of that sum in a sandbox is worth. -/
noncomputable def Try.pinned : Pinned := { name := "ytgpioafkahoahaa", sum := "ed18a734156a47fe8cdd3b980dcbfff77ee7cf12ad0f6d95ba5b103956111216", checked := Try.checked }
namespace Rows
def none {H : Type} : Left H := { results := [], args := [] }

/-- 'periscopelaw09.SpanrecWrites': WHATEVER THE INPUT: true; the input reads as it did. -/
def spanrecWritesSpec : ChangeSpec := { name := "spanrecWrites", fn := fun _ => fun
  | [d] => { results := [.lit (.bool true)], args := [d] }
  | _ => none }
def spanrecWritesRow : OpenClaim := { program := "ytgpioafkahoahaa", sum := "ed18a734156a47fe8cdd3b980dcbfff77ee7cf12ad0f6d95ba5b103956111216", func := "periscope/periscopelaw09.SpanrecWrites", spec := "spanrecWrites", unfollowed := true, recurses := true, apart := false }
def SpanrecWritesSaid : Prop := spanrecWritesRow.holds Try.pinned (OpenSpec.ofChange spanrecWritesSpec)

/-- ITS FALSE NEIGHBOUR: 'it returns false'. Refute it at one input. -/
def spanrecWritesWrong : ChangeSpec := { name := "spanrecWrites", fn := fun _ => fun
  | [d] => { results := [.lit (.bool false)], args := [d] }
  | _ => none }
def SpanrecWritesWrongFalsely : Prop := spanrecWritesRow.holds Try.pinned (OpenSpec.ofChange spanrecWritesWrong)

/-- 'periscopelaw09.SpanrecReads': WHATEVER THE INPUT: true; the input reads as it did. -/
def spanrecReadsSpec : ChangeSpec := { name := "spanrecReads", fn := fun _ => fun
  | [d1, d2] => { results := [.lit (.bool true)], args := [d1, d2] }
  | _ => none }
def spanrecReadsRow : OpenClaim := { program := "ytgpioafkahoahaa", sum := "ed18a734156a47fe8cdd3b980dcbfff77ee7cf12ad0f6d95ba5b103956111216", func := "periscope/periscopelaw09.SpanrecReads", spec := "spanrecReads", unfollowed := true, recurses := true, apart := false }
def SpanrecReadsSaid : Prop := spanrecReadsRow.holds Try.pinned (OpenSpec.ofChange spanrecReadsSpec)

/-- ITS FALSE NEIGHBOUR: 'it returns false'. Refute it at one input. -/
def spanrecReadsWrong : ChangeSpec := { name := "spanrecReads", fn := fun _ => fun
  | [d1, d2] => { results := [.lit (.bool false)], args := [d1, d2] }
  | _ => none }
def SpanrecReadsWrongFalsely : Prop := spanrecReadsRow.holds Try.pinned (OpenSpec.ofChange spanrecReadsWrong)

/-- 'periscopelaw09.SpanrecBack': WHATEVER THE INPUT: true; the input reads as it did. -/
def spanrecBackSpec : ChangeSpec := { name := "spanrecBack", fn := fun _ => fun
  | [d1, d2, d3] => { results := [.lit (.bool true)], args := [d1, d2, d3] }
  | _ => none }
def spanrecBackRow : OpenClaim := { program := "ytgpioafkahoahaa", sum := "ed18a734156a47fe8cdd3b980dcbfff77ee7cf12ad0f6d95ba5b103956111216", func := "periscope/periscopelaw09.SpanrecBack", spec := "spanrecBack", unfollowed := true, recurses := true, apart := false }
def SpanrecBackSaid : Prop := spanrecBackRow.holds Try.pinned (OpenSpec.ofChange spanrecBackSpec)

/-- ITS FALSE NEIGHBOUR: 'it returns false'. Refute it at one input. -/
def spanrecBackWrong : ChangeSpec := { name := "spanrecBack", fn := fun _ => fun
  | [d1, d2, d3] => { results := [.lit (.bool false)], args := [d1, d2, d3] }
  | _ => none }
def SpanrecBackWrongFalsely : Prop := spanrecBackRow.holds Try.pinned (OpenSpec.ofChange spanrecBackWrong)

/-- 'periscopelaw10.BatchWrites': WHATEVER THE INPUT: true; the input reads as it did. -/
def batchWritesSpec : ChangeSpec := { name := "batchWrites", fn := fun _ => fun
  | [d] => { results := [.lit (.bool true)], args := [d] }
  | _ => none }
def batchWritesRow : OpenClaim := { program := "ytgpioafkahoahaa", sum := "ed18a734156a47fe8cdd3b980dcbfff77ee7cf12ad0f6d95ba5b103956111216", func := "periscope/periscopelaw10.BatchWrites", spec := "batchWrites", unfollowed := true, recurses := true, apart := false }
def BatchWritesSaid : Prop := batchWritesRow.holds Try.pinned (OpenSpec.ofChange batchWritesSpec)

/-- ITS FALSE NEIGHBOUR: 'it returns false'. Refute it at one input. -/
def batchWritesWrong : ChangeSpec := { name := "batchWrites", fn := fun _ => fun
  | [d] => { results := [.lit (.bool false)], args := [d] }
  | _ => none }
def BatchWritesWrongFalsely : Prop := batchWritesRow.holds Try.pinned (OpenSpec.ofChange batchWritesWrong)

/-- 'periscopelaw10.BatchReads': WHATEVER THE INPUT: true; the input reads as it did. -/
def batchReadsSpec : ChangeSpec := { name := "batchReads", fn := fun _ => fun
  | [d] => { results := [.lit (.bool true)], args := [d] }
  | _ => none }
def batchReadsRow : OpenClaim := { program := "ytgpioafkahoahaa", sum := "ed18a734156a47fe8cdd3b980dcbfff77ee7cf12ad0f6d95ba5b103956111216", func := "periscope/periscopelaw10.BatchReads", spec := "batchReads", unfollowed := true, recurses := true, apart := false }
def BatchReadsSaid : Prop := batchReadsRow.holds Try.pinned (OpenSpec.ofChange batchReadsSpec)

/-- ITS FALSE NEIGHBOUR: 'it returns false'. Refute it at one input. -/
def batchReadsWrong : ChangeSpec := { name := "batchReads", fn := fun _ => fun
  | [d] => { results := [.lit (.bool false)], args := [d] }
  | _ => none }
def BatchReadsWrongFalsely : Prop := batchReadsRow.holds Try.pinned (OpenSpec.ofChange batchReadsWrong)

/-- 'periscopelaw10.BatchBack': WHATEVER THE INPUT: true; the input reads as it did. -/
def batchBackSpec : ChangeSpec := { name := "batchBack", fn := fun _ => fun
  | [d1, d2] => { results := [.lit (.bool true)], args := [d1, d2] }
  | _ => none }
def batchBackRow : OpenClaim := { program := "ytgpioafkahoahaa", sum := "ed18a734156a47fe8cdd3b980dcbfff77ee7cf12ad0f6d95ba5b103956111216", func := "periscope/periscopelaw10.BatchBack", spec := "batchBack", unfollowed := true, recurses := true, apart := false }
def BatchBackSaid : Prop := batchBackRow.holds Try.pinned (OpenSpec.ofChange batchBackSpec)

/-- ITS FALSE NEIGHBOUR: 'it returns false'. Refute it at one input. -/
def batchBackWrong : ChangeSpec := { name := "batchBack", fn := fun _ => fun
  | [d1, d2] => { results := [.lit (.bool false)], args := [d1, d2] }
  | _ => none }
def BatchBackWrongFalsely : Prop := batchBackRow.holds Try.pinned (OpenSpec.ofChange batchBackWrong)

/-- 'periscopelaw10.BatchTells': WHATEVER THE INPUT: true; the input reads as it did. -/
def batchTellsSpec : ChangeSpec := { name := "batchTells", fn := fun _ => fun
  | [d1, d2, d3] => { results := [.lit (.bool true)], args := [d1, d2, d3] }
  | _ => none }
def batchTellsRow : OpenClaim := { program := "ytgpioafkahoahaa", sum := "ed18a734156a47fe8cdd3b980dcbfff77ee7cf12ad0f6d95ba5b103956111216", func := "periscope/periscopelaw10.BatchTells", spec := "batchTells", unfollowed := true, recurses := true, apart := false }
def BatchTellsSaid : Prop := batchTellsRow.holds Try.pinned (OpenSpec.ofChange batchTellsSpec)

/-- ITS FALSE NEIGHBOUR: 'it returns false'. Refute it at one input. -/
def batchTellsWrong : ChangeSpec := { name := "batchTells", fn := fun _ => fun
  | [d1, d2, d3] => { results := [.lit (.bool false)], args := [d1, d2, d3] }
  | _ => none }
def BatchTellsWrongFalsely : Prop := batchTellsRow.holds Try.pinned (OpenSpec.ofChange batchTellsWrong)

/- THE SECOND FORM. 'bulk': how many values and letters a reading holds, each counted each time it is reached (what is shared counts as often as it is met; a slice's spare places count too). A statement '..UptoSaid' is the law's where the arguments, and the package variables that the reading takes, are together of bulk at most 1048576: NARROWER than '..Said'. Prove '..Said' where nothing that the law and all that it calls make is longer than what came in: it says more and counts as full. Else prove '..UptoSaid'. A law counts once. -/
mutual
def uptoBulk {H : Type} : DataW H → Nat
  | .lit (.string bytes) => bytes.length + 1
  | .lit _ => 1
  | .nil => 1
  | .ptr d => uptoBulk d + 1
  | .slice elems spare => uptoBulkAll elems + uptoBulkAll spare + 1
  | .agg parts => uptoBulkAll parts + 1
  | .iface _ d => uptoBulk d + 1
  | .map entries => uptoBulkEntries entries + 1
  | .held _ => 1
def uptoBulkAll {H : Type} : List (DataW H) → Nat
  | [] => 0
  | d :: r => uptoBulk d + uptoBulkAll r
def uptoBulkEntries {H : Type} : List (Lit × DataW H) → Nat
  | [] => 0
  | x :: r => uptoBulkEntry x + uptoBulkEntries r
def uptoBulkEntry {H : Type} : Lit × DataW H → Nat
  | (.string bytes, d) => bytes.length + uptoBulk d + 1
  | (_, d) => uptoBulk d + 1
 end
def uptoSmall : (H : Type) → List (DataW H) → Bool := fun _ ds => decide (uptoBulkAll ds ≤ 1048576)
def OpenSpec.upto (s : _root_.Go.ChangeSpec) : _root_.Go.OpenSpec := { _root_.Go.OpenSpec.ofChange s with cond := some uptoSmall }

/-- 'periscopelaw09.SpanrecWrites', WHERE WHAT IT READS IS OF BULK AT MOST 1048576: true; the input reads as it did. -/
def spanrecWritesUptoRow : OpenClaim := { program := "ytgpioafkahoahaa", sum := "ed18a734156a47fe8cdd3b980dcbfff77ee7cf12ad0f6d95ba5b103956111216", func := "periscope/periscopelaw09.SpanrecWrites", spec := "spanrecWrites", unfollowed := true, recurses := true, apart := false, narrowed := true }
def SpanrecWritesUptoSaid : Prop := spanrecWritesUptoRow.holds Try.pinned (OpenSpec.upto spanrecWritesSpec)

/-- 'periscopelaw09.SpanrecReads', WHERE WHAT IT READS IS OF BULK AT MOST 1048576: true; the input reads as it did. -/
def spanrecReadsUptoRow : OpenClaim := { program := "ytgpioafkahoahaa", sum := "ed18a734156a47fe8cdd3b980dcbfff77ee7cf12ad0f6d95ba5b103956111216", func := "periscope/periscopelaw09.SpanrecReads", spec := "spanrecReads", unfollowed := true, recurses := true, apart := false, narrowed := true }
def SpanrecReadsUptoSaid : Prop := spanrecReadsUptoRow.holds Try.pinned (OpenSpec.upto spanrecReadsSpec)

/-- 'periscopelaw09.SpanrecBack', WHERE WHAT IT READS IS OF BULK AT MOST 1048576: true; the input reads as it did. -/
def spanrecBackUptoRow : OpenClaim := { program := "ytgpioafkahoahaa", sum := "ed18a734156a47fe8cdd3b980dcbfff77ee7cf12ad0f6d95ba5b103956111216", func := "periscope/periscopelaw09.SpanrecBack", spec := "spanrecBack", unfollowed := true, recurses := true, apart := false, narrowed := true }
def SpanrecBackUptoSaid : Prop := spanrecBackUptoRow.holds Try.pinned (OpenSpec.upto spanrecBackSpec)

/-- 'periscopelaw10.BatchWrites', WHERE WHAT IT READS IS OF BULK AT MOST 1048576: true; the input reads as it did. -/
def batchWritesUptoRow : OpenClaim := { program := "ytgpioafkahoahaa", sum := "ed18a734156a47fe8cdd3b980dcbfff77ee7cf12ad0f6d95ba5b103956111216", func := "periscope/periscopelaw10.BatchWrites", spec := "batchWrites", unfollowed := true, recurses := true, apart := false, narrowed := true }
def BatchWritesUptoSaid : Prop := batchWritesUptoRow.holds Try.pinned (OpenSpec.upto batchWritesSpec)

/-- 'periscopelaw10.BatchReads', WHERE WHAT IT READS IS OF BULK AT MOST 1048576: true; the input reads as it did. -/
def batchReadsUptoRow : OpenClaim := { program := "ytgpioafkahoahaa", sum := "ed18a734156a47fe8cdd3b980dcbfff77ee7cf12ad0f6d95ba5b103956111216", func := "periscope/periscopelaw10.BatchReads", spec := "batchReads", unfollowed := true, recurses := true, apart := false, narrowed := true }
def BatchReadsUptoSaid : Prop := batchReadsUptoRow.holds Try.pinned (OpenSpec.upto batchReadsSpec)

/-- 'periscopelaw10.BatchBack', WHERE WHAT IT READS IS OF BULK AT MOST 1048576: true; the input reads as it did. -/
def batchBackUptoRow : OpenClaim := { program := "ytgpioafkahoahaa", sum := "ed18a734156a47fe8cdd3b980dcbfff77ee7cf12ad0f6d95ba5b103956111216", func := "periscope/periscopelaw10.BatchBack", spec := "batchBack", unfollowed := true, recurses := true, apart := false, narrowed := true }
def BatchBackUptoSaid : Prop := batchBackUptoRow.holds Try.pinned (OpenSpec.upto batchBackSpec)

/-- 'periscopelaw10.BatchTells', WHERE WHAT IT READS IS OF BULK AT MOST 1048576: true; the input reads as it did. -/
def batchTellsUptoRow : OpenClaim := { program := "ytgpioafkahoahaa", sum := "ed18a734156a47fe8cdd3b980dcbfff77ee7cf12ad0f6d95ba5b103956111216", func := "periscope/periscopelaw10.BatchTells", spec := "batchTells", unfollowed := true, recurses := true, apart := false, narrowed := true }
def BatchTellsUptoSaid : Prop := batchTellsUptoRow.holds Try.pinned (OpenSpec.upto batchTellsSpec)

end Rows
end Go.Proofs.Ytgpioafkahoahaa
