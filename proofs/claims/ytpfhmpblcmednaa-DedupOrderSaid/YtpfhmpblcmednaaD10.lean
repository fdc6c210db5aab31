/- Texts put together: Mb. -/
import Derived.Test.YtpfhmpblcmednaaD09
import Derived.Deep.QuietTactic
import Derived.BigQuiet
import Derived.Deep.RegionHeld3
import Derived.Test.YtpfhmpblcmednaaD07
namespace Go.Proofs.Ytpfhmpblcmednaa
set_option linter.unusedVariables false
set_option linter.unusedSimpArgs false
open Go.RowKit

def reqV (m h p : List UInt8) (A : Option Addr) (n c : Nat) (b : List UInt8) : Value := .agg #[.string (bs m), .string (bs h), .string (bs p), .slice A n c, .string (bs b)]
def rspV (s : Int) (A : Option Addr) (n c : Nat) (b : List UInt8) : Value := .agg #[.int .i64 s, .slice A n c, .string (bs b)]
theorem below_new' (w : World) (o : Obj) : Below w.heap.size w (w.alloc o) := (Below.refl _ _).alloc (Nat.le_refl _) _
theorem HReads.later' {w w' : World} {A : Option Addr} {L : List Hd} (h : HReads w (· < w.heap.size) A L) (hb : Below w.heap.size w w') : HReads w' (· < w'.heap.size) A L := (h.below hb).imp fun b hb' => Nat.lt_of_lt_of_le hb' hb.size
end Go.Proofs.Ytpfhmpblcmednaa
