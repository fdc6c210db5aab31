/- Plain facts: rules. No program is imported. -/
import Derived.Test.YtmdlkoigjacipaaEp
import Derived.Test.YtmdlkoigjacipaaRt
namespace Go.Proofs.Ytmdlkoigjacipaa
set_option linter.unusedVariables false

/-- A rule, as it lies: where its predicates lie (xa, xn, xc), and what they are (ps). -/
structure Ru where
  rank : Int
  xa : Option Addr
  xn : Nat
  xc : Nat
  ps : List Pd
  tg : List UInt8
  ap : Int
  st : Int
  dp : Int
  dt : Int
  mp : Int
  mi : List UInt8
  sm : Int
/-- A rule, as it is read. -/
structure Rs where
  rank : Int
  ps : List Pd
  tg : List UInt8
  ap : Int
  st : Int
  dp : Int
  dt : Int
  mp : Int
  mi : List UInt8
  sm : Int
  deriving DecidableEq
def Ru.x (u : Ru) : Value := .slice u.xa u.xn u.xc
def Ru.sem (u : Ru) : Rs := ⟨u.rank, u.ps, u.tg, u.ap, u.st, u.dp, u.dt, u.mp, u.mi, u.sm⟩
def encR (u : Ru) : List Value := [.int .i64 u.rank, u.x, .string (bs u.tg), .int .i64 u.ap, .int .i64 u.st, .int .i64 u.dp, .int .i64 u.dt, .int .i64 u.mp, .string (bs u.mi), .int .i64 u.sm]
theorem encR_len (u : Ru) : (encR u).length = 10 := rfl
theorem encR_one (u : Ru) : ∀ v ∈ encR u, v.oneCell' = true := fun v hv => by
  simp [encR] at hv
  rcases hv with rfl | rfl | rfl | rfl | rfl | rfl | rfl | rfl | rfl | rfl <;> rfl
def inPct (n : Int) : Bool := decide (0 ≤ n) && decide (n ≤ 100)
def fltR : List Pd → Int
  | [] => 0
  | e :: r => if cE e.k e.n e.v ≠ 0 then cE e.k e.n e.v else fltR r
def inN (names : List (List UInt8)) (v : List UInt8) : Bool := memB names v
def rngR (r : Rs) : Bool :=
  inPct r.ap && (inPct r.dp && (inPct r.mp && (inPct r.sm && (((decide (400 ≤ r.st) && decide (r.st ≤ 599)) || (decide (r.ap = 0) && decide (r.st = 0))) && ((decide (1 ≤ r.dt) && decide (r.dt ≤ 50)) || (decide (r.dp = 0) && decide (r.dt = 0)))))))
def chkR (r : Rs) (names : List (List UInt8)) : Int :=
  if r.rank < 0 ∨ 99 < r.rank then 12 else if 4 < r.ps.length then 8 else if fltR r.ps ≠ 0 then fltR r.ps else
  if inN names r.tg = false ∨ (r.mi ≠ [] ∧ inN names r.mi = false) then 7 else if rngR r = false then 12 else if 0 < r.mp ∧ r.mi = [] then 9 else 0
def hitR (m h p : List UInt8) (L : List Hd) (r : Rs) : Bool := allE r.ps m h p L
theorem fltR_drop (L : List Pd) (k : Nat) (h : k < L.length) : fltR (L.drop k) = if cE L[k].k L[k].n L[k].v ≠ 0 then cE L[k].k L[k].n L[k].v else fltR (L.drop (k + 1)) := by
  rw [List.drop_eq_getElem_cons h]; rfl
def fewRu (l : List Rs) : Bool := decide (l.length ≤ 40) && l.all fun r => fewP r.ps && decide (r.tg.length + r.mi.length ≤ 400)
def okRs (r : Rs) : Prop := smallP r.ps ∧ r.tg.length ≤ 140737488351232 ∧ r.mi.length ≤ 140737488351232 ∧ r.ps.length ≤ 9223372036854775807
/-- The place of the rule that hits. -/
def bestR (hit : Rs → Bool) : List Rs → Int → Nat → Int
  | [], b, _ => b
  | _ :: _, b, _ => b
end Go.Proofs.Ytmdlkoigjacipaa
