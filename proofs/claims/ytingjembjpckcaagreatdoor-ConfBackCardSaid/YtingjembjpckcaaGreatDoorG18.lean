/- Texts put together: Ei Rr Rd Rf. -/
import Derived.Test.YtingjembjpckcaaGreatDoorG16
import Derived.Test.YtingjembjpckcaaGreatDoorG17
import Derived.Deep.RegionHeld3
import Derived.Test.YtingjembjpckcaaGreatDoorG02
import Derived.StillTailTactics
import Derived.BigQuiet
namespace Go.Proofs.YtingjembjpckcaaGreatDoor
set_option linter.unusedVariables false
set_option linter.unusedSimpArgs false
open Go.RowKit Go.Joins

def encP (e : Pd) : List Value := [.int .i64 e.k, .string (bs e.n), .string (bs e.v)]
theorem encP_len (e : Pd) : (encP e).length = 3 := rfl
theorem rowP : RowT Tryz.prog encP 3 38 37 (.agg #[.int .i64 0, .string ByteArray.empty, .string ByteArray.empty]) 40 where
  ht := Tryz.underlying38
  inf := by kernel_rfl
  hzs := rfl
  k0 := by decide
  hk := encP_len
  h1 := fun x u hu => by
    simp [encP] at hu
    rcases hu with rfl | rfl | rfl <;> rfl
  hb := by decide
theorem PX.gx {w : World} {N : Nat → Prop} {A : Option Addr} {L : List Pd} (h : PX w N A L) : GX encP 3 w N A L := by
  intro i hi
  obtain ⟨b, o, e, h1, c0, c1, c2⟩ := h i hi
  refine ⟨b, o, e, h1, fun j hj => ?_⟩
  match j, hj with
  | 0, _ => exact c0
  | 1, _ => rw [← Nat.add_assoc]; exact c1
  | 2, _ => rw [← Nat.add_assoc]; exact c2
theorem GX.px {w : World} {N : Nat → Prop} {A : Option Addr} {L : List Pd} (h : GX encP 3 w N A L) : PX w N A L := by
  intro i hi
  obtain ⟨b, o, e, h1, h2⟩ := h i hi
  refine ⟨b, o, e, h1, ?_, ?_, ?_⟩
  · exact h2 0 (by omega)
  · rw [Nat.add_assoc]; exact h2 1 (by omega)
  · rw [Nat.add_assoc]; exact h2 2 (by omega)
theorem keepBP {w v w' : World} {g : Nat} {k : Int} {n s : List UInt8} (h : BP v g k n s) (hz : Below v.heap.size v w') : w'.cell? ⟨g, 0, none⟩ = some (.int .i64 k) ∧ w'.cell? ⟨g, 1, none⟩ = some (.string (bs n)) ∧ w'.cell? ⟨g, 2, none⟩ = some (.string (bs s)) ∧ Below v.heap.size v w' := by
  obtain ⟨a, b, c⟩ := (h.up hz).cells
  exact ⟨a, b, c, hz⟩
theorem keepPQ {v w' : World} {g g2 : Nat} {k : Int} {n s m h p b : List UInt8} {x : Value} (h1 : BP v g k n s) (h2 : BQ v g2 m h p x b) (hz : Below v.heap.size v w') :
    w'.cell? ⟨g, 0, none⟩ = some (.int .i64 k) ∧ w'.cell? ⟨g, 1, none⟩ = some (.string (bs n)) ∧ w'.cell? ⟨g, 2, none⟩ = some (.string (bs s)) ∧ w'.cell? ⟨g2, 0, none⟩ = some (.string (bs m)) ∧ w'.cell? ⟨g2, 1, none⟩ = some (.string (bs h)) ∧ w'.cell? ⟨g2, 2, none⟩ = some (.string (bs p)) ∧ w'.cell? ⟨g2, 3, none⟩ = some x ∧ w'.cell? ⟨g2, 4, none⟩ = some (.string (bs b)) ∧ Below v.heap.size v w' := by
  obtain ⟨a, b, c⟩ := (h1.up hz).cells
  obtain ⟨q0, q1, q2, q3, q4⟩ := (h2.up hz).cells
  exact ⟨a, b, c, q0, q1, q2, q3, q4, hz⟩
end Go.Proofs.YtingjembjpckcaaGreatDoor
namespace Go.Proofs.YtingjembjpckcaaGreatDoor
set_option linter.unusedVariables false
set_option linter.unusedSimpArgs false
open Go.RowKit Go.Joins

theorem rowR : RowT Tryz.prog encR 10 22 40 (.agg #[.int .i64 0, .slice none 0 0, .string ByteArray.empty, .int .i64 0, .int .i64 0, .int .i64 0, .int .i64 0, .int .i64 0, .string ByteArray.empty, .int .i64 0]) 112 where
  ht := Tryz.underlying22
  inf := by kernel_rfl
  hzs := rfl
  k0 := by decide
  hk := encR_len
  h1 := encR_one
  hb := by decide
/-- What the rules' predicates are, read at blocks that N allows. -/
def RP (w : World) (N : Nat → Prop) (U : List Ru) : Prop := ∀ u ∈ U, PV w N u.x u.ps
theorem RP.imp {w : World} {N M : Nat → Prop} {U : List Ru} (h : RP w N U) (hn : ∀ b, N b → M b) : RP w M U := fun u hu => (h u hu).imp hn
theorem RP.same {w w' : World} {N : Nat → Prop} {U : List Ru} (h : RP w N U) (hs : ∀ b, N b → w'.heap[b]? = w.heap[b]?) : RP w' N U := fun u hu => (h u hu).same hs
theorem RP.up {w w' : World} {U : List Ru} (h : RP w (· < w.heap.size) U) (hb : Below w.heap.size w w') : RP w' (· < w'.heap.size) U := fun u hu => (h u hu).up hb
theorem RP.sub {w : World} {N : Nat → Prop} {U V : List Ru} (h : RP w N U) (hs : ∀ u ∈ V, u ∈ U) : RP w N V := fun u hu => h u (hs u hu)
/-- A slice of rules, as a value that can be read. -/
def RV (w : World) (y : Value) (U : List Ru) : Prop := ∃ A c, y = .slice A U.length c ∧ GX encR 10 w (· < w.heap.size) A U ∧ RP w (· < w.heap.size) U ∧ (A = none → c = 0) ∧ U.length ≤ c ∧ U.length ≤ 9223372036854775807
theorem RV.up {w w' : World} {y : Value} {U : List Ru} (h : RV w y U) (hb : Below w.heap.size w w') : RV w' y U := by
  obtain ⟨A, c, e, h1, h2, h3⟩ := h
  exact ⟨A, c, e, h1.up hb, h2.up hb, h3⟩
theorem eqnil (t e : TypeId) (ht : Tryz.prog.underlying t = some (.slice e)) (a : Option Addr) (n c : Nat) (w : World) : (binOp .eql t (.slice a n c) (.slice none 0 0)).run Tryz.prog w = .ok (.bool a.isNone) w := by
  simp only [binOp]
  simp [run_equal_slice_nil w t e a n c ht]
end Go.Proofs.YtingjembjpckcaaGreatDoor
namespace Go.Proofs.YtingjembjpckcaaGreatDoor
set_option linter.unusedVariables false
set_option linter.unusedSimpArgs false
open Go.RowKit Go.Joins

/-- A variable that holds a rule. -/
def BR (w : World) (g : Nat) (u : Ru) : Prop := Bk w g 40 #[.int .i64 u.rank, .slice u.xa u.xn u.xc, .string (bs u.tg), .int .i64 u.ap, .int .i64 u.st, .int .i64 u.dp, .int .i64 u.dt, .int .i64 u.mp, .string (bs u.mi), .int .i64 u.sm]
theorem BR.new (w : World) (u : Ru) : BR (w.alloc (.cells #[.int .i64 u.rank, .slice u.xa u.xn u.xc, .string (bs u.tg), .int .i64 u.ap, .int .i64 u.st, .int .i64 u.dp, .int .i64 u.dt, .int .i64 u.mp, .string (bs u.mi), .int .i64 u.sm] 40)) w.heap.size u := Bk.new _ _ _
theorem BR.up {w w' : World} {g : Nat} {u : Ru} (k : BR w g u) (hb : Below w.heap.size w w') : BR w' g u := Bk.up k hb
theorem BR.cells {w : World} {g : Nat} {u : Ru} (k : BR w g u) : w.cell? ⟨g, 0, none⟩ = some (.int .i64 u.rank) ∧ w.cell? ⟨g, 1, none⟩ = some (.slice u.xa u.xn u.xc) ∧ w.cell? ⟨g, 2, none⟩ = some (.string (bs u.tg)) ∧ w.cell? ⟨g, 3, none⟩ = some (.int .i64 u.ap) ∧ w.cell? ⟨g, 4, none⟩ = some (.int .i64 u.st) ∧ w.cell? ⟨g, 5, none⟩ = some (.int .i64 u.dp) ∧ w.cell? ⟨g, 6, none⟩ = some (.int .i64 u.dt) ∧ w.cell? ⟨g, 7, none⟩ = some (.int .i64 u.mp) ∧ w.cell? ⟨g, 8, none⟩ = some (.string (bs u.mi)) ∧ w.cell? ⟨g, 9, none⟩ = some (.int .i64 u.sm) :=
  ⟨Bk.cell k 0, Bk.cell k 1, Bk.cell k 2, Bk.cell k 3, Bk.cell k 4, Bk.cell k 5, Bk.cell k 6, Bk.cell k 7, Bk.cell k 8, Bk.cell k 9⟩
/-- A rule's predicates, read where they lie. -/
def UV (w : World) (u : Ru) : Prop := PV w (· < w.heap.size) u.x u.ps
theorem UV.up {w w' : World} {u : Ru} (h : UV w u) (hb : Below w.heap.size w w') : UV w' u := PV.up h hb
theorem UV.out {w : World} {u : Ru} (h : UV w u) : u.xn = u.ps.length ∧ PX w (· < w.heap.size) u.xa u.ps ∧ (u.xa = none → u.xc = 0) ∧ u.ps.length ≤ u.xc ∧ u.ps.length ≤ 9223372036854775807 := by
  obtain ⟨A, c, e, h1, h2, h3, h4⟩ := h
  injection e with e1 e2 e3
  subst e1
  subst e3
  exact ⟨e2, h1, h2, h3, h4⟩
/-- The place of the rule that hits, of the first k rules. -/
def fstK (hit : Ru → Bool) (U : List Ru) : Nat → Option Nat
  | 0 => none
  | k + 1 => match U[k]? with
    | none => fstK hit U k
    | some u => if hit u = true then (match fstK hit U k with | none => some k | some j => if kat rkR U j < u.rank then some k else some j) else fstK hit U k
def fstI (o : Option Nat) : Int := match o with | none => -1 | some j => j
theorem fstK_lt {hit : Ru → Bool} {U : List Ru} : ∀ {k j : Nat}, fstK hit U k = some j → j < k ∧ j < U.length
  | 0, j, h => by simp [fstK] at h
  | k + 1, j, h => by
    rw [fstK] at h
    cases hu : U[k]? with
    | none => rw [hu] at h; have := fstK_lt h; omega
    | some u =>
      rw [hu] at h
      have hk := (List.getElem?_eq_some_iff.1 hu).1
      simp only at h
      by_cases hh : hit u = true
      · rw [if_pos hh] at h
        cases hf : fstK hit U k with
        | none => rw [hf] at h; simp at h; omega
        | some i =>
          rw [hf] at h
          simp only at h
          have h1 := fstK_lt hf
          split at h
          · simp at h; omega
          · simp at h; omega
      · rw [if_neg hh] at h; have := fstK_lt h; omega
end Go.Proofs.YtingjembjpckcaaGreatDoor
namespace Go.Proofs.YtingjembjpckcaaGreatDoor
set_option linter.unusedVariables false
set_option linter.unusedSimpArgs false
open Go.RowKit Go.Joins

/-- A world that has all that v has, and may have more. -/
structure BW (v : World) where
  w : World
  h : Below v.heap.size v w
instance BW.instNonempty (v : World) : Nonempty (BW v) := ⟨⟨v, Below.refl _ _⟩⟩
theorem wp_region_bw {P : Program} {id : Nat} {Q : Exit → Act → World → Prop} {a : Act} {w : World} {l : List Oper} (hm : P.follows .mixedOrders = true) (hB : Region.lexB .any l.toArray = true) (h : wpQuiet P l.toArray (fun w' => ∃ p : BW w, w' = p.w) (fun a' => ∀ w', (∃ p : BW w, w' = p.w) → Q .normal a' w') l a) : (Code.region id l.toArray true).wp P Q a w :=
  wp_region_quiet (C := fun w' => ∃ p : BW w, w' = p.w) hm hB ⟨⟨_, (Below.refl _ _).drew⟩, rfl⟩ (by simpa using h)
theorem calls_bw {P : Program} {f : FuncId} {args : Array Value} {v0 : World} {p : BW v0} {v : Value} (h : Calls P f args p.w fun e w' => e = .returned v ∧ Below p.w.heap.size p.w w') : Calls P f args p.w fun e w'' => e = .returned v ∧ ∃ q : BW v0, w'' = q.w :=
  h.mono fun _ _ ⟨he, hb⟩ => ⟨he, ⟨_, p.h.trans (hb.mono p.h.size)⟩, rfl⟩
theorem BW.cell {v : World} {a : Addr} {x : Value} (h : v.cell? a = some x) (p : BW v) : p.w.cell? a = some x :=
  (p.h.cell (lt_of_cell h)).trans h
end Go.Proofs.YtingjembjpckcaaGreatDoor
