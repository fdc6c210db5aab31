import Derived.Test.YtmdlkoigjacipaaRr
import Derived.Test.YtmdlkoigjacipaaEf
import Derived.Deep.RegionHeld3
import Derived.StillTailTactics
namespace Go.Proofs.Ytmdlkoigjacipaa
set_option linter.unusedVariables false
set_option linter.unusedSimpArgs false
open Go.RowKit Go.Joins

/-- A variable that holds a rule. -/
def BR (w : World) (g : Nat) (u : Ru) : Prop := Bk w g 39 #[.int .i64 u.rank, .slice u.xa u.xn u.xc, .string (bs u.tg), .int .i64 u.ap, .int .i64 u.st, .int .i64 u.dp, .int .i64 u.dt, .int .i64 u.mp, .string (bs u.mi), .int .i64 u.sm]
theorem BR.new (w : World) (u : Ru) : BR (w.alloc (.cells #[.int .i64 u.rank, .slice u.xa u.xn u.xc, .string (bs u.tg), .int .i64 u.ap, .int .i64 u.st, .int .i64 u.dp, .int .i64 u.dt, .int .i64 u.mp, .string (bs u.mi), .int .i64 u.sm] 39)) w.heap.size u := Bk.new _ _ _
theorem BR.up {w w' : World} {g : Nat} {u : Ru} (k : BR w g u) (hb : Below w.heap.size w w') : BR w' g u := Bk.up k hb
theorem BR.cells {w : World} {g : Nat} {u : Ru} (k : BR w g u) : w.cell? ⟨g, 0, none⟩ = some (.int .i64 u.rank) ∧ w.cell? ⟨g, 1, none⟩ = some (.slice u.xa u.xn u.xc) ∧ w.cell? ⟨g, 2, none⟩ = some (.string (bs u.tg)) ∧ w.cell? ⟨g, 3, none⟩ = some (.int .i64 u.ap) ∧ w.cell? ⟨g, 4, none⟩ = some (.int .i64 u.st) ∧ w.cell? ⟨g, 5, none⟩ = some (.int .i64 u.dp) ∧ w.cell? ⟨g, 6, none⟩ = some (.int .i64 u.dt) ∧ w.cell? ⟨g, 7, none⟩ = some (.int .i64 u.mp) ∧ w.cell? ⟨g, 8, none⟩ = some (.string (bs u.mi)) ∧ w.cell? ⟨g, 9, none⟩ = some (.int .i64 u.sm) :=
  ⟨Bk.cell k 0, Bk.cell k 1, Bk.cell k 2, Bk.cell k 3, Bk.cell k 4, Bk.cell k 5, Bk.cell k 6, Bk.cell k 7, Bk.cell k 8, Bk.cell k 9⟩
/-- A rule's predicates, read where they lie. -/
def UV (w : World) (u : Ru) : Prop := PV w (· < w.heap.size) u.x u.ps
theorem UV.up {w w' : World} {u : Ru} (h : UV w u) (hb : Below w.heap.size w w') : UV w' u := PV.up h hb
theorem UV.out {w : World} {u : Ru} (h : UV w u) : u.xn = u.ps.length ∧ PX w (· < w.heap.size) u.xa u.ps ∧ (u.xa = none → u.xc = 0) ∧ u.ps.length ≤ u.xc ∧ u.ps.length ≤ 9223372036854775807 := by
  obtain ⟨A, c, e, h1, h2, h3, h4⟩ := h
  injection e with e1 e2 e3
  subst e1
  subst e3
  exact ⟨e2, h1, h2, h3, h4⟩
set_option maxRecDepth 100000 in
set_option maxHeartbeats 4000000 in
theorem hits_any (u : Ru) (m h p b : List UInt8) (x : Value) (L : List Hd) (w : World) (hu : UV w u) (hx : HV w x L) (hL : L.length ≤ 1000000) {z : Bool} (H : Hid (allE u.ps m h p L = z)) :
    Calls Try.prog 23 #[.agg #[.int .i64 u.rank, .slice u.xa u.xn u.xc, .string (bs u.tg), .int .i64 u.ap, .int .i64 u.st, .int .i64 u.dp, .int .i64 u.dt, .int .i64 u.mp, .string (bs u.mi), .int .i64 u.sm], .agg #[.string (bs m), .string (bs h), .string (bs p), x, .string (bs b)]] w fun e w' => e = .returned (.bool z) ∧ Below w.heap.size w w' := by
  have hb1 := enew w (.cells #[.int .i64 u.rank, .slice u.xa u.xn u.xc, .string (bs u.tg), .int .i64 u.ap, .int .i64 u.st, .int .i64 u.dp, .int .i64 u.dt, .int .i64 u.mp, .string (bs u.mi), .int .i64 u.sm] 39)
  have hb0 := estep hb1 (enew _ (.cells #[.string (bs m), .string (bs h), .string (bs p), x, .string (bs b)] 31))
  have hr0 := (BR.new w u).up (enew _ (.cells #[.string (bs m), .string (bs h), .string (bs p), x, .string (bs b)] 31))
  have hq0 := BQ.new (w.alloc (.cells #[.int .i64 u.rank, .slice u.xa u.xn u.xc, .string (bs u.tg), .int .i64 u.ap, .int .i64 u.st, .int .i64 u.dp, .int .i64 u.dt, .int .i64 u.mp, .string (bs u.mi), .int .i64 u.sm] 39)) m h p x b
  rw [World.size_alloc] at hq0
  obtain ⟨hn, hpx, _, _, hl9⟩ := (hu.up hb0).out
  have hx0 := hx.up hb0
  have HA := hid (fun w2 (h1 : PX w2 (· < w2.heap.size) u.xa u.ps) (h2 : HV w2 x L) => all_any m h p b x L u.xa u.xc u.ps w2 h1 hl9 h2 hL H)
  rw [← hn] at HA
  clear hu hx hb1 hn
  go_enter Try.func23, Try.ntmps23
  go_upto_region 1 with (fail)
  generalize (w.alloc (.cells #[.int .i64 u.rank, .slice u.xa u.xn u.xc, .string (bs u.tg), .int .i64 u.ap, .int .i64 u.st, .int .i64 u.dp, .int .i64 u.dt, .int .i64 u.mp, .string (bs u.mi), .int .i64 u.sm] 39)).alloc (.cells #[.string (bs m), .string (bs h), .string (bs p), x, .string (bs b)] 31) = v0 at *
  obtain ⟨-, r1, -⟩ := hr0.cells
  obtain ⟨q0, q1, q2, q3, q4⟩ := hq0.cells
  go_wp2_with fail
  refine (HA.out _ hpx hx0).mono ?_
  rintro e w1 ⟨rfl, hb2⟩
  go_wp2_with fail
  go_returns
  exact ⟨rfl, estep hb0 hb2⟩
set_option maxRecDepth 100000 in
set_option maxHeartbeats 4000000 in
theorem rhits_any (u : Ru) (m h p b : List UInt8) (x : Value) (L : List Hd) (w : World) (hu : UV w u) (hsm : smallP u.ps) (hx : HV w x L) (hL : L.length ≤ 1000000) (hpl : p.length ≤ 140737488351232) {z : Bool} (H : Hid (allE u.ps m h p L = z)) :
    Calls Try.prog 24 #[.agg #[.int .i64 u.rank, .slice u.xa u.xn u.xc, .string (bs u.tg), .int .i64 u.ap, .int .i64 u.st, .int .i64 u.dp, .int .i64 u.dt, .int .i64 u.mp, .string (bs u.mi), .int .i64 u.sm], .agg #[.string (bs m), .string (bs h), .string (bs p), x, .string (bs b)]] w fun e w' => e = .returned (.bool z) ∧ Below w.heap.size w w' := by
  have hb1 := enew w (.cells #[.int .i64 u.rank, .slice u.xa u.xn u.xc, .string (bs u.tg), .int .i64 u.ap, .int .i64 u.st, .int .i64 u.dp, .int .i64 u.dt, .int .i64 u.mp, .string (bs u.mi), .int .i64 u.sm] 39)
  have hb0 := estep hb1 (enew _ (.cells #[.string (bs m), .string (bs h), .string (bs p), x, .string (bs b)] 31))
  have hr0 := (BR.new w u).up (enew _ (.cells #[.string (bs m), .string (bs h), .string (bs p), x, .string (bs b)] 31))
  have hq0 := BQ.new (w.alloc (.cells #[.int .i64 u.rank, .slice u.xa u.xn u.xc, .string (bs u.tg), .int .i64 u.ap, .int .i64 u.st, .int .i64 u.dp, .int .i64 u.dt, .int .i64 u.mp, .string (bs u.mi), .int .i64 u.sm] 39)) m h p x b
  rw [World.size_alloc] at hq0
  obtain ⟨hn, hpx, _, _, hl9⟩ := (hu.up hb0).out
  have hx0 := hx.up hb0
  have HA := hid (fun w2 (h1 : PX w2 (· < w2.heap.size) u.xa u.ps) (h2 : HV w2 x L) => rallp_any m h p b x L u.xa u.xc u.ps w2 h1 hl9 hsm h2 hL hpl H)
  rw [← hn] at HA
  clear hu hx hb1 hn
  go_enter Try.func24, Try.ntmps24
  go_upto_region 1 with (fail)
  generalize (w.alloc (.cells #[.int .i64 u.rank, .slice u.xa u.xn u.xc, .string (bs u.tg), .int .i64 u.ap, .int .i64 u.st, .int .i64 u.dp, .int .i64 u.dt, .int .i64 u.mp, .string (bs u.mi), .int .i64 u.sm] 39)).alloc (.cells #[.string (bs m), .string (bs h), .string (bs p), x, .string (bs b)] 31) = v0 at *
  obtain ⟨-, r1, -⟩ := hr0.cells
  obtain ⟨q0, q1, q2, q3, q4⟩ := hq0.cells
  go_wp2_with fail
  refine (HA.out _ hpx hx0).mono ?_
  rintro e w1 ⟨rfl, hb2⟩
  go_wp2_with fail
  go_returns
  exact ⟨rfl, estep hb0 hb2⟩
/-- The place of the rule that hits, of the first k rules. -/
def fstK (hit : Ru → Bool) (U : List Ru) : Nat → Option Nat
  | 0 => none
  | k + 1 => match U[k]? with
    | none => fstK hit U k
    | some u => if hit u = true then (match fstK hit U k with | none => some k | some j => if kat rkR U j < u.rank then some k else some j) else fstK hit U k
def fstI (o : Option Nat) : Int := match o with | none => -1 | some j => j
theorem fstK_lt {hit : Ru → Bool} {U : List Ru} : ∀ {k j : Nat}, fstK hit U k = some j → j < k ∧ j < U.length
  | 0, j, h => by simp [fstK] at h
  | k + 1, j, h => by
    rw [fstK] at h
    cases hu : U[k]? with
    | none => rw [hu] at h; have := fstK_lt h; omega
    | some u =>
      rw [hu] at h
      have hk := (List.getElem?_eq_some_iff.1 hu).1
      simp only at h
      by_cases hh : hit u = true
      · rw [if_pos hh] at h
        cases hf : fstK hit U k with
        | none => rw [hf] at h; simp at h; omega
        | some i =>
          rw [hf] at h
          simp only at h
          have h1 := fstK_lt hf
          split at h
          · simp at h; omega
          · simp at h; omega
      · rw [if_neg hh] at h; have := fstK_lt h; omega
end Go.Proofs.Ytmdlkoigjacipaa
