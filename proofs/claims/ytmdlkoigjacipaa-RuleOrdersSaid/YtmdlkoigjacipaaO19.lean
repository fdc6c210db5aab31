/- Texts put together: Rr Rd Rf Re Rg Rh Ri Rj Rl Ra Rb Ro Qa Qb Rc Qe Qd Qg Qf. -/
import Derived.Test.YtmdlkoigjacipaaO17
import Derived.Test.YtmdlkoigjacipaaO18
import Derived.Test.YtmdlkoigjacipaaO14
import Derived.Deep.RegionHeld3
import Derived.StillTailTactics
import Derived.BigQuiet
import Derived.Deep.LoopGhost
import Derived.Test.YtmdlkoigjacipaaO13
import Derived.Test.YtmdlkoigjacipaaO05
import Derived.Laws.StructEq
import Derived.Deep.Cut
import Derived.Deep.CutRange
namespace Go.Proofs.Ytmdlkoigjacipaa
set_option linter.unusedVariables false
set_option linter.unusedSimpArgs false
open Go.RowKit Go.Joins

theorem rowR : RowT Try.prog encR 10 44 39 (.agg #[.int .i64 0, .slice none 0 0, .string ByteArray.empty, .int .i64 0, .int .i64 0, .int .i64 0, .int .i64 0, .int .i64 0, .string ByteArray.empty, .int .i64 0]) 112 where
  ht := Try.underlying44
  inf := by kernel_rfl
  hzs := rfl
  k0 := by decide
  hk := encR_len
  h1 := encR_one
  hb := by decide
/-- What the rules' predicates are, read at blocks that N allows. -/
def RP (w : World) (N : Nat → Prop) (U : List Ru) : Prop := ∀ u ∈ U, PV w N u.x u.ps
theorem RP.imp {w : World} {N M : Nat → Prop} {U : List Ru} (h : RP w N U) (hn : ∀ b, N b → M b) : RP w M U := fun u hu => (h u hu).imp hn
theorem RP.same {w w' : World} {N : Nat → Prop} {U : List Ru} (h : RP w N U) (hs : ∀ b, N b → w'.heap[b]? = w.heap[b]?) : RP w' N U := fun u hu => (h u hu).same hs
theorem RP.up {w w' : World} {U : List Ru} (h : RP w (· < w.heap.size) U) (hb : Below w.heap.size w w') : RP w' (· < w'.heap.size) U := fun u hu => (h u hu).up hb
theorem RP.sub {w : World} {N : Nat → Prop} {U V : List Ru} (h : RP w N U) (hs : ∀ u ∈ V, u ∈ U) : RP w N V := fun u hu => h u (hs u hu)
/-- A slice of rules, as a value that can be read. -/
def RV (w : World) (y : Value) (U : List Ru) : Prop := ∃ A c, y = .slice A U.length c ∧ GX encR 10 w (· < w.heap.size) A U ∧ RP w (· < w.heap.size) U ∧ (A = none → c = 0) ∧ U.length ≤ c ∧ U.length ≤ 9223372036854775807
theorem RV.up {w w' : World} {y : Value} {U : List Ru} (h : RV w y U) (hb : Below w.heap.size w w') : RV w' y U := by
  obtain ⟨A, c, e, h1, h2, h3⟩ := h
  exact ⟨A, c, e, h1.up hb, h2.up hb, h3⟩
theorem eqnil (t e : TypeId) (ht : Try.prog.underlying t = some (.slice e)) (a : Option Addr) (n c : Nat) (w : World) : (binOp .eql t (.slice a n c) (.slice none 0 0)).run Try.prog w = .ok (.bool a.isNone) w := by
  simp only [binOp]
  simp [run_equal_slice_nil w t e a n c ht]
set_option maxRecDepth 100000 in
set_option maxHeartbeats 4000000 in
theorem cloneP_any (x : Value) (L : List Pd) (w : World) (hx : PV w (· < w.heap.size) x L) (hl : L.length ≤ 1000000) :
    Calls Try.prog 45 #[x] w fun e w' => ∃ v, e = .returned v ∧ GB encP 3 23 w' w.heap.size v L ∧ Below w.heap.size w w' := by
  obtain ⟨A, c, rfl, h1, h2, h3, h4⟩ := hx
  have heq := eqnil 28 23 Try.underlying28
  rcases A with _ | ad
  · have hL0 : L = [] := by
      rcases L with _ | ⟨p, r⟩
      · rfl
      · obtain ⟨b, o, e, _⟩ := h1 0 (by simp)
        cases e
    subst hL0
    go_enter Try.func45, Try.ntmps45
    go_wp2_with fail
    go_returns
    exact ⟨_, rfl, GB.nil _ _, Below.refl _ _⟩
  · have hb0 := enew w (.cells #[] 23)
    have hown0 : GB encP 3 23 (w.alloc (.cells #[] 23)) w.heap.size (.slice (some ⟨w.heap.size, 0, none⟩) 0 0) [] := by
      have := World.ownsRow_lit (e := 23) (size := 3) w #[] 0 (Nat.le_refl _) (by unfold maxLen; omega) (by simp)
      simpa [GB, gvals] using this
    have H0 := hid (And.intro hb0 (And.intro hown0 (h1.up hb0).gx))
    clear hb0 hown0 h1
    go_enter Try.func45, Try.ntmps45
    go_wp2_with (at_builtin; refine wpList_append_gx (W0 := w) rowP rfl _ _ rfl w.heap.size (.slice (some ⟨w.heap.size, 0, none⟩) 0 0) [] L (some ad) c _ rfl H0.out.2.1 rfl H0.out.2.2 (fun h => by cases h) (by simp; omega) H0.out.1 (Nat.le_refl _) ?_)
    intro v1 w1 hown1 hbel1 _
    have H1 := hid (And.intro hown1 hbel1)
    clear hown1 hbel1
    go_wp2_with fail
    go_returns
    exact ⟨_, rfl, H1.out.1, H1.out.2⟩
set_option maxRecDepth 100000 in
set_option maxHeartbeats 4000000 in
theorem cloneR_any (A : Option Addr) (c : Nat) (U : List Ru) (w : World) (h1 : GX encR 10 w (· < w.heap.size) A U) (h2 : A = none → c = 0) (hl : U.length ≤ 1000000) :
    Calls Try.prog 44 #[.slice A U.length c] w fun e w' => ∃ v, e = .returned v ∧ GB encR 10 39 w' w.heap.size v U ∧ Below w.heap.size w w' := by
  have heq := eqnil 44 39 Try.underlying44
  rcases A with _ | ad
  · have hL0 : U = [] := by
      rcases U with _ | ⟨p, r⟩
      · rfl
      · obtain ⟨b, o, e, _⟩ := h1 0 (by simp)
        cases e
    subst hL0
    go_enter Try.func44, Try.ntmps44
    go_wp2_with fail
    go_returns
    exact ⟨_, rfl, GB.nil _ _, Below.refl _ _⟩
  · have hb0 := enew w (.cells #[] 39)
    have hown0 : GB encR 10 39 (w.alloc (.cells #[] 39)) w.heap.size (.slice (some ⟨w.heap.size, 0, none⟩) 0 0) [] := by
      have := World.ownsRow_lit (e := 39) (size := 10) w #[] 0 (Nat.le_refl _) (by unfold maxLen; omega) (by simp)
      simpa [GB, gvals] using this
    have H0 := hid (And.intro hb0 (And.intro hown0 (h1.up hb0)))
    clear hb0 hown0 h1
    go_enter Try.func44, Try.ntmps44
    go_wp2_with (at_builtin; refine wpList_append_gx (W0 := w) rowR rfl _ _ rfl w.heap.size (.slice (some ⟨w.heap.size, 0, none⟩) 0 0) [] U (some ad) c _ rfl H0.out.2.1 rfl H0.out.2.2 (fun h => by cases h) (by simp; omega) H0.out.1 (Nat.le_refl _) ?_)
    intro v1 w1 hown1 hbel1 _
    have H1 := hid (And.intro hown1 hbel1)
    clear hown1 hbel1
    go_wp2_with fail
    go_returns
    exact ⟨_, rfl, H1.out.1, H1.out.2⟩
end Go.Proofs.Ytmdlkoigjacipaa
namespace Go.Proofs.Ytmdlkoigjacipaa
set_option linter.unusedVariables false
set_option linter.unusedSimpArgs false
open Go.RowKit Go.Joins

/-- A variable that holds a rule. -/
def BR (w : World) (g : Nat) (u : Ru) : Prop := Bk w g 39 #[.int .i64 u.rank, .slice u.xa u.xn u.xc, .string (bs u.tg), .int .i64 u.ap, .int .i64 u.st, .int .i64 u.dp, .int .i64 u.dt, .int .i64 u.mp, .string (bs u.mi), .int .i64 u.sm]
theorem BR.new (w : World) (u : Ru) : BR (w.alloc (.cells #[.int .i64 u.rank, .slice u.xa u.xn u.xc, .string (bs u.tg), .int .i64 u.ap, .int .i64 u.st, .int .i64 u.dp, .int .i64 u.dt, .int .i64 u.mp, .string (bs u.mi), .int .i64 u.sm] 39)) w.heap.size u := Bk.new _ _ _
theorem BR.up {w w' : World} {g : Nat} {u : Ru} (k : BR w g u) (hb : Below w.heap.size w w') : BR w' g u := Bk.up k hb
theorem BR.cells {w : World} {g : Nat} {u : Ru} (k : BR w g u) : w.cell? ⟨g, 0, none⟩ = some (.int .i64 u.rank) ∧ w.cell? ⟨g, 1, none⟩ = some (.slice u.xa u.xn u.xc) ∧ w.cell? ⟨g, 2, none⟩ = some (.string (bs u.tg)) ∧ w.cell? ⟨g, 3, none⟩ = some (.int .i64 u.ap) ∧ w.cell? ⟨g, 4, none⟩ = some (.int .i64 u.st) ∧ w.cell? ⟨g, 5, none⟩ = some (.int .i64 u.dp) ∧ w.cell? ⟨g, 6, none⟩ = some (.int .i64 u.dt) ∧ w.cell? ⟨g, 7, none⟩ = some (.int .i64 u.mp) ∧ w.cell? ⟨g, 8, none⟩ = some (.string (bs u.mi)) ∧ w.cell? ⟨g, 9, none⟩ = some (.int .i64 u.sm) :=
  ⟨Bk.cell k 0, Bk.cell k 1, Bk.cell k 2, Bk.cell k 3, Bk.cell k 4, Bk.cell k 5, Bk.cell k 6, Bk.cell k 7, Bk.cell k 8, Bk.cell k 9⟩
/-- A rule's predicates, read where they lie. -/
def UV (w : World) (u : Ru) : Prop := PV w (· < w.heap.size) u.x u.ps
theorem UV.up {w w' : World} {u : Ru} (h : UV w u) (hb : Below w.heap.size w w') : UV w' u := PV.up h hb
theorem UV.out {w : World} {u : Ru} (h : UV w u) : u.xn = u.ps.length ∧ PX w (· < w.heap.size) u.xa u.ps ∧ (u.xa = none → u.xc = 0) ∧ u.ps.length ≤ u.xc ∧ u.ps.length ≤ 9223372036854775807 := by
  obtain ⟨A, c, e, h1, h2, h3, h4⟩ := h
  injection e with e1 e2 e3
  subst e1
  subst e3
  exact ⟨e2, h1, h2, h3, h4⟩
set_option maxRecDepth 100000 in
set_option maxHeartbeats 4000000 in
theorem hits_any (u : Ru) (m h p b : List UInt8) (x : Value) (L : List Hd) (w : World) (hu : UV w u) (hx : HV w x L) (hL : L.length ≤ 1000000) {z : Bool} (H : Hid (allE u.ps m h p L = z)) :
    Calls Try.prog 23 #[.agg #[.int .i64 u.rank, .slice u.xa u.xn u.xc, .string (bs u.tg), .int .i64 u.ap, .int .i64 u.st, .int .i64 u.dp, .int .i64 u.dt, .int .i64 u.mp, .string (bs u.mi), .int .i64 u.sm], .agg #[.string (bs m), .string (bs h), .string (bs p), x, .string (bs b)]] w fun e w' => e = .returned (.bool z) ∧ Below w.heap.size w w' := by
  have hb1 := enew w (.cells #[.int .i64 u.rank, .slice u.xa u.xn u.xc, .string (bs u.tg), .int .i64 u.ap, .int .i64 u.st, .int .i64 u.dp, .int .i64 u.dt, .int .i64 u.mp, .string (bs u.mi), .int .i64 u.sm] 39)
  have hb0 := estep hb1 (enew _ (.cells #[.string (bs m), .string (bs h), .string (bs p), x, .string (bs b)] 31))
  have hr0 := (BR.new w u).up (enew _ (.cells #[.string (bs m), .string (bs h), .string (bs p), x, .string (bs b)] 31))
  have hq0 := BQ.new (w.alloc (.cells #[.int .i64 u.rank, .slice u.xa u.xn u.xc, .string (bs u.tg), .int .i64 u.ap, .int .i64 u.st, .int .i64 u.dp, .int .i64 u.dt, .int .i64 u.mp, .string (bs u.mi), .int .i64 u.sm] 39)) m h p x b
  rw [World.size_alloc] at hq0
  obtain ⟨hn, hpx, _, _, hl9⟩ := (hu.up hb0).out
  have hx0 := hx.up hb0
  have HA := hid (fun w2 (h1 : PX w2 (· < w2.heap.size) u.xa u.ps) (h2 : HV w2 x L) => all_any m h p b x L u.xa u.xc u.ps w2 h1 hl9 h2 hL H)
  rw [← hn] at HA
  clear hu hx hb1 hn
  go_enter Try.func23, Try.ntmps23
  go_upto_region 1 with (fail)
  generalize (w.alloc (.cells #[.int .i64 u.rank, .slice u.xa u.xn u.xc, .string (bs u.tg), .int .i64 u.ap, .int .i64 u.st, .int .i64 u.dp, .int .i64 u.dt, .int .i64 u.mp, .string (bs u.mi), .int .i64 u.sm] 39)).alloc (.cells #[.string (bs m), .string (bs h), .string (bs p), x, .string (bs b)] 31) = v0 at *
  obtain ⟨-, r1, -⟩ := hr0.cells
  obtain ⟨q0, q1, q2, q3, q4⟩ := hq0.cells
  go_wp2_with fail
  refine (HA.out _ hpx hx0).mono ?_
  rintro e w1 ⟨rfl, hb2⟩
  go_wp2_with fail
  go_returns
  exact ⟨rfl, estep hb0 hb2⟩
set_option maxRecDepth 100000 in
set_option maxHeartbeats 4000000 in
theorem rhits_any (u : Ru) (m h p b : List UInt8) (x : Value) (L : List Hd) (w : World) (hu : UV w u) (hsm : smallP u.ps) (hx : HV w x L) (hL : L.length ≤ 1000000) (hpl : p.length ≤ 140737488351232) {z : Bool} (H : Hid (allE u.ps m h p L = z)) :
    Calls Try.prog 24 #[.agg #[.int .i64 u.rank, .slice u.xa u.xn u.xc, .string (bs u.tg), .int .i64 u.ap, .int .i64 u.st, .int .i64 u.dp, .int .i64 u.dt, .int .i64 u.mp, .string (bs u.mi), .int .i64 u.sm], .agg #[.string (bs m), .string (bs h), .string (bs p), x, .string (bs b)]] w fun e w' => e = .returned (.bool z) ∧ Below w.heap.size w w' := by
  have hb1 := enew w (.cells #[.int .i64 u.rank, .slice u.xa u.xn u.xc, .string (bs u.tg), .int .i64 u.ap, .int .i64 u.st, .int .i64 u.dp, .int .i64 u.dt, .int .i64 u.mp, .string (bs u.mi), .int .i64 u.sm] 39)
  have hb0 := estep hb1 (enew _ (.cells #[.string (bs m), .string (bs h), .string (bs p), x, .string (bs b)] 31))
  have hr0 := (BR.new w u).up (enew _ (.cells #[.string (bs m), .string (bs h), .string (bs p), x, .string (bs b)] 31))
  have hq0 := BQ.new (w.alloc (.cells #[.int .i64 u.rank, .slice u.xa u.xn u.xc, .string (bs u.tg), .int .i64 u.ap, .int .i64 u.st, .int .i64 u.dp, .int .i64 u.dt, .int .i64 u.mp, .string (bs u.mi), .int .i64 u.sm] 39)) m h p x b
  rw [World.size_alloc] at hq0
  obtain ⟨hn, hpx, _, _, hl9⟩ := (hu.up hb0).out
  have hx0 := hx.up hb0
  have HA := hid (fun w2 (h1 : PX w2 (· < w2.heap.size) u.xa u.ps) (h2 : HV w2 x L) => rallp_any m h p b x L u.xa u.xc u.ps w2 h1 hl9 hsm h2 hL hpl H)
  rw [← hn] at HA
  clear hu hx hb1 hn
  go_enter Try.func24, Try.ntmps24
  go_upto_region 1 with (fail)
  generalize (w.alloc (.cells #[.int .i64 u.rank, .slice u.xa u.xn u.xc, .string (bs u.tg), .int .i64 u.ap, .int .i64 u.st, .int .i64 u.dp, .int .i64 u.dt, .int .i64 u.mp, .string (bs u.mi), .int .i64 u.sm] 39)).alloc (.cells #[.string (bs m), .string (bs h), .string (bs p), x, .string (bs b)] 31) = v0 at *
  obtain ⟨-, r1, -⟩ := hr0.cells
  obtain ⟨q0, q1, q2, q3, q4⟩ := hq0.cells
  go_wp2_with fail
  refine (HA.out _ hpx hx0).mono ?_
  rintro e w1 ⟨rfl, hb2⟩
  go_wp2_with fail
  go_returns
  exact ⟨rfl, estep hb0 hb2⟩
/-- The place of the rule that hits, of the first k rules. -/
def fstK (hit : Ru → Bool) (U : List Ru) : Nat → Option Nat
  | 0 => none
  | k + 1 => match U[k]? with
    | none => fstK hit U k
    | some u => if hit u = true then (match fstK hit U k with | none => some k | some j => if kat rkR U j < u.rank then some k else some j) else fstK hit U k
def fstI (o : Option Nat) : Int := match o with | none => -1 | some j => j
theorem fstK_lt {hit : Ru → Bool} {U : List Ru} : ∀ {k j : Nat}, fstK hit U k = some j → j < k ∧ j < U.length
  | 0, j, h => by simp [fstK] at h
  | k + 1, j, h => by
    rw [fstK] at h
    cases hu : U[k]? with
    | none => rw [hu] at h; have := fstK_lt h; omega
    | some u =>
      rw [hu] at h
      have hk := (List.getElem?_eq_some_iff.1 hu).1
      simp only at h
      by_cases hh : hit u = true
      · rw [if_pos hh] at h
        cases hf : fstK hit U k with
        | none => rw [hf] at h; simp at h; omega
        | some i =>
          rw [hf] at h
          simp only at h
          have h1 := fstK_lt hf
          split at h
          · simp at h; omega
          · simp at h; omega
      · rw [if_neg hh] at h; have := fstK_lt h; omega
end Go.Proofs.Ytmdlkoigjacipaa
namespace Go.Proofs.Ytmdlkoigjacipaa
set_option linter.unusedVariables false
set_option linter.unusedSimpArgs false
open Go.RowKit Go.Joins

/-- A world that has all that v has, and may have more. -/
structure BW (v : World) where
  w : World
  h : Below v.heap.size v w
instance BW.instNonempty (v : World) : Nonempty (BW v) := ⟨⟨v, Below.refl _ _⟩⟩
theorem wp_region_bw {P : Program} {id : Nat} {Q : Exit → Act → World → Prop} {a : Act} {w : World} {l : List Oper} (hm : P.follows .mixedOrders = true) (hB : Region.lexB .any l.toArray = true) (h : wpQuiet P l.toArray (fun w' => ∃ p : BW w, w' = p.w) (fun a' => ∀ w', (∃ p : BW w, w' = p.w) → Q .normal a' w') l a) : (Code.region id l.toArray true).wp P Q a w :=
  wp_region_quiet (C := fun w' => ∃ p : BW w, w' = p.w) hm hB ⟨⟨_, (Below.refl _ _).drew⟩, rfl⟩ (by simpa using h)
theorem calls_bw {P : Program} {f : FuncId} {args : Array Value} {v0 : World} {p : BW v0} {v : Value} (h : Calls P f args p.w fun e w' => e = .returned v ∧ Below p.w.heap.size p.w w') : Calls P f args p.w fun e w'' => e = .returned v ∧ ∃ q : BW v0, w'' = q.w :=
  h.mono fun _ _ ⟨he, hb⟩ => ⟨he, ⟨_, p.h.trans (hb.mono p.h.size)⟩, rfl⟩
theorem BW.cell {v : World} {a : Addr} {x : Value} (h : v.cell? a = some x) (p : BW v) : p.w.cell? a = some x :=
  (p.h.cell (lt_of_cell h)).trans h
end Go.Proofs.Ytmdlkoigjacipaa
namespace Go.Proofs.Ytmdlkoigjacipaa
set_option linter.unusedVariables false
set_option linter.unusedSimpArgs false
open Go.RowKit Go.Joins

theorem fstK_none {hit : Ru → Bool} {U : List Ru} {i : Nat} {u : Ru} (hu : U[i]? = some u) (ho : fstK hit U i = none) : fstK hit U (i + 1) = if hit u = true then some i else none := by
  rw [fstK, hu]
  simp only [ho]
theorem fstK_some {hit : Ru → Bool} {U : List Ru} {i j : Nat} {u : Ru} (hu : U[i]? = some u) (ho : fstK hit U i = some j) : fstK hit U (i + 1) = if hit u = true ∧ kat rkR U j < u.rank then some i else some j := by
  rw [fstK, hu]
  simp only [ho]
  by_cases h1 : hit u = true <;> by_cases h2 : kat rkR U j < u.rank <;> simp [h1, h2]
theorem rank_cell {w : World} {N : Nat → Prop} {b o : Nat} {U : List Ru} (h : GX encR 10 w N (some ⟨b, o, none⟩) U) {i : Nat} {u : Ru} (hu : U[i]? = some u) : w.cell? ⟨b, o + i * 10, none⟩ = some (.int .i64 u.rank) ∧ w.cell? ⟨b, o + i * 10 + 1, none⟩ = some (.slice u.xa u.xn u.xc) ∧ w.cell? ⟨b, o + i * 10 + 2, none⟩ = some (.string (bs u.tg)) ∧ w.cell? ⟨b, o + i * 10 + 3, none⟩ = some (.int .i64 u.ap) ∧ w.cell? ⟨b, o + i * 10 + 4, none⟩ = some (.int .i64 u.st) ∧ w.cell? ⟨b, o + i * 10 + 5, none⟩ = some (.int .i64 u.dp) ∧ w.cell? ⟨b, o + i * 10 + 6, none⟩ = some (.int .i64 u.dt) ∧ w.cell? ⟨b, o + i * 10 + 7, none⟩ = some (.int .i64 u.mp) ∧ w.cell? ⟨b, o + i * 10 + 8, none⟩ = some (.string (bs u.mi)) ∧ w.cell? ⟨b, o + i * 10 + 9, none⟩ = some (.int .i64 u.sm) := by
  obtain ⟨hi, rfl⟩ := List.getElem?_eq_some_iff.1 hu
  obtain ⟨b', o', e, _, h2⟩ := h i hi
  injection e with e
  injection e with e1 e2
  subst e1
  subst e2
  exact ⟨h2 0 (by omega), h2 1 (by omega), h2 2 (by omega), h2 3 (by omega), h2 4 (by omega), h2 5 (by omega), h2 6 (by omega), h2 7 (by omega), h2 8 (by omega), h2 9 (by omega)⟩
theorem GX.some_of {w : World} {N : Nat → Prop} {A : Option Addr} {U : List Ru} (h : GX encR 10 w N A U) {i : Nat} (hi : i < U.length) : ∃ b o, A = some ⟨b, o, none⟩ ∧ N b := by
  obtain ⟨b, o, e, h1, _⟩ := h i hi
  exact ⟨b, o, e, h1⟩
set_option maxRecDepth 100000 in
set_option maxHeartbeats 16000000 in
theorem first_any (A : Option Addr) (c : Nat) (U : List Ru) (m h p b : List UInt8) (x : Value) (L : List Hd) (w : World) (hU : GX encR 10 w (· < w.heap.size) A U) (hP : RP w (· < w.heap.size) U) (hl9 : U.length ≤ 1000000) (hx : HV w x L) (hL : L.length ≤ 1000000) {q : Option Nat} (H : Hid (fstK (fun u => allE u.ps m h p L) U U.length = q)) :
    Calls Try.prog 28 #[.slice A U.length c, .agg #[.string (bs m), .string (bs h), .string (bs p), x, .string (bs b)]] w fun e w' => e = .returned (.int .i64 (fstI q)) ∧ Below w.heap.size w w' := by
  have hnot := enot
  have hb0 := enew w (.cells #[.string (bs m), .string (bs h), .string (bs p), x, .string (bs b)] 31)
  have hq0 := BQ.new w m h p x b
  have hx0 := hx.up hb0
  have hU0 := hU.up hb0
  have hP0 := hP.up hb0
  have HH := hid (fun (w2 : World) (u : Ru) (hm : u ∈ U) (hu : UV w2 u) (h2 : HV w2 x L) (z : Bool) (hz : Hid (allE u.ps m h p L = z)) => hits_any u m h p b x L w2 hu h2 hL hz)
  clear hx hU hP
  generalize hnU : U.length = n at *
  have HNU := hid hnU
  clear hnU
  go_enter Try.func28, Try.ntmps28
  go_upto_region 1 with (fail)
  generalize w.alloc (.cells #[.string (bs m), .string (bs h), .string (bs p), x, .string (bs b)] 31) = v0 at *
  have H0 := hid (And.intro hb0 (And.intro hq0 (And.intro hx0 (And.intro hU0 hP0))))
  clear hb0 hq0 hx0 hU0 hP0
  go_wp2_with fail
  go_loopg [5, 10] n (fun g1 vf vi wr => ∃ i : Nat, vi = .int .i64 i ∧ vf = .int .i64 (fstI (fstK (fun u => allE u.ps m h p L) U i)) ∧ i ≤ n ∧ n - i ≤ g1 ∧ Hid (Below v0.heap.size v0 wr))
  case atStart => exact ⟨0, rfl, rfl, by omega, by omega, Below.refl _ _⟩
  case round =>
    obtain ⟨i, rfl, rfl, hin, hgk, HB⟩ := hrel
    by_cases hlt : i < n
    · have hltz : (i : Int) < (n : Int) := by omega
      have hltd : decide ((i : Int) < (n : Int)) = true := decide_eq_true hltz
      have hi0 : (0 : Int) ≤ (i : Int) := by omega
      have hiU : i < U.length := by have := HNU.out; omega
      obtain ⟨u, hu⟩ : ∃ u, U[i]? = some u := ⟨_, List.getElem?_eq_getElem hiU⟩
      have hum : u ∈ U := List.mem_of_getElem? hu
      obtain ⟨bb, oo, rfl, -⟩ := H0.out.2.2.2.1.some_of hiU
      have hUr := H0.out.2.2.2.1.up HB.out
      obtain ⟨z, hz⟩ : ∃ z, allE u.ps m h p L = z := ⟨_, rfl⟩
      have HHU := hid (fun (w2 : World) (hb2 : Below v0.heap.size v0 w2) => HH.out w2 u hum (UV.up (H0.out.2.2.2.2 u hum) hb2) (H0.out.2.2.1.up hb2) z (hid hz))
      have HUU := hid hu
      have HZ := hid hz
      obtain ⟨q, hq⟩ : ∃ q, fstK (fun u => allE u.ps m h p L) U i = q := ⟨_, rfl⟩
      have HQ := hid hq
      rw [hq]
      obtain ⟨r0, r1, r2, r3, r4, r5, r6, r7, r8, r9⟩ := rank_cell hUr hu
      cases q with
      | none =>
        have hf1 : decide (fstI none < 0) = true := rfl
        have HF0 := hid (show fstI none = fstI none from rfl)
        revert HF0
        generalize hff : fstI none = f0 at hf1 ⊢
        intro HF0
        have HF1 := hid hff
        clear hff HF0
        have hbE := enew wr (.cells #[.int .i64 u.rank, .slice u.xa u.xn u.xc, .string (bs u.tg), .int .i64 u.ap, .int .i64 u.st, .int .i64 u.dp, .int .i64 u.dt, .int .i64 u.mp, .string (bs u.mi), .int .i64 u.sm] 39)
        have hrE := BR.new wr u
        have hbT := HB.out.trans (hbE.mono HB.out.size)
        have hqT := H0.out.2.1.up hbT
        go_upto_region 5 with (fail)
        clear r0 r1 r2 r3 r4 r5 r6 r7 r8 r9
        generalize wr.alloc (.cells #[.int .i64 u.rank, .slice u.xa u.xn u.xc, .string (bs u.tg), .int .i64 u.ap, .int .i64 u.st, .int .i64 u.dp, .int .i64 u.dt, .int .i64 u.mp, .string (bs u.mi), .int .i64 u.sm] 39) = v1 at *
        obtain ⟨r0, r1, r2, r3, r4, r5, r6, r7, r8, r9⟩ := hrE.cells
        obtain ⟨q0, q1, q2, q3, q4⟩ := hqT.cells
        have HT := hid hbT
        clear hbE hrE hbT hqT
        have R0 := BW.cell r0
        have R1 := BW.cell r1
        have R2 := BW.cell r2
        have R3 := BW.cell r3
        have R4 := BW.cell r4
        have R5 := BW.cell r5
        have R6 := BW.cell r6
        have R7 := BW.cell r7
        have R8 := BW.cell r8
        have R9 := BW.cell r9
        have Q0 := BW.cell q0
        have Q1 := BW.cell q1
        have Q2 := BW.cell q2
        have Q3 := BW.cell q3
        have Q4 := BW.cell q4
        clear r0 r1 r2 r3 r4 r5 r6 r7 r8 r9 q0 q1 q2 q3 q4
        refine wp_region_bw (by kernel_rfl) (by kernel_rfl) ?_
        repeat (go_big_quiet_step ((go_at_call 23; exact calls_bw (HHU.out _ (estep HT.out (BW.h _))))))
        refine wpQuiet_nil ?_
        rintro _ ⟨pq, rfl⟩
        clear R0 R1 R2 R3 R4 R5 R6 R7 R8 R9 Q0 Q1 Q2 Q3 Q4
        have HB2 := hid (estep HT.out pq.h)
        cases z
        · go_wp2_with fail
          go_roundg (n - (i + 1))
          case measure => omega
          case rel => exact ⟨i + 1, by go_num, by rw [fstK_none HUU.out HQ.out, if_neg (by rw [HZ.out]; simp)]; exact congrArg _ HF1.out.symm, by omega, by omega, HB2.out⟩
        · go_wp2_with fail
          go_roundg (n - (i + 1))
          case measure => omega
          case rel => exact ⟨i + 1, by go_num, by rw [fstK_none HUU.out HQ.out, if_pos HZ.out]; rfl, by omega, by omega, HB2.out⟩
      | some j =>
        obtain ⟨hji, hjU⟩ := fstK_lt hq
        obtain ⟨v, hv⟩ : ∃ v, U[j]? = some v := ⟨_, List.getElem?_eq_getElem hjU⟩
        have hrj := (rank_cell hUr hv).1
        have hkj := kat_eq (key := rkR) hv
        have HKJ := hid hkj
        have hj0 : (0 : Int) ≤ (j : Int) := by omega
        have hjn : (j : Int) < (n : Int) := by omega
        have hjd : decide ((j : Int) < 0) = false := decide_eq_false (by omega)
        clear hv hkj
        simp only [show fstI (some j) = (j : Int) from rfl]
        by_cases hrk : v.rank < u.rank
        · have hrd : decide (v.rank < u.rank) = true := decide_eq_true hrk
          have HRK := hid hrk
          clear hrk
          have hbE := enew wr (.cells #[.int .i64 u.rank, .slice u.xa u.xn u.xc, .string (bs u.tg), .int .i64 u.ap, .int .i64 u.st, .int .i64 u.dp, .int .i64 u.dt, .int .i64 u.mp, .string (bs u.mi), .int .i64 u.sm] 39)
          have hrE := BR.new wr u
          have hbT := HB.out.trans (hbE.mono HB.out.size)
          have hqT := H0.out.2.1.up hbT
          have hrj2 : (wr.alloc (.cells #[.int .i64 u.rank, .slice u.xa u.xn u.xc, .string (bs u.tg), .int .i64 u.ap, .int .i64 u.st, .int .i64 u.dp, .int .i64 u.dt, .int .i64 u.mp, .string (bs u.mi), .int .i64 u.sm] 39)).cell? ⟨bb, oo + j * 10, none⟩ = some (.int .i64 v.rank) := (hbE.cell (p := ⟨bb, oo + j * 10, none⟩) (lt_of_cell (a := ⟨bb, oo + j * 10, none⟩) hrj)).trans hrj
          clear hrj
          go_upto_region 5 with (fail)
          clear r0 r1 r2 r3 r4 r5 r6 r7 r8 r9
          generalize wr.alloc (.cells #[.int .i64 u.rank, .slice u.xa u.xn u.xc, .string (bs u.tg), .int .i64 u.ap, .int .i64 u.st, .int .i64 u.dp, .int .i64 u.dt, .int .i64 u.mp, .string (bs u.mi), .int .i64 u.sm] 39) = v1 at *
          obtain ⟨r0, r1, r2, r3, r4, r5, r6, r7, r8, r9⟩ := hrE.cells
          obtain ⟨q0, q1, q2, q3, q4⟩ := hqT.cells
          have HT := hid hbT
          clear hbE hrE hbT hqT
          have R0 := BW.cell r0
          have R1 := BW.cell r1
          have R2 := BW.cell r2
          have R3 := BW.cell r3
          have R4 := BW.cell r4
          have R5 := BW.cell r5
          have R6 := BW.cell r6
          have R7 := BW.cell r7
          have R8 := BW.cell r8
          have R9 := BW.cell r9
          have Q0 := BW.cell q0
          have Q1 := BW.cell q1
          have Q2 := BW.cell q2
          have Q3 := BW.cell q3
          have Q4 := BW.cell q4
          have RJ := BW.cell hrj2
          clear r0 r1 r2 r3 r4 r5 r6 r7 r8 r9 q0 q1 q2 q3 q4 hrj2
          refine wp_region_bw (by kernel_rfl) (by kernel_rfl) ?_
          repeat (go_big_quiet_step ((go_at_call 23; exact calls_bw (HHU.out _ (estep HT.out (BW.h _))))))
          refine wpQuiet_nil ?_
          rintro _ ⟨pq, rfl⟩
          clear R0 R1 R2 R3 R4 R5 R6 R7 R8 R9 Q0 Q1 Q2 Q3 Q4 RJ
          have HB2 := hid (estep HT.out pq.h)
          cases z
          · go_wp2_with fail
            go_roundg (n - (i + 1))
            case measure => omega
            case rel => exact ⟨i + 1, by go_num, by rw [fstK_some HUU.out HQ.out, if_neg (by rw [HZ.out]; simp)]; rfl, by omega, by omega, HB2.out⟩
          · go_wp2_with fail
            go_roundg (n - (i + 1))
            case measure => omega
            case rel => exact ⟨i + 1, by go_num, by rw [fstK_some HUU.out HQ.out, if_pos ⟨HZ.out, by rw [HKJ.out]; exact HRK.out⟩]; rfl, by omega, by omega, HB2.out⟩
        · have hrd : decide (v.rank < u.rank) = false := decide_eq_false hrk
          have HRK := hid hrk
          clear hrk
          have hbE := enew wr (.cells #[.int .i64 u.rank, .slice u.xa u.xn u.xc, .string (bs u.tg), .int .i64 u.ap, .int .i64 u.st, .int .i64 u.dp, .int .i64 u.dt, .int .i64 u.mp, .string (bs u.mi), .int .i64 u.sm] 39)
          have hrE := BR.new wr u
          have hbT := HB.out.trans (hbE.mono HB.out.size)
          have hqT := H0.out.2.1.up hbT
          have hrj2 : (wr.alloc (.cells #[.int .i64 u.rank, .slice u.xa u.xn u.xc, .string (bs u.tg), .int .i64 u.ap, .int .i64 u.st, .int .i64 u.dp, .int .i64 u.dt, .int .i64 u.mp, .string (bs u.mi), .int .i64 u.sm] 39)).cell? ⟨bb, oo + j * 10, none⟩ = some (.int .i64 v.rank) := (hbE.cell (p := ⟨bb, oo + j * 10, none⟩) (lt_of_cell (a := ⟨bb, oo + j * 10, none⟩) hrj)).trans hrj
          clear hrj
          go_upto_region 5 with (fail)
          clear r0 r1 r2 r3 r4 r5 r6 r7 r8 r9
          generalize wr.alloc (.cells #[.int .i64 u.rank, .slice u.xa u.xn u.xc, .string (bs u.tg), .int .i64 u.ap, .int .i64 u.st, .int .i64 u.dp, .int .i64 u.dt, .int .i64 u.mp, .string (bs u.mi), .int .i64 u.sm] 39) = v1 at *
          obtain ⟨r0, r1, r2, r3, r4, r5, r6, r7, r8, r9⟩ := hrE.cells
          obtain ⟨q0, q1, q2, q3, q4⟩ := hqT.cells
          have HT := hid hbT
          clear hbE hrE hbT hqT
          have R0 := BW.cell r0
          have R1 := BW.cell r1
          have R2 := BW.cell r2
          have R3 := BW.cell r3
          have R4 := BW.cell r4
          have R5 := BW.cell r5
          have R6 := BW.cell r6
          have R7 := BW.cell r7
          have R8 := BW.cell r8
          have R9 := BW.cell r9
          have Q0 := BW.cell q0
          have Q1 := BW.cell q1
          have Q2 := BW.cell q2
          have Q3 := BW.cell q3
          have Q4 := BW.cell q4
          have RJ := BW.cell hrj2
          clear r0 r1 r2 r3 r4 r5 r6 r7 r8 r9 q0 q1 q2 q3 q4 hrj2
          refine wp_region_bw (by kernel_rfl) (by kernel_rfl) ?_
          repeat (go_big_quiet_step ((go_at_call 23; exact calls_bw (HHU.out _ (estep HT.out (BW.h _))))))
          refine wpQuiet_nil ?_
          rintro _ ⟨pq, rfl⟩
          clear R0 R1 R2 R3 R4 R5 R6 R7 R8 R9 Q0 Q1 Q2 Q3 Q4 RJ
          have HB2 := hid (estep HT.out pq.h)
          go_wp2_with fail
          go_roundg (n - (i + 1))
          case measure => omega
          case rel => exact ⟨i + 1, by go_num, by rw [fstK_some HUU.out HQ.out, if_neg (fun h => absurd h.2 (by rw [HKJ.out]; exact Int.not_lt.2 HRK.out))]; rfl, by omega, by omega, HB2.out⟩
    · obtain rfl : i = n := by omega
      have hltz : ¬ (i : Int) < (i : Int) := by omega
      have hltd : decide ((i : Int) < (i : Int)) = false := decide_eq_false hltz
      have HF := hid (show fstK (fun u => allE u.ps m h p L) U i = q from H.out)
      go_wp2_with fail
      go_returns
      exact ⟨by rw [HF.out]; rfl, estep H0.out.1 HB.out⟩
set_option maxRecDepth 100000 in
set_option maxHeartbeats 16000000 in
theorem rfirst_any (A : Option Addr) (c : Nat) (U : List Ru) (m h p b : List UInt8) (x : Value) (L : List Hd) (w : World) (hU : GX encR 10 w (· < w.heap.size) A U) (hP : RP w (· < w.heap.size) U) (hS : ∀ u ∈ U, smallP u.ps) (hpl : p.length ≤ 140737488351232) (hl9 : U.length ≤ 1000000) (hx : HV w x L) (hL : L.length ≤ 1000000) {q : Option Nat} (H : Hid (fstK (fun u => allE u.ps m h p L) U U.length = q)) :
    Calls Try.prog 29 #[.slice A U.length c, .agg #[.string (bs m), .string (bs h), .string (bs p), x, .string (bs b)]] w fun e w' => e = .returned (.int .i64 (fstI q)) ∧ Below w.heap.size w w' := by
  have hnot := enot
  have hb0 := enew w (.cells #[.string (bs m), .string (bs h), .string (bs p), x, .string (bs b)] 31)
  have hq0 := BQ.new w m h p x b
  have hx0 := hx.up hb0
  have hU0 := hU.up hb0
  have hP0 := hP.up hb0
  have HH := hid (fun (w2 : World) (u : Ru) (hm : u ∈ U) (hu : UV w2 u) (h2 : HV w2 x L) (z : Bool) (hz : Hid (allE u.ps m h p L = z)) => rhits_any u m h p b x L w2 hu (hS u hm) h2 hL hpl hz)
  clear hx hU hP hS hpl
  generalize hnU : U.length = n at *
  have HNU := hid hnU
  clear hnU
  go_enter Try.func29, Try.ntmps29
  go_upto_region 1 with (fail)
  generalize w.alloc (.cells #[.string (bs m), .string (bs h), .string (bs p), x, .string (bs b)] 31) = v0 at *
  have H0 := hid (And.intro hb0 (And.intro hq0 (And.intro hx0 (And.intro hU0 hP0))))
  clear hb0 hq0 hx0 hU0 hP0
  go_wp2_with fail
  go_loopg [5, 6] n (fun g1 vf vi wr => ∃ i : Nat, vi = .int .i64 i ∧ vf = .int .i64 (fstI (fstK (fun u => allE u.ps m h p L) U i)) ∧ i ≤ n ∧ n - i ≤ g1 ∧ Hid (Below v0.heap.size v0 wr))
  case atStart => exact ⟨0, rfl, rfl, by omega, by omega, Below.refl _ _⟩
  case round =>
    obtain ⟨i, rfl, rfl, hin, hgk, HB⟩ := hrel
    by_cases hlt : i < n
    · have hltz : (i : Int) < (n : Int) := by omega
      have hltd : decide ((i : Int) < (n : Int)) = true := decide_eq_true hltz
      have hi0 : (0 : Int) ≤ (i : Int) := by omega
      have hiU : i < U.length := by have := HNU.out; omega
      obtain ⟨u, hu⟩ : ∃ u, U[i]? = some u := ⟨_, List.getElem?_eq_getElem hiU⟩
      have hum : u ∈ U := List.mem_of_getElem? hu
      obtain ⟨bb, oo, rfl, -⟩ := H0.out.2.2.2.1.some_of hiU
      have hUr := H0.out.2.2.2.1.up HB.out
      obtain ⟨z, hz⟩ : ∃ z, allE u.ps m h p L = z := ⟨_, rfl⟩
      have HHU := hid (fun (w2 : World) (hb2 : Below v0.heap.size v0 w2) => HH.out w2 u hum (UV.up (H0.out.2.2.2.2 u hum) hb2) (H0.out.2.2.1.up hb2) z (hid hz))
      have HUU := hid hu
      have HZ := hid hz
      obtain ⟨q, hq⟩ : ∃ q, fstK (fun u => allE u.ps m h p L) U i = q := ⟨_, rfl⟩
      have HQ := hid hq
      rw [hq]
      obtain ⟨r0, r1, r2, r3, r4, r5, r6, r7, r8, r9⟩ := rank_cell hUr hu
      obtain ⟨q0, q1, q2, q3, q4⟩ := (H0.out.2.1.up HB.out).cells
      clear hz hu hum
      have R0 := BW.cell r0
      have R1 := BW.cell r1
      have R2 := BW.cell r2
      have R3 := BW.cell r3
      have R4 := BW.cell r4
      have R5 := BW.cell r5
      have R6 := BW.cell r6
      have R7 := BW.cell r7
      have R8 := BW.cell r8
      have R9 := BW.cell r9
      have Q0 := BW.cell q0
      have Q1 := BW.cell q1
      have Q2 := BW.cell q2
      have Q3 := BW.cell q3
      have Q4 := BW.cell q4
      clear r0 r1 r2 r3 r4 r5 r6 r7 r8 r9 q0 q1 q2 q3 q4
      cases z with
      | false =>
        go_upto_region 5 with (fail)
        refine wp_region_bw (by kernel_rfl) (by kernel_rfl) ?_
        repeat (go_big_quiet_step ((go_at_call 24; exact calls_bw (HHU.out _ (estep HB.out (BW.h _))))))
        refine wpQuiet_nil ?_
        rintro _ ⟨pq, rfl⟩
        clear R0 R1 R2 R3 R4 R5 R6 R7 R8 R9 Q0 Q1 Q2 Q3 Q4
        have HB2 := hid (estep HB.out pq.h)
        go_wp2_with fail
        go_roundg (n - (i + 1))
        case measure => omega
        case rel => exact ⟨i + 1, by go_num, by cases q with
          | none => rw [fstK_none HUU.out HQ.out, if_neg (by rw [HZ.out]; simp)]
          | some j => rw [fstK_some HUU.out HQ.out, if_neg (by rw [HZ.out]; simp)], by omega, by omega, HB2.out⟩
      | true =>
        cases q with
        | none =>
          have hf1 : decide (fstI none < 0) = true := rfl
          generalize hff : fstI none = f0 at hf1 ⊢
          clear hff
          go_upto_region 5 with (fail)
          refine wp_region_bw (by kernel_rfl) (by kernel_rfl) ?_
          repeat (go_big_quiet_step ((go_at_call 24; exact calls_bw (HHU.out _ (estep HB.out (BW.h _))))))
          refine wpQuiet_nil ?_
          rintro _ ⟨pq, rfl⟩
          clear R0 R1 R2 R3 R4 R5 R6 R7 R8 R9 Q0 Q1 Q2 Q3 Q4
          have HB2 := hid (estep HB.out pq.h)
          go_wp2_with fail
          go_roundg (n - (i + 1))
          case measure => omega
          case rel => exact ⟨i + 1, by go_num, by rw [fstK_none HUU.out HQ.out, if_pos HZ.out]; rfl, by omega, by omega, HB2.out⟩
        | some j =>
          obtain ⟨hji, hjU⟩ := fstK_lt hq
          obtain ⟨v, hv⟩ : ∃ v, U[j]? = some v := ⟨_, List.getElem?_eq_getElem hjU⟩
          have hrj := BW.cell (rank_cell hUr hv).1
          have hkj := kat_eq (key := rkR) hv
          have HKJ := hid hkj
          have hj0 : (0 : Int) ≤ (j : Int) := by omega
          have hjn : (j : Int) < (n : Int) := by omega
          have hjd : decide ((j : Int) < 0) = false := decide_eq_false (by omega)
          clear hv hkj
          simp only [show fstI (some j) = (j : Int) from rfl]
          by_cases hrk : v.rank < u.rank
          · have hrd : decide (v.rank < u.rank) = true := decide_eq_true hrk
            have HRK := hid hrk
            clear hrk
            go_upto_region 5 with (fail)
            refine wp_region_bw (by kernel_rfl) (by kernel_rfl) ?_
            repeat (go_big_quiet_step ((go_at_call 24; exact calls_bw (HHU.out _ (estep HB.out (BW.h _))))))
            refine wpQuiet_nil ?_
            rintro _ ⟨pq, rfl⟩
            clear R0 R1 R2 R3 R4 R5 R6 R7 R8 R9 Q0 Q1 Q2 Q3 Q4
            have HB2 := hid (estep HB.out pq.h)
            go_wp2_with fail
            go_roundg (n - (i + 1))
            case measure => omega
            case rel => exact ⟨i + 1, by go_num, by rw [fstK_some HUU.out HQ.out, if_pos ⟨HZ.out, by rw [HKJ.out]; exact HRK.out⟩]; rfl, by omega, by omega, HB2.out⟩
          · have hrd : decide (v.rank < u.rank) = false := decide_eq_false hrk
            have HRK := hid (show u.rank ≤ v.rank by omega)
            clear hrk
            go_upto_region 5 with (fail)
            refine wp_region_bw (by kernel_rfl) (by kernel_rfl) ?_
            repeat (go_big_quiet_step ((go_at_call 24; exact calls_bw (HHU.out _ (estep HB.out (BW.h _))))))
            refine wpQuiet_nil ?_
            rintro _ ⟨pq, rfl⟩
            clear R0 R1 R2 R3 R4 R5 R6 R7 R8 R9 Q0 Q1 Q2 Q3 Q4
            have HB2 := hid (estep HB.out pq.h)
            go_wp2_with fail
            go_roundg (n - (i + 1))
            case measure => omega
            case rel => exact ⟨i + 1, by go_num, by rw [fstK_some HUU.out HQ.out, if_neg (fun h => absurd h.2 (by rw [HKJ.out]; exact Int.not_lt.2 HRK.out))]; rfl, by omega, by omega, HB2.out⟩
    · obtain rfl : i = n := by omega
      have hltz : ¬ (i : Int) < (i : Int) := by omega
      have hltd : decide ((i : Int) < (i : Int)) = false := decide_eq_false hltz
      have HF := hid (show fstK (fun u => allE u.ps m h p L) U i = q from H.out)
      go_wp2_with fail
      go_returns
      exact ⟨by rw [HF.out]; rfl, estep H0.out.1 HB.out⟩
end Go.Proofs.Ytmdlkoigjacipaa
namespace Go.Proofs.Ytmdlkoigjacipaa
set_option linter.unusedVariables false
set_option linter.unusedSimpArgs false
open Go.RowKit Go.Joins

theorem rwithin_any (n p q : Int) (w : World) {z : Bool} (H : Hid ((decide (p ≤ n) && decide (n ≤ q)) = z)) :
    Calls Try.prog 38 #[.int .i64 n, .int .i64 p, .int .i64 q] w fun e w' => e = .returned (.bool z) ∧ w = w' := by
  by_cases h1 : p ≤ n
  all_goals by_cases h2 : n ≤ q
  all_goals
    go_enter Try.func38, Try.ntmps38
    go_wp2_with fail
    go_ret
    exact ⟨by rw [← H.out]; simp [h1, h2], rfl⟩
theorem ispart_any (n : Int) (w : World) {z : Bool} (H : Hid (inPct n = z)) :
    Calls Try.prog 66 #[.int .i64 n] w fun e w' => e = .returned (.bool z) ∧ w = w' := by
  have HW := hid (fun w2 => rwithin_any n 0 100 w2 H)
  go_enter Try.func66, Try.ntmps66
  go_wp2_with fail
  refine (HW.out _).mono ?_
  rintro e w1 ⟨rfl, rfl⟩
  go_wp2_with fail
  go_ret
  exact ⟨rfl, rfl⟩
theorem part_any (n : Int) (w : World) {z : Bool} (H : Hid (inPct n = z)) :
    Calls Try.prog 43 #[.int .i64 n] w fun e w' => e = .returned (.bool z) ∧ w = w' := by
  by_cases h1 : 0 ≤ n
  all_goals by_cases h2 : n ≤ 100
  all_goals
    go_enter Try.func43, Try.ntmps43
    go_wp2_with fail
    go_ret
    exact ⟨by rw [← H.out]; simp [inPct, h1, h2], rfl⟩
theorem unused_any (a b : Int) (w : World) {z : Bool} (H : Hid ((decide (a = 0) && decide (b = 0)) = z)) :
    Calls Try.prog 67 #[.int .i64 a, .int .i64 b] w fun e w' => e = .returned (.bool z) ∧ w = w' := by
  by_cases h1 : a = 0
  all_goals by_cases h2 : b = 0
  all_goals
    have d1 : decide (a = 0) = decide (a = 0) := rfl
    go_enter Try.func67, Try.ntmps67
    go_wp2_with fail
    go_ret
    exact ⟨by rw [← H.out]; simp [h1, h2], rfl⟩
/-- names: not too many, and none is too long. -/
def fewN (l : List (List UInt8)) : Bool := decide (l.length ≤ 20) && l.all fun e => decide (e.length ≤ 400)
set_option maxHeartbeats 4000000 in
theorem in_any (A : Option Addr) (cap : Nat) (l : List (List UInt8)) (v : List UInt8) (N : Nat → Prop) (w : World) (hR : STexts w N A l) (hl : l.length ≤ 9223372036854775807) {z : Bool} (H : Hid (inN l v = z)) :
    Calls Try.prog 42 #[.slice A l.length cap, .string (bs v)] w fun e w' => e = .returned (.bool z) ∧ w = w' := by
  have HR := hid hR
  clear hR
  go_enter Try.func42, Try.ntmps42
  go_wp2_with fail
  go_loop [5] (fun i => ∃ k : Nat, k ≤ l.length ∧ i = .int .i64 k ∧ Hid (inN (l.take k) v = false)) (fun i => l.length - (intOf i).toNat)
  case atStart => exact ⟨0, by omega, rfl, hid (by simp [inN, memB])⟩
  case round =>
    obtain ⟨k, hk, rfl, HW⟩ := hrel
    by_cases hlt : k < l.length
    · obtain ⟨ad, rfl, hB, hc⟩ := HR.out k hlt
      by_cases he : (l[k] == v) = true
      · have HE := hid (show inN l v = true by
          rw [inN, memB, List.contains_iff_mem]
          exact (eq_of_beq he) ▸ List.getElem_mem hlt)
        go_wp2_with fail
        go_ret
        exact ⟨by rw [← H.out, HE.out]; rfl, rfl⟩
      · have he' : (l[k] == v) = false := by simpa using he
        have HE := hid (show inN (l.take (k + 1)) v = false by
          have h1 := HW.out
          rw [Bool.eq_false_iff] at h1 ⊢
          intro h2
          have h1 : v ∉ l.take k := fun hm => h1 (List.contains_iff_mem.2 hm)
          rw [inN, memB, List.contains_iff_mem] at h2
          rw [← List.take_append_getElem hlt, List.mem_append] at h2
          rcases h2 with h2 | h2
          · exact h1 h2
          · rw [List.mem_singleton] at h2
            rw [← h2] at he'
            simp at he')
        clear he
        go_wp2_with fail
        go_round
        case rel => exact ⟨k + 1, by omega, by go_num, hid HE.out⟩
        case measure => simp [intOf]; omega
    · obtain rfl : k = l.length := by omega
      have HE := hid (show inN l v = false by have := HW.out; rw [List.take_length] at this; exact this)
      go_wp2_with fail
      go_ret
      exact ⟨by rw [← H.out, HE.out]; rfl, rfl⟩
set_option maxHeartbeats 4000000 in
theorem names_any (A : Option Addr) (cap : Nat) (l : List (List UInt8)) (N : Nat → Prop) (w : World) (hR : STexts w N A l) (hl : l.length ≤ 9223372036854775807) (hs : ∀ e ∈ l, e.length ≤ 9223372036854775807) {z : Bool} (H : Hid (fewN l = z)) :
    Calls Try.prog 18 #[.slice A l.length cap] w fun e w' => e = .returned (.bool z) ∧ w = w' := by
  have HR := hid hR
  have HS := hid hs
  clear hR hs
  go_enter Try.func18, Try.ntmps18
  go_wp2_with fail
  go_loop [3] (fun i => ∃ k : Nat, k ≤ l.length ∧ k ≤ 21 ∧ i = .int .i64 k ∧ Hid ((l.take k).all (fun e => decide (e.length ≤ 400)) = true)) (fun i => l.length - (intOf i).toNat)
  case atStart => exact ⟨0, by omega, by omega, rfl, hid rfl⟩
  case round =>
    obtain ⟨k, hk, hk2, rfl, HW⟩ := hrel
    by_cases hlt : k < l.length
    · have hd0 : decide ((k : Int) < (l.length : Int)) = true := decide_eq_true (by omega)
      by_cases h20 : k ≤ 20
      · have hd1 : decide ((k : Int) ≤ 20) = true := decide_eq_true (by omega)
        obtain ⟨ad, rfl, hB, hc⟩ := HR.out k hlt
        have hsz := HS.out l[k] (List.getElem_mem hlt)
        have HT := hid (all_take' (fun e : List UInt8 => decide (e.length ≤ 400)) l k hlt)
        have HF := hid (fun (hp : decide (l[k].length ≤ 400) = false) => all_false' (p := fun e : List UInt8 => decide (e.length ≤ 400)) hlt hp)
        generalize l[k] = y at *
        by_cases hle : y.length ≤ 400
        · have hd : decide ((400 : Int) < (y.length : Int)) = false := decide_eq_false (by omega)
          go_wp2_with fail
          go_round
          case rel => exact ⟨k + 1, by omega, by omega, by go_num, hid (by rw [HT.out, HW.out, decide_eq_true hle]; rfl)⟩
          case measure => simp [intOf]; omega
        · have hd : decide ((400 : Int) < (y.length : Int)) = true := decide_eq_true (by omega)
          have HE := hid (show fewN l = false by rw [fewN, HF.out (decide_eq_false hle), Bool.and_false])
          go_wp2_with fail
          go_ret
          exact ⟨by rw [← H.out, HE.out]; rfl, rfl⟩
      · have hd1 : decide ((k : Int) ≤ 20) = false := decide_eq_false (by omega)
        have hd2 : decide ((l.length : Int) ≤ 20) = false := decide_eq_false (by omega)
        have HE := hid (show fewN l = false by rw [fewN, decide_eq_false (by omega), Bool.false_and])
        go_wp2_with fail
        go_ret
        exact ⟨by rw [← H.out, HE.out]; rfl, rfl⟩
    · obtain rfl : k = l.length := by omega
      have hd0 : decide ((l.length : Int) < (l.length : Int)) = false := decide_eq_false (by omega)
      have hall : l.all (fun e => decide (e.length ≤ 400)) = true := by have := HW.out; rw [List.take_length] at this; exact this
      have HE := hid (show fewN l = decide ((l.length : Int) ≤ 20) by rw [fewN, hall, Bool.and_true]; exact decide_eq_decide.2 (by omega))
      clear hall
      go_wp2_with fail
      go_ret
      exact ⟨by rw [← H.out, HE.out]; rfl, rfl⟩
end Go.Proofs.Ytmdlkoigjacipaa
namespace Go.Proofs.Ytmdlkoigjacipaa
set_option linter.unusedVariables false
set_option linter.unusedSimpArgs false
open Go.RowKit Go.Joins

set_option maxRecDepth 100000 in
set_option maxHeartbeats 16000000 in
theorem inranges_any (u : Ru) (w : World) {z : Bool} (H : Hid (rngR u.sem = z)) :
    Calls Try.prog 41 #[.agg #[.int .i64 u.rank, .slice u.xa u.xn u.xc, .string (bs u.tg), .int .i64 u.ap, .int .i64 u.st, .int .i64 u.dp, .int .i64 u.dt, .int .i64 u.mp, .string (bs u.mi), .int .i64 u.sm]] w fun e w' => e = .returned (.bool z) ∧ Below w.heap.size w w' := by
  have hb0 := enew w (.cells #[.int .i64 u.rank, .slice u.xa u.xn u.xc, .string (bs u.tg), .int .i64 u.ap, .int .i64 u.st, .int .i64 u.dp, .int .i64 u.dt, .int .i64 u.mp, .string (bs u.mi), .int .i64 u.sm] 39)
  have hr0 := BR.new w u
  have HC := hid (show rngR u.sem = (inPct u.ap && (inPct u.dp && (inPct u.mp && (inPct u.sm && (((decide (400 ≤ u.st) && decide (u.st ≤ 599)) || (decide (u.ap = 0) && decide (u.st = 0))) && ((decide (1 ≤ u.dt) && decide (u.dt ≤ 50)) || (decide (u.dp = 0) && decide (u.dt = 0)))))))) from rfl)
  obtain ⟨z1, hz1⟩ : ∃ z, inPct u.ap = z := ⟨_, rfl⟩
  obtain ⟨z2, hz2⟩ : ∃ z, inPct u.dp = z := ⟨_, rfl⟩
  obtain ⟨z3, hz3⟩ : ∃ z, inPct u.mp = z := ⟨_, rfl⟩
  obtain ⟨z4, hz4⟩ : ∃ z, inPct u.sm = z := ⟨_, rfl⟩
  obtain ⟨z5, hz5⟩ : ∃ z, (decide (400 ≤ u.st) && decide (u.st ≤ 599)) = z := ⟨_, rfl⟩
  obtain ⟨z6, hz6⟩ : ∃ z, (decide (u.ap = 0) && decide (u.st = 0)) = z := ⟨_, rfl⟩
  obtain ⟨z7, hz7⟩ : ∃ z, (decide (1 ≤ u.dt) && decide (u.dt ≤ 50)) = z := ⟨_, rfl⟩
  obtain ⟨z8, hz8⟩ : ∃ z, (decide (u.dp = 0) && decide (u.dt = 0)) = z := ⟨_, rfl⟩
  have C1 := hid (fun w2 => ispart_any u.ap w2 (hid hz1))
  have C2 := hid (fun w2 => ispart_any u.dp w2 (hid hz2))
  have C3 := hid (fun w2 => ispart_any u.mp w2 (hid hz3))
  have C4 := hid (fun w2 => ispart_any u.sm w2 (hid hz4))
  have C5 := hid (fun w2 => rwithin_any u.st 400 599 w2 (hid hz5))
  have C6 := hid (fun w2 => unused_any u.ap u.st w2 (hid hz6))
  have C7 := hid (fun w2 => rwithin_any u.dt 1 50 w2 (hid hz7))
  have C8 := hid (fun w2 => unused_any u.dp u.dt w2 (hid hz8))
  rw [hz1, hz2, hz3, hz4, hz5, hz6, hz7, hz8] at HC
  clear hz1 hz2 hz3 hz4 hz5 hz6 hz7 hz8
  go_enter Try.func41, Try.ntmps41
  go_upto_region 1 with (fail)
  generalize w.alloc (.cells #[.int .i64 u.rank, .slice u.xa u.xn u.xc, .string (bs u.tg), .int .i64 u.ap, .int .i64 u.st, .int .i64 u.dp, .int .i64 u.dt, .int .i64 u.mp, .string (bs u.mi), .int .i64 u.sm] 39) = v0 at *
  have HB := hid hb0
  clear hb0
  obtain ⟨r0, r1, r2, r3, r4, r5, r6, r7, r8, r9⟩ := hr0.cells
  clear hr0 r0 r1 r2 r8
  cases z1
  · go_wp2_with (first
      | (with_reducible refine (C1.out _).mono ?_
         rintro e wq ⟨rfl, rfl⟩)
      | (with_reducible refine (C2.out _).mono ?_
         rintro e wq ⟨rfl, rfl⟩)
      | (with_reducible refine (C3.out _).mono ?_
         rintro e wq ⟨rfl, rfl⟩)
      | (with_reducible refine (C4.out _).mono ?_
         rintro e wq ⟨rfl, rfl⟩)
      | (with_reducible refine (C5.out _).mono ?_
         rintro e wq ⟨rfl, rfl⟩)
      | (with_reducible refine (C6.out _).mono ?_
         rintro e wq ⟨rfl, rfl⟩)
      | (with_reducible refine (C7.out _).mono ?_
         rintro e wq ⟨rfl, rfl⟩)
      | (with_reducible refine (C8.out _).mono ?_
         rintro e wq ⟨rfl, rfl⟩))
    go_returns
    exact ⟨by rw [← H.out, HC.out]; simp, HB.out⟩
  cases z2
  · go_wp2_with (first
      | (with_reducible refine (C1.out _).mono ?_
         rintro e wq ⟨rfl, rfl⟩)
      | (with_reducible refine (C2.out _).mono ?_
         rintro e wq ⟨rfl, rfl⟩)
      | (with_reducible refine (C3.out _).mono ?_
         rintro e wq ⟨rfl, rfl⟩)
      | (with_reducible refine (C4.out _).mono ?_
         rintro e wq ⟨rfl, rfl⟩)
      | (with_reducible refine (C5.out _).mono ?_
         rintro e wq ⟨rfl, rfl⟩)
      | (with_reducible refine (C6.out _).mono ?_
         rintro e wq ⟨rfl, rfl⟩)
      | (with_reducible refine (C7.out _).mono ?_
         rintro e wq ⟨rfl, rfl⟩)
      | (with_reducible refine (C8.out _).mono ?_
         rintro e wq ⟨rfl, rfl⟩))
    go_returns
    exact ⟨by rw [← H.out, HC.out]; simp, HB.out⟩
  cases z3
  · go_wp2_with (first
      | (with_reducible refine (C1.out _).mono ?_
         rintro e wq ⟨rfl, rfl⟩)
      | (with_reducible refine (C2.out _).mono ?_
         rintro e wq ⟨rfl, rfl⟩)
      | (with_reducible refine (C3.out _).mono ?_
         rintro e wq ⟨rfl, rfl⟩)
      | (with_reducible refine (C4.out _).mono ?_
         rintro e wq ⟨rfl, rfl⟩)
      | (with_reducible refine (C5.out _).mono ?_
         rintro e wq ⟨rfl, rfl⟩)
      | (with_reducible refine (C6.out _).mono ?_
         rintro e wq ⟨rfl, rfl⟩)
      | (with_reducible refine (C7.out _).mono ?_
         rintro e wq ⟨rfl, rfl⟩)
      | (with_reducible refine (C8.out _).mono ?_
         rintro e wq ⟨rfl, rfl⟩))
    go_returns
    exact ⟨by rw [← H.out, HC.out]; simp, HB.out⟩
  cases z4
  · go_wp2_with (first
      | (with_reducible refine (C1.out _).mono ?_
         rintro e wq ⟨rfl, rfl⟩)
      | (with_reducible refine (C2.out _).mono ?_
         rintro e wq ⟨rfl, rfl⟩)
      | (with_reducible refine (C3.out _).mono ?_
         rintro e wq ⟨rfl, rfl⟩)
      | (with_reducible refine (C4.out _).mono ?_
         rintro e wq ⟨rfl, rfl⟩)
      | (with_reducible refine (C5.out _).mono ?_
         rintro e wq ⟨rfl, rfl⟩)
      | (with_reducible refine (C6.out _).mono ?_
         rintro e wq ⟨rfl, rfl⟩)
      | (with_reducible refine (C7.out _).mono ?_
         rintro e wq ⟨rfl, rfl⟩)
      | (with_reducible refine (C8.out _).mono ?_
         rintro e wq ⟨rfl, rfl⟩))
    go_returns
    exact ⟨by rw [← H.out, HC.out]; simp, HB.out⟩
  cases z5
  · cases z6
    · go_wp2_with (first
        | (with_reducible refine (C1.out _).mono ?_
           rintro e wq ⟨rfl, rfl⟩)
        | (with_reducible refine (C2.out _).mono ?_
           rintro e wq ⟨rfl, rfl⟩)
        | (with_reducible refine (C3.out _).mono ?_
           rintro e wq ⟨rfl, rfl⟩)
        | (with_reducible refine (C4.out _).mono ?_
           rintro e wq ⟨rfl, rfl⟩)
        | (with_reducible refine (C5.out _).mono ?_
           rintro e wq ⟨rfl, rfl⟩)
        | (with_reducible refine (C6.out _).mono ?_
           rintro e wq ⟨rfl, rfl⟩)
        | (with_reducible refine (C7.out _).mono ?_
           rintro e wq ⟨rfl, rfl⟩)
        | (with_reducible refine (C8.out _).mono ?_
           rintro e wq ⟨rfl, rfl⟩))
      go_returns
      exact ⟨by rw [← H.out, HC.out]; simp, HB.out⟩
    · cases z7
      · cases z8
        all_goals
          go_wp2_with (first
            | (with_reducible refine (C1.out _).mono ?_
               rintro e wq ⟨rfl, rfl⟩)
            | (with_reducible refine (C2.out _).mono ?_
               rintro e wq ⟨rfl, rfl⟩)
            | (with_reducible refine (C3.out _).mono ?_
               rintro e wq ⟨rfl, rfl⟩)
            | (with_reducible refine (C4.out _).mono ?_
               rintro e wq ⟨rfl, rfl⟩)
            | (with_reducible refine (C5.out _).mono ?_
               rintro e wq ⟨rfl, rfl⟩)
            | (with_reducible refine (C6.out _).mono ?_
               rintro e wq ⟨rfl, rfl⟩)
            | (with_reducible refine (C7.out _).mono ?_
               rintro e wq ⟨rfl, rfl⟩)
            | (with_reducible refine (C8.out _).mono ?_
               rintro e wq ⟨rfl, rfl⟩))
          go_returns
          exact ⟨by rw [← H.out, HC.out]; simp, HB.out⟩
      · go_wp2_with (first
          | (with_reducible refine (C1.out _).mono ?_
             rintro e wq ⟨rfl, rfl⟩)
          | (with_reducible refine (C2.out _).mono ?_
             rintro e wq ⟨rfl, rfl⟩)
          | (with_reducible refine (C3.out _).mono ?_
             rintro e wq ⟨rfl, rfl⟩)
          | (with_reducible refine (C4.out _).mono ?_
             rintro e wq ⟨rfl, rfl⟩)
          | (with_reducible refine (C5.out _).mono ?_
             rintro e wq ⟨rfl, rfl⟩)
          | (with_reducible refine (C6.out _).mono ?_
             rintro e wq ⟨rfl, rfl⟩)
          | (with_reducible refine (C7.out _).mono ?_
             rintro e wq ⟨rfl, rfl⟩)
          | (with_reducible refine (C8.out _).mono ?_
             rintro e wq ⟨rfl, rfl⟩))
        go_returns
        exact ⟨by rw [← H.out, HC.out]; simp, HB.out⟩
  · cases z7
    · cases z8
      all_goals
        go_wp2_with (first
          | (with_reducible refine (C1.out _).mono ?_
             rintro e wq ⟨rfl, rfl⟩)
          | (with_reducible refine (C2.out _).mono ?_
             rintro e wq ⟨rfl, rfl⟩)
          | (with_reducible refine (C3.out _).mono ?_
             rintro e wq ⟨rfl, rfl⟩)
          | (with_reducible refine (C4.out _).mono ?_
             rintro e wq ⟨rfl, rfl⟩)
          | (with_reducible refine (C5.out _).mono ?_
             rintro e wq ⟨rfl, rfl⟩)
          | (with_reducible refine (C6.out _).mono ?_
             rintro e wq ⟨rfl, rfl⟩)
          | (with_reducible refine (C7.out _).mono ?_
             rintro e wq ⟨rfl, rfl⟩)
          | (with_reducible refine (C8.out _).mono ?_
             rintro e wq ⟨rfl, rfl⟩))
        go_returns
        exact ⟨by rw [← H.out, HC.out]; simp, HB.out⟩
    · go_wp2_with (first
        | (with_reducible refine (C1.out _).mono ?_
           rintro e wq ⟨rfl, rfl⟩)
        | (with_reducible refine (C2.out _).mono ?_
           rintro e wq ⟨rfl, rfl⟩)
        | (with_reducible refine (C3.out _).mono ?_
           rintro e wq ⟨rfl, rfl⟩)
        | (with_reducible refine (C4.out _).mono ?_
           rintro e wq ⟨rfl, rfl⟩)
        | (with_reducible refine (C5.out _).mono ?_
           rintro e wq ⟨rfl, rfl⟩)
        | (with_reducible refine (C6.out _).mono ?_
           rintro e wq ⟨rfl, rfl⟩)
        | (with_reducible refine (C7.out _).mono ?_
           rintro e wq ⟨rfl, rfl⟩)
        | (with_reducible refine (C8.out _).mono ?_
           rintro e wq ⟨rfl, rfl⟩))
      go_returns
      exact ⟨by rw [← H.out, HC.out]; simp, HB.out⟩
end Go.Proofs.Ytmdlkoigjacipaa
namespace Go.Proofs.Ytmdlkoigjacipaa
set_option linter.unusedVariables false
set_option linter.unusedSimpArgs false
open Go.RowKit Go.Joins

/-- What is said of a rule's predicates. -/
def chkL (l : List Pd) : Int := if 4 < l.length then 8 else fltR l
set_option maxRecDepth 100000 in
set_option maxHeartbeats 4000000 in
theorem checkpreds_any (A : Option Addr) (c : Nat) (l : List Pd) (w : World) (hl : PX w (· < w.heap.size) A l) (hln : l.length ≤ 9223372036854775807) (hsm : smallP l) {z : Int} (H : Hid (chkL l = z)) :
    Calls Try.prog 39 #[.slice A l.length c] w fun e w' => e = .returned (.int .i64 z) ∧ Below w.heap.size w w' := by
  have HR := hid hl
  have HSM := hid hsm
  clear hl hsm
  by_cases h4 : 4 < l.length
  · have hd : decide ((4 : Int) < ((l.length : Nat) : Int)) = true := decide_eq_true (by omega)
    have HC := hid (show chkL l = 8 by rw [chkL, if_pos h4])
    clear h4
    go_enter Try.func39, Try.ntmps39
    go_wp2_with fail
    go_returns
    exact ⟨by rw [← H.out, HC.out]; rfl, Below.refl _ _⟩
  · have hd : decide ((4 : Int) < ((l.length : Nat) : Int)) = false := decide_eq_false (by omega)
    have HC := hid (show chkL l = fltR l by rw [chkL, if_neg h4])
    clear h4
    go_enter Try.func39, Try.ntmps39
    go_wp2_with fail
    clear hd
    go_loopw [11] (fun i wr => ∃ k : Nat, k ≤ l.length ∧ i = .int .i64 k ∧ Hid (fltR l = fltR (l.drop k) ∧ Below w.heap.size w wr)) (fun i _ => l.length - (intOf i).toNat)
    case atStart => exact ⟨0, by omega, rfl, hid ⟨by rw [List.drop_zero], Below.refl _ _⟩⟩
    case round =>
      obtain ⟨k, hk, rfl, HW⟩ := hrel
      by_cases hlt : k < l.length
      · obtain ⟨bb, o, rfl, hB, c0, c1, c2⟩ := (HR.out.up HW.out.2) k hlt
        have HF := hid (fltR_drop l k hlt)
        obtain ⟨hs0, hs1⟩ := HSM.out.at_ hlt
        generalize l[k] = y at *
        obtain ⟨yk, yn, yv⟩ := y
        simp only at c0 c1 c2 HF hs0 hs1
        have hki : decide ((k : Int) < ((l.length : Nat) : Int)) = true := by simp; omega
        have hb1 := estep HW.out.2 (enew wr (.cells #[.int .i64 yk, .string (bs yn), .string (bs yv)] 23))
        have hp1 := BP.new wr yk yn yv
        obtain ⟨zz, hz⟩ : ∃ zz, cE yk yn yv = zz := ⟨_, rfl⟩
        have HZ := hid hz
        have HM := hid (fun w2 => pcheck_any yk yn yv w2 hs0 hs1 HZ)
        clear hz
        go_upto_region 6 with (fail)
        clear c0 c1 c2
        generalize wr.alloc (.cells #[.int .i64 yk, .string (bs yn), .string (bs yv)] 23) = v1 at *
        obtain ⟨c0, c1, c2⟩ := hp1.cells
        go_wp2_with fail
        refine (HM.out _).mono ?_
        rintro e w1 ⟨rfl, hb2⟩
        have hb3 := hid (estep hb1 hb2)
        clear hb1 hb2 hp1 c0 c1 c2
        by_cases e0 : zz = 0
        · subst e0
          have HFF := hid (show fltR (l.drop k) = fltR (l.drop (k + 1)) by rw [HF.out, HZ.out]; rfl)
          go_wp2_with fail
          go_roundw
          case rel => exact ⟨k + 1, by omega, by go_num, hid ⟨by rw [HW.out.1, HFF.out], hb3.out⟩⟩
          case measure => simp [intOf]; omega
        · have hd0 : decide (zz = 0) = false := decide_eq_false e0
          have hd1 : (!decide (zz = 0)) = true := by rw [hd0]; rfl
          have HFF := hid (show fltR (l.drop k) = zz by rw [HF.out, if_pos (by rw [HZ.out]; exact e0), HZ.out])
          go_wp2_with fail
          go_returns
          exact ⟨by rw [← H.out, HC.out, HW.out.1, HFF.out]; rfl, hb3.out⟩
      · obtain rfl : k = l.length := by omega
        have hki : decide (((l.length : Nat) : Int) < ((l.length : Nat) : Int)) = false := by simp
        have HFF := hid (show fltR l = 0 by rw [HW.out.1, List.drop_length]; rfl)
        go_wp2_with fail
        go_returns
        exact ⟨by rw [← H.out, HC.out, HFF.out]; rfl, HW.out.2⟩
end Go.Proofs.Ytmdlkoigjacipaa
namespace Go.Proofs.Ytmdlkoigjacipaa
set_option linter.unusedVariables false
set_option linter.unusedSimpArgs false
open Go.RowKit Go.Joins

theorem stx_up {w w' : World} {A : Option Addr} {l : List (List UInt8)} (h : STexts w (· < w.heap.size) A l) (hb : Below w.heap.size w w') : STexts w' (· < w'.heap.size) A l := by
  intro k hk
  obtain ⟨ad, e, h1, h2⟩ := (STexts.below h hb) k hk
  exact ⟨ad, e, Nat.lt_of_lt_of_le h1 hb.size, h2⟩
/-- What is said of a rule, in the order in which it is said. -/
theorem chkR_eq (r : Rs) (names : List (List UInt8)) {zr zt zm zi : Bool} {ze : Int} (h1 : (decide (0 ≤ r.rank) && decide (r.rank ≤ 99)) = zr) (h2 : chkL r.ps = ze) (h3 : inN names r.tg = zt) (h4 : inN names r.mi = zm) (h5 : rngR r = zi) :
    chkR r names = if zr = false then 12 else if ze ≠ 0 then ze else if zt = false ∨ (r.mi ≠ [] ∧ zm = false) then 7 else if zi = false then 12 else if 0 < r.mp ∧ r.mi = [] then 9 else 0 := by
  subst h1 h2 h3 h4 h5
  have h1 : ((decide (0 ≤ r.rank) && decide (r.rank ≤ 99)) = false) ↔ (r.rank < 0 ∨ 99 < r.rank) := by
    rw [Bool.and_eq_false_iff, decide_eq_false_iff_not, decide_eq_false_iff_not]; omega
  rw [chkR]
  by_cases hr : r.rank < 0 ∨ 99 < r.rank
  · rw [if_pos hr, if_pos (h1.2 hr)]
  · rw [if_neg hr, if_neg (fun h => hr (h1.1 h))]
    by_cases h4 : 4 < r.ps.length
    · rw [chkL, if_pos h4, if_pos (by omega), if_pos h4]
    · rw [chkL, if_neg h4, if_neg h4]
set_option maxRecDepth 100000 in
set_option maxHeartbeats 16000000 in
theorem rcheck_any (u : Ru) (A : Option Addr) (cap : Nat) (names : List (List UInt8)) (w : World) (hu : UV w u) (hs : okRs u.sem) (hN : STexts w (· < w.heap.size) A names) (hl : names.length ≤ 9223372036854775807) {z : Int} (H : Hid (chkR u.sem names = z)) :
    Calls Try.prog 20 #[.agg #[.int .i64 u.rank, .slice u.xa u.xn u.xc, .string (bs u.tg), .int .i64 u.ap, .int .i64 u.st, .int .i64 u.dp, .int .i64 u.dt, .int .i64 u.mp, .string (bs u.mi), .int .i64 u.sm], .slice A names.length cap] w fun e w' => e = .returned (.int .i64 z) ∧ Below w.heap.size w w' := by
  have hnot := enot
  have hb0 := enew w (.cells #[.int .i64 u.rank, .slice u.xa u.xn u.xc, .string (bs u.tg), .int .i64 u.ap, .int .i64 u.st, .int .i64 u.dp, .int .i64 u.dt, .int .i64 u.mp, .string (bs u.mi), .int .i64 u.sm] 39)
  have hr0 := BR.new w u
  have hN0 := stx_up hN hb0
  obtain ⟨hn, hpx, -, -, hl9⟩ := (hu.up hb0).out
  have CI := hid (fun w2 z (hz : Hid (rngR u.sem = z)) => inranges_any u w2 hz)
  have CP := hid (fun w2 (h2 : PX w2 (· < w2.heap.size) u.xa u.ps) z (hz : Hid (chkL u.ps = z)) => checkpreds_any u.xa u.xc u.ps w2 h2 hl9 hs.1 hz)
  clear hu hs hN
  rw [← hn] at CP
  clear hn hl9
  obtain ⟨rk, xa, xn, xc, ps, tg, ap, st, dp, dt, mp, mi, sm⟩ := u
  simp only [Ru.sem] at H CI CP hb0 hr0 hN0 hpx ⊢
  obtain ⟨zr, hzr⟩ : ∃ z, (decide (0 ≤ rk) && decide (rk ≤ 99)) = z := ⟨_, rfl⟩
  obtain ⟨ze, hze⟩ : ∃ z, chkL ps = z := ⟨_, rfl⟩
  obtain ⟨zt, hzt⟩ : ∃ z, inN names tg = z := ⟨_, rfl⟩
  obtain ⟨zm, hzm⟩ : ∃ z, inN names mi = z := ⟨_, rfl⟩
  obtain ⟨zi, hzi⟩ : ∃ z, rngR ⟨rk, ps, tg, ap, st, dp, dt, mp, mi, sm⟩ = z := ⟨_, rfl⟩
  have CR := hid (fun w2 => rwithin_any rk 0 99 w2 (hid hzr))
  have CT := hid (fun w2 (h2 : STexts w2 (· < w2.heap.size) A names) => (contains_any A cap names tg _ w2 h2 hl).mono fun e w' ⟨h1, h3⟩ => (⟨by rw [← hzt]; exact h1, h3⟩ : e = Ending.returned (.bool zt) ∧ w2 = w'))
  have CM := hid (fun w2 (h2 : STexts w2 (· < w2.heap.size) A names) => (contains_any A cap names mi _ w2 h2 hl).mono fun e w' ⟨h1, h3⟩ => (⟨by rw [← hzm]; exact h1, h3⟩ : e = Ending.returned (.bool zm) ∧ w2 = w'))
  have CI2 := hid (fun w2 => CI.out w2 _ (hid hzi))
  have CP2 := hid (fun w2 h2 => CP.out w2 h2 _ (hid hze))
  have HC := hid (chkR_eq ⟨rk, ps, tg, ap, st, dp, dt, mp, mi, sm⟩ names hzr hze hzt hzm hzi)
  simp only at HC
  clear CI CP hzr hze hzt hzm hzi
  have HB := hid hb0
  clear hb0
  go_enter Try.func20, Try.ntmps20
  go_upto_region 1 with (fail)
  generalize w.alloc (.cells #[.int .i64 rk, .slice xa xn xc, .string (bs tg), .int .i64 ap, .int .i64 st, .int .i64 dp, .int .i64 dt, .int .i64 mp, .string (bs mi), .int .i64 sm] 39) = v0 at *
  obtain ⟨r0, r1, r2, r3, r4, r5, r6, r7, r8, r9⟩ := hr0.cells
  cases zr
  · clear r1 r2 r3 r4 r5 r6 r7 r8 r9 hpx hN0
    go_wp2_with fail
    refine (CR.out _).mono ?_
    rintro e w1 ⟨rfl, rfl⟩
    go_wp2_with fail
    go_returns
    exact ⟨by rw [← H.out, HC.out]; rfl, HB.out⟩
  go_wp2_with fail
  refine (CR.out _).mono ?_
  rintro e w1 ⟨rfl, rfl⟩
  clear r0 r2 r3 r4 r5 r6 r7 r8 r9
  go_wp2_with fail
  refine (CP2.out _ hpx).mono ?_
  rintro e w1 ⟨rfl, hb1⟩
  have hN1 := stx_up hN0 hb1
  obtain ⟨r0, r1, r2, r3, r4, r5, r6, r7, r8, r9⟩ := (hr0.up hb1).cells
  have HB1 := hid (estep HB.out hb1)
  by_cases e0 : ze = 0
  case neg =>
    have hd0 : decide (ze = 0) = false := decide_eq_false e0
    have hd1 : (!decide (ze = 0)) = true := by rw [hd0]; rfl
    have HE := hid e0
    clear r0 r1 r2 r3 r4 r5 r6 r7 r8 r9
    go_wp2_with fail
    go_returns
    exact ⟨by rw [← H.out, HC.out, if_neg (by simp), if_pos HE.out]; rfl, HB1.out⟩
  subst e0
  clear r0 r1 r3 r4 r5 r6 r7 r8 r9
  go_wp2_with fail
  refine (CT.out _ hN1).mono ?_
  rintro e w1 ⟨rfl, rfl⟩
  cases zt
  · have HZ := hid (show z = 7 by rw [← H.out, HC.out]; simp)
    go_wp2_with fail
    go_returns
    exact ⟨by rw [HZ.out]; rfl, HB1.out⟩
  clear r2
  by_cases hm : mi = []
  · subst hm
    have c4 : (ByteArray.mk #[]) = bs [] := rfl
    obtain ⟨r0, r1, r2, r3, r4, r5, r6, r7, r8, r9⟩ := (hr0.up hb1).cells
    go_wp2_with fail
    refine (CI2.out _).mono ?_
    rintro e w2 ⟨rfl, hb2⟩
    have HB2 := hid (estep HB1.out hb2)
    clear r0 r1 r2 r3 r4 r5 r6 r7 r8 r9
    obtain ⟨-, -, -, -, -, -, -, r7, r8, -⟩ := ((hr0.up hb1).up hb2).cells
    cases zi
    · have HZ := hid (show z = 12 by rw [← H.out, HC.out]; simp)
      go_wp2_with fail
      go_returns
      exact ⟨by rw [HZ.out]; rfl, HB2.out⟩
    by_cases hp : 0 < mp
    · have hd2 : decide (0 < mp) = true := decide_eq_true hp
      have HZ := hid (show z = 9 by rw [← H.out, HC.out]; simp [hp])
      go_wp2_with fail
      go_returns
      exact ⟨by rw [HZ.out]; rfl, HB2.out⟩
    · have hd2 : decide (0 < mp) = false := decide_eq_false hp
      have HZ := hid (show z = 0 by rw [← H.out, HC.out]; simp [hp])
      go_wp2_with fail
      go_returns
      exact ⟨by rw [HZ.out]; rfl, HB2.out⟩
  · have c4 : (ByteArray.mk #[]) = bs [] := rfl
    have hmd : mi.isEmpty = false := by cases mi with
      | nil => exact absurd rfl hm
      | cons => rfl
    have hme : (!mi.isEmpty) = true := by rw [hmd]; rfl
    obtain ⟨r0, r1, r2, r3, r4, r5, r6, r7, r8, r9⟩ := (hr0.up hb1).cells
    go_wp2_with fail
    refine (CM.out _ hN1).mono ?_
    rintro e w1 ⟨rfl, rfl⟩
    cases zm
    · have HZ := hid (show z = 7 by rw [← H.out, HC.out]; simp [hm])
      go_wp2_with fail
      go_returns
      exact ⟨by rw [HZ.out]; rfl, HB1.out⟩
    go_wp2_with fail
    refine (CI2.out _).mono ?_
    rintro e w2 ⟨rfl, hb2⟩
    have HB2 := hid (estep HB1.out hb2)
    clear r0 r1 r2 r3 r4 r5 r6 r7 r8 r9
    obtain ⟨-, -, -, -, -, -, -, r7, r8, -⟩ := ((hr0.up hb1).up hb2).cells
    cases zi
    · have HZ := hid (show z = 12 by rw [← H.out, HC.out]; simp)
      go_wp2_with fail
      go_returns
      exact ⟨by rw [HZ.out]; rfl, HB2.out⟩
    by_cases hp : 0 < mp
    · have hd2 : decide (0 < mp) = true := decide_eq_true hp
      have HZ := hid (show z = 0 by rw [← H.out, HC.out]; simp [hp, hm])
      go_wp2_with fail
      go_returns
      exact ⟨by rw [HZ.out]; rfl, HB2.out⟩
    · have hd2 : decide (0 < mp) = false := decide_eq_false hp
      have HZ := hid (show z = 0 by rw [← H.out, HC.out]; simp [hp])
      go_wp2_with fail
      go_returns
      exact ⟨by rw [HZ.out]; rfl, HB2.out⟩
end Go.Proofs.Ytmdlkoigjacipaa
namespace Go.Proofs.Ytmdlkoigjacipaa
set_option linter.unusedVariables false
set_option linter.unusedSimpArgs false
open Go.RowKit Go.Joins

set_option maxRecDepth 100000 in
set_option maxHeartbeats 32000000 in
theorem rrcheck_any (u : Ru) (A : Option Addr) (cap : Nat) (names : List (List UInt8)) (w : World) (hu : UV w u) (hs : okRs u.sem) (hN : STexts w (· < w.heap.size) A names) (hl : names.length ≤ 9223372036854775807) {z : Int} (H : Hid (chkR u.sem names = z)) :
    Calls Try.prog 21 #[.agg #[.int .i64 u.rank, .slice u.xa u.xn u.xc, .string (bs u.tg), .int .i64 u.ap, .int .i64 u.st, .int .i64 u.dp, .int .i64 u.dt, .int .i64 u.mp, .string (bs u.mi), .int .i64 u.sm], .slice A names.length cap] w fun e w' => e = .returned (.int .i64 z) ∧ Below w.heap.size w w' := by
  have hnot := enot
  have hb0 := enew w (.cells #[.int .i64 u.rank, .slice u.xa u.xn u.xc, .string (bs u.tg), .int .i64 u.ap, .int .i64 u.st, .int .i64 u.dp, .int .i64 u.dt, .int .i64 u.mp, .string (bs u.mi), .int .i64 u.sm] 39)
  have hr0 := BR.new w u
  have hN0 := stx_up hN hb0
  obtain ⟨hn, hpx, -, -, hl9⟩ := (hu.up hb0).out
  have hs9 : smallP u.ps := hs.1
  clear hu hN hs
  obtain ⟨rk, xa, xn, xc, ps, tg, ap, st, dp, dt, mp, mi, sm⟩ := u
  simp only [Ru.sem] at H hb0 hr0 hN0 hpx hn hl9 hs9 ⊢
  subst hn
  obtain ⟨zr, hzr⟩ : ∃ z, (decide (0 ≤ rk) && decide (rk ≤ 99)) = z := ⟨_, rfl⟩
  obtain ⟨zt, hzt⟩ : ∃ z, inN names tg = z := ⟨_, rfl⟩
  obtain ⟨zm, hzm⟩ : ∃ z, inN names mi = z := ⟨_, rfl⟩
  obtain ⟨z1, hz1⟩ : ∃ z, inPct ap = z := ⟨_, rfl⟩
  obtain ⟨z2, hz2⟩ : ∃ z, inPct dp = z := ⟨_, rfl⟩
  obtain ⟨z3, hz3⟩ : ∃ z, inPct mp = z := ⟨_, rfl⟩
  obtain ⟨z4, hz4⟩ : ∃ z, inPct sm = z := ⟨_, rfl⟩
  obtain ⟨zs, hzs⟩ : ∃ z, ((decide (400 ≤ st) && decide (st ≤ 599)) || (decide (ap = 0) && decide (st = 0))) = z := ⟨_, rfl⟩
  obtain ⟨zd, hzd⟩ : ∃ z, ((decide (1 ≤ dt) && decide (dt ≤ 50)) || (decide (dp = 0) && decide (dt = 0))) = z := ⟨_, rfl⟩
  have hzi : rngR ⟨rk, ps, tg, ap, st, dp, dt, mp, mi, sm⟩ = (z1 && (z2 && (z3 && (z4 && (zs && zd))))) := by rw [← hz1, ← hz2, ← hz3, ← hz4, ← hzs, ← hzd]; rfl
  have HC := hid (chkR_eq ⟨rk, ps, tg, ap, st, dp, dt, mp, mi, sm⟩ names hzr rfl hzt hzm hzi)
  simp only at HC
  have P1 := hid (fun w2 => part_any ap w2 (hid hz1))
  have P2 := hid (fun w2 => part_any dp w2 (hid hz2))
  have P3 := hid (fun w2 => part_any mp w2 (hid hz3))
  have P4 := hid (fun w2 => part_any sm w2 (hid hz4))
  have CT := hid (fun w2 (h2 : STexts w2 (· < w2.heap.size) A names) => in_any A cap names tg _ w2 h2 hl (hid hzt))
  have CM := hid (fun w2 (h2 : STexts w2 (· < w2.heap.size) A names) => in_any A cap names mi _ w2 h2 hl (hid hzm))
  have HZS := hid hzs
  have HZD := hid hzd
  clear hz1 hz2 hz3 hz4 hzt hzm hzi hzs hzd
  have HB := hid hb0
  have HR := hid hpx
  have HSM := hid hs9
  clear hb0 hpx hs9
  go_enter Try.func21, Try.ntmps21
  go_upto_region 1 with (fail)
  generalize w.alloc (.cells #[.int .i64 rk, .slice xa ps.length xc, .string (bs tg), .int .i64 ap, .int .i64 st, .int .i64 dp, .int .i64 dt, .int .i64 mp, .string (bs mi), .int .i64 sm] 39) = v0 at *
  obtain ⟨r0, r1, -⟩ := hr0.cells
  by_cases k1 : rk < 0
  · have d1 : decide (rk < 0) = true := decide_eq_true k1
    have HZ := hid (show z = 12 by rw [← H.out, HC.out, ← hzr, decide_eq_false (show ¬ 0 ≤ rk by omega)]; simp)
    go_wp2_with fail
    go_returns
    exact ⟨by rw [HZ.out]; rfl, HB.out⟩
  have d1 : decide (rk < 0) = false := decide_eq_false k1
  by_cases k2 : 99 < rk
  · have d2 : decide (99 < rk) = true := decide_eq_true k2
    have HZ := hid (show z = 12 by rw [← H.out, HC.out, ← hzr, decide_eq_false (show ¬ rk ≤ 99 by omega)]; simp)
    go_wp2_with fail
    go_returns
    exact ⟨by rw [HZ.out]; rfl, HB.out⟩
  have d2 : decide (99 < rk) = false := decide_eq_false k2
  obtain rfl : zr = true := by rw [← hzr, decide_eq_true (show 0 ≤ rk by omega), decide_eq_true (show rk ≤ 99 by omega)]; rfl
  clear hzr k1 k2
  by_cases h4 : 4 < ps.length
  · have d3 : decide ((4 : Int) < (ps.length : Int)) = true := decide_eq_true (by omega)
    have HZ := hid (show z = 8 by rw [← H.out, HC.out, chkL, if_pos h4]; simp)
    clear h4
    go_wp2_with fail
    go_returns
    exact ⟨by rw [HZ.out]; rfl, HB.out⟩
  have d3 : decide ((4 : Int) < (ps.length : Int)) = false := decide_eq_false (by omega)
  have HCL := hid (show chkL ps = fltR ps by rw [chkL, if_neg h4])
  clear h4
  go_wp2_with fail
  clear d1 d2 d3 r0 r1
  go_loopw [5] (fun i wr => ∃ k : Nat, k ≤ ps.length ∧ i = .int .i64 k ∧ Hid (fltR ps = fltR (ps.drop k) ∧ Below v0.heap.size v0 wr)) (fun i _ => ps.length - (intOf i).toNat)
  case atStart => exact ⟨0, by omega, rfl, hid ⟨by rw [List.drop_zero], Below.refl _ _⟩⟩
  case round =>
    obtain ⟨k, hk, rfl, HW⟩ := hrel
    obtain ⟨-, r1, -⟩ := (hr0.up HW.out.2).cells
    by_cases hlt : k < ps.length
    · obtain ⟨bb, o, rfl, hB, c0, c1, c2⟩ := (HR.out.up HW.out.2) k hlt
      have HF := hid (fltR_drop ps k hlt)
      obtain ⟨hs0, hs1⟩ := HSM.out.at_ hlt
      generalize ps[k] = y at *
      obtain ⟨yk, yn, yv⟩ := y
      simp only at c0 c1 c2 HF hs0 hs1
      have hki : decide ((k : Int) < ((ps.length : Nat) : Int)) = true := by simp; omega
      have hk0 : (0 : Int) ≤ (k : Int) := by omega
      have hk1 : (k : Int) < (ps.length : Int) := by omega
      obtain ⟨zz, hz⟩ : ∃ zz, cE yk yn yv = zz := ⟨_, rfl⟩
      have HZ := hid hz
      have HM := hid (fun w2 => rpcheck_any yk yn yv w2 hs0 hs1 HZ)
      clear hz
      go_wp2_with fail
      refine (HM.out _).mono ?_
      rintro e w1 ⟨rfl, hb2⟩
      have hb3 := hid (estep HW.out.2 hb2)
      clear hb2 c0 c1 c2 r1
      by_cases e0 : zz = 0
      · subst e0
        have HFF := hid (show fltR (ps.drop k) = fltR (ps.drop (k + 1)) by rw [HF.out, HZ.out]; rfl)
        go_wp2_with fail
        go_roundw
        case rel => exact ⟨k + 1, by omega, by go_num, hid ⟨by rw [HW.out.1, HFF.out], hb3.out⟩⟩
        case measure => simp [intOf]; omega
      · have hd0 : decide (zz = 0) = false := decide_eq_false e0
        have hd1 : (!decide (zz = 0)) = true := by rw [hd0]; rfl
        have HFF := hid (show fltR (ps.drop k) = zz by rw [HF.out, if_pos (by rw [HZ.out]; exact e0), HZ.out])
        have HZ9 := hid (show z = zz by rw [← H.out, HC.out, HCL.out, HW.out.1, HFF.out, if_neg (by simp), if_pos e0])
        go_wp2_with fail
        go_returns
        exact ⟨by rw [HZ9.out]; rfl, estep HB.out hb3.out⟩
    · obtain rfl : k = ps.length := by omega
      have hki : decide (((ps.length : Nat) : Int) < ((ps.length : Nat) : Int)) = false := by simp
      have HFF := hid (show chkL ps = 0 by rw [HCL.out, HW.out.1, List.drop_length]; rfl)
      have HC2 := hid (show z = if zt = false ∨ (mi ≠ [] ∧ zm = false) then 7 else if (z1 && (z2 && (z3 && (z4 && (zs && zd))))) = false then 12 else if 0 < mp ∧ mi = [] then 9 else 0 by
        rw [← H.out, HC.out, HFF.out, if_neg (by simp), if_neg (by simp)])
      have hN1 := stx_up hN0 HW.out.2
      have hr1 := hr0.up HW.out.2
      have HB2 := hid (estep HB.out HW.out.2)
      clear HC HCL HFF H HR HSM hN0 hr0 hl9
      go_upto_region 11 with (fail)
      clear r1
      obtain ⟨r0, r1, r2, r3, r4, r5, r6, r7, r8, r9⟩ := hr1.cells
      clear hr1 r0 r1
      have c4 : (ByteArray.mk #[]) = bs [] := rfl
      obtain ⟨zn, hzn⟩ : ∃ b : Bool, b = (!zt || (!mi.isEmpty && !zm)) := ⟨_, rfl⟩
      have HZN := hid hzn
      clear hzn
      generalize hw0 : wr = w0 at *
      go_cut [51] from 35 to 51 (fun s wx => s = .bool zn ∧ wx = w0)
      case first =>
        cases zt
        · go_wp2_with (first
            | (with_reducible refine (CT.out _ hN1).mono ?_
               rintro e wq ⟨rfl, rfl⟩))
          go_meet
          exact ⟨by rw [HZN.out]; rfl, rfl⟩
        by_cases hm : mi = []
        · subst hm
          go_wp2_with (first
            | (with_reducible refine (CT.out _ hN1).mono ?_
               rintro e wq ⟨rfl, rfl⟩))
          go_meet
          exact ⟨by rw [HZN.out]; rfl, rfl⟩
        · have hmd : mi.isEmpty = false := by cases mi with
            | nil => exact absurd rfl hm
            | cons => rfl
          have hme : (!mi.isEmpty) = true := by rw [hmd]; rfl
          have HM9 := hid hmd
          cases zm
          all_goals
            go_wp2_with (first
              | (with_reducible refine (CT.out _ hN1).mono ?_
                 rintro e wq ⟨rfl, rfl⟩)
              | (with_reducible refine (CM.out _ hN1).mono ?_
                 rintro e wq ⟨rfl, rfl⟩))
            go_meet
            exact ⟨by rw [HZN.out, HM9.out]; rfl, rfl⟩
      case rest =>
        obtain ⟨rfl, hwc⟩ := hcut
        subst hwc
        obtain ⟨w1, rfl⟩ : ∃ w1, w1 = wc := ⟨_, rfl⟩
        cases zn
        case true =>
          have HZ := hid (show z = 7 by
            have h1 := HZN.out
            rw [HC2.out, if_pos]
            revert h1
            cases zt <;> cases zm <;> cases mi <;> simp)
          go_wp2_with fail
          go_returns
          exact ⟨by rw [HZ.out]; rfl, HB2.out⟩
        have HC3 := hid (show z = if (z1 && (z2 && (z3 && (z4 && (zs && zd))))) = false then 12 else if 0 < mp ∧ mi = [] then 9 else 0 by
          have h1 := HZN.out
          rw [HC2.out, if_neg]
          revert h1
          cases zt <;> cases zm <;> cases mi <;> simp)
        clear HC2 HZN CT CM
        go_upto_region 13 with (fail)
        go_cut [73] from 52 to 73 (fun s wx => s = .bool (!(z1 && (z2 && (z3 && z4)))) ∧ wx = w1)
        case first =>
          cases z1
          · go_wp2_with (first
              | (with_reducible refine (P1.out _).mono ?_
                 rintro e wq ⟨rfl, rfl⟩)
              | (with_reducible refine (P2.out _).mono ?_
                 rintro e wq ⟨rfl, rfl⟩)
              | (with_reducible refine (P3.out _).mono ?_
                 rintro e wq ⟨rfl, rfl⟩)
              | (with_reducible refine (P4.out _).mono ?_
                 rintro e wq ⟨rfl, rfl⟩))
            go_meet
            exact ⟨rfl, rfl⟩
          cases z2
          · go_wp2_with (first
              | (with_reducible refine (P1.out _).mono ?_
                 rintro e wq ⟨rfl, rfl⟩)
              | (with_reducible refine (P2.out _).mono ?_
                 rintro e wq ⟨rfl, rfl⟩)
              | (with_reducible refine (P3.out _).mono ?_
                 rintro e wq ⟨rfl, rfl⟩)
              | (with_reducible refine (P4.out _).mono ?_
                 rintro e wq ⟨rfl, rfl⟩))
            go_meet
            exact ⟨rfl, rfl⟩
          cases z3
          · go_wp2_with (first
              | (with_reducible refine (P1.out _).mono ?_
                 rintro e wq ⟨rfl, rfl⟩)
              | (with_reducible refine (P2.out _).mono ?_
                 rintro e wq ⟨rfl, rfl⟩)
              | (with_reducible refine (P3.out _).mono ?_
                 rintro e wq ⟨rfl, rfl⟩)
              | (with_reducible refine (P4.out _).mono ?_
                 rintro e wq ⟨rfl, rfl⟩))
            go_meet
            exact ⟨rfl, rfl⟩
          cases z4
          all_goals
            go_wp2_with (first
              | (with_reducible refine (P1.out _).mono ?_
                 rintro e wq ⟨rfl, rfl⟩)
              | (with_reducible refine (P2.out _).mono ?_
                 rintro e wq ⟨rfl, rfl⟩)
              | (with_reducible refine (P3.out _).mono ?_
                 rintro e wq ⟨rfl, rfl⟩)
              | (with_reducible refine (P4.out _).mono ?_
                 rintro e wq ⟨rfl, rfl⟩))
            go_meet
            exact ⟨rfl, rfl⟩
        case rest =>
          obtain ⟨rfl, hwc⟩ := hcut
          subst hwc
          obtain ⟨w2, rfl⟩ : ∃ w2, w2 = wc := ⟨_, rfl⟩
          clear P1 P2 P3 P4
          obtain ⟨zp, hzp⟩ : ∃ zp, (z1 && (z2 && (z3 && z4))) = zp := ⟨_, rfl⟩
          have HC4 := hid (show z = if (zp && (zs && zd)) = false then 12 else if 0 < mp ∧ mi = [] then 9 else 0 by
            rw [HC3.out, ← hzp]
            cases z1 <;> cases z2 <;> cases z3 <;> cases z4 <;> rfl)
          rw [hzp]
          clear hzp HC3
          cases zp
          · have HZ := hid (show z = 12 by rw [HC4.out]; rfl)
            go_wp2_with fail
            go_returns
            exact ⟨by rw [HZ.out]; rfl, HB2.out⟩
          go_upto_region 15 with (fail)
          go_cut [91] from 74 to 91 (fun s wx => s = .bool (!zs) ∧ wx = w2)
          case first =>
            by_cases a1 : st < 400
            · have b1 : decide (st < 400) = true := decide_eq_true a1
              by_cases a3 : st = 0
              · subst a3
                by_cases a4 : ap = 0
                · subst a4
                  go_wp2_with fail
                  go_meet
                  exact ⟨by rw [← HZS.out]; simp, rfl⟩
                · have b4 : decide (ap = 0) = false := decide_eq_false a4
                  have b4' : (!decide (ap = 0)) = true := by rw [b4]; rfl
                  go_wp2_with fail
                  go_meet
                  exact ⟨by rw [← HZS.out]; simp [bne, a4], rfl⟩
              · have b3 : decide (st = 0) = false := decide_eq_false a3
                have b3' : (!decide (st = 0)) = true := by rw [b3]; rfl
                have HV := hid (show ((decide (400 ≤ st) && decide (st ≤ 599)) || (decide (ap = 0) && decide (st = 0))) = false by rw [decide_eq_false (show ¬ 400 ≤ st by omega), decide_eq_false a3]; simp)
                go_wp2_with fail
                go_meet
                exact ⟨by rw [← HZS.out, HV.out]; rfl, rfl⟩
            · have b1 : decide (st < 400) = false := decide_eq_false a1
              by_cases a2 : 599 < st
              · have b2 : decide (599 < st) = true := decide_eq_true a2
                have a3 : ¬ st = 0 := by omega
                have b3 : decide (st = 0) = false := decide_eq_false a3
                have b3' : (!decide (st = 0)) = true := by rw [b3]; rfl
                have HV := hid (show ((decide (400 ≤ st) && decide (st ≤ 599)) || (decide (ap = 0) && decide (st = 0))) = false by rw [decide_eq_false (show ¬ st ≤ 599 by omega), decide_eq_false a3]; simp)
                go_wp2_with fail
                go_meet
                exact ⟨by rw [← HZS.out, HV.out]; rfl, rfl⟩
              · have b2 : decide (599 < st) = false := decide_eq_false a2
                have HV := hid (show ((decide (400 ≤ st) && decide (st ≤ 599)) || (decide (ap = 0) && decide (st = 0))) = true by rw [decide_eq_true (show 400 ≤ st by omega), decide_eq_true (show st ≤ 599 by omega)]; simp)
                go_wp2_with fail
                go_meet
                exact ⟨by rw [← HZS.out, HV.out]; rfl, rfl⟩
          case rest =>
            obtain ⟨rfl, hwc⟩ := hcut
            subst hwc
            obtain ⟨w3, rfl⟩ : ∃ w3, w3 = wc := ⟨_, rfl⟩
            cases zs
            · have HZ := hid (show z = 12 by rw [HC4.out]; rfl)
              go_wp2_with fail
              go_returns
              exact ⟨by rw [HZ.out]; rfl, HB2.out⟩
            go_upto_region 17 with (fail)
            go_cut [109] from 92 to 109 (fun s wx => s = .bool (!zd) ∧ wx = w3)
            case first =>
              by_cases a1 : dt < 1
              · have b1 : decide (dt < 1) = true := decide_eq_true a1
                by_cases a3 : dt = 0
                · subst a3
                  by_cases a4 : dp = 0
                  · subst a4
                    go_wp2_with fail
                    go_meet
                    exact ⟨by rw [← HZD.out]; simp, rfl⟩
                  · have b4 : decide (dp = 0) = false := decide_eq_false a4
                    have b4' : (!decide (dp = 0)) = true := by rw [b4]; rfl
                    go_wp2_with fail
                    go_meet
                    exact ⟨by rw [← HZD.out]; simp [bne, a4], rfl⟩
                · have b3 : decide (dt = 0) = false := decide_eq_false a3
                  have b3' : (!decide (dt = 0)) = true := by rw [b3]; rfl
                  have HV := hid (show ((decide (1 ≤ dt) && decide (dt ≤ 50)) || (decide (dp = 0) && decide (dt = 0))) = false by rw [decide_eq_false (show ¬ 1 ≤ dt by omega), decide_eq_false a3]; simp)
                  go_wp2_with fail
                  go_meet
                  exact ⟨by rw [← HZD.out, HV.out]; rfl, rfl⟩
              · have b1 : decide (dt < 1) = false := decide_eq_false a1
                by_cases a2 : 50 < dt
                · have b2 : decide (50 < dt) = true := decide_eq_true a2
                  have a3 : ¬ dt = 0 := by omega
                  have b3 : decide (dt = 0) = false := decide_eq_false a3
                  have b3' : (!decide (dt = 0)) = true := by rw [b3]; rfl
                  have HV := hid (show ((decide (1 ≤ dt) && decide (dt ≤ 50)) || (decide (dp = 0) && decide (dt = 0))) = false by rw [decide_eq_false (show ¬ dt ≤ 50 by omega), decide_eq_false a3]; simp)
                  go_wp2_with fail
                  go_meet
                  exact ⟨by rw [← HZD.out, HV.out]; rfl, rfl⟩
                · have b2 : decide (50 < dt) = false := decide_eq_false a2
                  have HV := hid (show ((decide (1 ≤ dt) && decide (dt ≤ 50)) || (decide (dp = 0) && decide (dt = 0))) = true by rw [decide_eq_true (show 1 ≤ dt by omega), decide_eq_true (show dt ≤ 50 by omega)]; simp)
                  go_wp2_with fail
                  go_meet
                  exact ⟨by rw [← HZD.out, HV.out]; rfl, rfl⟩
            case rest =>
              obtain ⟨rfl, hwc⟩ := hcut
              subst hwc
              cases zd
              · have HZ := hid (show z = 12 by rw [HC4.out]; rfl)
                go_wp2_with fail
                go_returns
                exact ⟨by rw [HZ.out]; rfl, HB2.out⟩
              have HC5 := hid (show z = if 0 < mp ∧ mi = [] then 9 else 0 from HC4.out)
              clear HC4
              by_cases hp : 0 < mp
              · have hd2 : decide (0 < mp) = true := decide_eq_true hp
                by_cases hm : mi = []
                · subst hm
                  have HZ := hid (show z = 9 by rw [HC5.out, if_pos ⟨hp, rfl⟩])
                  go_wp2_with fail
                  go_returns
                  exact ⟨by rw [HZ.out]; rfl, HB2.out⟩
                · have hmd : mi.isEmpty = false := by cases mi with
                    | nil => exact absurd rfl hm
                    | cons => rfl
                  have HZ := hid (show z = 0 by rw [HC5.out, if_neg (fun h => hm h.2)])
                  go_wp2_with fail
                  go_returns
                  exact ⟨by rw [HZ.out]; rfl, HB2.out⟩
              · have hd2 : decide (0 < mp) = false := decide_eq_false hp
                have HZ := hid (show z = 0 by rw [HC5.out, if_neg (fun h => hp h.1)])
                go_wp2_with fail
                go_returns
                exact ⟨by rw [HZ.out]; rfl, HB2.out⟩
end Go.Proofs.Ytmdlkoigjacipaa
namespace Go.Proofs.Ytmdlkoigjacipaa
set_option linter.unusedVariables false
set_option linter.unusedSimpArgs false
open Go.RowKit Go.Joins

set_option maxRecDepth 100000 in
set_option maxHeartbeats 2000000 in
theorem ins_nil (w : World) :
    Calls Try.prog 78 #[.slice none 0 0, .int .i64 0, .int .i64 0, .func (.func 47) #[] #[]] w fun e w' => e = .returned (.tuple #[]) ∧ w' = w := by
  go_enter Try.func78, Try.ntmps78
  go_wp2_with fail
  go_loopg [8] 1 (fun g1 vi wr => vi = .int .i64 1 ∧ wr = w)
  case atStart => exact ⟨rfl, rfl⟩
  case round =>
    obtain ⟨rfl, rfl⟩ := hrel
    go_wp2_with fail
    go_end0
    exact ⟨rfl, rfl⟩
set_option maxRecDepth 100000 in
set_option maxHeartbeats 2000000 in
theorem stable_nil (w : World) :
    Calls Try.prog 68 #[.slice none 0 0, .int .i64 0, .func (.func 47) #[] #[]] w fun e w' => e = .returned (.tuple #[]) ∧ w' = w := by
  go_enter Try.func68, Try.ntmps68
  go_wp2_with fail
  go_loopg [7, 8] 1 (fun g1 va vb wr => va = .int .i64 0 ∧ vb = .int .i64 20 ∧ wr = w)
  case atStart => exact ⟨rfl, rfl, rfl⟩
  case round =>
    obtain ⟨rfl, rfl, rfl⟩ := hrel
    go_wp2_with fail
    refine (ins_nil _).mono ?_
    rintro e w2 ⟨rfl, rfl⟩
    go_wp2_with fail
    go_loopg [6] 1 (fun g1 vs wr => vs = .int .i64 20 ∧ wr = w2)
    case atStart => exact ⟨rfl, rfl⟩
    case round =>
      obtain ⟨rfl, rfl⟩ := hrel
      go_wp2_with fail
      go_end0
      exact ⟨rfl, rfl⟩
set_option maxHeartbeats 1600000 in
theorem sortStable_nil (w : World) :
    Calls Try.prog 46 #[.slice none 0 0, .func (.func 47) #[] #[]] w fun e w' => e = .returned (.tuple #[]) ∧ w' = w := by
  go_enter Try.func46, Try.ntmps46
  go_wp2_with fail
  refine (stable_nil _).mono ?_
  rintro e w2 ⟨rfl, rfl⟩
  go_wp2_with fail
  go_end0
  exact ⟨rfl, rfl⟩
def Ru.with_ (u : Ru) (a : Option Addr) (n c : Nat) : Ru := { u with xa := a, xn := n, xc := c }
theorem Ru.with_sem (u : Ru) (a : Option Addr) (n c : Nat) : (u.with_ a n c).sem = u.sem := rfl
theorem GW.cell1 {w : World} {g : Nat} {C : List Ru} (h : GW encR 10 w g 0 C) {i : Nat} {u : Ru} (hi : C[i]? = some u) (a : Option Addr) (n c : Nat) : GW encR 10 (w.setCell ⟨g, i * 10 + 1, none⟩ (.slice a n c)) g 0 (C.set i (u.with_ a n c)) := by
  obtain ⟨hlt, rfl⟩ := List.getElem?_eq_some_iff.1 hi
  refine ⟨by rw [World.size_setCell]; exact h.1, fun t ht => ?_⟩
  rw [List.length_set] at ht
  rw [gvals_set encR 10 encR_len C i hlt _ t ht]
  have h0 := h.2 t ht
  have hfz : (w.setCell ⟨g, i * 10 + 1, none⟩ (.slice a n c)).frozen? ⟨g, 0 + t, none⟩ = w.frozen? ⟨g, 0 + t, none⟩ := by go_simp
  rw [hfz]
  refine ⟨?_, h0.2⟩
  by_cases e : t = i * 10 + 1
  · subst e
    rw [if_pos (by omega), Nat.zero_add]
    have hc : (w.cell? ⟨g, i * 10 + 1, none⟩).isSome = true := by
      rw [Nat.zero_add] at h0
      rw [h0.1, List.getElem?_eq_getElem (by rw [gvals_len encR 10 encR_len]; exact ht)]; rfl
    obtain ⟨old, hold⟩ := Option.isSome_iff_exists.1 hc
    rw [show i * 10 + 1 - i * 10 = 1 by omega]
    have := World.cell?_setCell_same w ⟨g, i * 10 + 1, none⟩ (.slice a n c) hold
    rw [this]; rfl
  · have hne : (w.setCell ⟨g, i * 10 + 1, none⟩ (.slice a n c)).cell? ⟨g, 0 + t, none⟩ = w.cell? ⟨g, 0 + t, none⟩ := World.cell?_setCell_other w ⟨g, i * 10 + 1, none⟩ ⟨g, 0 + t, none⟩ (.slice a n c) (by intro hh; injection hh with _ h2 _; omega)
    rw [hne, h0.1]
    by_cases hin : i * 10 ≤ t ∧ t < i * 10 + 10
    · rw [if_pos hin]
      obtain ⟨j, rfl⟩ : ∃ j, t = i * 10 + j := ⟨t - i * 10, by omega⟩
      rw [gvals_at encR 10 encR_len C i hlt j (by omega), show i * 10 + j - i * 10 = j by omega]
      match j, (show j < 10 by omega), (show j ≠ 1 by omega) with
      | 0, _, _ => rfl
      | 2, _, _ => rfl
      | 3, _, _ => rfl
      | 4, _, _ => rfl
      | 5, _, _ => rfl
      | 6, _, _ => rfl
      | 7, _, _ => rfl
      | 8, _, _ => rfl
      | 9, _, _ => rfl
    · rw [if_neg hin]
end Go.Proofs.Ytmdlkoigjacipaa
namespace Go.Proofs.Ytmdlkoigjacipaa
set_option linter.unusedVariables false
set_option linter.unusedSimpArgs false
open Go.RowKit Go.Joins

abbrev rkS (r : Rs) : Int := r.rank
theorem ordB_sem (U : List Ru) : (ordB rkR U).map Ru.sem = ordB rkS (U.map Ru.sem) := (ordB_map (key := rkS) Ru.sem U).symm
theorem mem_ordB {U : List Ru} {u : Ru} (h : u ∈ ordB rkR U) : u ∈ U := (ordB_eqv (key := rkR) U).mem h
set_option maxRecDepth 100000 in
set_option maxHeartbeats 8000000 in
theorem order_any (y : Value) (U : List Ru) (w : World) (hy : RV w y U) (h40 : U.length ≤ 40) (hps : ∀ u ∈ U, u.ps.length ≤ 1000000) :
    Calls Try.prog 26 #[y] w fun e w' => ∃ v V, e = .returned v ∧ (RV w' v V ∧ V.map Ru.sem = ordB rkS (U.map Ru.sem)) ∧ Below w.heap.size w w' := by
  obtain ⟨A, c, rfl, hx, hp, hA, hlc, hl9⟩ := hy
  have HCL := hid (cloneR_any A c U w hx hA (by omega))
  have HP := hid hp
  have HPS := hid hps
  clear hx hp hA hps
  go_enter Try.func26, Try.ntmps26
  go_wp2_with fail
  refine HCL.out.mono ?_
  rintro e w1 ⟨v1, rfl, hown, hb1⟩
  rcases GB.form encR_len hown with ⟨rfl, rfl⟩ | ⟨g, cap, rfl, hg1, hg2, hg3, hg4, hg5⟩
  · have HB1 := hid hb1
    clear hown hb1
    go_wp2_with fail
    go_loopg [9] 1 (fun g1 vi wr => vi = .int .i64 0 ∧ wr = w1)
    case atStart => exact ⟨rfl, rfl⟩
    case round =>
      obtain ⟨rfl, rfl⟩ := hrel
      go_wp2_with fail
      refine (sortStable_nil _).mono ?_
      rintro e w2 ⟨rfl, rfl⟩
      go_wp2_with fail
      go_returns
      exact ⟨_, [], rfl, ⟨⟨none, 0, rfl, GX.nil _ _ _, (fun u hu => by cases hu), fun _ => rfl, Nat.le_refl _, by simp⟩, rfl⟩, HB1.out⟩
  · have hGW : GW encR 10 w1 g 0 U := ⟨hg2, fun t ht => by rw [Nat.zero_add]; exact hg5 t ht⟩
    have hRP : RP w1 (fun b => b < w1.heap.size ∧ b ≠ g) U := (HP.out.same fun b hb => hb1.block b hb).imp fun b hb => ⟨Nat.lt_of_lt_of_le hb hb1.size, by omega⟩
    have HB1 := hid hb1
    have HG := hid (And.intro hg1 (And.intro hg3 hg4))
    have HST := hid (And.intro hGW hRP)
    clear hown hb1 hg1 hg3 hg4 hg5 hGW hRP hg2
    generalize hnU : U.length = n at *
    have HNU := hid hnU
    clear hnU
    go_wp2_with fail
    go_loopg [9] n (fun g1 vi wr => ∃ (i : Nat) (C : List Ru), vi = .int .i64 i ∧ i ≤ n ∧ n - i ≤ g1 ∧ Hid (C.length = n ∧ C.map Ru.sem = U.map Ru.sem ∧ GW encR 10 wr g 0 C ∧ RP wr (fun b => b < wr.heap.size ∧ b ≠ g) C ∧ Below w.heap.size w wr))
    case atStart => exact ⟨0, U, rfl, by omega, by omega, ⟨HNU.out, rfl, HST.out.1, HST.out.2, HB1.out⟩⟩
    case round =>
      obtain ⟨i, C, rfl, hin, hgk, HI⟩ := hrel
      by_cases hlt : i < n
      · have hltz : (i : Int) < (n : Int) := by omega
        have hi0 : (0 : Int) ≤ (i : Int) := by omega
        obtain ⟨f1, f2, f3, f4, f5⟩ := HI.out
        have hiC : i < C.length := by omega
        obtain ⟨u, hu⟩ : ∃ u, C[i]? = some u := ⟨_, List.getElem?_eq_getElem hiC⟩
        have humem : u ∈ C := List.mem_of_getElem? hu
        have hps2 : u.ps.length ≤ 1000000 := by
          have h1 : u.sem ∈ C.map Ru.sem := List.mem_map.2 ⟨u, humem, rfl⟩
          rw [f2] at h1
          obtain ⟨u', hu', he⟩ := List.mem_map.1 h1
          have := HPS.out u' hu'
          have e2 : u'.ps = u.ps := congrArg Rs.ps he
          rwa [e2] at this
        have hcell : wr.cell? ⟨g, i * 10 + 1, none⟩ = some (.slice u.xa u.xn u.xc) := by
          have h1 := f3.2 (i * 10 + 1) (idx_lt (k := 10) hiC (by omega))
          rw [Nat.zero_add] at h1
          have h2 := gvals_at encR 10 encR_len C i hiC 1 (by omega)
          rw [h1.1, h2]
          obtain ⟨_, rfl⟩ := List.getElem?_eq_some_iff.1 hu
          rfl
        have hfz : wr.frozen? ⟨g, i * 10 + 1, none⟩ = false := by
          have h1 := f3.2 (i * 10 + 1) (idx_lt (k := 10) hiC (by omega))
          rw [Nat.zero_add] at h1
          exact h1.2
        have hcp := cloneP_any u.x u.ps wr ((f4 u humem).imp fun b hb => hb.1) hps2
        have HCP := hid hcp
        have HU := hid (And.intro hu humem)
        have HF := hid (And.intro f1 (And.intro f2 (And.intro f3 (And.intro f4 f5))))
        have hgs := f3.1
        clear f1 f2 f3 f4 f5 hiC hu humem hps2 hcp HI
        unfold Ru.x at HCP
        go_wp2_with fail
        refine HCP.out.mono ?_
        rintro e w2 ⟨v2, rfl, hown2, hb2⟩
        obtain ⟨A2, c2, rfl, hgx2, hA2, hlc2, hcm2⟩ := GB.reads encP_len hown2
        have hcell2 : w2.cell? ⟨g, i * 10 + 1, none⟩ = some (.slice u.xa u.xn u.xc) := (hb2.cell (p := ⟨g, i * 10 + 1, none⟩) hgs).trans hcell
        have hfz2 : w2.frozen? ⟨g, i * 10 + 1, none⟩ = false := (hb2.frozen (p := ⟨g, i * 10 + 1, none⟩) hgs).trans hfz
        have H2 := hid (And.intro hgx2 (And.intro hA2 (And.intro hlc2 (And.intro hcm2 hb2))))
        clear hown2 hgx2 hA2 hlc2 hcm2 hb2 hcell hfz
        go_wp2_with fail
        go_roundg (n - (i + 1))
        case measure => omega
        case rel =>
          obtain ⟨f1, f2, f3, f4, f5⟩ := HF.out
          obtain ⟨hu, humem⟩ := HU.out
          obtain ⟨hgx2, hA2, hlc2, hcm2, hb2⟩ := H2.out
          have hg2 : GW encR 10 w2 g 0 C := f3.same (hb2.block g f3.1) hb2.size
          have hsz := hb2.size
          have hkeep : ∀ b, b ≠ g → (w2.setCell ⟨g, i * 10 + 1, none⟩ (.slice A2 u.ps.length c2)).heap[b]? = w2.heap[b]? := fun b hb => Below.heap_setCell _ _ _ b hb
          refine ⟨i + 1, C.set i (u.with_ A2 u.ps.length c2), by go_num, by omega, by omega, ⟨by simp; exact f1, ?_, hg2.cell1 hu A2 u.ps.length c2, fun z hz => ?_, ?_⟩⟩
          · rw [List.map_set, Ru.with_sem, ← f2]
            have : (C.map Ru.sem)[i]? = some u.sem := by rw [List.getElem?_map, hu]; rfl
            obtain ⟨h1, h2⟩ := List.getElem?_eq_some_iff.1 this
            rw [← h2, List.set_getElem_self]
          · rw [World.size_setCell]
            rcases List.mem_or_eq_of_mem_set hz with hz | rfl
            · have h1 := (f4 z hz).same (w' := w2) fun b hb => hb2.block b hb.1
              exact (h1.imp (M := fun b => b < w2.heap.size ∧ b ≠ g) fun b hb => ⟨Nat.lt_of_lt_of_le hb.1 hsz, hb.2⟩).same fun b hb => hkeep b hb.2
            · refine ⟨A2, c2, rfl, ?_, hA2, hlc2, by unfold maxLen at hcm2; show u.ps.length ≤ _; omega⟩
              have h1 : PX w2 (fun b => b < w2.heap.size ∧ b ≠ g) A2 u.ps := (hgx2.imp fun b hb => ⟨hb.2, by have := f3.1; have := hb.1; omega⟩).px
              exact h1.same fun b hb => hkeep b hb.2
          · exact (f5.trans (hb2.mono (by have := f5.size; omega))).setCell (by have := HG.out.1; exact this) _
      · obtain rfl : i = n := by omega
        have hltz : ¬ (i : Int) < (i : Int) := by omega
        obtain ⟨f1, f2, f3, f4, f5⟩ := HI.out
        have hs := sortStable_any g cap i C f1.symm h40 wr f3
        have HS := hid hs
        have HF := hid (And.intro f1 (And.intro f2 (And.intro f3 (And.intro f4 f5))))
        clear hs f1 f2 f3 f4 f5 HI
        go_wp2_with fail
        refine HS.out.mono ?_
        rintro e w2 ⟨rfl, hg2, ho2⟩
        have H2 := hid (And.intro hg2 ho2)
        clear hg2 ho2
        go_wp2_with fail
        go_returns
        obtain ⟨f1, f2, f3, f4, f5⟩ := HF.out
        obtain ⟨hg2, ho2⟩ := H2.out
        refine ⟨_, ordB rkR C, rfl, ⟨⟨some ⟨g, 0, none⟩, cap, by rw [ordB_length, f1]; rfl, ?_, ?_, fun h => (by cases h), by rw [ordB_length, f1]; have := HG.out.2.1; exact this, by rw [ordB_length, f1]; omega⟩, by rw [ordB_sem, f2]⟩, ?_⟩
        · intro j hj
          refine ⟨g, 0, rfl, hg2.1, fun q hq => ?_⟩
          have h1 := hg2.2 (j * 10 + q) (idx_lt (k := 10) hj hq)
          rw [h1.1]
          exact gvals_at encR 10 encR_len _ j hj q hq
        · have h1 : RP w2 (fun b => b < w2.heap.size ∧ b ≠ g) C := (f4.same fun b hb => ho2.block b hb.1 hb.2).imp fun b hb => ⟨Nat.lt_of_lt_of_le hb.1 ho2.size, hb.2⟩
          exact (h1.imp fun b hb => hb.1).sub fun u hu => mem_ordB hu
        · have hg1 := HG.out.1
          have hsz := f5.size
          exact ⟨ho2.os.trans f5.os, ho2.tape.trans f5.tape, ho2.output.trans f5.output, Nat.le_trans hsz ho2.size, fun k hk => (ho2.block k (by omega) (by omega)).trans (f5.block k hk)⟩
end Go.Proofs.Ytmdlkoigjacipaa
namespace Go.Proofs.Ytmdlkoigjacipaa
set_option linter.unusedVariables false
set_option linter.unusedSimpArgs false
open Go.RowKit Go.Joins

def k12a : Ru := ⟨1, none, 0, 0, [], [97], 0, 0, 0, 0, 0, [], 0⟩
def k12b (g : Nat) : Ru := ⟨5, some ⟨g, 0, none⟩, 1, 1, [⟨2, [], [120]⟩], [98], 0, 0, 0, 0, 0, [], 0⟩
def k12c : Ru := ⟨5, none, 0, 0, [], [99], 0, 0, 0, 0, 0, [], 0⟩
def k12U (g : Nat) : List Ru := [k12a, k12b g, k12c]
def k12C (g : Nat) : Array Value := #[.int .i64 1, .slice none 0 0, .string (bs [97]), .int .i64 0, .int .i64 0, .int .i64 0, .int .i64 0, .int .i64 0, .string (bs []), .int .i64 0, .int .i64 5, .slice (some ⟨g, 0, none⟩) 1 1, .string (bs [98]), .int .i64 0, .int .i64 0, .int .i64 0, .int .i64 0, .int .i64 0, .string (bs []), .int .i64 0, .int .i64 5, .slice none 0 0, .string (bs [99]), .int .i64 0, .int .i64 0, .int .i64 0, .int .i64 0, .int .i64 0, .string (bs []), .int .i64 0]
theorem k12_row (g i j : Nat) (hi : i < 3) (hj : j < 10) : (k12C g)[i * 10 + j]? = (encR ((k12U g)[i]'hi))[j]? := by
  match i, hi, j, hj with
  | 0, _, 0, _ => rfl
  | 0, _, 1, _ => rfl
  | 0, _, 2, _ => rfl
  | 0, _, 3, _ => rfl
  | 0, _, 4, _ => rfl
  | 0, _, 5, _ => rfl
  | 0, _, 6, _ => rfl
  | 0, _, 7, _ => rfl
  | 0, _, 8, _ => rfl
  | 0, _, 9, _ => rfl
  | 1, _, 0, _ => rfl
  | 1, _, 1, _ => rfl
  | 1, _, 2, _ => rfl
  | 1, _, 3, _ => rfl
  | 1, _, 4, _ => rfl
  | 1, _, 5, _ => rfl
  | 1, _, 6, _ => rfl
  | 1, _, 7, _ => rfl
  | 1, _, 8, _ => rfl
  | 1, _, 9, _ => rfl
  | 2, _, 0, _ => rfl
  | 2, _, 1, _ => rfl
  | 2, _, 2, _ => rfl
  | 2, _, 3, _ => rfl
  | 2, _, 4, _ => rfl
  | 2, _, 5, _ => rfl
  | 2, _, 6, _ => rfl
  | 2, _, 7, _ => rfl
  | 2, _, 8, _ => rfl
  | 2, _, 9, _ => rfl
theorem k12_rv (w : World) (g gp : Nat) (h : Bk w g 39 (k12C gp)) (hp : Bk w gp 23 #[.int .i64 2, .string (bs []), .string (bs [120])]) (hg : g < w.heap.size) (hgp : gp < w.heap.size) : RV w (.slice (some ⟨g, 0, none⟩) 3 3) (k12U gp) := by
  refine ⟨some ⟨g, 0, none⟩, 3, rfl, fun i hi => ⟨g, 0, rfl, hg, fun j hj => ?_⟩, fun u hu => ?_, by simp, by simp [k12U], by simp [k12U]⟩
  · rw [Nat.zero_add, Bk.cell h]
    exact k12_row gp i j hi hj
  · simp only [k12U, List.mem_cons, List.mem_nil_iff, or_false] at hu
    rcases hu with rfl | rfl | rfl
    · exact PV.nil _ _
    · refine ⟨some ⟨gp, 0, none⟩, 1, rfl, fun k hk => ?_, by simp, by simp [k12b], by simp [k12b]⟩
      match k, hk with
      | 0, _ => exact ⟨gp, 0, rfl, hgp, Bk.cell hp 0, Bk.cell hp 1, Bk.cell hp 2⟩
    · exact PV.nil _ _
theorem k12_ord (g : Nat) : ordB rkS ((k12U g).map Ru.sem) = [(k12b 0).sem, k12c.sem, k12a.sem] := by
  show ordB rkS [k12a.sem, (k12b 0).sem, k12c.sem] = _
  decide +kernel
set_option maxRecDepth 100000 in
set_option maxHeartbeats 16000000 in
theorem known12_any (w : World) : Calls Try.prog 19 #[] w fun e w' => e = .returned (.bool true) ∧ Below w.heap.size w w' := by
  have hnot := enot
  have c0 : (ByteArray.mk #[]) = bs [] := rfl
  have c1 : (ByteArray.mk #[97]) = bs [97] := rfl
  have c2 : (ByteArray.mk #[98]) = bs [98] := rfl
  have c3 : (ByteArray.mk #[99]) = bs [99] := rfl
  have c4 : (ByteArray.mk #[120]) = bs [120] := rfl
  have hb0 := enew w (.cells #[.int .i64 2, .string (bs []), .string (bs [120])] 23)
  have hp0 := Bk.new w 23 #[.int .i64 2, .string (bs []), .string (bs [120])]
  have hb1 := enew (w.alloc (.cells #[.int .i64 2, .string (bs []), .string (bs [120])] 23)) (.cells #[.int .i64 1, .slice none 0 0, .string (bs [97]), .int .i64 0, .int .i64 0, .int .i64 0, .int .i64 0, .int .i64 0, .string (bs []), .int .i64 0, .int .i64 5, .slice (some ⟨w.heap.size, 0, none⟩) 1 1, .string (bs [98]), .int .i64 0, .int .i64 0, .int .i64 0, .int .i64 0, .int .i64 0, .string (bs []), .int .i64 0, .int .i64 5, .slice none 0 0, .string (bs [99]), .int .i64 0, .int .i64 0, .int .i64 0, .int .i64 0, .int .i64 0, .string (bs []), .int .i64 0] 39)
  have hk1 := Bk.new (w.alloc (.cells #[.int .i64 2, .string (bs []), .string (bs [120])] 23)) 39 #[.int .i64 1, .slice none 0 0, .string (bs [97]), .int .i64 0, .int .i64 0, .int .i64 0, .int .i64 0, .int .i64 0, .string (bs []), .int .i64 0, .int .i64 5, .slice (some ⟨w.heap.size, 0, none⟩) 1 1, .string (bs [98]), .int .i64 0, .int .i64 0, .int .i64 0, .int .i64 0, .int .i64 0, .string (bs []), .int .i64 0, .int .i64 5, .slice none 0 0, .string (bs [99]), .int .i64 0, .int .i64 0, .int .i64 0, .int .i64 0, .int .i64 0, .string (bs []), .int .i64 0]
  rw [World.size_alloc] at hk1
  have hp1 := hp0.up hb1
  have hg : w.heap.size + 1 < ((w.alloc (.cells #[.int .i64 2, .string (bs []), .string (bs [120])] 23)).alloc (.cells #[.int .i64 1, .slice none 0 0, .string (bs [97]), .int .i64 0, .int .i64 0, .int .i64 0, .int .i64 0, .int .i64 0, .string (bs []), .int .i64 0, .int .i64 5, .slice (some ⟨w.heap.size, 0, none⟩) 1 1, .string (bs [98]), .int .i64 0, .int .i64 0, .int .i64 0, .int .i64 0, .int .i64 0, .string (bs []), .int .i64 0, .int .i64 5, .slice none 0 0, .string (bs [99]), .int .i64 0, .int .i64 0, .int .i64 0, .int .i64 0, .int .i64 0, .string (bs []), .int .i64 0] 39)).heap.size := by simp
  have hgp : w.heap.size < ((w.alloc (.cells #[.int .i64 2, .string (bs []), .string (bs [120])] 23)).alloc (.cells #[.int .i64 1, .slice none 0 0, .string (bs [97]), .int .i64 0, .int .i64 0, .int .i64 0, .int .i64 0, .int .i64 0, .string (bs []), .int .i64 0, .int .i64 5, .slice (some ⟨w.heap.size, 0, none⟩) 1 1, .string (bs [98]), .int .i64 0, .int .i64 0, .int .i64 0, .int .i64 0, .int .i64 0, .string (bs []), .int .i64 0, .int .i64 5, .slice none 0 0, .string (bs [99]), .int .i64 0, .int .i64 0, .int .i64 0, .int .i64 0, .int .i64 0, .string (bs []), .int .i64 0] 39)).heap.size := by simp; omega
  have hv := k12_rv _ _ _ hk1 hp1 hg hgp
  have hB := hid (estep hb0 hb1)
  have hU : GX encR 10 ((w.alloc (.cells #[.int .i64 2, .string (bs []), .string (bs [120])] 23)).alloc (.cells #[.int .i64 1, .slice none 0 0, .string (bs [97]), .int .i64 0, .int .i64 0, .int .i64 0, .int .i64 0, .int .i64 0, .string (bs []), .int .i64 0, .int .i64 5, .slice (some ⟨w.heap.size, 0, none⟩) 1 1, .string (bs [98]), .int .i64 0, .int .i64 0, .int .i64 0, .int .i64 0, .int .i64 0, .string (bs []), .int .i64 0, .int .i64 5, .slice none 0 0, .string (bs [99]), .int .i64 0, .int .i64 0, .int .i64 0, .int .i64 0, .int .i64 0, .string (bs []), .int .i64 0] 39)) (· < ((w.alloc (.cells #[.int .i64 2, .string (bs []), .string (bs [120])] 23)).alloc (.cells #[.int .i64 1, .slice none 0 0, .string (bs [97]), .int .i64 0, .int .i64 0, .int .i64 0, .int .i64 0, .int .i64 0, .string (bs []), .int .i64 0, .int .i64 5, .slice (some ⟨w.heap.size, 0, none⟩) 1 1, .string (bs [98]), .int .i64 0, .int .i64 0, .int .i64 0, .int .i64 0, .int .i64 0, .string (bs []), .int .i64 0, .int .i64 5, .slice none 0 0, .string (bs [99]), .int .i64 0, .int .i64 0, .int .i64 0, .int .i64 0, .int .i64 0, .string (bs []), .int .i64 0] 39)).heap.size) (some ⟨w.heap.size + 1, 0, none⟩) (k12U w.heap.size) := by
    obtain ⟨A, c, e, h, -⟩ := hv
    injection e with e
    exact e ▸ h
  have hP : RP ((w.alloc (.cells #[.int .i64 2, .string (bs []), .string (bs [120])] 23)).alloc (.cells #[.int .i64 1, .slice none 0 0, .string (bs [97]), .int .i64 0, .int .i64 0, .int .i64 0, .int .i64 0, .int .i64 0, .string (bs []), .int .i64 0, .int .i64 5, .slice (some ⟨w.heap.size, 0, none⟩) 1 1, .string (bs [98]), .int .i64 0, .int .i64 0, .int .i64 0, .int .i64 0, .int .i64 0, .string (bs []), .int .i64 0, .int .i64 5, .slice none 0 0, .string (bs [99]), .int .i64 0, .int .i64 0, .int .i64 0, .int .i64 0, .int .i64 0, .string (bs []), .int .i64 0] 39)) (· < ((w.alloc (.cells #[.int .i64 2, .string (bs []), .string (bs [120])] 23)).alloc (.cells #[.int .i64 1, .slice none 0 0, .string (bs [97]), .int .i64 0, .int .i64 0, .int .i64 0, .int .i64 0, .int .i64 0, .string (bs []), .int .i64 0, .int .i64 5, .slice (some ⟨w.heap.size, 0, none⟩) 1 1, .string (bs [98]), .int .i64 0, .int .i64 0, .int .i64 0, .int .i64 0, .int .i64 0, .string (bs []), .int .i64 0, .int .i64 5, .slice none 0 0, .string (bs [99]), .int .i64 0, .int .i64 0, .int .i64 0, .int .i64 0, .int .i64 0, .string (bs []), .int .i64 0] 39)).heap.size) (k12U w.heap.size) := by
    obtain ⟨A, c, e, h, h2, -⟩ := hv
    exact h2
  clear hb0 hp0 hb1 hk1 hp1 hg hgp
  go_enter Try.func19, Try.ntmps19
  go_upto_region 2 with (fail)
  generalize (w.alloc (.cells #[.int .i64 2, .string (bs []), .string (bs [120])] 23)).alloc (.cells #[.int .i64 1, .slice none 0 0, .string (bs [97]), .int .i64 0, .int .i64 0, .int .i64 0, .int .i64 0, .int .i64 0, .string (bs []), .int .i64 0, .int .i64 5, .slice (some ⟨w.heap.size, 0, none⟩) 1 1, .string (bs [98]), .int .i64 0, .int .i64 0, .int .i64 0, .int .i64 0, .int .i64 0, .string (bs []), .int .i64 0, .int .i64 5, .slice none 0 0, .string (bs [99]), .int .i64 0, .int .i64 0, .int .i64 0, .int .i64 0, .int .i64 0, .string (bs []), .int .i64 0] 39) = w0 at *
  go_wp2_with fail
  refine (order_any _ _ _ hv (by simp [k12U]) (by simp [k12U, k12a, k12b, k12c])).mono ?_
  rintro e w1 ⟨y, V, rfl, ⟨hV, hVe⟩, hb1⟩
  rw [k12_ord] at hVe
  obtain ⟨v1, v2, v3, rfl⟩ : ∃ v1 v2 v3, V = [v1, v2, v3] := by
    match V, hVe with
    | [a, b, c], _ => exact ⟨a, b, c, rfl⟩
    | [], h => simp at h
    | [_], h => simp at h
    | [_, _], h => simp at h
    | _ :: _ :: _ :: _ :: _, h => simp at h
  simp only [List.map_cons, List.map_nil, List.cons.injEq, and_true] at hVe
  obtain ⟨e1, e2, e3⟩ := hVe
  obtain ⟨A, c, rfl, hX, -⟩ := hV
  obtain ⟨bb, oo, rfl, -⟩ := hX.some_of (i := 0) (by simp)
  obtain ⟨-, -, t1, -⟩ := rank_cell hX (i := 0) rfl
  obtain ⟨-, -, t2, -⟩ := rank_cell hX (i := 1) rfl
  obtain ⟨-, -, t3, -⟩ := rank_cell hX (i := 2) rfl
  rw [show v1.tg = [98] from congrArg Rs.tg e1] at t1
  rw [show v2.tg = [99] from congrArg Rs.tg e2] at t2
  rw [show v3.tg = [97] from congrArg Rs.tg e3] at t3
  have HU1 := hid (hU.up hb1)
  have HP1 := hid (hP.up hb1)
  have HB1 := hid (estep hB.out hb1)
  have HFI := hid (fun (w2 : World) (h2 : Below w1.heap.size w1 w2) (h : List UInt8) (q : Option Nat) (hq : Hid (fstK (fun u => allE u.ps [] h [] []) (k12U w.heap.size) 3 = q)) => first_any _ 3 (k12U w.heap.size) [] h [] [] (.slice none 0 0) [] w2 (HU1.out.up h2) (HP1.out.up h2) (by simp [k12U]) ⟨none, 0, rfl, fun k hk => absurd hk (by simp)⟩ (by simp) hq)
  have HF1 : Hid (∀ (w2 : World), Below w1.heap.size w1 w2 → Calls Try.prog 28 #[.slice (some ⟨w.heap.size + 1, 0, none⟩) 3 3, .agg #[.string (bs []), .string (bs [120]), .string (bs []), .slice none 0 0, .string (bs [])]] w2 fun e w' => e = .returned (.int .i64 1) ∧ Below w2.heap.size w2 w') := hid (fun w2 h2 => HFI.out w2 h2 [120] (some 1) (hid rfl))
  have HF2 : Hid (∀ (w2 : World), Below w1.heap.size w1 w2 → Calls Try.prog 28 #[.slice (some ⟨w.heap.size + 1, 0, none⟩) 3 3, .agg #[.string (bs []), .string (bs []), .string (bs []), .slice none 0 0, .string (bs [])]] w2 fun e w' => e = .returned (.int .i64 2) ∧ Below w2.heap.size w2 w') := hid (fun w2 h2 => HFI.out w2 h2 [] (some 2) (hid rfl))
  have HF3 : Hid (∀ (w2 : World), Calls Try.prog 28 #[.slice none 0 0, .agg #[.string (bs []), .string (bs []), .string (bs []), .slice none 0 0, .string (bs [])]] w2 fun e w' => e = .returned (.int .i64 (-1)) ∧ Below w2.heap.size w2 w') := hid (fun w2 => first_any none 0 [] [] [] [] [] (.slice none 0 0) [] w2 (fun i hi => absurd hi (by simp)) (fun u hu => absurd hu (by simp)) (by simp) ⟨none, 0, rfl, fun k hk => absurd hk (by simp)⟩ (by simp) (q := none) (hid rfl))
  have HHT : Hid (∀ (w2 : World), Calls Try.prog 23 #[.agg #[.int .i64 1, .slice none 0 0, .string (bs [97]), .int .i64 0, .int .i64 0, .int .i64 0, .int .i64 0, .int .i64 0, .string (bs []), .int .i64 0], .agg #[.string (bs []), .string (bs []), .string (bs []), .slice none 0 0, .string (bs [])]] w2 fun e w' => e = .returned (.bool true) ∧ Below w2.heap.size w2 w') := hid (fun w2 => hits_any k12a [] [] [] [] (.slice none 0 0) [] w2 (PV.nil _ _) ⟨none, 0, rfl, fun k hk => absurd hk (by simp)⟩ (by simp) (hid rfl))
  have HCK : Hid (∀ (w2 : World) (A : Option Addr) (names : List (List UInt8)) (hN : STexts w2 (· < w2.heap.size) A names) (z : Int) (hl : names.length ≤ 1) (hz : Hid (chkR k12a.sem names = z)), Calls Try.prog 20 #[.agg #[.int .i64 1, .slice none 0 0, .string (bs [97]), .int .i64 0, .int .i64 0, .int .i64 0, .int .i64 0, .int .i64 0, .string (bs []), .int .i64 0], .slice A names.length names.length] w2 fun e w' => e = .returned (.int .i64 z) ∧ Below w2.heap.size w2 w') := hid (fun w2 A names hN z hl hz => rcheck_any k12a A names.length names w2 (PV.nil _ _) ⟨by simp [smallP, k12a, Ru.sem], by simp [k12a, Ru.sem], by simp [k12a, Ru.sem], by simp [k12a, Ru.sem]⟩ hN (by omega) hz)
  clear hX e1 e2 e3 hU hP hv
  go_upto_region 3 with (fail)
  go_wp2_with fail
  refine (HF1.out _ (Below.refl _ _)).mono ?_
  rintro e w2 ⟨rfl, hb2⟩
  have HB2 := hid hb2
  clear hb2 t1 t2 t3
  go_wp2_with fail
  refine (HF2.out _ HB2.out).mono ?_
  rintro e w3 ⟨rfl, hb3⟩
  have HB3 := hid (estep HB2.out hb3)
  clear hb3
  go_wp2_with fail
  refine (HF3.out _).mono ?_
  rintro e w4 ⟨rfl, hb4⟩
  have HB4 := hid (estep HB3.out hb4)
  clear hb4
  have hrow : GX encR 10 w4 (· < w4.heap.size) (some ⟨w.heap.size + 1, 0, none⟩) (k12U w.heap.size) := HU1.out.up HB4.out
  obtain ⟨r0, r1, r2, r3, r4, r5, r6, r7, r8, r9⟩ := rank_cell hrow (i := 0) (u := k12a) rfl
  simp only [k12a, Nat.zero_mul, Nat.zero_add] at r0 r1 r2 r3 r4 r5 r6 r7 r8 r9
  clear hrow
  go_wp2_with fail
  refine (HHT.out _).mono ?_
  rintro e w5 ⟨rfl, hb5⟩
  have HB5 := hid (estep HB4.out hb5)
  clear hb5 r0 r1 r2 r3 r4 r5 r6 r7 r8 r9
  have hrow : GX encR 10 w5 (· < w5.heap.size) (some ⟨w.heap.size + 1, 0, none⟩) (k12U w.heap.size) := HU1.out.up HB5.out
  obtain ⟨r0, r1, r2, r3, r4, r5, r6, r7, r8, r9⟩ := rank_cell hrow (i := 0) (u := k12a) rfl
  simp only [k12a, Nat.zero_mul, Nat.zero_add] at r0 r1 r2 r3 r4 r5 r6 r7 r8 r9
  clear hrow
  have hbN := enew w5 (.cells #[.string (bs [97])] 9)
  have hkN := Bk.new w5 9 #[.string (bs [97])]
  have hSN : STexts (w5.alloc (.cells #[.string (bs [97])] 9)) (· < (w5.alloc (.cells #[.string (bs [97])] 9)).heap.size) (some ⟨w5.heap.size, 0, none⟩) [[97]] := fun k hk => by
    match k, hk with
    | 0, _ => exact ⟨⟨w5.heap.size, 0, none⟩, rfl, by simp, Bk.cell hkN 0⟩
  have HB6 := hid (estep HB5.out hbN)
  clear hbN hkN
  go_wp2_with fail
  refine (HCK.out _ (some ⟨w5.heap.size, 0, none⟩) [[97]] hSN 0 (by simp) (hid (by decide +kernel))).mono ?_
  rintro e w7 ⟨rfl, hb7⟩
  have HB7 := hid (estep HB6.out hb7)
  clear hb7 hSN r0 r1 r2 r3 r4 r5 r6 r7 r8 r9
  have hrow : GX encR 10 w7 (· < w7.heap.size) (some ⟨w.heap.size + 1, 0, none⟩) (k12U w.heap.size) := HU1.out.up HB7.out
  obtain ⟨r0, r1, r2, r3, r4, r5, r6, r7, r8, r9⟩ := rank_cell hrow (i := 0) (u := k12a) rfl
  simp only [k12a, Nat.zero_mul, Nat.zero_add] at r0 r1 r2 r3 r4 r5 r6 r7 r8 r9
  clear hrow
  go_wp2_with fail
  refine (HCK.out _ none [] (fun k hk => absurd hk (by simp)) 7 (by simp) (hid (by decide +kernel))).mono ?_
  rintro e w8 ⟨rfl, hb8⟩
  have HB8 := hid (estep HB7.out hb8)
  go_wp2_with fail
  go_returns
  exact ⟨rfl, estep HB1.out HB8.out⟩
end Go.Proofs.Ytmdlkoigjacipaa
namespace Go.Proofs.Ytmdlkoigjacipaa
set_option linter.unusedVariables false
set_option linter.unusedSimpArgs false
open Go.RowKit Go.Joins

theorem pd_guard (op : BinOp) (p q : Operand) (xs ys : Array Value) (w : World) : (eqGuard op 23 p q (.agg xs) (.agg ys)).run Try.prog w = .ok () w := run_eqGuard_agg w op _ p q xs ys (by kernel_rfl)
theorem pd_eqIn (w : World) (k : Int) (n v : List UInt8) : (Op.equalIn 10000 23 (.agg #[.int .i64 k, .string (bs n), .string (bs v)]) (.agg #[.int .i64 k, .string (bs n), .string (bs v)])).run Try.prog w = .ok true w := by
  have us2 := Try.underlying3
  have as2 := Try.isAgg3
  have zs2 := Try.sizeOf3
  have us4 := Try.underlying9
  have as4 := Try.isAgg9
  have zs4 := Try.sizeOf9
  rw [show (10000 : Nat) = 9999 + 1 from rfl, run_equalIn_agg w 9999 _ _ _ (by kernel_rfl) (by kernel_rfl)]
  simp only [Program.fieldsOf, Try.underlying23]
  go_simp
theorem pd_neq (w : World) (k : Int) (n v : List UInt8) : (binOp .neq 23 (.agg #[.int .i64 k, .string (bs n), .string (bs v)]) (.agg #[.int .i64 k, .string (bs n), .string (bs v)])).run Try.prog w = .ok (.bool false) w := by
  rw [run_neq_struct, pd_eqIn]; rfl
set_option maxRecDepth 100000 in
set_option maxHeartbeats 1600000 in
theorem psame_any (A1 A2 : Option Addr) (c1 c2 : Nat) (L : List Pd) (w : World) (h1 : PX w (· < w.heap.size) A1 L) (h2 : PX w (· < w.heap.size) A2 L) (hl : L.length ≤ 9223372036854775807) :
    Calls Try.prog 49 #[.slice A1 L.length c1, .slice A2 L.length c2] w fun e w' => e = .returned (.bool true) ∧ Below w.heap.size w w' := by
  have G1 := hid h1
  have G2 := hid h2
  have hg := pd_guard
  clear h1 h2
  go_enter Try.func49, Try.ntmps49
  go_wp2_with fail
  go_loopw [5] (fun i wr => ∃ k : Nat, k ≤ L.length ∧ i = .int .i64 k ∧ Hid (Below w.heap.size w wr)) (fun i _ => L.length - (intOf i).toNat)
  case atStart => exact ⟨0, by omega, rfl, hid (Below.refl _ _)⟩
  case round =>
    obtain ⟨k, hk, rfl, HW⟩ := hrel
    by_cases hlt : k < L.length
    · obtain ⟨b1, o1, rfl, hB1, r0, r1, r2⟩ := (G1.out.up HW.out) k hlt
      obtain ⟨b2, o2, rfl, hB2, d0, d1, d2⟩ := (G2.out.up HW.out) k hlt
      generalize L[k] = s at *
      obtain ⟨a, n, v⟩ := s
      simp only at r0 r1 r2 d0 d1 d2
      have hki : decide ((k : Int) < ((L.length : Nat) : Int)) = true := by simp; omega
      have hne : ∀ w : World, (binOp .neq 23 (.agg #[.int .i64 a, .string (bs n), .string (bs v)]) (.agg #[.int .i64 a, .string (bs n), .string (bs v)])).run Try.prog w = .ok (.bool false) w := fun w => pd_neq w a n v
      go_wp2_with fail
      go_quiet (fail)
      go_wp2_with fail
      go_roundw
      case rel => exact ⟨k + 1, by omega, by go_num, hid (below_drewN HW.out _)⟩
      case measure => simp [intOf]; omega
    · obtain rfl : k = L.length := by omega
      go_wp2_with fail
      go_returns
      exact ⟨rfl, HW.out⟩
set_option maxRecDepth 100000 in
set_option maxHeartbeats 4000000 in
theorem one_any (u v : Ru) (w : World) (he : u.sem = v.sem) (hu : UV w u) (hv : UV w v) :
    Calls Try.prog 30 #[.agg #[.int .i64 u.rank, .slice u.xa u.xn u.xc, .string (bs u.tg), .int .i64 u.ap, .int .i64 u.st, .int .i64 u.dp, .int .i64 u.dt, .int .i64 u.mp, .string (bs u.mi), .int .i64 u.sm], .agg #[.int .i64 v.rank, .slice v.xa v.xn v.xc, .string (bs v.tg), .int .i64 v.ap, .int .i64 v.st, .int .i64 v.dp, .int .i64 v.dt, .int .i64 v.mp, .string (bs v.mi), .int .i64 v.sm]] w fun e w' => e = .returned (.bool true) ∧ Below w.heap.size w w' := by
  obtain ⟨rk, xa, xn, xc, ps, tg, ap, st, dp, dt, mp, mi, sm⟩ := u
  obtain ⟨rk', ya, yn, yc, ps', tg', ap', st', dp', dt', mp', mi', sm'⟩ := v
  simp only [Ru.sem, Rs.mk.injEq] at he
  obtain ⟨rfl, rfl, rfl, rfl, rfl, rfl, rfl, rfl, rfl, rfl⟩ := he
  obtain ⟨hn1, hx1, -, -, hl9⟩ := hu.out
  obtain ⟨hn2, hx2, -, -, -⟩ := hv.out
  simp only at hn1 hx1 hl9 hn2 hx2 ⊢
  subst hn1 hn2
  have HS := hid (fun w2 (h1 : PX w2 (· < w2.heap.size) xa ps) (h2 : PX w2 (· < w2.heap.size) ya ps) => psame_any xa ya xc yc ps w2 h1 h2 hl9)
  have hb1 := enew w (.cells #[.int .i64 rk, .slice xa ps.length xc, .string (bs tg), .int .i64 ap, .int .i64 st, .int .i64 dp, .int .i64 dt, .int .i64 mp, .string (bs mi), .int .i64 sm] 39)
  have hb0 := estep hb1 (enew _ (.cells #[.int .i64 rk, .slice ya ps.length yc, .string (bs tg), .int .i64 ap, .int .i64 st, .int .i64 dp, .int .i64 dt, .int .i64 mp, .string (bs mi), .int .i64 sm] 39))
  have hr0 := (BR.new w ⟨rk, xa, ps.length, xc, ps, tg, ap, st, dp, dt, mp, mi, sm⟩).up (enew _ (.cells #[.int .i64 rk, .slice ya ps.length yc, .string (bs tg), .int .i64 ap, .int .i64 st, .int .i64 dp, .int .i64 dt, .int .i64 mp, .string (bs mi), .int .i64 sm] 39))
  have hs0 := BR.new (w.alloc (.cells #[.int .i64 rk, .slice xa ps.length xc, .string (bs tg), .int .i64 ap, .int .i64 st, .int .i64 dp, .int .i64 dt, .int .i64 mp, .string (bs mi), .int .i64 sm] 39)) ⟨rk, ya, ps.length, yc, ps, tg, ap, st, dp, dt, mp, mi, sm⟩
  rw [World.size_alloc] at hs0
  have HX1 := hid (hx1.up hb0)
  have HX2 := hid (hx2.up hb0)
  clear hu hv hx1 hx2 hb1
  go_enter Try.func30, Try.ntmps30
  go_wp2_with fail
  refine (HS.out _ HX1.out HX2.out).mono ?_
  rintro e w1 ⟨rfl, hb2⟩
  have hr1 := hr0.up hb2
  have hs1 := hs0.up hb2
  clear hr0 hs0
  obtain ⟨r0, r1, r2, r3, r4, r5, r6, r7, r8, r9⟩ := hr1.cells
  obtain ⟨d0, d1, d2, d3, d4, d5, d6, d7, d8, d9⟩ := hs1.cells
  have HB := hid (estep hb0 hb2)
  clear hb0 hb2
  go_wp2_with fail
  go_returns
  exact ⟨rfl, HB.out⟩
set_option maxRecDepth 100000 in
set_option maxHeartbeats 16000000 in
theorem rsame_any (A B : Option Addr) (c d : Nat) (U V : List Ru) (w : World) (he : U.map Ru.sem = V.map Ru.sem) (hU : GX encR 10 w (· < w.heap.size) A U) (hP : RP w (· < w.heap.size) U) (hV : GX encR 10 w (· < w.heap.size) B V) (hQ : RP w (· < w.heap.size) V) (hl : U.length ≤ 1000000) :
    Calls Try.prog 25 #[.slice A U.length c, .slice B V.length d] w fun e w' => e = .returned (.bool true) ∧ Below w.heap.size w w' := by
  have hnot := enot
  have hUV : V.length = U.length := by have := congrArg List.length he; simpa using this.symm
  have HE := hid (fun (k : Nat) (u v : Ru) (h1 : U[k]? = some u) (h2 : V[k]? = some v) => show u.sem = v.sem by
    have := congrArg (fun l : List Rs => l[k]?) he
    simp only [List.getElem?_map, h1, h2] at this
    exact Option.some.inj this)
  have H0 := hid (And.intro hU (And.intro hP (And.intro hV hQ)))
  have HL := hid hUV
  rw [hUV]
  clear hU hP hV hQ hUV he
  generalize hnU : U.length = n at *
  have HNU := hid hnU
  clear hnU
  go_enter Try.func25, Try.ntmps25
  go_wp2_with fail
  go_loopg [5] n (fun g1 vi wr => ∃ i : Nat, vi = .int .i64 i ∧ i ≤ n ∧ n - i ≤ g1 ∧ Hid (Below w.heap.size w wr))
  case atStart => exact ⟨0, rfl, by omega, by omega, Below.refl _ _⟩
  case round =>
    obtain ⟨i, rfl, hin, hgk, HB⟩ := hrel
    by_cases hlt : i < n
    · have hltz : (i : Int) < (n : Int) := by omega
      have hltd : decide ((i : Int) < (n : Int)) = true := decide_eq_true hltz
      have hi0 : (0 : Int) ≤ (i : Int) := by omega
      have hiU : i < U.length := by have := HNU.out; omega
      have hiV : i < V.length := by have := HNU.out; have := HL.out; omega
      obtain ⟨u, hu⟩ : ∃ u, U[i]? = some u := ⟨_, List.getElem?_eq_getElem hiU⟩
      obtain ⟨v, hv⟩ : ∃ v, V[i]? = some v := ⟨_, List.getElem?_eq_getElem hiV⟩
      have hEq := HE.out i u v hu hv
      have hum : u ∈ U := List.mem_of_getElem? hu
      have hvm : v ∈ V := List.mem_of_getElem? hv
      obtain ⟨bb, oo, rfl, -⟩ := H0.out.1.some_of hiU
      obtain ⟨bc, oc, rfl, -⟩ := H0.out.2.2.1.some_of hiV
      have hUr := H0.out.1.up HB.out
      have hVr := H0.out.2.2.1.up HB.out
      have HHU := hid (fun (w2 : World) (hb2 : Below wr.heap.size wr w2) => one_any u v w2 hEq (UV.up (UV.up (H0.out.2.1 u hum) HB.out) hb2) (UV.up (UV.up (H0.out.2.2.2 v hvm) HB.out) hb2))
      obtain ⟨r0, r1, r2, r3, r4, r5, r6, r7, r8, r9⟩ := rank_cell hUr hu
      obtain ⟨d0, d1, d2, d3, d4, d5, d6, d7, d8, d9⟩ := rank_cell hVr hv
      have R0 := BW.cell r0
      have R1 := BW.cell r1
      have R2 := BW.cell r2
      have R3 := BW.cell r3
      have R4 := BW.cell r4
      have R5 := BW.cell r5
      have R6 := BW.cell r6
      have R7 := BW.cell r7
      have R8 := BW.cell r8
      have R9 := BW.cell r9
      have D0 := BW.cell d0
      have D1 := BW.cell d1
      have D2 := BW.cell d2
      have D3 := BW.cell d3
      have D4 := BW.cell d4
      have D5 := BW.cell d5
      have D6 := BW.cell d6
      have D7 := BW.cell d7
      have D8 := BW.cell d8
      have D9 := BW.cell d9
      clear r0 r1 r2 r3 r4 r5 r6 r7 r8 r9 d0 d1 d2 d3 d4 d5 d6 d7 d8 d9 hUr hVr hu hv hEq hum hvm
      go_upto_region 6 with (fail)
      refine wp_region_bw (by kernel_rfl) (by kernel_rfl) ?_
      repeat (go_big_quiet_step ((go_at_call 30; exact calls_bw (HHU.out _ (BW.h _)))))
      refine wpQuiet_nil ?_
      rintro _ ⟨pq, rfl⟩
      clear R0 R1 R2 R3 R4 R5 R6 R7 R8 R9 D0 D1 D2 D3 D4 D5 D6 D7 D8 D9
      have HB2 := hid (estep HB.out pq.h)
      go_wp2_with fail
      go_roundg (n - (i + 1))
      case measure => omega
      case rel => exact ⟨i + 1, by go_num, by omega, by omega, HB2.out⟩
    · obtain rfl : i = n := by omega
      have hltd : decide ((i : Int) < (i : Int)) = false := by simp
      go_wp2_with fail
      go_returns
      exact ⟨rfl, HB.out⟩
end Go.Proofs.Ytmdlkoigjacipaa
namespace Go.Proofs.Ytmdlkoigjacipaa
set_option linter.unusedVariables false
set_option linter.unusedSimpArgs false
open Go.RowKit Go.Joins

def fewR1 (r : Rs) : Bool := fewP r.ps && decide (r.tg.length + r.mi.length ≤ 400)
theorem fewRu_eq {l : List Rs} (h : l.length ≤ 40) : fewRu l = l.all fewR1 := by
  rw [fewRu, decide_eq_true h, Bool.true_and]; rfl
theorem fewRu_big {l : List Rs} (h : ¬ l.length ≤ 40) : fewRu l = false := by
  rw [fewRu, decide_eq_false h, Bool.false_and]
theorem all_up {α : Type} {p : α → Bool} {l : List α} {k : Nat} {x : α} (hx : l[k]? = some x) (h : (l.take k).all p = true) (hp : p x = true) : (l.take (k + 1)).all p = true := by
  obtain ⟨hk, rfl⟩ := List.getElem?_eq_some_iff.1 hx
  rw [List.take_add_one, List.all_append, h, List.getElem?_eq_getElem hk]
  simp [hp]
theorem all_off {α : Type} {p : α → Bool} {l : List α} {k : Nat} {x : α} (hx : l[k]? = some x) (hp : p x = false) : l.all p = false := by
  rw [List.all_eq_false]
  exact ⟨x, List.mem_of_getElem? hx, by simp [hp]⟩
theorem map_at' {U : List Ru} {i : Nat} {u : Ru} (hu : U[i]? = some u) : (U.map Ru.sem)[i]? = some u.sem := by
  rw [List.getElem?_map, hu]; rfl
set_option maxRecDepth 100000 in
set_option maxHeartbeats 16000000 in
theorem rufew_any (A : Option Addr) (c : Nat) (U : List Ru) (w : World) (hU : GX encR 10 w (· < w.heap.size) A U) (hP : RP w (· < w.heap.size) U) (hs : ∀ u ∈ U, okRs u.sem) (hl9 : U.length ≤ 9223372036854775807) {z : Bool} (H : Hid (fewRu (U.map Ru.sem) = z)) :
    Calls Try.prog 22 #[.slice A U.length c] w fun e w' => e = .returned (.bool z) ∧ Below w.heap.size w w' := by
  have hnot := enot
  have H0 := hid (And.intro hU (And.intro hP hs))
  clear hU hP hs
  by_cases h40 : U.length ≤ 40
  · have hd : decide ((40 : Int) < ((U.length : Nat) : Int)) = false := decide_eq_false (by omega)
    have HC := hid (fewRu_eq (l := U.map Ru.sem) (by rw [List.length_map]; exact h40))
    generalize hnU : U.length = n at *
    have HNU := hid hnU
    clear hnU
    go_enter Try.func22, Try.ntmps22
    go_wp2_with fail
    clear hd
    go_loopg [3] n (fun g1 vi wr => ∃ i : Nat, vi = .int .i64 i ∧ i ≤ n ∧ n - i ≤ g1 ∧ Hid (((U.map Ru.sem).take i).all fewR1 = true ∧ Below w.heap.size w wr))
    case atStart => exact ⟨0, rfl, by omega, by omega, hid ⟨by simp, Below.refl _ _⟩⟩
    case round =>
      obtain ⟨i, rfl, hin, hgk, HW⟩ := hrel
      by_cases hlt : i < n
      · have hltz : (i : Int) < (n : Int) := by omega
        have hltd : decide ((i : Int) < (n : Int)) = true := decide_eq_true hltz
        have hi0 : (0 : Int) ≤ (i : Int) := by omega
        have hiU : i < U.length := by have := HNU.out; omega
        obtain ⟨u, hu⟩ : ∃ u, U[i]? = some u := ⟨_, List.getElem?_eq_getElem hiU⟩
        have hum : u ∈ U := List.mem_of_getElem? hu
        have HM := hid (map_at' hu)
        obtain ⟨bb, oo, rfl, -⟩ := H0.out.1.some_of hiU
        have hUr := H0.out.1.up HW.out.2
        obtain ⟨r0, r1, r2, r3, r4, r5, r6, r7, r8, r9⟩ := rank_cell hUr hu
        obtain ⟨o1, o2, o3, o4⟩ := H0.out.2.2 u hum
        obtain ⟨zf, hzf⟩ : ∃ z, fewP u.ps = z := ⟨_, rfl⟩
        have HPF := hid (fun w2 (hb : Below wr.heap.size wr w2) => by
          have hv : UV w2 u := UV.up (UV.up (H0.out.2.1 u hum) HW.out.2) hb
          obtain ⟨hn, hpx, -, -, hp9⟩ := hv.out
          have := pfew_any u.xa u.xc u.ps w2 hpx hp9 o1 (hid hzf)
          rw [← hn] at this
          exact this)
        have HZ := hid hzf
        have hl2 : u.tg.length ≤ 140737488351232 := o2
        have hl8 : u.mi.length ≤ 140737488351232 := o3
        have hadd : IntKind.i64.wrap ((u.tg.length : Int) + (u.mi.length : Int)) = (u.tg.length : Int) + (u.mi.length : Int) := IntWalk.i64_in _ (by omega)
        have R1 := BW.cell r1
        have R2 := BW.cell r2
        have R8 := BW.cell r8
        clear r0 r1 r2 r3 r4 r5 r6 r7 r8 r9 hUr hum hu o1 o2 o3 o4 hzf
        cases zf with
        | false =>
          have HE := hid (show z = false by
            rw [← H.out, HC.out]
            exact all_off HM.out (by unfold fewR1; rw [show u.sem.ps = u.ps from rfl, HZ.out]; rfl))
          clear hl2 hl8 hadd
          go_upto_region 6 with (fail)
          refine wp_region_bw (by kernel_rfl) (by kernel_rfl) ?_
          repeat (go_big_quiet_step ((go_at_call 12; exact calls_bw (HPF.out _ (BW.h _)))))
          refine wpQuiet_nil ?_
          rintro _ ⟨pq, rfl⟩
          clear R1 R2 R8
          have HB2 := hid (estep HW.out.2 pq.h)
          go_wp2_with fail
          go_returns
          exact ⟨by rw [HE.out]; rfl, HB2.out⟩
        | true =>
          by_cases hle : u.tg.length + u.mi.length ≤ 400
          · have hd : decide ((400 : Int) < (u.tg.length : Int) + (u.mi.length : Int)) = false := decide_eq_false (by omega)
            have HO := hid (show fewR1 u.sem = true by unfold fewR1; rw [show u.sem.ps = u.ps from rfl, HZ.out]; exact decide_eq_true hle)
            clear hle
            go_upto_region 6 with (fail)
            refine wp_region_bw (by kernel_rfl) (by kernel_rfl) ?_
            repeat (go_big_quiet_step ((go_at_call 12; exact calls_bw (HPF.out _ (BW.h _)))))
            refine wpQuiet_nil ?_
            rintro _ ⟨pq, rfl⟩
            clear R1 R2 R8
            have HB2 := hid (estep HW.out.2 pq.h)
            go_wp2_with fail
            go_roundg (n - (i + 1))
            case measure => omega
            case rel => exact ⟨i + 1, by go_num, by omega, by omega, hid ⟨all_up HM.out HW.out.1 HO.out, HB2.out⟩⟩
          · have hd : decide ((400 : Int) < (u.tg.length : Int) + (u.mi.length : Int)) = true := decide_eq_true (by omega)
            have HE := hid (show z = false by
              rw [← H.out, HC.out]
              exact all_off HM.out (by unfold fewR1; rw [decide_eq_false (show ¬ (u.sem.tg.length + u.sem.mi.length ≤ 400) from hle), Bool.and_false]))
            clear hle
            go_upto_region 6 with (fail)
            refine wp_region_bw (by kernel_rfl) (by kernel_rfl) ?_
            repeat (go_big_quiet_step ((go_at_call 12; exact calls_bw (HPF.out _ (BW.h _)))))
            refine wpQuiet_nil ?_
            rintro _ ⟨pq, rfl⟩
            clear R1 R2 R8
            have HB2 := hid (estep HW.out.2 pq.h)
            go_wp2_with fail
            go_returns
            exact ⟨by rw [HE.out]; rfl, HB2.out⟩
      · obtain rfl : i = n := by omega
        have hkd : decide ((i : Int) < (i : Int)) = false := by simp
        have HE := hid (show z = true by
          rw [← H.out, HC.out]
          have := HW.out.1
          rwa [List.take_of_length_le (by rw [List.length_map]; have := HNU.out; omega)] at this)
        go_wp2_with fail
        go_returns
        exact ⟨by rw [HE.out]; rfl, HW.out.2⟩
  · have hd : decide ((40 : Int) < ((U.length : Nat) : Int)) = true := decide_eq_true (by omega)
    have HE := hid (show z = false by rw [← H.out]; exact fewRu_big (by rw [List.length_map]; exact h40))
    go_enter Try.func22, Try.ntmps22
    go_wp2_with fail
    go_returns
    exact ⟨by rw [HE.out]; rfl, Below.refl _ _⟩
end Go.Proofs.Ytmdlkoigjacipaa
namespace Go.Proofs.Ytmdlkoigjacipaa
set_option linter.unusedVariables false
set_option linter.unusedSimpArgs false
open Go.RowKit Go.Joins

theorem GX.left {w : World} {N : Nat → Prop} {A : Option Addr} {S T : List Ru} (h : GX encR 10 w N A (S ++ T)) : GX encR 10 w N A S := by
  have := h.take S.length
  rwa [List.take_left] at this
theorem GX.right {w : World} {N : Nat → Prop} {b o : Nat} {S T : List Ru} (h : GX encR 10 w N (some ⟨b, o, none⟩) (S ++ T)) : GX encR 10 w N (some ⟨b, o + S.length * 10, none⟩) T := by
  have := h.drop S.length
  rwa [List.drop_left] at this
theorem GX.right' {w w' : World} {N : Nat → Prop} {b o : Nat} {S T : List Ru} (h : GX encR 10 w N (some ⟨b, o, none⟩) (S ++ T)) (hs : ∀ b, N b → w'.heap[b]? = w.heap[b]?) : GX encR 10 w' N (some ⟨b, o + S.length * 10, none⟩) T := h.right.same hs
theorem GX.right'N {w w' : World} {N : Nat → Prop} {S T : List Ru} (h : GX encR 10 w N none (S ++ T)) (hs : ∀ b, N b → w'.heap[b]? = w.heap[b]?) : GX encR 10 w' N none T := by
  have : T = [] := by
    rcases T with _ | ⟨x, r⟩
    · rfl
    · obtain ⟨b, o, e, _⟩ := h S.length (by simp)
      cases e
  subst this
  exact GX.nil _ _ _
theorem take_snoc' {α : Type} (L : List α) (i : Nat) (x : α) (h : L[i]? = some x) : L.take (i + 1) = L.take i ++ [x] := by
  obtain ⟨hi, rfl⟩ := List.getElem?_eq_some_iff.1 h
  exact List.take_succ_eq_append_getElem hi
theorem ordB_snoc (L : List Ru) (u : Ru) : ordB rkR (L ++ [u]) = insB rkR (ordB rkR L) u := by
  unfold ordB
  rw [List.foldl_append]; rfl
theorem GB.reads2 {w : World} {base : Nat} {v : Value} {L : List Ru} (h : GB encR 10 39 w base v L) : ∃ A cap, v = .slice A L.length cap ∧ GX encR 10 w (fun b => base ≤ b ∧ b < w.heap.size) A L ∧ (A = none → cap = 0) ∧ L.length ≤ cap ∧ cap ≤ maxLen ∧ (A = none ∨ ∃ g, A = some ⟨g, 0, none⟩) := by
  obtain ⟨A, cap, e, h1, h2, h3, h4⟩ := GB.reads encR_len h
  refine ⟨A, cap, e, h1, h2, h3, h4, ?_⟩
  rcases GB.form encR_len h with ⟨e1, _⟩ | ⟨g, c, e1, _⟩
  · rw [e1] at e
    injection e with e2
    exact Or.inl e2.symm
  · rw [e1] at e
    injection e with e2
    exact Or.inr ⟨g, e2.symm⟩
set_option maxRecDepth 100000 in
set_option maxHeartbeats 16000000 in
theorem rorder_any (A : Option Addr) (c : Nat) (U : List Ru) (w : World) (hx : GX encR 10 w (· < w.heap.size) A U) (hl9 : U.length ≤ 1000) :
    Calls Try.prog 27 #[.slice A U.length c] w fun e w' => ∃ v, e = .returned v ∧ GB encR 10 39 w' w.heap.size v (ordB rkR U) ∧ Below w.heap.size w w' := by
  have HX := hid hx
  clear hx
  generalize hnU : U.length = n at *
  have HNU := hid hnU
  clear hnU
  go_enter Try.func27, Try.ntmps27
  go_wp2_with fail
  go_loopg [3, 4] n (fun g1 vo vi wr => ∃ (i : Nat), vi = .int .i64 i ∧ i ≤ n ∧ n - i ≤ g1 ∧ Hid (GB encR 10 39 wr w.heap.size vo (ordB rkR (U.take i)) ∧ Below w.heap.size w wr))
  case atStart => exact ⟨0, rfl, by omega, by omega, ⟨GB.nil _ _, Below.refl _ _⟩⟩
  case round =>
    obtain ⟨i, rfl, hin, hgk, HI⟩ := hrel
    by_cases hlt : i < n
    · have hltz : (i : Int) < (n : Int) := by omega
      have hi0 : (0 : Int) ≤ (i : Int) := by omega
      have hiU : i < U.length := by have := HNU.out; omega
      obtain ⟨u, hu⟩ : ∃ u, U[i]? = some u := ⟨_, List.getElem?_eq_getElem hiU⟩
      obtain ⟨bb, oo, rfl, hbb, hcl⟩ := HX.out i hiU
      have huL : encR U[i] = encR u := by
        obtain ⟨_, rfl⟩ := List.getElem?_eq_some_iff.1 hu
        rfl
      rw [huL] at hcl
      have hru : wr.cell? ⟨bb, oo + i * 10, none⟩ = some (.int .i64 u.rank) := (HI.out.2.cell (p := ⟨bb, oo + i * 10, none⟩) hbb).trans (hcl 0 (by omega))
      have hol : (ordB rkR (U.take i)).length = i := by rw [ordB_length]; simp; omega
      have HU := hid hu
      have HUW := hid (And.intro hcl hbb)
      obtain ⟨O, hO⟩ : ∃ O, ordB rkR (U.take i) = O := ⟨_, rfl⟩
      rw [hO] at HI hol
      have HO := hid hO
      clear hO hu hcl huL hbb
      obtain ⟨A2, c2, rfl, hgx, hA2, hc2, hcm, hsp⟩ := GB.reads2 HI.out.1
      rw [hol]
      rw [hol] at hc2
      have HGX := hid (And.intro hgx (And.intro hA2 (And.intro hol hcm)))
      have HSP := hid hsp
      clear hgx hA2 hol hcm hsp
      obtain ⟨w0, rfl⟩ : ∃ w0, w0 = wr := ⟨_, rfl⟩
      go_wp2_with fail
      go_loopg [5] i (fun g2 va wr2 => ∃ j : Nat, va = .int .i64 j ∧ j ≤ i ∧ i - j ≤ g2 ∧ Hid ((∀ t (h : t < O.length), t < j → u.rank ≤ O[t].rank) ∧ ∃ q, wr2 = w0.drewN q))
      case atStart => exact ⟨0, rfl, by omega, by omega, ⟨fun t h h2 => absurd h2 (by omega), 0, rfl⟩⟩
      case round =>
        obtain ⟨j, rfl, hji, hgj, HJ⟩ := hrel
        by_cases hjlt : j < i
        · have hd : decide ((j : Int) < (i : Int)) = true := decide_eq_true (by omega)
          have hjz : (j : Int) < (i : Int) := by omega
          have hj0 : (0 : Int) ≤ (j : Int) := by omega
          have hjO : j < O.length := by have := HGX.out.2.2.1; omega
          obtain ⟨v, hv⟩ : ∃ v, O[j]? = some v := ⟨_, List.getElem?_eq_getElem hjO⟩
          obtain ⟨b2, o2, hA2e, hb2, hcl2⟩ := HGX.out.1 j hjO
          subst hA2e
          have hvL : encR O[j] = encR v := by
            obtain ⟨_, rfl⟩ := List.getElem?_eq_some_iff.1 hv
            rfl
          rw [hvL] at hcl2
          have hrv0 : w0.cell? ⟨b2, o2 + j * 10, none⟩ = some (.int .i64 v.rank) := hcl2 0 (by omega)
          have hrv : wr.cell? ⟨b2, o2 + j * 10, none⟩ = some (.int .i64 v.rank) := by obtain ⟨q, rfl⟩ := HJ.out.2; exact hrv0
          have hru2 : wr.cell? ⟨bb, oo + i * 10, none⟩ = some (.int .i64 u.rank) := by obtain ⟨q, rfl⟩ := HJ.out.2; exact hru
          have hvg : O[j] = v := by
            obtain ⟨_, rfl⟩ := List.getElem?_eq_some_iff.1 hv
            rfl
          have HV := hid (And.intro hv hvg)
          clear hv hvL hcl2 hb2 hrv0
          by_cases hle : u.rank ≤ v.rank
          · have hle2 : decide (u.rank ≤ v.rank) = true := decide_eq_true hle
            go_upto_region 6 with (fail)
            go_quiet (fail)
            go_wp2_with fail
            go_roundg (i - (j + 1))
            case measure => omega
            case rel =>
              refine ⟨j + 1, by go_num, by omega, by omega, ⟨fun t h ht => ?_, ?_⟩⟩
              · by_cases e : t = j
                · subst e; rw [HV.out.2]; exact hle
                · exact HJ.out.1 t h (by omega)
              · obtain ⟨q, hq⟩ := HJ.out.2
                exact ⟨q + nq, by rw [hq]; exact World.drewN_drewN _ _ _⟩
          · have hle2 : decide (u.rank ≤ v.rank) = false := decide_eq_false hle
            have HSTOP := hid (show ∀ h : j < O.length, decide (u.rank ≤ O[j].rank) = false from fun h => by rw [HV.out.2]; exact hle2)
            go_upto_region 6 with (fail)
            go_quiet (fail)
            go_upto_region 8 with (fail)
            obtain ⟨S, T, hST, hSl, hTl, hins⟩ : ∃ S T : List Ru, O = S ++ T ∧ S.length = j ∧ T.length = i - j ∧ insB rkR O u = S ++ u :: T := by
              have hO := HGX.out.2.2.1
              obtain ⟨h1, h2⟩ := while_at (p := fun y : Ru => decide (u.rank ≤ y.rank)) O j (by omega) (fun t h ht => decide_eq_true (HJ.out.1 t h ht)) (fun h => HSTOP.out h)
              refine ⟨O.take j, O.drop j, (List.take_append_drop _ _).symm, by rw [List.length_take]; omega, by rw [List.length_drop]; omega, ?_⟩
              have h3 : insB rkR O u = O.takeWhile (fun y => decide (u.rank ≤ y.rank)) ++ u :: O.dropWhile (fun y => decide (u.rank ≤ y.rank)) := rfl
              rw [h3, h1, h2]
            have hg5 : GX encR 10 (wr.drewN nq) (fun b => w.heap.size ≤ b ∧ b < w0.heap.size) (some ⟨b2, o2, none⟩) (S ++ T) := by
              obtain ⟨q, hq⟩ := HJ.out.2
              have h9 := HGX.out.1
              rw [hST] at h9
              rw [hq]
              exact h9.same fun b _ => rfl
            have hb5 : Below w.heap.size w (wr.drewN nq) := by
              obtain ⟨q, hq⟩ := HJ.out.2
              rw [hq]
              exact below_drewN (below_drewN HI.out.2 _) _
            have hs5 : (wr.drewN nq).heap.size = w0.heap.size := by
              obtain ⟨q, hq⟩ := HJ.out.2
              rw [hq]; rfl
            have hl5 := HGX.out.2.2.1
            have HSI := hid (And.intro hST (And.intro hSl (And.intro hTl (And.intro hins (And.intro hl5 HGX.out.2.2.2)))))
            have HA2 := hid HGX.out.2.1
            have H5 := hid (And.intro hg5 (And.intro hb5 hs5))
            have HU5 := hid (fun (w6 : World) (hb6 : Below w.heap.size w w6) (q : Nat) (hq : q < 10) => (hb6.cell (p := ⟨bb, oo + (i * 10 + q), none⟩) HUW.out.2).trans (HUW.out.1 q hq))
            clear hg5 hb5 hs5 hl5 hST hins HSTOP HJ HGX HI
            generalize wr.drewN nq = w5 at *
            have hSz : (S.length : Int) = ((j : Nat) : Int) := by rw [hSl]
            go_wp2_with (at_builtin; refine wpList_append_gx (W0 := w5) rowR rfl _ _ rfl w5.heap.size (.slice none 0 0) [] S (some ⟨b2, o2, none⟩) c2 _ rfl (GB.nil _ _) (by rw [hSl]; rfl) H5.out.1.left (fun h => by cases h) (by have := HSI.out.2.1; simp; omega) (Below.refl _ _) (Nat.le_refl _) ?_)
            intro v6 w6 hown6 hbel6 hgr6
            have hbw6 : Below w.heap.size w w6 := H5.out.2.1.trans (hbel6.mono H5.out.2.1.size)
            have hk0 := HU5.out w6 hbw6 0 (by omega)
            have hk1 := HU5.out w6 hbw6 1 (by omega)
            have hk2 := HU5.out w6 hbw6 2 (by omega)
            have hk3 := HU5.out w6 hbw6 3 (by omega)
            have hk4 := HU5.out w6 hbw6 4 (by omega)
            have hk5 := HU5.out w6 hbw6 5 (by omega)
            have hk6 := HU5.out w6 hbw6 6 (by omega)
            have hk7 := HU5.out w6 hbw6 7 (by omega)
            have hk8 := HU5.out w6 hbw6 8 (by omega)
            have hk9 := HU5.out w6 hbw6 9 (by omega)
            have q0 : w6.cell? ⟨bb, oo + i * 10, none⟩ = some (.int .i64 u.rank) := hk0
            have q1 : w6.cell? ⟨bb, oo + i * 10 + 1, none⟩ = some (.slice u.xa u.xn u.xc) := hk1
            have q2 : w6.cell? ⟨bb, oo + i * 10 + 2, none⟩ = some (.string (bs u.tg)) := hk2
            have q3 : w6.cell? ⟨bb, oo + i * 10 + 3, none⟩ = some (.int .i64 u.ap) := hk3
            have q4 : w6.cell? ⟨bb, oo + i * 10 + 4, none⟩ = some (.int .i64 u.st) := hk4
            have q5 : w6.cell? ⟨bb, oo + i * 10 + 5, none⟩ = some (.int .i64 u.dp) := hk5
            have q6 : w6.cell? ⟨bb, oo + i * 10 + 6, none⟩ = some (.int .i64 u.dt) := hk6
            have q7 : w6.cell? ⟨bb, oo + i * 10 + 7, none⟩ = some (.int .i64 u.mp) := hk7
            have q8 : w6.cell? ⟨bb, oo + i * 10 + 8, none⟩ = some (.string (bs u.mi)) := hk8
            have q9 : w6.cell? ⟨bb, oo + i * 10 + 9, none⟩ = some (.int .i64 u.sm) := hk9
            clear hk0 hk1 hk2 hk3 hk4 hk5 hk6 hk7 hk8 hk9
            have hbE := enew w6 (.cells #[.int .i64 u.rank, .slice u.xa u.xn u.xc, .string (bs u.tg), .int .i64 u.ap, .int .i64 u.st, .int .i64 u.dp, .int .i64 u.dt, .int .i64 u.mp, .string (bs u.mi), .int .i64 u.sm] 39)
            have HE := hid (And.intro (hbel6.trans (hbE.mono hbel6.size)) (And.intro (hown6.below hbE) (GX.one (x := u) (enc := encR) (k := 10) (Bk.new w6 39 #[.int .i64 u.rank, .slice u.xa u.xn u.xc, .string (bs u.tg), .int .i64 u.ap, .int .i64 u.st, .int .i64 u.dp, .int .i64 u.dt, .int .i64 u.mp, .string (bs u.mi), .int .i64 u.sm]) rfl)))
            clear hbE hown6 hbel6 hgr6 hbw6
            go_wp2_with (at_builtin; refine wpList_append_gx (W0 := w5) rowR rfl _ _ rfl w5.heap.size v6 ([] ++ S) [u] (some ⟨w6.heap.size, 0, none⟩) 1 _ rfl HE.out.2.1 rfl HE.out.2.2 (fun h => by cases h) (by have := HSI.out.2.1; simp; omega) HE.out.1 (Nat.le_refl _) ?_)
            intro v7 w7 hown7 hbel7 hgr7
            have hT7 : GX encR 10 w7 (fun b => w.heap.size ≤ b ∧ b < w0.heap.size) (some ⟨b2, o2 + j * 10, none⟩) T := by
              have h := H5.out.1.right' (w' := w7) fun b hb => hbel7.block b (by have := H5.out.2.2; omega)
              rw [HSI.out.2.1] at h
              exact h
            have HG7 := hid (And.intro hown7 (And.intro hbel7 hT7))
            clear q0 q1 q2 q3 q4 q5 q6 q7 q8 q9 hown7 hbel7 hgr7 hT7
            go_wp2_with (at_builtin; refine wpList_append_gx (W0 := w5) rowR rfl _ _ rfl w5.heap.size v7 ([] ++ S ++ [u]) T (some ⟨b2, o2 + j * 10, none⟩) (c2 - j) _ rfl HG7.out.1 (by rw [hTl]; rfl) HG7.out.2.2 (fun h => by cases h) (by have := HSI.out.2.1; have := HSI.out.2.2.1; simp; omega) HG7.out.2.1 (Nat.le_refl _) ?_)
            intro v8 w8 hown8 hbel8 hgr8
            have H8 := hid (And.intro hown8 hbel8)
            clear hown8 hbel8 hgr8
            go_wp2_with fail
            go_roundg (n - (i + 1))
            case measure => omega
            case rel =>
              refine ⟨i + 1, by go_num, by omega, by omega, ⟨?_, H5.out.2.1.trans (H8.out.2.mono H5.out.2.1.size)⟩⟩
              rw [take_snoc' U i u HU.out, ordB_snoc, HO.out, HSI.out.2.2.2.1]
              have h8 := H8.out.1.more H5.out.2.1.size
              simpa [List.append_assoc] using h8
        · obtain ⟨i', hii⟩ : ∃ i', i' = i := ⟨_, rfl⟩
          obtain rfl : j = i := by omega
          have hd : decide ((j : Int) < (j : Int)) = false := decide_eq_false (by omega)
          have HSTOP := hid (show ∀ h : j < O.length, decide (u.rank ≤ O[j].rank) = false from fun h => absurd h (by have := HGX.out.2.2.1; omega))
          go_upto_region 6 with (fail)
          go_quiet (fail)
          go_upto_region 8 with (fail)
          rcases HSP.out with rfl | ⟨b2, rfl⟩
          · obtain rfl : c2 = 0 := HGX.out.2.1 rfl
            obtain rfl : j = 0 := by omega
            obtain ⟨S, T, hST, hSl, hTl, hins⟩ : ∃ S T : List Ru, O = S ++ T ∧ S.length = 0 ∧ T.length = 0 ∧ insB rkR O u = S ++ u :: T := by
              have hO := HGX.out.2.2.1
              obtain ⟨h1, h2⟩ := while_at (p := fun y : Ru => decide (u.rank ≤ y.rank)) O 0 (by omega) (fun t h ht => decide_eq_true (HJ.out.1 t h ht)) (fun h => HSTOP.out h)
              refine ⟨O.take 0, O.drop 0, (List.take_append_drop _ _).symm, by rw [List.length_take]; omega, by rw [List.length_drop]; omega, ?_⟩
              have h3 : insB rkR O u = O.takeWhile (fun y => decide (u.rank ≤ y.rank)) ++ u :: O.dropWhile (fun y => decide (u.rank ≤ y.rank)) := rfl
              rw [h3, h1, h2]
            have hg5 : GX encR 10 (wr.drewN nq) (fun b => w.heap.size ≤ b ∧ b < w0.heap.size) none (S ++ T) := by
              obtain ⟨q, hq⟩ := HJ.out.2
              have h9 := HGX.out.1
              rw [hST] at h9
              rw [hq]
              exact h9.same fun b _ => rfl
            have hb5 : Below w.heap.size w (wr.drewN nq) := by
              obtain ⟨q, hq⟩ := HJ.out.2
              rw [hq]
              exact below_drewN (below_drewN HI.out.2 _) _
            have hs5 : (wr.drewN nq).heap.size = w0.heap.size := by
              obtain ⟨q, hq⟩ := HJ.out.2
              rw [hq]; rfl
            have hl5 := HGX.out.2.2.1
            have HSI := hid (And.intro hST (And.intro hSl (And.intro hTl (And.intro hins (And.intro hl5 HGX.out.2.2.2)))))
            have HA2 := hid HGX.out.2.1
            have H5 := hid (And.intro hg5 (And.intro hb5 hs5))
            have HU5 := hid (fun (w6 : World) (hb6 : Below w.heap.size w w6) (q : Nat) (hq : q < 10) => (hb6.cell (p := ⟨bb, oo + (0 * 10 + q), none⟩) HUW.out.2).trans (HUW.out.1 q hq))
            clear hg5 hb5 hs5 hl5 hST hins HSTOP HJ HGX HI
            generalize wr.drewN nq = w5 at *
            have hSz : (S.length : Int) = ((0 : Nat) : Int) := by rw [hSl]
            go_wp2_with (at_builtin; refine wpList_append_gx (W0 := w5) rowR rfl _ _ rfl w5.heap.size (.slice none 0 0) [] S none 0 _ rfl (GB.nil _ _) (by rw [hSl]; rfl) H5.out.1.left (fun _ => rfl) (by have := HSI.out.2.1; simp; omega) (Below.refl _ _) (Nat.le_refl _) ?_)
            intro v6 w6 hown6 hbel6 hgr6
            have hbw6 : Below w.heap.size w w6 := H5.out.2.1.trans (hbel6.mono H5.out.2.1.size)
            have hk0 := HU5.out w6 hbw6 0 (by omega)
            have hk1 := HU5.out w6 hbw6 1 (by omega)
            have hk2 := HU5.out w6 hbw6 2 (by omega)
            have hk3 := HU5.out w6 hbw6 3 (by omega)
            have hk4 := HU5.out w6 hbw6 4 (by omega)
            have hk5 := HU5.out w6 hbw6 5 (by omega)
            have hk6 := HU5.out w6 hbw6 6 (by omega)
            have hk7 := HU5.out w6 hbw6 7 (by omega)
            have hk8 := HU5.out w6 hbw6 8 (by omega)
            have hk9 := HU5.out w6 hbw6 9 (by omega)
            have q0 : w6.cell? ⟨bb, oo, none⟩ = some (.int .i64 u.rank) := by have hh := hk0; simp only [Nat.zero_mul, Nat.zero_add, Nat.add_zero] at hh; exact hh
            have q1 : w6.cell? ⟨bb, oo + 1, none⟩ = some (.slice u.xa u.xn u.xc) := by have hh := hk1; simp only [Nat.zero_mul, Nat.zero_add, Nat.add_zero] at hh; exact hh
            have q2 : w6.cell? ⟨bb, oo + 2, none⟩ = some (.string (bs u.tg)) := by have hh := hk2; simp only [Nat.zero_mul, Nat.zero_add, Nat.add_zero] at hh; exact hh
            have q3 : w6.cell? ⟨bb, oo + 3, none⟩ = some (.int .i64 u.ap) := by have hh := hk3; simp only [Nat.zero_mul, Nat.zero_add, Nat.add_zero] at hh; exact hh
            have q4 : w6.cell? ⟨bb, oo + 4, none⟩ = some (.int .i64 u.st) := by have hh := hk4; simp only [Nat.zero_mul, Nat.zero_add, Nat.add_zero] at hh; exact hh
            have q5 : w6.cell? ⟨bb, oo + 5, none⟩ = some (.int .i64 u.dp) := by have hh := hk5; simp only [Nat.zero_mul, Nat.zero_add, Nat.add_zero] at hh; exact hh
            have q6 : w6.cell? ⟨bb, oo + 6, none⟩ = some (.int .i64 u.dt) := by have hh := hk6; simp only [Nat.zero_mul, Nat.zero_add, Nat.add_zero] at hh; exact hh
            have q7 : w6.cell? ⟨bb, oo + 7, none⟩ = some (.int .i64 u.mp) := by have hh := hk7; simp only [Nat.zero_mul, Nat.zero_add, Nat.add_zero] at hh; exact hh
            have q8 : w6.cell? ⟨bb, oo + 8, none⟩ = some (.string (bs u.mi)) := by have hh := hk8; simp only [Nat.zero_mul, Nat.zero_add, Nat.add_zero] at hh; exact hh
            have q9 : w6.cell? ⟨bb, oo + 9, none⟩ = some (.int .i64 u.sm) := by have hh := hk9; simp only [Nat.zero_mul, Nat.zero_add, Nat.add_zero] at hh; exact hh
            clear hk0 hk1 hk2 hk3 hk4 hk5 hk6 hk7 hk8 hk9
            have hbE := enew w6 (.cells #[.int .i64 u.rank, .slice u.xa u.xn u.xc, .string (bs u.tg), .int .i64 u.ap, .int .i64 u.st, .int .i64 u.dp, .int .i64 u.dt, .int .i64 u.mp, .string (bs u.mi), .int .i64 u.sm] 39)
            have HE := hid (And.intro (hbel6.trans (hbE.mono hbel6.size)) (And.intro (hown6.below hbE) (GX.one (x := u) (enc := encR) (k := 10) (Bk.new w6 39 #[.int .i64 u.rank, .slice u.xa u.xn u.xc, .string (bs u.tg), .int .i64 u.ap, .int .i64 u.st, .int .i64 u.dp, .int .i64 u.dt, .int .i64 u.mp, .string (bs u.mi), .int .i64 u.sm]) rfl)))
            clear hbE hown6 hbel6 hgr6 hbw6
            go_wp2_with (at_builtin; refine wpList_append_gx (W0 := w5) rowR rfl _ _ rfl w5.heap.size v6 ([] ++ S) [u] (some ⟨w6.heap.size, 0, none⟩) 1 _ rfl HE.out.2.1 rfl HE.out.2.2 (fun h => by cases h) (by have := HSI.out.2.1; simp; omega) HE.out.1 (Nat.le_refl _) ?_)
            intro v7 w7 hown7 hbel7 hgr7
            have hT7 : GX encR 10 w7 (fun b => w.heap.size ≤ b ∧ b < w0.heap.size) none T := by
              have h := H5.out.1.right'N (w' := w7) fun b hb => hbel7.block b (by have := H5.out.2.2; omega)
              skip
              exact h
            have HG7 := hid (And.intro hown7 (And.intro hbel7 hT7))
            clear q0 q1 q2 q3 q4 q5 q6 q7 q8 q9 hown7 hbel7 hgr7 hT7
            go_wp2_with (at_builtin; refine wpList_append_gx (W0 := w5) rowR rfl _ _ rfl w5.heap.size v7 ([] ++ S ++ [u]) T none 0 _ rfl HG7.out.1 (by rw [HSI.out.2.2.1]; rfl) HG7.out.2.2 (fun _ => rfl) (by have := HSI.out.2.1; have := HSI.out.2.2.1; simp; omega) HG7.out.2.1 (Nat.le_refl _) ?_)
            intro v8 w8 hown8 hbel8 hgr8
            have H8 := hid (And.intro hown8 hbel8)
            clear hown8 hbel8 hgr8
            go_wp2_with fail
            go_roundg (n - (0 + 1))
            case measure => omega
            case rel =>
              refine ⟨0 + 1, by go_num, by omega, by omega, ⟨?_, H5.out.2.1.trans (H8.out.2.mono H5.out.2.1.size)⟩⟩
              rw [take_snoc' U 0 u HU.out, ordB_snoc, HO.out, HSI.out.2.2.2.1]
              have h8 := H8.out.1.more H5.out.2.1.size
              simpa [List.append_assoc] using h8
          · have hjc : j ≤ c2 := hc2
            by_cases hcj : c2 = j
            · have hcj3 := hcj.symm
              subst hcj3
              obtain ⟨S, T, hST, hSl, hTl, hins⟩ : ∃ S T : List Ru, O = S ++ T ∧ S.length = j ∧ T.length = j - j ∧ insB rkR O u = S ++ u :: T := by
                have hO := HGX.out.2.2.1
                obtain ⟨h1, h2⟩ := while_at (p := fun y : Ru => decide (u.rank ≤ y.rank)) O j (by omega) (fun t h ht => decide_eq_true (HJ.out.1 t h ht)) (fun h => HSTOP.out h)
                refine ⟨O.take j, O.drop j, (List.take_append_drop _ _).symm, by rw [List.length_take]; omega, by rw [List.length_drop]; omega, ?_⟩
                have h3 : insB rkR O u = O.takeWhile (fun y => decide (u.rank ≤ y.rank)) ++ u :: O.dropWhile (fun y => decide (u.rank ≤ y.rank)) := rfl
                rw [h3, h1, h2]
              have hg5 : GX encR 10 (wr.drewN nq) (fun b => w.heap.size ≤ b ∧ b < w0.heap.size) (some ⟨b2, 0, none⟩) (S ++ T) := by
                obtain ⟨q, hq⟩ := HJ.out.2
                have h9 := HGX.out.1
                rw [hST] at h9
                rw [hq]
                exact h9.same fun b _ => rfl
              have hb5 : Below w.heap.size w (wr.drewN nq) := by
                obtain ⟨q, hq⟩ := HJ.out.2
                rw [hq]
                exact below_drewN (below_drewN HI.out.2 _) _
              have hs5 : (wr.drewN nq).heap.size = w0.heap.size := by
                obtain ⟨q, hq⟩ := HJ.out.2
                rw [hq]; rfl
              have hl5 := HGX.out.2.2.1
              have HSI := hid (And.intro hST (And.intro hSl (And.intro hTl (And.intro hins (And.intro hl5 HGX.out.2.2.2)))))
              have HA2 := hid HGX.out.2.1
              have H5 := hid (And.intro hg5 (And.intro hb5 hs5))
              have HU5 := hid (fun (w6 : World) (hb6 : Below w.heap.size w w6) (q : Nat) (hq : q < 10) => (hb6.cell (p := ⟨bb, oo + (j * 10 + q), none⟩) HUW.out.2).trans (HUW.out.1 q hq))
              clear hg5 hb5 hs5 hl5 hST hins HSTOP HJ HGX HI
              generalize wr.drewN nq = w5 at *
              have hSz : (S.length : Int) = ((j : Nat) : Int) := by rw [hSl]
              go_wp2_with (at_builtin; refine wpList_append_gx (W0 := w5) rowR rfl _ _ rfl w5.heap.size (.slice none 0 0) [] S (some ⟨b2, 0, none⟩) j _ rfl (GB.nil _ _) (by rw [hSl]; rfl) H5.out.1.left (fun h => by cases h) (by have := HSI.out.2.1; simp; omega) (Below.refl _ _) (Nat.le_refl _) ?_)
              intro v6 w6 hown6 hbel6 hgr6
              have hbw6 : Below w.heap.size w w6 := H5.out.2.1.trans (hbel6.mono H5.out.2.1.size)
              have hk0 := HU5.out w6 hbw6 0 (by omega)
              have hk1 := HU5.out w6 hbw6 1 (by omega)
              have hk2 := HU5.out w6 hbw6 2 (by omega)
              have hk3 := HU5.out w6 hbw6 3 (by omega)
              have hk4 := HU5.out w6 hbw6 4 (by omega)
              have hk5 := HU5.out w6 hbw6 5 (by omega)
              have hk6 := HU5.out w6 hbw6 6 (by omega)
              have hk7 := HU5.out w6 hbw6 7 (by omega)
              have hk8 := HU5.out w6 hbw6 8 (by omega)
              have hk9 := HU5.out w6 hbw6 9 (by omega)
              have q0 : w6.cell? ⟨bb, oo + j * 10, none⟩ = some (.int .i64 u.rank) := hk0
              have q1 : w6.cell? ⟨bb, oo + j * 10 + 1, none⟩ = some (.slice u.xa u.xn u.xc) := hk1
              have q2 : w6.cell? ⟨bb, oo + j * 10 + 2, none⟩ = some (.string (bs u.tg)) := hk2
              have q3 : w6.cell? ⟨bb, oo + j * 10 + 3, none⟩ = some (.int .i64 u.ap) := hk3
              have q4 : w6.cell? ⟨bb, oo + j * 10 + 4, none⟩ = some (.int .i64 u.st) := hk4
              have q5 : w6.cell? ⟨bb, oo + j * 10 + 5, none⟩ = some (.int .i64 u.dp) := hk5
              have q6 : w6.cell? ⟨bb, oo + j * 10 + 6, none⟩ = some (.int .i64 u.dt) := hk6
              have q7 : w6.cell? ⟨bb, oo + j * 10 + 7, none⟩ = some (.int .i64 u.mp) := hk7
              have q8 : w6.cell? ⟨bb, oo + j * 10 + 8, none⟩ = some (.string (bs u.mi)) := hk8
              have q9 : w6.cell? ⟨bb, oo + j * 10 + 9, none⟩ = some (.int .i64 u.sm) := hk9
              clear hk0 hk1 hk2 hk3 hk4 hk5 hk6 hk7 hk8 hk9
              have hbE := enew w6 (.cells #[.int .i64 u.rank, .slice u.xa u.xn u.xc, .string (bs u.tg), .int .i64 u.ap, .int .i64 u.st, .int .i64 u.dp, .int .i64 u.dt, .int .i64 u.mp, .string (bs u.mi), .int .i64 u.sm] 39)
              have HE := hid (And.intro (hbel6.trans (hbE.mono hbel6.size)) (And.intro (hown6.below hbE) (GX.one (x := u) (enc := encR) (k := 10) (Bk.new w6 39 #[.int .i64 u.rank, .slice u.xa u.xn u.xc, .string (bs u.tg), .int .i64 u.ap, .int .i64 u.st, .int .i64 u.dp, .int .i64 u.dt, .int .i64 u.mp, .string (bs u.mi), .int .i64 u.sm]) rfl)))
              clear hbE hown6 hbel6 hgr6 hbw6
              go_wp2_with (at_builtin; refine wpList_append_gx (W0 := w5) rowR rfl _ _ rfl w5.heap.size v6 ([] ++ S) [u] (some ⟨w6.heap.size, 0, none⟩) 1 _ rfl HE.out.2.1 rfl HE.out.2.2 (fun h => by cases h) (by have := HSI.out.2.1; simp; omega) HE.out.1 (Nat.le_refl _) ?_)
              intro v7 w7 hown7 hbel7 hgr7
              have hT7 : GX encR 10 w7 (fun b => w.heap.size ≤ b ∧ b < w0.heap.size) (some ⟨b2, 0, none⟩) T := by
                have hT0 : T = [] := List.eq_nil_of_length_eq_zero (by omega)
                rw [hT0]; exact GX.nil _ _ _
              have HG7 := hid (And.intro hown7 (And.intro hbel7 hT7))
              clear q0 q1 q2 q3 q4 q5 q6 q7 q8 q9 hown7 hbel7 hgr7 hT7
              go_wp2_with (at_builtin; refine wpList_append_gx (W0 := w5) rowR rfl _ _ rfl w5.heap.size v7 ([] ++ S ++ [u]) T (some ⟨b2, 0, none⟩) 0 _ rfl HG7.out.1 (by first | (rw [hTl, Nat.sub_self]; rfl) | (rw [hTl]; rfl)) HG7.out.2.2 (fun h => by cases h) (by have := HSI.out.2.1; have := HSI.out.2.2.1; simp; omega) HG7.out.2.1 (Nat.le_refl _) ?_)
              intro v8 w8 hown8 hbel8 hgr8
              have H8 := hid (And.intro hown8 hbel8)
              clear hown8 hbel8 hgr8
              go_wp2_with fail
              go_roundg (n - (j + 1))
              case measure => omega
              case rel =>
                refine ⟨j + 1, by go_num, by omega, by omega, ⟨?_, H5.out.2.1.trans (H8.out.2.mono H5.out.2.1.size)⟩⟩
                rw [take_snoc' U j u HU.out, ordB_snoc, HO.out, HSI.out.2.2.2.1]
                have h8 := H8.out.1.more H5.out.2.1.size
                simpa [List.append_assoc] using h8
            · have hcj2 : j < c2 := by omega
              obtain ⟨S, T, hST, hSl, hTl, hins⟩ : ∃ S T : List Ru, O = S ++ T ∧ S.length = j ∧ T.length = j - j ∧ insB rkR O u = S ++ u :: T := by
                have hO := HGX.out.2.2.1
                obtain ⟨h1, h2⟩ := while_at (p := fun y : Ru => decide (u.rank ≤ y.rank)) O j (by omega) (fun t h ht => decide_eq_true (HJ.out.1 t h ht)) (fun h => HSTOP.out h)
                refine ⟨O.take j, O.drop j, (List.take_append_drop _ _).symm, by rw [List.length_take]; omega, by rw [List.length_drop]; omega, ?_⟩
                have h3 : insB rkR O u = O.takeWhile (fun y => decide (u.rank ≤ y.rank)) ++ u :: O.dropWhile (fun y => decide (u.rank ≤ y.rank)) := rfl
                rw [h3, h1, h2]
              have hg5 : GX encR 10 (wr.drewN nq) (fun b => w.heap.size ≤ b ∧ b < w0.heap.size) (some ⟨b2, 0, none⟩) (S ++ T) := by
                obtain ⟨q, hq⟩ := HJ.out.2
                have h9 := HGX.out.1
                rw [hST] at h9
                rw [hq]
                exact h9.same fun b _ => rfl
              have hb5 : Below w.heap.size w (wr.drewN nq) := by
                obtain ⟨q, hq⟩ := HJ.out.2
                rw [hq]
                exact below_drewN (below_drewN HI.out.2 _) _
              have hs5 : (wr.drewN nq).heap.size = w0.heap.size := by
                obtain ⟨q, hq⟩ := HJ.out.2
                rw [hq]; rfl
              have hl5 := HGX.out.2.2.1
              have HSI := hid (And.intro hST (And.intro hSl (And.intro hTl (And.intro hins (And.intro hl5 HGX.out.2.2.2)))))
              have HA2 := hid HGX.out.2.1
              have H5 := hid (And.intro hg5 (And.intro hb5 hs5))
              have HU5 := hid (fun (w6 : World) (hb6 : Below w.heap.size w w6) (q : Nat) (hq : q < 10) => (hb6.cell (p := ⟨bb, oo + (j * 10 + q), none⟩) HUW.out.2).trans (HUW.out.1 q hq))
              clear hg5 hb5 hs5 hl5 hST hins HSTOP HJ HGX HI
              generalize wr.drewN nq = w5 at *
              have hSz : (S.length : Int) = ((j : Nat) : Int) := by rw [hSl]
              go_wp2_with (at_builtin; refine wpList_append_gx (W0 := w5) rowR rfl _ _ rfl w5.heap.size (.slice none 0 0) [] S (some ⟨b2, 0, none⟩) c2 _ rfl (GB.nil _ _) (by rw [hSl]; rfl) H5.out.1.left (fun h => by cases h) (by have := HSI.out.2.1; simp; omega) (Below.refl _ _) (Nat.le_refl _) ?_)
              intro v6 w6 hown6 hbel6 hgr6
              have hbw6 : Below w.heap.size w w6 := H5.out.2.1.trans (hbel6.mono H5.out.2.1.size)
              have hk0 := HU5.out w6 hbw6 0 (by omega)
              have hk1 := HU5.out w6 hbw6 1 (by omega)
              have hk2 := HU5.out w6 hbw6 2 (by omega)
              have hk3 := HU5.out w6 hbw6 3 (by omega)
              have hk4 := HU5.out w6 hbw6 4 (by omega)
              have hk5 := HU5.out w6 hbw6 5 (by omega)
              have hk6 := HU5.out w6 hbw6 6 (by omega)
              have hk7 := HU5.out w6 hbw6 7 (by omega)
              have hk8 := HU5.out w6 hbw6 8 (by omega)
              have hk9 := HU5.out w6 hbw6 9 (by omega)
              have q0 : w6.cell? ⟨bb, oo + j * 10, none⟩ = some (.int .i64 u.rank) := hk0
              have q1 : w6.cell? ⟨bb, oo + j * 10 + 1, none⟩ = some (.slice u.xa u.xn u.xc) := hk1
              have q2 : w6.cell? ⟨bb, oo + j * 10 + 2, none⟩ = some (.string (bs u.tg)) := hk2
              have q3 : w6.cell? ⟨bb, oo + j * 10 + 3, none⟩ = some (.int .i64 u.ap) := hk3
              have q4 : w6.cell? ⟨bb, oo + j * 10 + 4, none⟩ = some (.int .i64 u.st) := hk4
              have q5 : w6.cell? ⟨bb, oo + j * 10 + 5, none⟩ = some (.int .i64 u.dp) := hk5
              have q6 : w6.cell? ⟨bb, oo + j * 10 + 6, none⟩ = some (.int .i64 u.dt) := hk6
              have q7 : w6.cell? ⟨bb, oo + j * 10 + 7, none⟩ = some (.int .i64 u.mp) := hk7
              have q8 : w6.cell? ⟨bb, oo + j * 10 + 8, none⟩ = some (.string (bs u.mi)) := hk8
              have q9 : w6.cell? ⟨bb, oo + j * 10 + 9, none⟩ = some (.int .i64 u.sm) := hk9
              clear hk0 hk1 hk2 hk3 hk4 hk5 hk6 hk7 hk8 hk9
              have hbE := enew w6 (.cells #[.int .i64 u.rank, .slice u.xa u.xn u.xc, .string (bs u.tg), .int .i64 u.ap, .int .i64 u.st, .int .i64 u.dp, .int .i64 u.dt, .int .i64 u.mp, .string (bs u.mi), .int .i64 u.sm] 39)
              have HE := hid (And.intro (hbel6.trans (hbE.mono hbel6.size)) (And.intro (hown6.below hbE) (GX.one (x := u) (enc := encR) (k := 10) (Bk.new w6 39 #[.int .i64 u.rank, .slice u.xa u.xn u.xc, .string (bs u.tg), .int .i64 u.ap, .int .i64 u.st, .int .i64 u.dp, .int .i64 u.dt, .int .i64 u.mp, .string (bs u.mi), .int .i64 u.sm]) rfl)))
              clear hbE hown6 hbel6 hgr6 hbw6
              go_wp2_with (at_builtin; refine wpList_append_gx (W0 := w5) rowR rfl _ _ rfl w5.heap.size v6 ([] ++ S) [u] (some ⟨w6.heap.size, 0, none⟩) 1 _ rfl HE.out.2.1 rfl HE.out.2.2 (fun h => by cases h) (by have := HSI.out.2.1; simp; omega) HE.out.1 (Nat.le_refl _) ?_)
              intro v7 w7 hown7 hbel7 hgr7
              have hT7 : GX encR 10 w7 (fun b => w.heap.size ≤ b ∧ b < w0.heap.size) (some ⟨b2, j * 10, none⟩) T := by
                have hT0 : T = [] := List.eq_nil_of_length_eq_zero (by omega)
                rw [hT0]; exact GX.nil _ _ _
              have HG7 := hid (And.intro hown7 (And.intro hbel7 hT7))
              clear q0 q1 q2 q3 q4 q5 q6 q7 q8 q9 hown7 hbel7 hgr7 hT7
              go_wp2_with (at_builtin; refine wpList_append_gx (W0 := w5) rowR rfl _ _ rfl w5.heap.size v7 ([] ++ S ++ [u]) T (some ⟨b2, j * 10, none⟩) (c2 - j) _ rfl HG7.out.1 (by first | (rw [hTl, Nat.sub_self]; rfl) | (rw [hTl]; rfl)) HG7.out.2.2 (fun h => by cases h) (by have := HSI.out.2.1; have := HSI.out.2.2.1; simp; omega) HG7.out.2.1 (Nat.le_refl _) ?_)
              intro v8 w8 hown8 hbel8 hgr8
              have H8 := hid (And.intro hown8 hbel8)
              clear hown8 hbel8 hgr8
              go_wp2_with fail
              go_roundg (n - (j + 1))
              case measure => omega
              case rel =>
                refine ⟨j + 1, by go_num, by omega, by omega, ⟨?_, H5.out.2.1.trans (H8.out.2.mono H5.out.2.1.size)⟩⟩
                rw [take_snoc' U j u HU.out, ordB_snoc, HO.out, HSI.out.2.2.2.1]
                have h8 := H8.out.1.more H5.out.2.1.size
                simpa [List.append_assoc] using h8
    · obtain rfl : i = n := by omega
      have hltz : ¬ (i : Int) < (i : Int) := by omega
      have hf := HI.out.1
      rw [List.take_of_length_le (by have := HNU.out; omega)] at hf
      have HF := hid hf
      clear hf
      go_wp2_with fail
      go_returns
      exact ⟨_, rfl, HF.out, HI.out.2⟩
end Go.Proofs.Ytmdlkoigjacipaa
namespace Go.Proofs.Ytmdlkoigjacipaa
set_option linter.unusedVariables false
set_option linter.unusedSimpArgs false
open Go.RowKit Go.Joins

theorem fewRu_len {l : List Rs} (h : fewRu l = true) : l.length ≤ 40 := by
  unfold fewRu at h
  simp at h
  exact h.1
theorem fewRu_ps {U : List Ru} (h : fewRu (U.map Ru.sem) = true) : ∀ u ∈ U, u.ps.length ≤ 20 := fun u hu => by
  have h40 := fewRu_len h
  rw [fewRu_eq h40] at h
  have h1 := List.all_eq_true.1 h u.sem (List.mem_map.2 ⟨u, hu, rfl⟩)
  unfold fewR1 at h1
  rw [Bool.and_eq_true] at h1
  have h2 := h1.1
  unfold fewP at h2
  rw [Bool.and_eq_true] at h2
  have h3 := h2.1
  simp at h3
  exact h3
/-- The definition's Order, as a slice that can be read. -/
theorem rorder_rv (y : Value) (U : List Ru) (w : World) (hy : RV w y U) (hl : U.length ≤ 1000) :
    Calls Try.prog 27 #[y] w fun e w' => ∃ v V, e = .returned v ∧ (RV w' v V ∧ V.map Ru.sem = ordB rkS (U.map Ru.sem)) ∧ Below w.heap.size w w' := by
  obtain ⟨A, c, rfl, hx, hp, hA, hlc, hl9⟩ := hy
  refine (rorder_any A c U w hx hl).mono ?_
  rintro e w' ⟨v, rfl, hg, hb⟩
  obtain ⟨A', cap, rfl, hgx, hA', hlc', hcm⟩ := GB.reads encR_len hg
  refine ⟨_, ordB rkR U, rfl, ⟨⟨A', cap, rfl, hgx.imp fun b hb => hb.2, fun u hu => (hp.up hb) u (mem_ordB hu), hA', hlc', by unfold maxLen at hcm; omega⟩, ordB_sem U⟩, hb⟩
theorem rsame_rv (y1 y2 : Value) (U V : List Ru) (w : World) (he : U.map Ru.sem = V.map Ru.sem) (h1 : RV w y1 U) (h2 : RV w y2 V) (hl : U.length ≤ 1000000) :
    Calls Try.prog 25 #[y1, y2] w fun e w' => e = .returned (.bool true) ∧ Below w.heap.size w w' := by
  obtain ⟨A, c, rfl, hx, hp, -⟩ := h1
  obtain ⟨B, d, rfl, hx2, hp2, -⟩ := h2
  exact rsame_any A B c d U V w he hx hp hx2 hp2 hl
theorem first_rv (y : Value) (U : List Ru) (m h p b : List UInt8) (x : Value) (L : List Hd) (w : World) (hy : RV w y U) (hl9 : U.length ≤ 1000000) (hx : HV w x L) (hL : L.length ≤ 1000000) {q : Option Nat} (H : Hid (fstK (fun u => allE u.ps m h p L) U U.length = q)) :
    Calls Try.prog 28 #[y, .agg #[.string (bs m), .string (bs h), .string (bs p), x, .string (bs b)]] w fun e w' => e = .returned (.int .i64 (fstI q)) ∧ Below w.heap.size w w' := by
  obtain ⟨A, c, rfl, hgx, hp, -⟩ := hy
  exact first_any A c U m h p b x L w hgx hp hl9 hx hL H
theorem rfirst_rv (y : Value) (U : List Ru) (m h p b : List UInt8) (x : Value) (L : List Hd) (w : World) (hy : RV w y U) (hS : ∀ u ∈ U, smallP u.ps) (hpl : p.length ≤ 140737488351232) (hl9 : U.length ≤ 1000000) (hx : HV w x L) (hL : L.length ≤ 1000000) {q : Option Nat} (H : Hid (fstK (fun u => allE u.ps m h p L) U U.length = q)) :
    Calls Try.prog 29 #[y, .agg #[.string (bs m), .string (bs h), .string (bs p), x, .string (bs b)]] w fun e w' => e = .returned (.int .i64 (fstI q)) ∧ Below w.heap.size w w' := by
  obtain ⟨A, c, rfl, hgx, hp, -⟩ := hy
  exact rfirst_any A c U m h p b x L w hgx hp hS hpl hl9 hx hL H
theorem keepBQ {v w' : World} {g : Nat} {m h p b : List UInt8} {x : Value} (k : BQ v g m h p x b) (hz : Below v.heap.size v w') : w'.cell? ⟨g, 0, none⟩ = some (.string (bs m)) ∧ w'.cell? ⟨g, 1, none⟩ = some (.string (bs h)) ∧ w'.cell? ⟨g, 2, none⟩ = some (.string (bs p)) ∧ w'.cell? ⟨g, 3, none⟩ = some x ∧ w'.cell? ⟨g, 4, none⟩ = some (.string (bs b)) ∧ Below v.heap.size v w' := by
  obtain ⟨q0, q1, q2, q3, q4⟩ := (k.up hz).cells
  exact ⟨q0, q1, q2, q3, q4, hz⟩
set_option maxRecDepth 100000 in
set_option maxHeartbeats 16000000 in
theorem ruleFinds_walk (y : Value) (U : List Ru) (m : ∀ u ∈ U, okRs u.sem) (qm qh qp qb : List UInt8) (x : Value) (L : List Hd) (hL : L.length ≤ 9223372036854775807) (hs : ∀ h ∈ L, h.1.length ≤ 140737488351232 ∧ h.2.length ≤ 140737488351232)
    (s0 : qm.length ≤ 140737488351232) (s1 : qh.length ≤ 140737488351232) (s2 : qp.length ≤ 140737488351232) (s3 : qb.length ≤ 140737488351232) (w : World) (hy : RV w y U) (hx : HV w x L) :
    Calls Try.prog 7 #[y, .agg #[.string (bs qm), .string (bs qh), .string (bs qp), x, .string (bs qb)]] w fun e w' => e = .returned (.bool true) ∧ Below w.heap.size w w' := by
  have hnot := enot
  have HY := hid hy
  obtain ⟨A, c, rfl, hgx, hrp, hA, hlc, hl9⟩ := hy
  have hb0 := enew w (.cells #[.string (bs qm), .string (bs qh), .string (bs qp), x, .string (bs qb)] 31)
  have hq0 := BQ.new w qm qh qp x qb
  have H0 := hid (And.intro (HY.out.up hb0) (And.intro (hx.up hb0) hb0))
  obtain ⟨zf, hzf⟩ : ∃ z, fewRu (U.map Ru.sem) = z := ⟨_, rfl⟩
  obtain ⟨zq, hzq⟩ : ∃ z, fewR qm qh qp L qb = z := ⟨_, rfl⟩
  have HF := hid (fun w2 (h1 : GX encR 10 w2 (· < w2.heap.size) A U) (h2 : RP w2 (· < w2.heap.size) U) => rufew_any A c U w2 h1 h2 m hl9 (hid hzf))
  have HQ := hid (fun w2 (h1 : HV w2 x L) => rfew_any qm qh qp qb x L w2 h1 hL hs s0 s1 s2 s3 (hid hzq))
  have HZ := hid (And.intro hzf (And.intro hzq (And.intro m s2)))
  have hU0 := hgx.up hb0
  have hP0 := hrp.up hb0
  clear hzf hzq m hL hs s0 s1 s2 s3 hx hgx hrp hA hlc HY hb0
  generalize hnU : U.length = n at *
  have HNU := hid hnU
  clear hnU
  go_enter Try.func7, Try.ntmps7
  go_upto_region 1 with (fail)
  generalize w.alloc (.cells #[.string (bs qm), .string (bs qh), .string (bs qp), x, .string (bs qb)] 31) = v0 at *
  go_wp2_with fail
  refine (HF.out _ hU0 hP0).mono ?_
  rintro e w1 ⟨rfl, hb1⟩
  clear hU0 hP0
  have hq1 := hq0.up hb1
  have H1 := hid (And.intro (H0.out.1.up hb1) (And.intro (H0.out.2.1.up hb1) (estep H0.out.2.2 hb1)))
  clear hb1 hq0 H0
  obtain ⟨q0, q1, q2, q3, q4⟩ := hq1.cells
  cases zf
  · go_wp2_with fail
    refine (known12_any _).mono ?_
    rintro e w2 ⟨rfl, hb2⟩
    go_wp2_with fail
    go_returns
    exact ⟨rfl, estep H1.out.2.2 hb2⟩
  go_wp2_with fail
  refine (HQ.out _ H1.out.2.1).mono ?_
  rintro e w2 ⟨rfl, hb2⟩
  clear q0 q1 q2 q3 q4
  have hq2 := hq1.up hb2
  have H2 := hid (And.intro (H1.out.1.up hb2) (And.intro (H1.out.2.1.up hb2) (estep H1.out.2.2 hb2)))
  clear hb2 hq1 H1
  cases zq
  · go_wp2_with fail
    refine (known12_any _).mono ?_
    rintro e w3 ⟨rfl, hb3⟩
    go_wp2_with fail
    go_returns
    exact ⟨rfl, estep H2.out.2.2 hb3⟩
  have HQ2 := hid hq2
  clear hq2
  have HL := hid (fewRu_len HZ.out.1)
  have HPS := hid (fewRu_ps HZ.out.1)
  have HLH := hid (fewR_len HZ.out.2.1)
  have hn40 : n ≤ 40 := by have := HL.out; rw [List.length_map] at this; have := HNU.out; omega
  go_wp2_with fail
  go_loopg [5] n (fun g1 vi wr => ∃ i : Nat, vi = .int .i64 i ∧ i ≤ n ∧ n - i ≤ g1 ∧ Hid (Below w2.heap.size w2 wr))
  case atStart => exact ⟨0, rfl, by omega, by omega, Below.refl _ _⟩
  case round =>
    obtain ⟨i, rfl, hin, hgk, HB⟩ := hrel
    by_cases hlt : i < n
    · have hltz : (i : Int) < (n : Int) := by omega
      have hltd : decide ((i : Int) < (n : Int)) = true := decide_eq_true hltz
      have hi0 : (0 : Int) ≤ (i : Int) := by omega
      have hiU : i < U.length := by have := HNU.out; omega
      obtain ⟨u, hu⟩ : ∃ u, U[i]? = some u := ⟨_, List.getElem?_eq_getElem hiU⟩
      have hum : u ∈ U := List.mem_of_getElem? hu
      have hRV := H2.out.1.up HB.out
      obtain ⟨A', c', e', hgx, hrp, -⟩ := hRV
      injection e' with eA en ec
      subst eA
      clear en ec
      obtain ⟨bb, oo, rfl, -⟩ := hgx.some_of hiU
      obtain ⟨z, hz⟩ : ∃ z, allE u.ps qm qh qp L = z := ⟨_, rfl⟩
      have HXX := hid (H2.out.2.1.up HB.out)
      have HHU := hid (fun (w3 : World) (hb3 : Below wr.heap.size wr w3) => hits_any u qm qh qp qb x L w3 (UV.up (hrp u hum) hb3) (HXX.out.up hb3) (by have := HLH.out; omega) (hid hz))
      have HRU := hid (fun (w3 : World) (hb3 : Below wr.heap.size wr w3) => rhits_any u qm qh qp qb x L w3 (UV.up (hrp u hum) hb3) (HZ.out.2.2.1 u hum).1 (HXX.out.up hb3) (by have := HLH.out; omega) HZ.out.2.2.2 (hid hz))
      obtain ⟨r0, r1, r2, r3, r4, r5, r6, r7, r8, r9⟩ := rank_cell hgx hu
      obtain ⟨q0, q1, q2, q3, q4⟩ := (HQ2.out.up HB.out).cells
      have R0 := BW.cell r0
      have R1 := BW.cell r1
      have R2 := BW.cell r2
      have R3 := BW.cell r3
      have R4 := BW.cell r4
      have R5 := BW.cell r5
      have R6 := BW.cell r6
      have R7 := BW.cell r7
      have R8 := BW.cell r8
      have R9 := BW.cell r9
      have Q0 := BW.cell q0
      have Q1 := BW.cell q1
      have Q2 := BW.cell q2
      have Q3 := BW.cell q3
      have Q4 := BW.cell q4
      clear r0 r1 r2 r3 r4 r5 r6 r7 r8 r9 q0 q1 q2 q3 q4 hgx hrp hu hum hz
      go_upto_region 6 with (fail)
      refine wp_region_bw (by kernel_rfl) (by kernel_rfl) ?_
      cases z
      all_goals
        repeat (go_big_quiet_step ((first
          | (go_at_call 23; exact calls_bw (HHU.out _ (BW.h _)))
          | (go_at_call 24; exact calls_bw (HRU.out _ (BW.h _))))))
        refine wpQuiet_nil ?_
        rintro _ ⟨pq, rfl⟩
        clear R0 R1 R2 R3 R4 R5 R6 R7 R8 R9 Q0 Q1 Q2 Q3 Q4
        have HB2 := hid (estep HB.out pq.h)
        go_wp2_with fail
        go_roundg (n - (i + 1))
        case measure => omega
        case rel => exact ⟨i + 1, by go_num, by omega, by omega, HB2.out⟩
    · obtain rfl : i = n := by omega
      have hkd : decide ((i : Int) < (i : Int)) = false := by simp
      have hq3 := HQ2.out.up HB.out
      have HRV := hid (H2.out.1.up HB.out)
      have HXV := hid (H2.out.2.1.up HB.out)
      have HBB := hid (estep H2.out.2.2 HB.out)
      obtain ⟨q, hq⟩ : ∃ q, fstK (fun u => allE u.ps qm qh qp L) U U.length = q := ⟨_, rfl⟩
      obtain ⟨kq, hkq⟩ : ∃ k, fstI q = k := ⟨_, rfl⟩
      have HO := hid (fun (w3 : World) (hb3 : Below wr.heap.size wr w3) => order_any _ U w3 (HRV.out.up hb3) (by have := HNU.out; omega) (fun u hu => by have := HPS.out u hu; omega))
      have HRO := hid (fun (w3 : World) (hb3 : Below wr.heap.size wr w3) => rorder_rv _ U w3 (HRV.out.up hb3) (by have := HNU.out; omega))
      have HS := hid (fun (w3 : World) (y1 y2 : Value) (V1 V2 : List Ru) (h1 : RV w3 y1 V1) (h2 : RV w3 y2 V2) (e1 : V1.map Ru.sem = ordB rkS (U.map Ru.sem)) (e2 : V2.map Ru.sem = ordB rkS (U.map Ru.sem)) => rsame_rv y1 y2 V1 V2 w3 (e1.trans e2.symm) h1 h2 (by
        have := congrArg List.length e1
        rw [List.length_map, ordB_length, List.length_map] at this
        have := HNU.out
        omega))
      have HFI := hid (fun (w3 : World) (hb3 : Below wr.heap.size wr w3) => first_rv _ U qm qh qp qb x L w3 (HRV.out.up hb3) (by have := HNU.out; omega) (HXV.out.up hb3) (by have := HLH.out; omega) (hid hq))
      have HRI := hid (fun (w3 : World) (hb3 : Below wr.heap.size wr w3) => rfirst_rv _ U qm qh qp qb x L w3 (HRV.out.up hb3) (fun u hu => (HZ.out.2.2.1 u hu).1) HZ.out.2.2.2 (by have := HNU.out; omega) (HXV.out.up hb3) (by have := HLH.out; omega) (hid hq))
      rw [hkq] at HFI HRI
      clear hq hkq hn40 hl9
      obtain ⟨q0, q1, q2, q3, q4⟩ := hq3.cells
      go_upto_region 8 with (fail)
      have hz : Below wr.heap.size wr wr.drew := (Below.refl _ _).drew
      go_region_held3 (fun w' => w'.cell? ⟨w.heap.size, 0, none⟩ = some (.string (bs qm)) ∧ w'.cell? ⟨w.heap.size, 1, none⟩ = some (.string (bs qh)) ∧ w'.cell? ⟨w.heap.size, 2, none⟩ = some (.string (bs qp)) ∧ w'.cell? ⟨w.heap.size, 3, none⟩ = some x ∧ w'.cell? ⟨w.heap.size, 4, none⟩ = some (.string (bs qb)) ∧ Below wr.heap.size wr w') (first | (with_reducible exact keepBQ hq3 hz) | (with_reducible exact keepBQ hq3 (hz.trans (Below.mono (by assumption) hz.size)))) (first
        | (go_at_call 26
           ((with_reducible refine (HO.out _ hz).mono ?_); rintro e w5 ⟨y1, V1, rfl, ⟨hrv1, hvm1⟩, hy⟩)
           have hz := hz.trans (hy.mono hz.size)
           try (replace hrv2 := RV.up hrv2 hy))
        | (go_at_call 27
           ((with_reducible refine (HRO.out _ hz).mono ?_); rintro e w5 ⟨y2, V2, rfl, ⟨hrv2, hvm2⟩, hy⟩)
           have hz := hz.trans (hy.mono hz.size)
           try (replace hrv1 := RV.up hrv1 hy))
        | (go_at_call 25
           ((with_reducible refine (HS.out _ _ _ _ _ hrv1 hrv2 hvm1 hvm2).mono ?_); rintro e w5 ⟨rfl, hy⟩)
           have hz := hz.trans (hy.mono hz.size))
        | (go_at_call 28
           ((with_reducible refine (HFI.out _ hz).mono ?_); rintro e w5 ⟨rfl, hy⟩)
           have hz := hz.trans (hy.mono hz.size))
        | (go_at_call 29
           ((with_reducible refine (HRI.out _ hz).mono ?_); rintro e w5 ⟨rfl, hy⟩)
           have hz := hz.trans (hy.mono hz.size))
        | (go_at_call 19
           ((with_reducible refine (known12_any _).mono ?_); rintro e w5 ⟨rfl, hy⟩)
           have hz := hz.trans (hy.mono hz.size)))
      all_goals
        go_wp2_with fail
        go_returns
        exact ⟨rfl, estep HBB.out hz⟩
end Go.Proofs.Ytmdlkoigjacipaa
namespace Go.Proofs.Ytmdlkoigjacipaa
set_option linter.unusedVariables false
set_option linter.unusedSimpArgs false

section
variable {α : Type} {key : α → Int}
/-- How many of the first n have this key. -/
def cntK (key : α → Int) (r : Int) (L : List α) (n : Nat) : Nat := ((L.take n).filter (fun x => decide (key x = r))).length
theorem cntK_zero (r : Int) (L : List α) : cntK key r L 0 = 0 := by simp [cntK]
theorem cntK_succ (r : Int) {L : List α} {i : Nat} {x : α} (h : L[i]? = some x) : cntK key r L (i + 1) = cntK key r L i + if key x = r then 1 else 0 := by
  obtain ⟨hi, rfl⟩ := List.getElem?_eq_some_iff.1 h
  unfold cntK
  rw [List.take_add_one, List.filter_append, List.length_append, List.getElem?_eq_getElem hi]
  by_cases e : key L[i] = r <;> simp [e]
theorem filter_at (r : Int) {L : List α} {i : Nat} {x : α} (h : L[i]? = some x) (hr : key x = r) : (L.filter (fun x => decide (key x = r)))[cntK key r L i]? = some x := by
  obtain ⟨hi, rfl⟩ := List.getElem?_eq_some_iff.1 h
  have e : L.filter (fun x => decide (key x = r)) = (L.take i).filter (fun x => decide (key x = r)) ++ (L.drop i).filter (fun x => decide (key x = r)) := by
    rw [← List.filter_append, List.take_append_drop]
  unfold cntK
  rw [e, List.getElem?_append_right (Nat.le_refl _), Nat.sub_self]
  rw [List.drop_eq_getElem_cons hi, List.filter_cons, if_pos (by simpa using hr)]
  rfl
theorem cntK_all (r : Int) (L : List α) : cntK key r L L.length = (L.filter (fun x => decide (key x = r))).length := by unfold cntK; rw [List.take_length]
/-- What a walk over both knows: behind 'at', in S, the next of the key is T's own next one. -/
theorem next_at {S T : List α} (h : Eqv key S T) {i at' : Nat} {x : α} (hx : T[i]? = some x) (hc : cntK key (key x) S at' = cntK key (key x) T i) (hlt : at' ≤ S.length) :
    at' ≠ S.length ∧ ∀ y, S[at']? = some y → key y = key x → y = x := by
  have h1 := filter_at (key := key) (key x) hx rfl
  rw [← h (key x), ← hc] at h1
  refine ⟨fun e => ?_, fun y hy hk => ?_⟩
  · subst e
    rw [cntK_all, List.getElem?_eq_none (Nat.le_refl _)] at h1
    cases h1
  · have h2 := filter_at (key := key) (key x) hy hk
    rw [h1] at h2
    exact (Option.some.inj h2).symm
theorem cntK_none {T : List α} (hs : Srt key T) {i : Nat} {x y : α} (hx : T[i + 1]? = some x) (hy : T[i]? = some y) (hne : key x ≠ key y) : cntK key (key x) T (i + 1) = 0 := by
  unfold cntK
  rw [List.length_eq_zero_iff, List.filter_eq_nil_iff]
  intro z hz
  obtain ⟨j, hj, hjl, hk⟩ := mem_kat_take (key := key) hz
  have hil := (List.getElem?_eq_some_iff.1 hx).1
  have h1 := srt_kat hs (i := j) (j := i) (by omega) (by omega)
  have h2 := srt_kat hs (i := i) (j := i + 1) (by omega) hil
  rw [kat_eq hx, kat_eq hy] at h2
  rw [kat_eq hy] at h1
  simp
  omega
theorem srt_next {T : List α} (hs : Srt key T) {i : Nat} {x y : α} (hx : T[i + 1]? = some x) (hy : T[i]? = some y) : key x ≤ key y := by
  have h2 := srt_kat hs (i := i) (j := i + 1) (by omega) (List.getElem?_eq_some_iff.1 hx).1
  rwa [kat_eq hx, kat_eq hy] at h2
end

theorem fstK_spec (hit : Ru → Bool) (U : List Ru) : ∀ n, n ≤ U.length → match fstK hit U n with
    | none => ∀ j u, j < n → U[j]? = some u → hit u = false
    | some k => k < n ∧ ∃ u, U[k]? = some u ∧ hit u = true ∧ ∀ j v, j < n → U[j]? = some v → hit v = true → v.rank ≤ u.rank ∧ (v.rank = u.rank → k ≤ j)
  | 0, _ => by simp [fstK]
  | n + 1, hn => by
    have ih := fstK_spec hit U n (by omega)
    have hu : U[n]? = some U[n] := List.getElem?_eq_getElem (by omega)
    cases hf : fstK hit U n with
    | none =>
      rw [hf] at ih
      rw [fstK_none hu hf]
      by_cases hh : hit U[n] = true
      · rw [if_pos hh]
        refine ⟨by omega, _, hu, hh, fun j v hj hv hit' => ?_⟩
        rcases Nat.lt_or_ge j n with h | h
        · rw [ih j v h hv] at hit'; cases hit'
        · obtain rfl : j = n := by omega
          rw [hu] at hv
          obtain rfl := Option.some.inj hv
          exact ⟨Int.le_refl _, fun _ => Nat.le_refl _⟩
      · rw [if_neg hh]
        intro j v hj hv
        rcases Nat.lt_or_ge j n with h | h
        · exact ih j v h hv
        · obtain rfl : j = n := by omega
          rw [hu] at hv
          obtain rfl := Option.some.inj hv
          simpa using hh
    | some k =>
      rw [hf] at ih
      obtain ⟨hk, u, huk, hhu, hall⟩ := ih
      rw [fstK_some hu hf, kat_eq (key := rkR) huk]
      by_cases hh : hit U[n] = true ∧ rkR u < U[n].rank
      · rw [if_pos hh]
        refine ⟨by omega, _, hu, hh.1, fun j v hj hv hit' => ?_⟩
        rcases Nat.lt_or_ge j n with h | h
        · have := (hall j v h hv hit').1
          have h2 := hh.2
          unfold rkR at h2
          exact ⟨by omega, fun e => by omega⟩
        · obtain rfl : j = n := by omega
          rw [hu] at hv
          obtain rfl := Option.some.inj hv
          exact ⟨Int.le_refl _, fun _ => Nat.le_refl _⟩
      · rw [if_neg hh]
        refine ⟨by omega, u, huk, hhu, fun j v hj hv hit' => ?_⟩
        rcases Nat.lt_or_ge j n with h | h
        · exact hall j v h hv hit'
        · obtain rfl : j = n := by omega
          rw [hu] at hv
          obtain rfl := Option.some.inj hv
          have : ¬ (rkR u < U[j].rank) := fun h => hh ⟨hit', h⟩
          unfold rkR at this
          exact ⟨by omega, fun _ => by omega⟩
theorem map_at {U : List Ru} {T : List Rs} (h : U.map Ru.sem = T) {i : Nat} {u : Ru} (hu : U[i]? = some u) : T[i]? = some u.sem := by
  rw [← h, List.getElem?_map, hu]; rfl
theorem at_map {U : List Ru} {T : List Rs} (h : U.map Ru.sem = T) {i : Nat} {s : Rs} (hs : T[i]? = some s) : ∃ u, U[i]? = some u ∧ u.sem = s := by
  rw [← h, List.getElem?_map] at hs
  cases hu : U[i]? with
  | none => rw [hu] at hs; cases hs
  | some u => rw [hu] at hs; exact ⟨u, rfl, Option.some.inj hs⟩
/-- None hits in what is ordered: none is first, neither here nor there. -/
theorem fst_none {hit : Rs → Bool} {U : List Ru} {T : List Rs} (hm : ∀ s ∈ U.map Ru.sem, s ∈ T) (h0 : ∀ j s, j < T.length → T[j]? = some s → hit s = false) : fstK (fun u => hit u.sem) U U.length = none := by
  have h := fstK_spec (fun u => hit u.sem) U U.length (Nat.le_refl _)
  cases hf : fstK (fun u => hit u.sem) U U.length with
  | none => rfl
  | some k =>
    rw [hf] at h
    obtain ⟨hk, u, hu, hh, -⟩ := h
    have hmem : u.sem ∈ T := hm _ (List.mem_map.2 ⟨u, List.mem_of_getElem? hu, rfl⟩)
    obtain ⟨j, hj, hs⟩ := List.getElem_of_mem hmem
    rw [h0 j u.sem hj (by rw [List.getElem?_eq_getElem hj, hs])] at hh
    cases hh
/-- The first that hits of a sorted list is the one that First finds there. -/
theorem fst_sorted {hit : Rs → Bool} {V : List Ru} {T : List Rs} (hV : V.map Ru.sem = T) (hs : Srt rkS T) {f : Nat} {s : Rs} (hf : T[f]? = some s) (hh : hit s = true) (h0 : ∀ j t, j < f → T[j]? = some t → hit t = false) : fstK (fun u => hit u.sem) V V.length = some f := by
  obtain ⟨v, hv, hvs⟩ := at_map hV hf
  have hfl := (List.getElem?_eq_some_iff.1 hv).1
  have h := fstK_spec (fun u => hit u.sem) V V.length (Nat.le_refl _)
  cases hk : fstK (fun u => hit u.sem) V V.length with
  | none =>
    rw [hk] at h
    have := h f v hfl hv
    rw [hvs, hh] at this
    cases this
  | some k =>
    rw [hk] at h
    obtain ⟨hkl, u, hu, hhu, hall⟩ := h
    obtain ⟨h1, h2⟩ := hall f v hfl hv (by rw [hvs]; exact hh)
    have hfk : f ≤ k := by
      rcases Nat.lt_or_ge k f with h | h
      · have := h0 k _ h (map_at hV hu)
        rw [this] at hhu
        cases hhu
      · exact h
    have h3 := srt_kat hs hfk (by rw [← hV, List.length_map]; exact hkl)
    rw [kat_eq (map_at hV hu), kat_eq (map_at hV hv)] at h3
    have h4 : v.rank = u.rank := by
      have : u.rank ≤ v.rank := h3
      omega
    have := h2 h4
    rw [show k = f by omega]
theorem find_least {α : Type} {p : α → Bool} {L : List α} {k : Nat} {x : α} (hx : L[k]? = some x) (hp : p x = true) (h0 : ∀ j y, j < k → L[j]? = some y → p y = false) : L.find? p = some x := by
  obtain ⟨hk, rfl⟩ := List.getElem?_eq_some_iff.1 hx
  rw [List.find?_eq_some_iff_getElem]
  exact ⟨hp, k, hk, rfl, fun j hj => by simpa using h0 j _ hj (List.getElem?_eq_getElem (by omega))⟩
/-- It is the same rule as the one that First finds of those as they stood. -/
theorem fst_stood {hit : Rs → Bool} {U : List Ru} {T : List Rs} (he : Eqv rkS (U.map Ru.sem) T) (hs : Srt rkS T) {f : Nat} {s : Rs} (hf : T[f]? = some s) (hh : hit s = true) (h0 : ∀ j t, j < f → T[j]? = some t → hit t = false) :
    ∃ k u, fstK (fun u => hit u.sem) U U.length = some k ∧ U[k]? = some u ∧ u.sem = s := by
  have hsT : s ∈ T := List.mem_of_getElem? hf
  have hsU : s ∈ U.map Ru.sem := he.symm.mem hsT
  obtain ⟨v, hvU, hvs⟩ := List.mem_map.1 hsU
  obtain ⟨j, hj, hvj⟩ := List.getElem_of_mem hvU
  have hv : U[j]? = some v := by rw [List.getElem?_eq_getElem hj, hvj]
  have h := fstK_spec (fun u => hit u.sem) U U.length (Nat.le_refl _)
  cases hk : fstK (fun u => hit u.sem) U U.length with
  | none =>
    rw [hk] at h
    have := h j v hj hv
    rw [hvs, hh] at this
    cases this
  | some k =>
    rw [hk] at h
    obtain ⟨hkl, u, hu, hhu, hall⟩ := h
    obtain ⟨h1, -⟩ := hall j v hj hv (by rw [hvs]; exact hh)
    have hut : u.sem ∈ T := he.mem (List.mem_map.2 ⟨u, List.mem_of_getElem? hu, rfl⟩)
    obtain ⟨g, hg, hgu⟩ := List.getElem_of_mem hut
    have hgu' : T[g]? = some u.sem := by rw [List.getElem?_eq_getElem hg, hgu]
    have hfg : f ≤ g := by
      rcases Nat.lt_or_ge g f with h | h
      · have := h0 g _ h hgu'
        rw [this] at hhu
        cases hhu
      · exact h
    have h3 := srt_kat hs hfg hg
    rw [kat_eq hgu', kat_eq hf] at h3
    have hr : u.rank = s.rank := by
      have a1 : u.rank ≤ s.rank := h3
      have a2 : s.rank = v.rank := by rw [← hvs]; rfl
      omega
    have e1 : T.find? (fun x => hit x && decide (rkS x = s.rank)) = some s := find_least hf (by rw [hh]; simp [rkS]) fun i y hi hy => by rw [h0 i y hi hy]; rfl
    have e2 : (U.map Ru.sem).find? (fun x => hit x && decide (rkS x = s.rank)) = some u.sem := by
      refine find_least (map_at rfl hu) (by rw [hhu]; simp [rkS]; exact hr) fun i y hi hy => ?_
      obtain ⟨x, hx, rfl⟩ := at_map rfl hy
      have hxl := (List.getElem?_eq_some_iff.1 hx).1
      by_cases hhx : hit x.sem = true
      · have hne : x.rank ≠ u.rank := fun e => by have := (hall i x hxl hx hhx).2 e; omega
        rw [hhx]
        simp only [Bool.true_and, decide_eq_false_iff_not]
        intro e
        exact hne (by rw [hr]; exact e)
      · rw [Bool.not_eq_true] at hhx
        rw [hhx]; rfl
    have e3 : ∀ L : List Rs, L.find? (fun x => hit x && decide (rkS x = s.rank)) = (L.filter (fun x => decide (rkS x = s.rank))).find? hit := fun L => by
      rw [List.find?_filter]
      congr 1
      funext x
      cases hit x <;> simp
    rw [e3, ← he s.rank, ← e3, e2] at e1
    exact ⟨k, u, rfl, hu, Option.some.inj e1⟩
end Go.Proofs.Ytmdlkoigjacipaa
namespace Go.Proofs.Ytmdlkoigjacipaa
set_option linter.unusedVariables false
set_option linter.unusedSimpArgs false

def AtI (U V : List Ru) (i a : Nat) : Prop := ∀ v, V[i]? = some v → cntK rkS v.rank (U.map Ru.sem) a = cntK rkS v.rank (V.map Ru.sem) i
def AtO (U V : List Ru) (i a : Nat) : Prop := ∀ j v, i = j + 1 → V[j]? = some v → cntK rkS v.rank (U.map Ru.sem) a = cntK rkS v.rank (V.map Ru.sem) i
theorem atO_zero (U V : List Ru) (a : Nat) : AtO U V 0 a := fun j v h => by omega
theorem atI_zero (U V : List Ru) : AtI U V 0 0 := fun v _ => by rw [cntK_zero, cntK_zero]
theorem atI_same {U V : List Ru} {j a : Nat} {u v : Ru} (h : AtO U V (j + 1) a) (hu : V[j]? = some u) (hv : V[j + 1]? = some v) (e : v.rank = u.rank) : AtI U V (j + 1) a := fun x hx => by
  rw [hv] at hx
  obtain rfl := Option.some.inj hx
  rw [e]
  exact h j u rfl hu
theorem sem_at {U : List Ru} {i : Nat} {u : Ru} (hu : U[i]? = some u) : (U.map Ru.sem)[i]? = some u.sem := map_at rfl hu
theorem atI_new {U V : List Ru} {j : Nat} {u v : Ru} (hs : Srt rkS (V.map Ru.sem)) (hu : V[j]? = some u) (hv : V[j + 1]? = some v) (ne : v.rank ≠ u.rank) : AtI U V (j + 1) 0 := fun x hx => by
  rw [hv] at hx
  obtain rfl := Option.some.inj hx
  rw [cntK_zero]
  exact (cntK_none (key := rkS) hs (sem_at hv) (sem_at hu) ne).symm
theorem atI_skip {U V : List Ru} {i a : Nat} {v x : Ru} (h : AtI U V i a) (hv : V[i]? = some v) (hx : U[a]? = some x) (ne : x.rank ≠ v.rank) : AtI U V i (a + 1) := fun y hy => by
  rw [hv] at hy
  obtain rfl := Option.some.inj hy
  rw [cntK_succ (key := rkS) v.rank (sem_at hx), if_neg (show ¬ rkS x.sem = v.rank from ne)]
  exact h v hv
theorem atI_done {U V : List Ru} {i a : Nat} {v x : Ru} (he : Eqv rkS (U.map Ru.sem) (V.map Ru.sem)) (h : AtI U V i a) (hv : V[i]? = some v) (hx : U[a]? = some x) (e : x.rank = v.rank) : x.sem = v.sem ∧ AtO U V (i + 1) (a + 1) := by
  have hlt := (List.getElem?_eq_some_iff.1 hx).1
  have h1 := next_at (key := rkS) he (sem_at hv) (h v hv) (by rw [List.length_map]; omega)
  refine ⟨h1.2 _ (sem_at hx) e, fun j y hj hy => ?_⟩
  obtain rfl : i = j := by omega
  rw [hv] at hy
  obtain rfl := Option.some.inj hy
  rw [cntK_succ (key := rkS) v.rank (sem_at hx), cntK_succ (key := rkS) v.rank (sem_at hv), if_pos (show rkS x.sem = v.rank from e), if_pos (show rkS v.sem = v.rank from rfl), h v hv]
theorem atI_lt {U V : List Ru} {i a : Nat} {v : Ru} (he : Eqv rkS (U.map Ru.sem) (V.map Ru.sem)) (h : AtI U V i a) (hv : V[i]? = some v) (ha : a ≤ U.length) : a < U.length := by
  have h1 := (next_at (key := rkS) he (sem_at hv) (h v hv) (by rw [List.length_map]; omega)).1
  rw [List.length_map] at h1
  omega
theorem rank_next {V : List Ru} {j : Nat} {u v : Ru} (hs : Srt rkS (V.map Ru.sem)) (hu : V[j]? = some u) (hv : V[j + 1]? = some v) : v.rank ≤ u.rank := srt_next (key := rkS) hs (sem_at hv) (sem_at hu)
/-- What the third loop knows: none hits of the first i, or f is the first that does. -/
def LoopS (hit : Rs → Bool) (V : List Ru) (i : Nat) : Option Nat → Prop
  | none => ∀ j v, j < i → V[j]? = some v → hit v.sem = false
  | some f => f < V.length ∧ ∃ v, V[f]? = some v ∧ hit v.sem = true ∧ ∀ j u, j < f → V[j]? = some u → hit u.sem = false
theorem loopS_zero (hit : Rs → Bool) (V : List Ru) : LoopS hit V 0 none := fun j v h => by omega
theorem loopS_no {hit : Rs → Bool} {V : List Ru} {i : Nat} {v : Ru} (h : LoopS hit V i none) (hv : V[i]? = some v) (hh : hit v.sem = false) : LoopS hit V (i + 1) none := fun j u hj hu => by
  rcases Nat.lt_or_ge j i with hl | hl
  · exact h j u hl hu
  · obtain rfl : j = i := by omega
    rw [hv] at hu
    obtain rfl := Option.some.inj hu
    exact hh
theorem loopS_yes {hit : Rs → Bool} {V : List Ru} {i : Nat} {v : Ru} (h : LoopS hit V i none) (hv : V[i]? = some v) (hh : hit v.sem = true) (k : Nat) : LoopS hit V k (some i) :=
  ⟨(List.getElem?_eq_some_iff.1 hv).1, v, hv, hh, h⟩
theorem loopS_none {hit : Rs → Bool} {U V : List Ru} (he : Eqv rkS (U.map Ru.sem) (V.map Ru.sem)) (h : LoopS hit V V.length none) : fstK (fun u => hit u.sem) U U.length = none ∧ fstK (fun u => hit u.sem) V V.length = none := by
  have h0 : ∀ j s, j < (V.map Ru.sem).length → (V.map Ru.sem)[j]? = some s → hit s = false := fun j s hj hs => by
    obtain ⟨v, hv, rfl⟩ := at_map rfl hs
    exact h j v (by rwa [List.length_map] at hj) hv
  exact ⟨fst_none (fun s hs => he.mem hs) h0, fst_none (fun s hs => hs) h0⟩
theorem loopS_some {hit : Rs → Bool} {U V : List Ru} {f i : Nat} (he : Eqv rkS (U.map Ru.sem) (V.map Ru.sem)) (hs : Srt rkS (V.map Ru.sem)) (h : LoopS hit V i (some f)) :
    fstK (fun u => hit u.sem) V V.length = some f ∧ ∃ k u v, fstK (fun u => hit u.sem) U U.length = some k ∧ U[k]? = some u ∧ V[f]? = some v ∧ u.sem = v.sem := by
  obtain ⟨hf, v, hv, hh, h0⟩ := h
  have h1 : ∀ j s, j < f → (V.map Ru.sem)[j]? = some s → hit s = false := fun j s hj hs => by
    obtain ⟨v, hv, rfl⟩ := at_map rfl hs
    exact h0 j v hj hv
  obtain ⟨k, u, e1, e2, e3⟩ := fst_stood he hs (sem_at hv) hh h1
  exact ⟨fst_sorted rfl hs (sem_at hv) hh h1, k, u, v, e1, e2, hv, e3⟩
end Go.Proofs.Ytmdlkoigjacipaa
namespace Go.Proofs.Ytmdlkoigjacipaa
set_option linter.unusedVariables false
set_option linter.unusedSimpArgs false
open Go.RowKit Go.Joins

theorem RV.row {w : World} {A : Option Addr} {n c : Nat} {U : List Ru} (h : RV w (.slice A n c) U) : n = U.length ∧ GX encR 10 w (· < w.heap.size) A U ∧ RP w (· < w.heap.size) U := by
  obtain ⟨A', c', e, h1, h2, -⟩ := h
  injection e with e1 e2 e3
  subst e1
  exact ⟨e2, h1, h2⟩
set_option maxRecDepth 100000 in
set_option maxHeartbeats 16000000 in
theorem ruleOrders_walk (y : Value) (U : List Ru) (m : ∀ u ∈ U, okRs u.sem) (qm qh qp qb : List UInt8) (x : Value) (L : List Hd) (hL : L.length ≤ 9223372036854775807) (hs : ∀ h ∈ L, h.1.length ≤ 140737488351232 ∧ h.2.length ≤ 140737488351232)
    (s0 : qm.length ≤ 140737488351232) (s1 : qh.length ≤ 140737488351232) (s2 : qp.length ≤ 140737488351232) (s3 : qb.length ≤ 140737488351232) (w : World) (hy : RV w y U) (hx : HV w x L) :
    Calls Try.prog 8 #[y, .agg #[.string (bs qm), .string (bs qh), .string (bs qp), x, .string (bs qb)]] w fun e w' => e = .returned (.bool true) ∧ Below w.heap.size w w' := by
  have hnot := enot
  have HY := hid hy
  obtain ⟨A, c, rfl, hgx, hrp, hA, hlc, hl9⟩ := hy
  have hb0 := enew w (.cells #[.string (bs qm), .string (bs qh), .string (bs qp), x, .string (bs qb)] 31)
  have hq0 := BQ.new w qm qh qp x qb
  have H0 := hid (And.intro (HY.out.up hb0) (And.intro (hx.up hb0) hb0))
  obtain ⟨zf, hzf⟩ : ∃ z, fewRu (U.map Ru.sem) = z := ⟨_, rfl⟩
  obtain ⟨zq, hzq⟩ : ∃ z, fewR qm qh qp L qb = z := ⟨_, rfl⟩
  have HF := hid (fun w2 (h1 : GX encR 10 w2 (· < w2.heap.size) A U) (h2 : RP w2 (· < w2.heap.size) U) => rufew_any A c U w2 h1 h2 m hl9 (hid hzf))
  have HQ := hid (fun w2 (h1 : HV w2 x L) => rfew_any qm qh qp qb x L w2 h1 hL hs s0 s1 s2 s3 (hid hzq))
  have HZ := hid (And.intro hzf (And.intro hzq (And.intro m s2)))
  have hU0 := hgx.up hb0
  have hP0 := hrp.up hb0
  clear hzf hzq m hL hs s0 s1 s2 s3 hx hgx hrp hA hlc HY hb0
  generalize hnU : U.length = n at *
  have HNU := hid hnU
  clear hnU
  go_enter Try.func8, Try.ntmps8
  go_upto_region 1 with (fail)
  generalize w.alloc (.cells #[.string (bs qm), .string (bs qh), .string (bs qp), x, .string (bs qb)] 31) = v0 at *
  go_wp2_with fail
  refine (HF.out _ hU0 hP0).mono ?_
  rintro e w1 ⟨rfl, hb1⟩
  clear hU0 hP0
  have hq1 := hq0.up hb1
  have H1 := hid (And.intro (H0.out.1.up hb1) (And.intro (H0.out.2.1.up hb1) (estep H0.out.2.2 hb1)))
  clear hb1 hq0 H0
  obtain ⟨q0, q1, q2, q3, q4⟩ := hq1.cells
  cases zf
  · go_wp2_with fail
    refine (known12_any _).mono ?_
    rintro e w2 ⟨rfl, hb2⟩
    go_wp2_with fail
    go_returns
    exact ⟨rfl, estep H1.out.2.2 hb2⟩
  go_wp2_with fail
  refine (HQ.out _ H1.out.2.1).mono ?_
  rintro e w2 ⟨rfl, hb2⟩
  clear q0 q1 q2 q3 q4
  have hq2 := hq1.up hb2
  have H2 := hid (And.intro (H1.out.1.up hb2) (And.intro (H1.out.2.1.up hb2) (estep H1.out.2.2 hb2)))
  clear hb2 hq1 H1
  cases zq
  · go_wp2_with fail
    refine (known12_any _).mono ?_
    rintro e w3 ⟨rfl, hb3⟩
    go_wp2_with fail
    go_returns
    exact ⟨rfl, estep H2.out.2.2 hb3⟩
  have HL := hid (fewRu_len HZ.out.1)
  have HPS := hid (fewRu_ps HZ.out.1)
  have HLH := hid (fewR_len HZ.out.2.1)
  have hn40 : n ≤ 40 := by have := HL.out; rw [List.length_map] at this; have := HNU.out; omega
  have HO := hid (order_any _ U w2 H2.out.1 (by have := HNU.out; omega) (fun u hu => by have := HPS.out u hu; omega))
  have HQ2 := hid hq2
  clear hq2
  go_wp2_with fail
  refine HO.out.mono ?_
  rintro e w3 ⟨y3, V, rfl, ⟨hrv, hvm⟩, hb3⟩
  have hVU : V.length = n := by
    have := congrArg List.length hvm
    rw [List.length_map, ordB_length, List.length_map, HNU.out] at this
    exact this
  have HNV := hid hVU
  obtain ⟨B, d, rfl⟩ : ∃ B d, y3 = .slice B n d := by
    obtain ⟨B, d, e, -⟩ := hrv
    exact ⟨B, d, by rw [e, hVU]⟩
  have HE := hid (show Eqv rkS (U.map Ru.sem) (V.map Ru.sem) ∧ Srt rkS (V.map Ru.sem) by rw [hvm]; exact ⟨(ordB_eqv _).symm, ordB_srt _⟩)
  have H3 := hid (And.intro (H2.out.1.up hb3) (And.intro hrv (And.intro (H2.out.2.1.up hb3) (estep H2.out.2.2 hb3))))
  have HQ3 := hid (HQ2.out.up hb3)
  clear HO HQ2 H2 hb3 hrv hvm hVU HF HQ
  go_wp2_with fail
  go_loopg [6, 7] n (fun g1 va vi wr => ∃ i a : Nat, vi = .int .i64 i ∧ va = .int .i64 a ∧ i ≤ n ∧ a ≤ n ∧ n - i ≤ g1 ∧ Hid (AtO U V i a ∧ Below w3.heap.size w3 wr))
  case atStart => exact ⟨0, 0, rfl, rfl, by omega, by omega, by omega, hid ⟨atO_zero _ _ _, Below.refl _ _⟩⟩
  case round =>
    obtain ⟨i, a, rfl, rfl, hin, han, hgk, HI⟩ := hrel
    obtain ⟨w4, hw4⟩ : ∃ w4, w4 = wr := ⟨_, rfl⟩
    subst hw4
    by_cases hlt : i < n
    · have hltz : (i : Int) < (n : Int) := by omega
      have hltd : decide ((i : Int) < (n : Int)) = true := decide_eq_true hltz
      have hi0 : (0 : Int) ≤ (i : Int) := by omega
      have hiV : i < V.length := by have := HNV.out; omega
      obtain ⟨v, hv⟩ : ∃ v, V[i]? = some v := ⟨_, List.getElem?_eq_getElem hiV⟩
      have HV := hid hv
      obtain ⟨-, hgV, hpV⟩ := RV.row (H3.out.2.1.up HI.out.2)
      obtain ⟨bb, oo, rfl, -⟩ := hgV.some_of hiV
      have HGV := hid hgV
      have HPV := hid (hpV v (List.mem_of_getElem? hv))
      obtain ⟨-, hgU, hpU⟩ := RV.row (H3.out.1.up HI.out.2)
      obtain ⟨bu, ou, rfl, -⟩ := hgU.some_of (i := i) (by have := HNU.out; omega)
      have HGU := hid hgU
      have HPU := hid hpU
      have r0 := (rank_cell hgV hv).1
      clear hv hgV hpV hiV hgU hpU
      go_upto_region 10 with (fail)
      go_cut [48] from 27 to 101 (fun s wx => s = .bool false ∧ Hid (Below w4.heap.size w4 wx))
      case first =>
        rcases Nat.eq_zero_or_pos i with h0 | h0
        · have d1 : decide ((0 : Int) < (i : Int)) = false := decide_eq_false (by omega)
          have d1n : decide (0 < i) = false := decide_eq_false (by omega)
          clear h0 r0
          refine wp_region_bw (by kernel_rfl) (by kernel_rfl) ?_
          repeat (go_big_quiet_step (fail))
          refine wpQuiet_nil ?_
          rintro _ ⟨pq, rfl⟩
          go_wp2_with fail
          go_meet
          case rel => exact ⟨rfl, hid pq.h⟩
        · obtain ⟨j, hj⟩ : ∃ j, i = j + 1 := ⟨i - 1, by omega⟩
          obtain ⟨u, hu⟩ : ∃ u, V[j]? = some u := ⟨_, List.getElem?_eq_getElem (by have := (List.getElem?_eq_some_iff.1 HV.out).1; omega)⟩
          have rj := (rank_cell HGV.out hu).1
          have d1 : decide ((0 : Int) < (i : Int)) = true := decide_eq_true (by omega)
          have d1n : decide (0 < i) = true := decide_eq_true (by omega)
          have d2 : IntKind.i64.wrap ((i : Int) - 1) = (j : Int) := by rw [hj, IntWalk.i64_in _ (by omega)]; omega
          have d3 : (0 : Int) ≤ (j : Int) := by omega
          have d4 : (j : Int) < (n : Int) := by omega
          have d5 : decide (u.rank < v.rank) = false := decide_eq_false (by have := rank_next HE.out.2 hu (by rw [← hj]; exact HV.out); omega)
          have R0 := BW.cell r0
          have RJ := BW.cell rj
          clear h0 r0 rj hj hu
          refine wp_region_bw (by kernel_rfl) (by kernel_rfl) ?_
          repeat (go_big_quiet_step (fail))
          refine wpQuiet_nil ?_
          rintro _ ⟨pq, rfl⟩
          go_wp2_with fail
          go_meet
          case rel => exact ⟨rfl, hid pq.h⟩
      case rest =>
        obtain ⟨rfl, HC1⟩ := hcut
        go_upto_region 12 with (fail)
        go_cut [64] from 27 to 101 (fun s wx => ∃ b : Bool, s = .bool b ∧ Hid ((b = false → AtI U V i a) ∧ (b = true → AtI U V i 0) ∧ Below w4.heap.size w4 wx))
        case first =>
          have r0 := (rank_cell (HGV.out.up HC1.out) HV.out).1
          have R0 := BW.cell r0
          clear r0
          rcases Nat.eq_zero_or_pos i with h0 | h0
          · have HA := hid (show AtI U V i 0 by rw [h0]; exact atI_zero _ _)
            have d1 : decide ((i : Int) = 0) = true := decide_eq_true (by omega)
            have d1n : decide (i = 0) = true := decide_eq_true (by omega)
            have d1b : ((i : Int) == 0) = true := by rw [h0]; rfl
            clear h0 R0
            refine wp_region_bw (by kernel_rfl) (by kernel_rfl) ?_
            repeat (go_big_quiet_step (fail))
            refine wpQuiet_nil ?_
            rintro _ ⟨pq, rfl⟩
            go_wp2_with fail
            go_meet
            case rel => exact ⟨true, rfl, hid ⟨fun h => (by cases h), fun _ => HA.out, estep HC1.out pq.h⟩⟩
          · obtain ⟨j, hj⟩ : ∃ j, i = j + 1 := ⟨i - 1, by omega⟩
            obtain ⟨u, hu⟩ : ∃ u, V[j]? = some u := ⟨_, List.getElem?_eq_getElem (by have := (List.getElem?_eq_some_iff.1 HV.out).1; omega)⟩
            have rj := (rank_cell (HGV.out.up HC1.out) hu).1
            have d1 : decide ((i : Int) = 0) = false := decide_eq_false (by omega)
            have d1n : decide (i = 0) = false := decide_eq_false (by omega)
            have d1b : ((i : Int) == 0) = false := by rw [hj]; exact decide_eq_false (by omega)
            have d2 : IntKind.i64.wrap ((i : Int) - 1) = (j : Int) := by rw [hj, IntWalk.i64_in _ (by omega)]; omega
            have d3 : (0 : Int) ≤ (j : Int) := by omega
            have d4 : (j : Int) < (n : Int) := by omega
            have RJ := BW.cell rj
            have HVj := hid (show V[j + 1]? = some v by rw [← hj]; exact HV.out)
            by_cases he : v.rank = u.rank
            · have HA := hid (show AtI U V i a by rw [hj]; exact atI_same (by rw [← hj]; exact HI.out.1) hu HVj.out he)
              rw [← he] at RJ
              clear h0 rj hj hu he
              refine wp_region_bw (by kernel_rfl) (by kernel_rfl) ?_
              repeat (go_big_quiet_step (fail))
              refine wpQuiet_nil ?_
              rintro _ ⟨pq, rfl⟩
              go_wp2_with fail
              go_meet
              case rel => exact ⟨false, rfl, hid ⟨fun _ => HA.out, fun h => (by cases h), estep HC1.out pq.h⟩⟩
            · have HA := hid (show AtI U V i 0 by rw [hj]; exact atI_new HE.out.2 hu HVj.out he)
              have d5 : (v.rank != u.rank) = true := by simpa using he
              have d6 : decide (v.rank = u.rank) = false := decide_eq_false he
              clear h0 rj hj hu he
              refine wp_region_bw (by kernel_rfl) (by kernel_rfl) ?_
              repeat (go_big_quiet_step (fail))
              refine wpQuiet_nil ?_
              rintro _ ⟨pq, rfl⟩
              go_wp2_with fail
              go_meet
              case rel => exact ⟨true, rfl, hid ⟨fun h => (by cases h), fun _ => HA.out, estep HC1.out pq.h⟩⟩
        case rest =>
          obtain ⟨b, rfl, HC2⟩ := hcut
          go_upto_if 64 with (fail)
          go_cut [6] from 27 to 101 (fun va wx => ∃ a' : Nat, va = .int .i64 a' ∧ a' ≤ n ∧ Hid (AtI U V i a' ∧ Below w4.heap.size w4 wx))
          case first =>
            cases b
            · go_wp2_with fail
              go_meet
              case rel => exact ⟨a, rfl, han, hid ⟨HC2.out.1 (by first | rfl | trivial), HC2.out.2.2⟩⟩
            · go_wp2_with fail
              go_meet
              case rel => exact ⟨0, rfl, by omega, hid ⟨HC2.out.2.1 (by first | rfl | trivial), HC2.out.2.2⟩⟩
          case rest =>
            obtain ⟨a', rfl, han', HC3⟩ := hcut
            obtain ⟨w5, hw5⟩ : ∃ w5, w5 = wc := ⟨_, rfl⟩
            subst hw5
            go_wp2_with fail
            go_loopg [6] n (fun g2 va wr => ∃ a2 : Nat, va = .int .i64 a2 ∧ a2 ≤ n ∧ n - a2 ≤ g2 ∧ Hid (AtI U V i a2 ∧ Below w4.heap.size w4 wr))
            case atStart => exact ⟨a', rfl, han', by omega, HC3⟩
            case round =>
              obtain ⟨a2, rfl, ha2, hg2, HI2⟩ := hrel
              have hlt2 : a2 < n := by have := atI_lt HE.out.1 HI2.out.1 HV.out (by have := HNU.out; omega); have := HNU.out; omega
              have ea1 : decide ((a2 : Int) < (n : Int)) = true := decide_eq_true (by omega)
              have ea2 : decide (a2 < n) = true := decide_eq_true hlt2
              have ea3 : (0 : Int) ≤ (a2 : Int) := by omega
              have ea4 : (a2 : Int) < (n : Int) := by omega
              obtain ⟨x', hx'⟩ : ∃ x', U[a2]? = some x' := ⟨_, List.getElem?_eq_getElem (by have := HNU.out; omega)⟩
              have HX' := hid hx'
              have RU := BW.cell (rank_cell (HGU.out.up HI2.out.2) hx').1
              have RV0 := BW.cell (rank_cell (HGV.out.up HI2.out.2) HV.out).1
              clear hx'
              go_upto_region 14 with (fail)
              by_cases he : x'.rank = v.rank
              · have HD := hid (atI_done HE.out.1 HI2.out.1 HV.out HX'.out he)
                rw [he] at RU
                clear he
                refine wp_region_bw (by kernel_rfl) (by kernel_rfl) ?_
                repeat (go_big_quiet_step (fail))
                refine wpQuiet_nil ?_
                rintro _ ⟨pq, rfl⟩
                clear RU RV0
                have HB5 := hid (estep HI2.out.2 pq.h)
                generalize pq.w = w6 at *
                have HONE := hid (fun (w7 : World) (hb : Below w6.heap.size w6 w7) => one_any x' v w7 HD.out.1 (UV.up (UV.up (HPU.out x' (List.mem_of_getElem? HX'.out)) HB5.out) hb) (UV.up (UV.up HPV.out HB5.out) hb))
                obtain ⟨r0, r1, r2, r3, r4, r5, r6, r7, r8, r9⟩ := rank_cell (HGU.out.up HB5.out) HX'.out
                obtain ⟨d0, d1, d2, d3, d4, d5, d6, d7, d8, d9⟩ := rank_cell (HGV.out.up HB5.out) HV.out
                have R0 := BW.cell r0
                have R1 := BW.cell r1
                have R2 := BW.cell r2
                have R3 := BW.cell r3
                have R4 := BW.cell r4
                have R5 := BW.cell r5
                have R6 := BW.cell r6
                have R7 := BW.cell r7
                have R8 := BW.cell r8
                have R9 := BW.cell r9
                have D0 := BW.cell d0
                have D1 := BW.cell d1
                have D2 := BW.cell d2
                have D3 := BW.cell d3
                have D4 := BW.cell d4
                have D5 := BW.cell d5
                have D6 := BW.cell d6
                have D7 := BW.cell d7
                have D8 := BW.cell d8
                have D9 := BW.cell d9
                clear r0 r1 r2 r3 r4 r5 r6 r7 r8 r9 d0 d1 d2 d3 d4 d5 d6 d7 d8 d9
                have eb1 : decide ((a2 : Int) = (n : Int)) = false := decide_eq_false (by omega)
                have eb2 : decide (a2 = n) = false := decide_eq_false (by omega)
                have eb3 : ((a2 : Int) == (n : Int)) = false := decide_eq_false (by omega)
                have eb4 : (a2 == n) = false := by simp; omega
                go_upto_region 16 with (fail)
                refine wp_region_bw (by kernel_rfl) (by kernel_rfl) ?_
                repeat (go_big_quiet_step ((go_at_call 30; exact calls_bw (HONE.out _ (BW.h _)))))
                refine wpQuiet_nil ?_
                rintro _ ⟨pr, rfl⟩
                clear R0 R1 R2 R3 R4 R5 R6 R7 R8 R9 D0 D1 D2 D3 D4 D5 D6 D7 D8 D9
                have HB6 := hid (estep HI.out.2 (estep HB5.out pr.h))
                go_wp2_with fail
                go_roundg (n - (i + 1))
                case measure => omega
                case rel => exact ⟨i + 1, a2 + 1, by go_num, by go_num, by omega, by omega, by omega, hid ⟨HD.out.2, HB6.out⟩⟩
              · have HD := hid (atI_skip HI2.out.1 HV.out HX'.out he)
                have d5 : (x'.rank != v.rank) = true := by simpa using he
                have d6 : decide (x'.rank = v.rank) = false := decide_eq_false he
                clear he
                refine wp_region_bw (by kernel_rfl) (by kernel_rfl) ?_
                repeat (go_big_quiet_step (fail))
                refine wpQuiet_nil ?_
                rintro _ ⟨pq, rfl⟩
                clear RU RV0
                have HB5 := hid (estep HI2.out.2 pq.h)
                go_wp2_with fail
                go_roundg (n - (a2 + 1))
                case measure => omega
                case rel => exact ⟨a2 + 1, by go_num, by omega, by omega, hid ⟨HD.out, HB5.out⟩⟩
    · obtain rfl : n = i := by omega
      have hkd : decide ((n : Int) < (n : Int)) = false := by simp
      have HB4 := hid HI.out.2
      clear hgk han
      go_wp2_with fail
      clear hkd
      go_loopg [8, 9] n (fun g1 vf vi wr => ∃ (i : Nat) (o : Option Nat), vf = .int .i64 (fstI o) ∧ vi = .int .i64 i ∧ i ≤ n ∧ n - i ≤ g1 ∧ Hid (LoopS (fun r => allE r.ps qm qh qp L) V i o ∧ Below w3.heap.size w3 wr))
      case atStart => exact ⟨0, none, rfl, rfl, by omega, by omega, hid ⟨loopS_zero _ _, HB4.out⟩⟩
      case round =>
        obtain ⟨i, o, rfl, rfl, hin3, hg3, HI3⟩ := hrel
        obtain ⟨w5, hw5⟩ : ∃ w5, w5 = wr := ⟨_, rfl⟩
        subst hw5
        cases o with
        | none =>
          simp only [show fstI none = (-1 : Int) from rfl]
          by_cases hlt3 : i < n
          · have hltd : decide ((i : Int) < (n : Int)) = true := decide_eq_true (by omega)
            have hltn : decide (i < n) = true := decide_eq_true hlt3
            have hi0 : (0 : Int) ≤ (i : Int) := by omega
            have hiz : (i : Int) < (n : Int) := by omega
            obtain ⟨v, hv⟩ : ∃ v, V[i]? = some v := ⟨_, List.getElem?_eq_getElem (by have := HNV.out; omega)⟩
            have HV := hid hv
            obtain ⟨-, hgV, hpV⟩ := RV.row (H3.out.2.1.up HI3.out.2)
            obtain ⟨bb, oo, rfl, -⟩ := hgV.some_of (i := i) (by have := HNV.out; omega)
            obtain ⟨z, hz⟩ : ∃ z, allE v.ps qm qh qp L = z := ⟨_, rfl⟩
            have HZZ := hid hz
            have HXX := hid (H3.out.2.2.1.up HI3.out.2)
            have HUV := hid (hpV v (List.mem_of_getElem? hv))
            have HH := hid (fun (w6 : World) (hb : Below w5.heap.size w5 w6) => hits_any v qm qh qp qb x L w6 (UV.up HUV.out hb) (HXX.out.up hb) (by have := HLH.out; omega) HZZ)
            obtain ⟨r0, r1, r2, r3, r4, r5, r6, r7, r8, r9⟩ := rank_cell hgV hv
            obtain ⟨q0, q1, q2, q3, q4⟩ := (HQ3.out.up HI3.out.2).cells
            have R0 := BW.cell r0
            have R1 := BW.cell r1
            have R2 := BW.cell r2
            have R3 := BW.cell r3
            have R4 := BW.cell r4
            have R5 := BW.cell r5
            have R6 := BW.cell r6
            have R7 := BW.cell r7
            have R8 := BW.cell r8
            have R9 := BW.cell r9
            have Q0 := BW.cell q0
            have Q1 := BW.cell q1
            have Q2 := BW.cell q2
            have Q3 := BW.cell q3
            have Q4 := BW.cell q4
            clear r0 r1 r2 r3 r4 r5 r6 r7 r8 r9 q0 q1 q2 q3 q4 hv hgV hpV hz
            go_upto_region 23 with (fail)
            refine wp_region_bw (by kernel_rfl) (by kernel_rfl) ?_
            cases z
            · repeat (go_big_quiet_step ((go_at_call 23; exact calls_bw (HH.out _ (BW.h _)))))
              refine wpQuiet_nil ?_
              rintro _ ⟨pq, rfl⟩
              clear R0 R1 R2 R3 R4 R5 R6 R7 R8 R9 Q0 Q1 Q2 Q3 Q4
              have HB5 := hid (estep HI3.out.2 pq.h)
              go_wp2_with fail
              go_roundg (n - (i + 1))
              case measure => omega
              case rel => exact ⟨i + 1, none, rfl, by go_num, by omega, by omega, hid ⟨loopS_no HI3.out.1 HV.out HZZ.out, HB5.out⟩⟩
            · repeat (go_big_quiet_step ((go_at_call 23; exact calls_bw (HH.out _ (BW.h _)))))
              refine wpQuiet_nil ?_
              rintro _ ⟨pq, rfl⟩
              clear R0 R1 R2 R3 R4 R5 R6 R7 R8 R9 Q0 Q1 Q2 Q3 Q4
              have HB5 := hid (estep HI3.out.2 pq.h)
              go_wp2_with fail
              go_roundg (n - (i + 1))
              case measure => omega
              case rel => exact ⟨i + 1, some i, rfl, by go_num, by omega, by omega, hid ⟨loopS_yes HI3.out.1 HV.out HZZ.out _, HB5.out⟩⟩
          · obtain rfl : n = i := by omega
            have hkd : decide ((n : Int) < (n : Int)) = false := by simp
            obtain ⟨hfU, hfV⟩ := loopS_none HE.out.1 (by rw [HNV.out]; exact HI3.out.1)
            have HFU := hid (fun (w6 : World) (hb : Below w5.heap.size w5 w6) => first_rv _ U qm qh qp qb x L w6 ((H3.out.1.up HI3.out.2).up hb) (by have := HNU.out; omega) ((H3.out.2.2.1.up HI3.out.2).up hb) (by have := HLH.out; omega) (hid hfU))
            have HFV := hid (fun (w6 : World) (hb : Below w5.heap.size w5 w6) => first_rv _ V qm qh qp qb x L w6 ((H3.out.2.1.up HI3.out.2).up hb) (by have := HNV.out; omega) ((H3.out.2.2.1.up HI3.out.2).up hb) (by have := HLH.out; omega) (hid hfV))
            have hq5 := HQ3.out.up HI3.out.2
            have HB5 := hid (estep H3.out.2.2.2 HI3.out.2)
            obtain ⟨q0, q1, q2, q3, q4⟩ := hq5.cells
            clear hfU hfV
            simp only [show fstI none = (-1 : Int) from rfl] at HFU HFV
            go_wp2_with fail
            refine (HFU.out _ (Below.refl _ _)).mono ?_
            rintro e w6 ⟨rfl, hb6⟩
            have hq6 := hq5.up hb6
            clear q0 q1 q2 q3 q4 hq5
            obtain ⟨q0, q1, q2, q3, q4⟩ := hq6.cells
            go_wp2_with fail
            refine (HFV.out _ hb6).mono ?_
            rintro e w7 ⟨rfl, hb7⟩
            have HB7 := hid (estep HB5.out (estep hb6 hb7))
            clear q0 q1 q2 q3 q4 hq6 hb6 hb7
            go_wp2_with fail
            refine (known12_any _).mono ?_
            rintro e w8 ⟨rfl, hb8⟩
            go_wp2_with fail
            go_returns
            exact ⟨rfl, estep HB7.out hb8⟩
        | some f =>
          simp only [show fstI (some f) = (f : Int) from rfl]
          have df1 : decide ((f : Int) < 0) = false := decide_eq_false (by omega)
          have df2 : (f : Int) < 0 ↔ False := ⟨fun h => by omega, False.elim⟩
          go_upto_region 21 with (fail)
          go_cut [109] from 102 to 118 (fun s wx => s = .bool false ∧ wx = w5)
          case first =>
            by_cases hlt3 : i < n
            · have hltd : decide ((i : Int) < (n : Int)) = true := decide_eq_true (by omega)
              have hltn : decide (i < n) = true := decide_eq_true hlt3
              go_wp2_with fail
              go_meet
              case rel => exact ⟨rfl, rfl⟩
            · have hltd : decide ((i : Int) < (n : Int)) = false := decide_eq_false (by omega)
              have hltn : decide (i < n) = false := decide_eq_false hlt3
              go_wp2_with fail
              go_meet
              case rel => exact ⟨rfl, rfl⟩
          case rest =>
            obtain ⟨rfl, rfl⟩ := hcut
            obtain ⟨hfV, k, u, v, hfU, hu, hv, hsem⟩ := loopS_some HE.out.1 HE.out.2 HI3.out.1
            have HFU := hid (fun (w6 : World) (hb : Below wc.heap.size wc w6) => first_rv _ U qm qh qp qb x L w6 ((H3.out.1.up HI3.out.2).up hb) (by have := HNU.out; omega) ((H3.out.2.2.1.up HI3.out.2).up hb) (by have := HLH.out; omega) (hid hfU))
            simp only [show fstI (some k) = (k : Int) from rfl] at HFU
            have hq5 := HQ3.out.up HI3.out.2
            obtain ⟨q0, q1, q2, q3, q4⟩ := hq5.cells
            have HU := hid hu
            have HV := hid hv
            have HS := hid hsem
            have HFV := hid hfV
            clear hfU hfV hu hv hsem
            go_wp2_with fail
            refine (HFU.out _ (Below.refl _ _)).mono ?_
            rintro e w6 ⟨rfl, hb6⟩
            have HI6 := hid (estep HI3.out.2 hb6)
            have hq6 := hq5.up hb6
            clear q0 q1 q2 q3 q4 hq5 hb6
            have hkU : k < n := by have := (List.getElem?_eq_some_iff.1 HU.out).1; have := HNU.out; omega
            have hfN : f < n := by have := (List.getElem?_eq_some_iff.1 HV.out).1; have := HNV.out; omega
            have dk1 : decide ((0 : Int) ≤ (k : Int)) = true := decide_eq_true (by omega)
            have dk2 : decide ((k : Int) < (n : Int)) = true := decide_eq_true (by omega)
            have dk3 : decide (k < n) = true := decide_eq_true hkU
            have dk4 : (0 : Int) ≤ (k : Int) := by omega
            have dk5 : (k : Int) < (n : Int) := by omega
            have dk6 : (0 : Int) ≤ (f : Int) := by omega
            have dk7 : (f : Int) < (n : Int) := by omega
            obtain ⟨-, hgU, hpU⟩ := RV.row (H3.out.1.up HI6.out)
            obtain ⟨-, hgV, hpV⟩ := RV.row (H3.out.2.1.up HI6.out)
            have HF2 := hid (fun (w7 : World) (hb : Below w6.heap.size w6 w7) => first_rv _ V qm qh qp qb x L w7 ((H3.out.2.1.up HI6.out).up hb) (by have := HNV.out; omega) ((H3.out.2.2.1.up HI6.out).up hb) (by have := HLH.out; omega) (hid HFV.out))
            simp only [show fstI (some f) = (f : Int) from rfl] at HF2
            have HONE := hid (fun (w7 : World) (hb : Below w6.heap.size w6 w7) => one_any u v w7 HS.out (UV.up (hpU u (List.mem_of_getElem? HU.out)) hb) (UV.up (hpV v (List.mem_of_getElem? HV.out)) hb))
            obtain ⟨bu, ou, rfl, -⟩ := hgU.some_of (i := k) (by have := HNU.out; omega)
            obtain ⟨bb, oo, rfl, -⟩ := hgV.some_of (i := f) (by have := HNV.out; omega)
            obtain ⟨r0, r1, r2, r3, r4, r5, r6, r7, r8, r9⟩ := rank_cell hgU HU.out
            obtain ⟨d0, d1, d2, d3, d4, d5, d6, d7, d8, d9⟩ := rank_cell hgV HV.out
            obtain ⟨q0, q1, q2, q3, q4⟩ := hq6.cells
            have R0 := BW.cell r0
            have R1 := BW.cell r1
            have R2 := BW.cell r2
            have R3 := BW.cell r3
            have R4 := BW.cell r4
            have R5 := BW.cell r5
            have R6 := BW.cell r6
            have R7 := BW.cell r7
            have R8 := BW.cell r8
            have R9 := BW.cell r9
            have D0 := BW.cell d0
            have D1 := BW.cell d1
            have D2 := BW.cell d2
            have D3 := BW.cell d3
            have D4 := BW.cell d4
            have D5 := BW.cell d5
            have D6 := BW.cell d6
            have D7 := BW.cell d7
            have D8 := BW.cell d8
            have D9 := BW.cell d9
            have Q0 := BW.cell q0
            have Q1 := BW.cell q1
            have Q2 := BW.cell q2
            have Q3 := BW.cell q3
            have Q4 := BW.cell q4
            clear r0 r1 r2 r3 r4 r5 r6 r7 r8 r9 d0 d1 d2 d3 d4 d5 d6 d7 d8 d9 q0 q1 q2 q3 q4 hgU hgV hpU hpV hkU hfN
            go_upto_region 28 with (fail)
            refine wp_region_bw (by kernel_rfl) (by kernel_rfl) ?_
            repeat (go_big_quiet_step ((first
              | (go_at_call 30; exact calls_bw (HONE.out _ (BW.h _)))
              | (go_at_call 28; exact calls_bw (HF2.out _ (BW.h _)))
              | (go_at_call 19; exact calls_bw (known12_any _)))))
            refine wpQuiet_nil ?_
            rintro _ ⟨pq, rfl⟩
            clear R0 R1 R2 R3 R4 R5 R6 R7 R8 R9 D0 D1 D2 D3 D4 D5 D6 D7 D8 D9 Q0 Q1 Q2 Q3 Q4
            have HB9 := hid (estep H3.out.2.2.2 (estep HI6.out pq.h))
            go_wp2_with fail
            go_returns
            exact ⟨rfl, HB9.out⟩
end Go.Proofs.Ytmdlkoigjacipaa
