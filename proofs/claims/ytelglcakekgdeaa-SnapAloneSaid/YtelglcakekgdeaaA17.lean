/- Texts put together: Ei Rr Rd Rf Rc. -/
import Derived.Test.YtelglcakekgdeaaA14
import Derived.Test.YtelglcakekgdeaaA15
import Derived.Deep.RegionHeld3
import Derived.Test.YtelglcakekgdeaaA02
import Derived.StillTailTactics
import Derived.BigQuiet
namespace Go.Proofs.Ytelglcakekgdeaa
set_option linter.unusedVariables false
set_option linter.unusedSimpArgs false
open Go.RowKit Go.Joins

def encP (e : Pd) : List Value := [.int .i64 e.k, .string (bs e.n), .string (bs e.v)]
theorem encP_len (e : Pd) : (encP e).length = 3 := rfl
theorem rowP : RowT Try.prog encP 3 37 62 (.agg #[.int .i64 0, .string ByteArray.empty, .string ByteArray.empty]) 40 where
  ht := Try.underlying37
  inf := by kernel_rfl
  hzs := rfl
  k0 := by decide
  hk := encP_len
  h1 := fun x u hu => by
    simp [encP] at hu
    rcases hu with rfl | rfl | rfl <;> rfl
  hb := by decide
theorem PX.gx {w : World} {N : Nat → Prop} {A : Option Addr} {L : List Pd} (h : PX w N A L) : GX encP 3 w N A L := by
  intro i hi
  obtain ⟨b, o, e, h1, c0, c1, c2⟩ := h i hi
  refine ⟨b, o, e, h1, fun j hj => ?_⟩
  match j, hj with
  | 0, _ => exact c0
  | 1, _ => rw [← Nat.add_assoc]; exact c1
  | 2, _ => rw [← Nat.add_assoc]; exact c2
theorem GX.px {w : World} {N : Nat → Prop} {A : Option Addr} {L : List Pd} (h : GX encP 3 w N A L) : PX w N A L := by
  intro i hi
  obtain ⟨b, o, e, h1, h2⟩ := h i hi
  refine ⟨b, o, e, h1, ?_, ?_, ?_⟩
  · exact h2 0 (by omega)
  · rw [Nat.add_assoc]; exact h2 1 (by omega)
  · rw [Nat.add_assoc]; exact h2 2 (by omega)
theorem keepBP {w v w' : World} {g : Nat} {k : Int} {n s : List UInt8} (h : BP v g k n s) (hz : Below v.heap.size v w') : w'.cell? ⟨g, 0, none⟩ = some (.int .i64 k) ∧ w'.cell? ⟨g, 1, none⟩ = some (.string (bs n)) ∧ w'.cell? ⟨g, 2, none⟩ = some (.string (bs s)) ∧ Below v.heap.size v w' := by
  obtain ⟨a, b, c⟩ := (h.up hz).cells
  exact ⟨a, b, c, hz⟩
theorem keepPQ {v w' : World} {g g2 : Nat} {k : Int} {n s m h p b : List UInt8} {x : Value} (h1 : BP v g k n s) (h2 : BQ v g2 m h p x b) (hz : Below v.heap.size v w') :
    w'.cell? ⟨g, 0, none⟩ = some (.int .i64 k) ∧ w'.cell? ⟨g, 1, none⟩ = some (.string (bs n)) ∧ w'.cell? ⟨g, 2, none⟩ = some (.string (bs s)) ∧ w'.cell? ⟨g2, 0, none⟩ = some (.string (bs m)) ∧ w'.cell? ⟨g2, 1, none⟩ = some (.string (bs h)) ∧ w'.cell? ⟨g2, 2, none⟩ = some (.string (bs p)) ∧ w'.cell? ⟨g2, 3, none⟩ = some x ∧ w'.cell? ⟨g2, 4, none⟩ = some (.string (bs b)) ∧ Below v.heap.size v w' := by
  obtain ⟨a, b, c⟩ := (h1.up hz).cells
  obtain ⟨q0, q1, q2, q3, q4⟩ := (h2.up hz).cells
  exact ⟨a, b, c, q0, q1, q2, q3, q4, hz⟩
end Go.Proofs.Ytelglcakekgdeaa
namespace Go.Proofs.Ytelglcakekgdeaa
set_option linter.unusedVariables false
set_option linter.unusedSimpArgs false
open Go.RowKit Go.Joins

theorem rowR : RowT Try.prog encR 10 28 39 (.agg #[.int .i64 0, .slice none 0 0, .string ByteArray.empty, .int .i64 0, .int .i64 0, .int .i64 0, .int .i64 0, .int .i64 0, .string ByteArray.empty, .int .i64 0]) 112 where
  ht := Try.underlying28
  inf := by kernel_rfl
  hzs := rfl
  k0 := by decide
  hk := encR_len
  h1 := encR_one
  hb := by decide
/-- What the rules' predicates are, read at blocks that N allows. -/
def RP (w : World) (N : Nat → Prop) (U : List Ru) : Prop := ∀ u ∈ U, PV w N u.x u.ps
theorem RP.imp {w : World} {N M : Nat → Prop} {U : List Ru} (h : RP w N U) (hn : ∀ b, N b → M b) : RP w M U := fun u hu => (h u hu).imp hn
theorem RP.same {w w' : World} {N : Nat → Prop} {U : List Ru} (h : RP w N U) (hs : ∀ b, N b → w'.heap[b]? = w.heap[b]?) : RP w' N U := fun u hu => (h u hu).same hs
theorem RP.up {w w' : World} {U : List Ru} (h : RP w (· < w.heap.size) U) (hb : Below w.heap.size w w') : RP w' (· < w'.heap.size) U := fun u hu => (h u hu).up hb
theorem RP.sub {w : World} {N : Nat → Prop} {U V : List Ru} (h : RP w N U) (hs : ∀ u ∈ V, u ∈ U) : RP w N V := fun u hu => h u (hs u hu)
/-- A slice of rules, as a value that can be read. -/
def RV (w : World) (y : Value) (U : List Ru) : Prop := ∃ A c, y = .slice A U.length c ∧ GX encR 10 w (· < w.heap.size) A U ∧ RP w (· < w.heap.size) U ∧ (A = none → c = 0) ∧ U.length ≤ c ∧ U.length ≤ 9223372036854775807
theorem RV.up {w w' : World} {y : Value} {U : List Ru} (h : RV w y U) (hb : Below w.heap.size w w') : RV w' y U := by
  obtain ⟨A, c, e, h1, h2, h3⟩ := h
  exact ⟨A, c, e, h1.up hb, h2.up hb, h3⟩
theorem eqnil (t e : TypeId) (ht : Try.prog.underlying t = some (.slice e)) (a : Option Addr) (n c : Nat) (w : World) : (binOp .eql t (.slice a n c) (.slice none 0 0)).run Try.prog w = .ok (.bool a.isNone) w := by
  simp only [binOp]
  simp [run_equal_slice_nil w t e a n c ht]
set_option maxRecDepth 100000 in
set_option maxHeartbeats 4000000 in
theorem cloneP_any (x : Value) (L : List Pd) (w : World) (hx : PV w (· < w.heap.size) x L) (hl : L.length ≤ 1000000) :
    Calls Try.prog 27 #[x] w fun e w' => ∃ v, e = .returned v ∧ GB encP 3 62 w' w.heap.size v L ∧ Below w.heap.size w w' := by
  obtain ⟨A, c, rfl, h1, h2, h3, h4⟩ := hx
  have heq := eqnil 37 62 Try.underlying37
  rcases A with _ | ad
  · have hL0 : L = [] := by
      rcases L with _ | ⟨p, r⟩
      · rfl
      · obtain ⟨b, o, e, _⟩ := h1 0 (by simp)
        cases e
    subst hL0
    go_enter Try.func27, Try.ntmps27
    go_wp2_with fail
    go_returns
    exact ⟨_, rfl, GB.nil _ _, Below.refl _ _⟩
  · have hb0 := enew w (.cells #[] 62)
    have hown0 : GB encP 3 62 (w.alloc (.cells #[] 62)) w.heap.size (.slice (some ⟨w.heap.size, 0, none⟩) 0 0) [] := by
      have := World.ownsRow_lit (e := 62) (size := 3) w #[] 0 (Nat.le_refl _) (by unfold maxLen; omega) (by simp)
      simpa [GB, gvals] using this
    have H0 := hid (And.intro hb0 (And.intro hown0 (h1.up hb0).gx))
    clear hb0 hown0 h1
    go_enter Try.func27, Try.ntmps27
    go_wp2_with (at_builtin; refine wpList_append_gx (W0 := w) rowP rfl _ _ rfl w.heap.size (.slice (some ⟨w.heap.size, 0, none⟩) 0 0) [] L (some ad) c _ rfl H0.out.2.1 rfl H0.out.2.2 (fun h => by cases h) (by simp; omega) H0.out.1 (Nat.le_refl _) ?_)
    intro v1 w1 hown1 hbel1 _
    have H1 := hid (And.intro hown1 hbel1)
    clear hown1 hbel1
    go_wp2_with fail
    go_returns
    exact ⟨_, rfl, H1.out.1, H1.out.2⟩
set_option maxRecDepth 100000 in
set_option maxHeartbeats 4000000 in
theorem cloneR_any (A : Option Addr) (c : Nat) (U : List Ru) (w : World) (h1 : GX encR 10 w (· < w.heap.size) A U) (h2 : A = none → c = 0) (hl : U.length ≤ 1000000) :
    Calls Try.prog 26 #[.slice A U.length c] w fun e w' => ∃ v, e = .returned v ∧ GB encR 10 39 w' w.heap.size v U ∧ Below w.heap.size w w' := by
  have heq := eqnil 28 39 Try.underlying28
  rcases A with _ | ad
  · have hL0 : U = [] := by
      rcases U with _ | ⟨p, r⟩
      · rfl
      · obtain ⟨b, o, e, _⟩ := h1 0 (by simp)
        cases e
    subst hL0
    go_enter Try.func26, Try.ntmps26
    go_wp2_with fail
    go_returns
    exact ⟨_, rfl, GB.nil _ _, Below.refl _ _⟩
  · have hb0 := enew w (.cells #[] 39)
    have hown0 : GB encR 10 39 (w.alloc (.cells #[] 39)) w.heap.size (.slice (some ⟨w.heap.size, 0, none⟩) 0 0) [] := by
      have := World.ownsRow_lit (e := 39) (size := 10) w #[] 0 (Nat.le_refl _) (by unfold maxLen; omega) (by simp)
      simpa [GB, gvals] using this
    have H0 := hid (And.intro hb0 (And.intro hown0 (h1.up hb0)))
    clear hb0 hown0 h1
    go_enter Try.func26, Try.ntmps26
    go_wp2_with (at_builtin; refine wpList_append_gx (W0 := w) rowR rfl _ _ rfl w.heap.size (.slice (some ⟨w.heap.size, 0, none⟩) 0 0) [] U (some ad) c _ rfl H0.out.2.1 rfl H0.out.2.2 (fun h => by cases h) (by simp; omega) H0.out.1 (Nat.le_refl _) ?_)
    intro v1 w1 hown1 hbel1 _
    have H1 := hid (And.intro hown1 hbel1)
    clear hown1 hbel1
    go_wp2_with fail
    go_returns
    exact ⟨_, rfl, H1.out.1, H1.out.2⟩
end Go.Proofs.Ytelglcakekgdeaa
namespace Go.Proofs.Ytelglcakekgdeaa
set_option linter.unusedVariables false
set_option linter.unusedSimpArgs false
open Go.RowKit Go.Joins

/-- A variable that holds a rule. -/
def BR (w : World) (g : Nat) (u : Ru) : Prop := Bk w g 39 #[.int .i64 u.rank, .slice u.xa u.xn u.xc, .string (bs u.tg), .int .i64 u.ap, .int .i64 u.st, .int .i64 u.dp, .int .i64 u.dt, .int .i64 u.mp, .string (bs u.mi), .int .i64 u.sm]
theorem BR.new (w : World) (u : Ru) : BR (w.alloc (.cells #[.int .i64 u.rank, .slice u.xa u.xn u.xc, .string (bs u.tg), .int .i64 u.ap, .int .i64 u.st, .int .i64 u.dp, .int .i64 u.dt, .int .i64 u.mp, .string (bs u.mi), .int .i64 u.sm] 39)) w.heap.size u := Bk.new _ _ _
theorem BR.up {w w' : World} {g : Nat} {u : Ru} (k : BR w g u) (hb : Below w.heap.size w w') : BR w' g u := Bk.up k hb
theorem BR.cells {w : World} {g : Nat} {u : Ru} (k : BR w g u) : w.cell? ⟨g, 0, none⟩ = some (.int .i64 u.rank) ∧ w.cell? ⟨g, 1, none⟩ = some (.slice u.xa u.xn u.xc) ∧ w.cell? ⟨g, 2, none⟩ = some (.string (bs u.tg)) ∧ w.cell? ⟨g, 3, none⟩ = some (.int .i64 u.ap) ∧ w.cell? ⟨g, 4, none⟩ = some (.int .i64 u.st) ∧ w.cell? ⟨g, 5, none⟩ = some (.int .i64 u.dp) ∧ w.cell? ⟨g, 6, none⟩ = some (.int .i64 u.dt) ∧ w.cell? ⟨g, 7, none⟩ = some (.int .i64 u.mp) ∧ w.cell? ⟨g, 8, none⟩ = some (.string (bs u.mi)) ∧ w.cell? ⟨g, 9, none⟩ = some (.int .i64 u.sm) :=
  ⟨Bk.cell k 0, Bk.cell k 1, Bk.cell k 2, Bk.cell k 3, Bk.cell k 4, Bk.cell k 5, Bk.cell k 6, Bk.cell k 7, Bk.cell k 8, Bk.cell k 9⟩
/-- A rule's predicates, read where they lie. -/
def UV (w : World) (u : Ru) : Prop := PV w (· < w.heap.size) u.x u.ps
theorem UV.up {w w' : World} {u : Ru} (h : UV w u) (hb : Below w.heap.size w w') : UV w' u := PV.up h hb
theorem UV.out {w : World} {u : Ru} (h : UV w u) : u.xn = u.ps.length ∧ PX w (· < w.heap.size) u.xa u.ps ∧ (u.xa = none → u.xc = 0) ∧ u.ps.length ≤ u.xc ∧ u.ps.length ≤ 9223372036854775807 := by
  obtain ⟨A, c, e, h1, h2, h3, h4⟩ := h
  injection e with e1 e2 e3
  subst e1
  subst e3
  exact ⟨e2, h1, h2, h3, h4⟩
/-- The place of the rule that hits, of the first k rules. -/
def fstK (hit : Ru → Bool) (U : List Ru) : Nat → Option Nat
  | 0 => none
  | k + 1 => match U[k]? with
    | none => fstK hit U k
    | some u => if hit u = true then (match fstK hit U k with | none => some k | some j => if kat rkR U j < u.rank then some k else some j) else fstK hit U k
def fstI (o : Option Nat) : Int := match o with | none => -1 | some j => j
theorem fstK_lt {hit : Ru → Bool} {U : List Ru} : ∀ {k j : Nat}, fstK hit U k = some j → j < k ∧ j < U.length
  | 0, j, h => by simp [fstK] at h
  | k + 1, j, h => by
    rw [fstK] at h
    cases hu : U[k]? with
    | none => rw [hu] at h; have := fstK_lt h; omega
    | some u =>
      rw [hu] at h
      have hk := (List.getElem?_eq_some_iff.1 hu).1
      simp only at h
      by_cases hh : hit u = true
      · rw [if_pos hh] at h
        cases hf : fstK hit U k with
        | none => rw [hf] at h; simp at h; omega
        | some i =>
          rw [hf] at h
          simp only at h
          have h1 := fstK_lt hf
          split at h
          · simp at h; omega
          · simp at h; omega
      · rw [if_neg hh] at h; have := fstK_lt h; omega
end Go.Proofs.Ytelglcakekgdeaa
namespace Go.Proofs.Ytelglcakekgdeaa
set_option linter.unusedVariables false
set_option linter.unusedSimpArgs false
open Go.RowKit Go.Joins

/-- A world that has all that v has, and may have more. -/
structure BW (v : World) where
  w : World
  h : Below v.heap.size v w
instance BW.instNonempty (v : World) : Nonempty (BW v) := ⟨⟨v, Below.refl _ _⟩⟩
theorem wp_region_bw {P : Program} {id : Nat} {Q : Exit → Act → World → Prop} {a : Act} {w : World} {l : List Oper} (hm : P.follows .mixedOrders = true) (hB : Region.lexB .any l.toArray = true) (h : wpQuiet P l.toArray (fun w' => ∃ p : BW w, w' = p.w) (fun a' => ∀ w', (∃ p : BW w, w' = p.w) → Q .normal a' w') l a) : (Code.region id l.toArray true).wp P Q a w :=
  wp_region_quiet (C := fun w' => ∃ p : BW w, w' = p.w) hm hB ⟨⟨_, (Below.refl _ _).drew⟩, rfl⟩ (by simpa using h)
theorem calls_bw {P : Program} {f : FuncId} {args : Array Value} {v0 : World} {p : BW v0} {v : Value} (h : Calls P f args p.w fun e w' => e = .returned v ∧ Below p.w.heap.size p.w w') : Calls P f args p.w fun e w'' => e = .returned v ∧ ∃ q : BW v0, w'' = q.w :=
  h.mono fun _ _ ⟨he, hb⟩ => ⟨he, ⟨_, p.h.trans (hb.mono p.h.size)⟩, rfl⟩
theorem BW.cell {v : World} {a : Addr} {x : Value} (h : v.cell? a = some x) (p : BW v) : p.w.cell? a = some x :=
  (p.h.cell (lt_of_cell h)).trans h
end Go.Proofs.Ytelglcakekgdeaa
namespace Go.Proofs.Ytelglcakekgdeaa
set_option linter.unusedVariables false
set_option linter.unusedSimpArgs false
open Go.RowKit Go.Joins

theorem GX.left {w : World} {N : Nat → Prop} {A : Option Addr} {S T : List Ru} (h : GX encR 10 w N A (S ++ T)) : GX encR 10 w N A S := by
  have := h.take S.length
  rwa [List.take_left] at this
theorem GX.right {w : World} {N : Nat → Prop} {b o : Nat} {S T : List Ru} (h : GX encR 10 w N (some ⟨b, o, none⟩) (S ++ T)) : GX encR 10 w N (some ⟨b, o + S.length * 10, none⟩) T := by
  have := h.drop S.length
  rwa [List.drop_left] at this
theorem GX.right' {w w' : World} {N : Nat → Prop} {b o : Nat} {S T : List Ru} (h : GX encR 10 w N (some ⟨b, o, none⟩) (S ++ T)) (hs : ∀ b, N b → w'.heap[b]? = w.heap[b]?) : GX encR 10 w' N (some ⟨b, o + S.length * 10, none⟩) T := h.right.same hs
theorem GX.right'N {w w' : World} {N : Nat → Prop} {S T : List Ru} (h : GX encR 10 w N none (S ++ T)) (hs : ∀ b, N b → w'.heap[b]? = w.heap[b]?) : GX encR 10 w' N none T := by
  have : T = [] := by
    rcases T with _ | ⟨x, r⟩
    · rfl
    · obtain ⟨b, o, e, _⟩ := h S.length (by simp)
      cases e
  subst this
  exact GX.nil _ _ _
theorem take_snoc' {α : Type} (L : List α) (i : Nat) (x : α) (h : L[i]? = some x) : L.take (i + 1) = L.take i ++ [x] := by
  obtain ⟨hi, rfl⟩ := List.getElem?_eq_some_iff.1 h
  exact List.take_succ_eq_append_getElem hi
theorem ordB_snoc (L : List Ru) (u : Ru) : ordB rkR (L ++ [u]) = insB rkR (ordB rkR L) u := by
  unfold ordB
  rw [List.foldl_append]; rfl
theorem GB.reads2 {w : World} {base : Nat} {v : Value} {L : List Ru} (h : GB encR 10 39 w base v L) : ∃ A cap, v = .slice A L.length cap ∧ GX encR 10 w (fun b => base ≤ b ∧ b < w.heap.size) A L ∧ (A = none → cap = 0) ∧ L.length ≤ cap ∧ cap ≤ maxLen ∧ (A = none ∨ ∃ g, A = some ⟨g, 0, none⟩) := by
  obtain ⟨A, cap, e, h1, h2, h3, h4⟩ := GB.reads encR_len h
  refine ⟨A, cap, e, h1, h2, h3, h4, ?_⟩
  rcases GB.form encR_len h with ⟨e1, _⟩ | ⟨g, c, e1, _⟩
  · rw [e1] at e
    injection e with e2
    exact Or.inl e2.symm
  · rw [e1] at e
    injection e with e2
    exact Or.inr ⟨g, e2.symm⟩
end Go.Proofs.Ytelglcakekgdeaa
