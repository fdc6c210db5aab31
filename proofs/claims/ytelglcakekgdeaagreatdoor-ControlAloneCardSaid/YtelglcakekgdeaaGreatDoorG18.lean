/- Texts put together: Ei Rr Rd Rf Rc Rcf. -/
import Derived.Test.YtelglcakekgdeaaGreatDoorG16
import Derived.Test.YtelglcakekgdeaaGreatDoorG17
import Derived.Deep.RegionHeld3
import Derived.Test.YtelglcakekgdeaaGreatDoorG02
import Derived.StillTailTactics
import Derived.BigQuiet
namespace Go.Proofs.YtelglcakekgdeaaGreatDoor
set_option linter.unusedVariables false
set_option linter.unusedSimpArgs false
open Go.RowKit Go.Joins

def encP (e : Pd) : List Value := [.int .i64 e.k, .string (bs e.n), .string (bs e.v)]
theorem encP_len (e : Pd) : (encP e).length = 3 := rfl
theorem rowP : RowT Tryz.prog encP 3 70 83 (.agg #[.int .i64 0, .string ByteArray.empty, .string ByteArray.empty]) 40 where
  ht := Tryz.underlying70
  inf := by kernel_rfl
  hzs := rfl
  k0 := by decide
  hk := encP_len
  h1 := fun x u hu => by
    simp [encP] at hu
    rcases hu with rfl | rfl | rfl <;> rfl
  hb := by decide
theorem PX.gx {w : World} {N : Nat → Prop} {A : Option Addr} {L : List Pd} (h : PX w N A L) : GX encP 3 w N A L := by
  intro i hi
  obtain ⟨b, o, e, h1, c0, c1, c2⟩ := h i hi
  refine ⟨b, o, e, h1, fun j hj => ?_⟩
  match j, hj with
  | 0, _ => exact c0
  | 1, _ => rw [← Nat.add_assoc]; exact c1
  | 2, _ => rw [← Nat.add_assoc]; exact c2
theorem GX.px {w : World} {N : Nat → Prop} {A : Option Addr} {L : List Pd} (h : GX encP 3 w N A L) : PX w N A L := by
  intro i hi
  obtain ⟨b, o, e, h1, h2⟩ := h i hi
  refine ⟨b, o, e, h1, ?_, ?_, ?_⟩
  · exact h2 0 (by omega)
  · rw [Nat.add_assoc]; exact h2 1 (by omega)
  · rw [Nat.add_assoc]; exact h2 2 (by omega)
theorem keepBP {w v w' : World} {g : Nat} {k : Int} {n s : List UInt8} (h : BP v g k n s) (hz : Below v.heap.size v w') : w'.cell? ⟨g, 0, none⟩ = some (.int .i64 k) ∧ w'.cell? ⟨g, 1, none⟩ = some (.string (bs n)) ∧ w'.cell? ⟨g, 2, none⟩ = some (.string (bs s)) ∧ Below v.heap.size v w' := by
  obtain ⟨a, b, c⟩ := (h.up hz).cells
  exact ⟨a, b, c, hz⟩
theorem keepPQ {v w' : World} {g g2 : Nat} {k : Int} {n s m h p b : List UInt8} {x : Value} (h1 : BP v g k n s) (h2 : BQ v g2 m h p x b) (hz : Below v.heap.size v w') :
    w'.cell? ⟨g, 0, none⟩ = some (.int .i64 k) ∧ w'.cell? ⟨g, 1, none⟩ = some (.string (bs n)) ∧ w'.cell? ⟨g, 2, none⟩ = some (.string (bs s)) ∧ w'.cell? ⟨g2, 0, none⟩ = some (.string (bs m)) ∧ w'.cell? ⟨g2, 1, none⟩ = some (.string (bs h)) ∧ w'.cell? ⟨g2, 2, none⟩ = some (.string (bs p)) ∧ w'.cell? ⟨g2, 3, none⟩ = some x ∧ w'.cell? ⟨g2, 4, none⟩ = some (.string (bs b)) ∧ Below v.heap.size v w' := by
  obtain ⟨a, b, c⟩ := (h1.up hz).cells
  obtain ⟨q0, q1, q2, q3, q4⟩ := (h2.up hz).cells
  exact ⟨a, b, c, q0, q1, q2, q3, q4, hz⟩
end Go.Proofs.YtelglcakekgdeaaGreatDoor
namespace Go.Proofs.YtelglcakekgdeaaGreatDoor
set_option linter.unusedVariables false
set_option linter.unusedSimpArgs false
open Go.RowKit Go.Joins

theorem rowR : RowT Tryz.prog encR 10 30 72 (.agg #[.int .i64 0, .slice none 0 0, .string ByteArray.empty, .int .i64 0, .int .i64 0, .int .i64 0, .int .i64 0, .int .i64 0, .string ByteArray.empty, .int .i64 0]) 112 where
  ht := Tryz.underlying30
  inf := by kernel_rfl
  hzs := rfl
  k0 := by decide
  hk := encR_len
  h1 := encR_one
  hb := by decide
/-- What the rules' predicates are, read at blocks that N allows. -/
def RP (w : World) (N : Nat → Prop) (U : List Ru) : Prop := ∀ u ∈ U, PV w N u.x u.ps
theorem RP.imp {w : World} {N M : Nat → Prop} {U : List Ru} (h : RP w N U) (hn : ∀ b, N b → M b) : RP w M U := fun u hu => (h u hu).imp hn
theorem RP.same {w w' : World} {N : Nat → Prop} {U : List Ru} (h : RP w N U) (hs : ∀ b, N b → w'.heap[b]? = w.heap[b]?) : RP w' N U := fun u hu => (h u hu).same hs
theorem RP.up {w w' : World} {U : List Ru} (h : RP w (· < w.heap.size) U) (hb : Below w.heap.size w w') : RP w' (· < w'.heap.size) U := fun u hu => (h u hu).up hb
theorem RP.sub {w : World} {N : Nat → Prop} {U V : List Ru} (h : RP w N U) (hs : ∀ u ∈ V, u ∈ U) : RP w N V := fun u hu => h u (hs u hu)
/-- A slice of rules, as a value that can be read. -/
def RV (w : World) (y : Value) (U : List Ru) : Prop := ∃ A c, y = .slice A U.length c ∧ GX encR 10 w (· < w.heap.size) A U ∧ RP w (· < w.heap.size) U ∧ (A = none → c = 0) ∧ U.length ≤ c ∧ U.length ≤ 9223372036854775807
theorem RV.up {w w' : World} {y : Value} {U : List Ru} (h : RV w y U) (hb : Below w.heap.size w w') : RV w' y U := by
  obtain ⟨A, c, e, h1, h2, h3⟩ := h
  exact ⟨A, c, e, h1.up hb, h2.up hb, h3⟩
theorem eqnil (t e : TypeId) (ht : Tryz.prog.underlying t = some (.slice e)) (a : Option Addr) (n c : Nat) (w : World) : (binOp .eql t (.slice a n c) (.slice none 0 0)).run Tryz.prog w = .ok (.bool a.isNone) w := by
  simp only [binOp]
  simp [run_equal_slice_nil w t e a n c ht]
set_option maxRecDepth 100000 in
set_option maxHeartbeats 4000000 in
theorem cloneP_any (x : Value) (L : List Pd) (w : World) (hx : PV w (· < w.heap.size) x L) (hl : L.length ≤ 1000000) :
    Calls Tryz.prog 39 #[x] w fun e w' => ∃ v, e = .returned v ∧ GB encP 3 83 w' w.heap.size v L ∧ Below w.heap.size w w' := by
  obtain ⟨A, c, rfl, h1, h2, h3, h4⟩ := hx
  have heq := eqnil 70 83 Tryz.underlying70
  rcases A with _ | ad
  · have hL0 : L = [] := by
      rcases L with _ | ⟨p, r⟩
      · rfl
      · obtain ⟨b, o, e, _⟩ := h1 0 (by simp)
        cases e
    subst hL0
    go_enter Tryz.func39, Tryz.ntmps39
    go_wp2_with fail
    go_returns
    exact ⟨_, rfl, GB.nil _ _, Below.refl _ _⟩
  · have hb0 := enew w (.cells #[] 83)
    have hown0 : GB encP 3 83 (w.alloc (.cells #[] 83)) w.heap.size (.slice (some ⟨w.heap.size, 0, none⟩) 0 0) [] := by
      have := World.ownsRow_lit (e := 83) (size := 3) w #[] 0 (Nat.le_refl _) (by unfold maxLen; omega) (by simp)
      simpa [GB, gvals] using this
    have H0 := hid (And.intro hb0 (And.intro hown0 (h1.up hb0).gx))
    clear hb0 hown0 h1
    go_enter Tryz.func39, Tryz.ntmps39
    go_wp2_with (at_builtin; refine wpList_append_gx (W0 := w) rowP rfl _ _ rfl w.heap.size (.slice (some ⟨w.heap.size, 0, none⟩) 0 0) [] L (some ad) c _ rfl H0.out.2.1 rfl H0.out.2.2 (fun h => by cases h) (by simp; omega) H0.out.1 (Nat.le_refl _) ?_)
    intro v1 w1 hown1 hbel1 _
    have H1 := hid (And.intro hown1 hbel1)
    clear hown1 hbel1
    go_wp2_with fail
    go_returns
    exact ⟨_, rfl, H1.out.1, H1.out.2⟩
set_option maxRecDepth 100000 in
set_option maxHeartbeats 4000000 in
theorem cloneR_any (A : Option Addr) (c : Nat) (U : List Ru) (w : World) (h1 : GX encR 10 w (· < w.heap.size) A U) (h2 : A = none → c = 0) (hl : U.length ≤ 1000000) :
    Calls Tryz.prog 38 #[.slice A U.length c] w fun e w' => ∃ v, e = .returned v ∧ GB encR 10 72 w' w.heap.size v U ∧ Below w.heap.size w w' := by
  have heq := eqnil 30 72 Tryz.underlying30
  rcases A with _ | ad
  · have hL0 : U = [] := by
      rcases U with _ | ⟨p, r⟩
      · rfl
      · obtain ⟨b, o, e, _⟩ := h1 0 (by simp)
        cases e
    subst hL0
    go_enter Tryz.func38, Tryz.ntmps38
    go_wp2_with fail
    go_returns
    exact ⟨_, rfl, GB.nil _ _, Below.refl _ _⟩
  · have hb0 := enew w (.cells #[] 72)
    have hown0 : GB encR 10 72 (w.alloc (.cells #[] 72)) w.heap.size (.slice (some ⟨w.heap.size, 0, none⟩) 0 0) [] := by
      have := World.ownsRow_lit (e := 72) (size := 10) w #[] 0 (Nat.le_refl _) (by unfold maxLen; omega) (by simp)
      simpa [GB, gvals] using this
    have H0 := hid (And.intro hb0 (And.intro hown0 (h1.up hb0)))
    clear hb0 hown0 h1
    go_enter Tryz.func38, Tryz.ntmps38
    go_wp2_with (at_builtin; refine wpList_append_gx (W0 := w) rowR rfl _ _ rfl w.heap.size (.slice (some ⟨w.heap.size, 0, none⟩) 0 0) [] U (some ad) c _ rfl H0.out.2.1 rfl H0.out.2.2 (fun h => by cases h) (by simp; omega) H0.out.1 (Nat.le_refl _) ?_)
    intro v1 w1 hown1 hbel1 _
    have H1 := hid (And.intro hown1 hbel1)
    clear hown1 hbel1
    go_wp2_with fail
    go_returns
    exact ⟨_, rfl, H1.out.1, H1.out.2⟩
end Go.Proofs.YtelglcakekgdeaaGreatDoor
namespace Go.Proofs.YtelglcakekgdeaaGreatDoor
set_option linter.unusedVariables false
set_option linter.unusedSimpArgs false
open Go.RowKit Go.Joins

/-- A variable that holds a rule. -/
def BR (w : World) (g : Nat) (u : Ru) : Prop := Bk w g 72 #[.int .i64 u.rank, .slice u.xa u.xn u.xc, .string (bs u.tg), .int .i64 u.ap, .int .i64 u.st, .int .i64 u.dp, .int .i64 u.dt, .int .i64 u.mp, .string (bs u.mi), .int .i64 u.sm]
theorem BR.new (w : World) (u : Ru) : BR (w.alloc (.cells #[.int .i64 u.rank, .slice u.xa u.xn u.xc, .string (bs u.tg), .int .i64 u.ap, .int .i64 u.st, .int .i64 u.dp, .int .i64 u.dt, .int .i64 u.mp, .string (bs u.mi), .int .i64 u.sm] 72)) w.heap.size u := Bk.new _ _ _
theorem BR.up {w w' : World} {g : Nat} {u : Ru} (k : BR w g u) (hb : Below w.heap.size w w') : BR w' g u := Bk.up k hb
theorem BR.cells {w : World} {g : Nat} {u : Ru} (k : BR w g u) : w.cell? ⟨g, 0, none⟩ = some (.int .i64 u.rank) ∧ w.cell? ⟨g, 1, none⟩ = some (.slice u.xa u.xn u.xc) ∧ w.cell? ⟨g, 2, none⟩ = some (.string (bs u.tg)) ∧ w.cell? ⟨g, 3, none⟩ = some (.int .i64 u.ap) ∧ w.cell? ⟨g, 4, none⟩ = some (.int .i64 u.st) ∧ w.cell? ⟨g, 5, none⟩ = some (.int .i64 u.dp) ∧ w.cell? ⟨g, 6, none⟩ = some (.int .i64 u.dt) ∧ w.cell? ⟨g, 7, none⟩ = some (.int .i64 u.mp) ∧ w.cell? ⟨g, 8, none⟩ = some (.string (bs u.mi)) ∧ w.cell? ⟨g, 9, none⟩ = some (.int .i64 u.sm) :=
  ⟨Bk.cell k 0, Bk.cell k 1, Bk.cell k 2, Bk.cell k 3, Bk.cell k 4, Bk.cell k 5, Bk.cell k 6, Bk.cell k 7, Bk.cell k 8, Bk.cell k 9⟩
/-- A rule's predicates, read where they lie. -/
def UV (w : World) (u : Ru) : Prop := PV w (· < w.heap.size) u.x u.ps
theorem UV.up {w w' : World} {u : Ru} (h : UV w u) (hb : Below w.heap.size w w') : UV w' u := PV.up h hb
theorem UV.out {w : World} {u : Ru} (h : UV w u) : u.xn = u.ps.length ∧ PX w (· < w.heap.size) u.xa u.ps ∧ (u.xa = none → u.xc = 0) ∧ u.ps.length ≤ u.xc ∧ u.ps.length ≤ 9223372036854775807 := by
  obtain ⟨A, c, e, h1, h2, h3, h4⟩ := h
  injection e with e1 e2 e3
  subst e1
  subst e3
  exact ⟨e2, h1, h2, h3, h4⟩
/-- The place of the rule that hits, of the first k rules. -/
def fstK (hit : Ru → Bool) (U : List Ru) : Nat → Option Nat
  | 0 => none
  | k + 1 => match U[k]? with
    | none => fstK hit U k
    | some u => if hit u = true then (match fstK hit U k with | none => some k | some j => if kat rkR U j < u.rank then some k else some j) else fstK hit U k
def fstI (o : Option Nat) : Int := match o with | none => -1 | some j => j
theorem fstK_lt {hit : Ru → Bool} {U : List Ru} : ∀ {k j : Nat}, fstK hit U k = some j → j < k ∧ j < U.length
  | 0, j, h => by simp [fstK] at h
  | k + 1, j, h => by
    rw [fstK] at h
    cases hu : U[k]? with
    | none => rw [hu] at h; have := fstK_lt h; omega
    | some u =>
      rw [hu] at h
      have hk := (List.getElem?_eq_some_iff.1 hu).1
      simp only at h
      by_cases hh : hit u = true
      · rw [if_pos hh] at h
        cases hf : fstK hit U k with
        | none => rw [hf] at h; simp at h; omega
        | some i =>
          rw [hf] at h
          simp only at h
          have h1 := fstK_lt hf
          split at h
          · simp at h; omega
          · simp at h; omega
      · rw [if_neg hh] at h; have := fstK_lt h; omega
end Go.Proofs.YtelglcakekgdeaaGreatDoor
namespace Go.Proofs.YtelglcakekgdeaaGreatDoor
set_option linter.unusedVariables false
set_option linter.unusedSimpArgs false
open Go.RowKit Go.Joins

/-- A world that has all that v has, and may have more. -/
structure BW (v : World) where
  w : World
  h : Below v.heap.size v w
instance BW.instNonempty (v : World) : Nonempty (BW v) := ⟨⟨v, Below.refl _ _⟩⟩
theorem wp_region_bw {P : Program} {id : Nat} {Q : Exit → Act → World → Prop} {a : Act} {w : World} {l : List Oper} (hm : P.follows .mixedOrders = true) (hB : Region.lexB .any l.toArray = true) (h : wpQuiet P l.toArray (fun w' => ∃ p : BW w, w' = p.w) (fun a' => ∀ w', (∃ p : BW w, w' = p.w) → Q .normal a' w') l a) : (Code.region id l.toArray true).wp P Q a w :=
  wp_region_quiet (C := fun w' => ∃ p : BW w, w' = p.w) hm hB ⟨⟨_, (Below.refl _ _).drew⟩, rfl⟩ (by simpa using h)
theorem calls_bw {P : Program} {f : FuncId} {args : Array Value} {v0 : World} {p : BW v0} {v : Value} (h : Calls P f args p.w fun e w' => e = .returned v ∧ Below p.w.heap.size p.w w') : Calls P f args p.w fun e w'' => e = .returned v ∧ ∃ q : BW v0, w'' = q.w :=
  h.mono fun _ _ ⟨he, hb⟩ => ⟨he, ⟨_, p.h.trans (hb.mono p.h.size)⟩, rfl⟩
theorem BW.cell {v : World} {a : Addr} {x : Value} (h : v.cell? a = some x) (p : BW v) : p.w.cell? a = some x :=
  (p.h.cell (lt_of_cell h)).trans h
end Go.Proofs.YtelglcakekgdeaaGreatDoor
namespace Go.Proofs.YtelglcakekgdeaaGreatDoor
set_option linter.unusedVariables false
set_option linter.unusedSimpArgs false
open Go.RowKit Go.Joins

theorem GX.left {w : World} {N : Nat → Prop} {A : Option Addr} {S T : List Ru} (h : GX encR 10 w N A (S ++ T)) : GX encR 10 w N A S := by
  have := h.take S.length
  rwa [List.take_left] at this
theorem GX.right {w : World} {N : Nat → Prop} {b o : Nat} {S T : List Ru} (h : GX encR 10 w N (some ⟨b, o, none⟩) (S ++ T)) : GX encR 10 w N (some ⟨b, o + S.length * 10, none⟩) T := by
  have := h.drop S.length
  rwa [List.drop_left] at this
theorem GX.right' {w w' : World} {N : Nat → Prop} {b o : Nat} {S T : List Ru} (h : GX encR 10 w N (some ⟨b, o, none⟩) (S ++ T)) (hs : ∀ b, N b → w'.heap[b]? = w.heap[b]?) : GX encR 10 w' N (some ⟨b, o + S.length * 10, none⟩) T := h.right.same hs
theorem GX.right'N {w w' : World} {N : Nat → Prop} {S T : List Ru} (h : GX encR 10 w N none (S ++ T)) (hs : ∀ b, N b → w'.heap[b]? = w.heap[b]?) : GX encR 10 w' N none T := by
  have : T = [] := by
    rcases T with _ | ⟨x, r⟩
    · rfl
    · obtain ⟨b, o, e, _⟩ := h S.length (by simp)
      cases e
  subst this
  exact GX.nil _ _ _
theorem take_snoc' {α : Type} (L : List α) (i : Nat) (x : α) (h : L[i]? = some x) : L.take (i + 1) = L.take i ++ [x] := by
  obtain ⟨hi, rfl⟩ := List.getElem?_eq_some_iff.1 h
  exact List.take_succ_eq_append_getElem hi
theorem ordB_snoc (L : List Ru) (u : Ru) : ordB rkR (L ++ [u]) = insB rkR (ordB rkR L) u := by
  unfold ordB
  rw [List.foldl_append]; rfl
theorem GB.reads2 {w : World} {base : Nat} {v : Value} {L : List Ru} (h : GB encR 10 72 w base v L) : ∃ A cap, v = .slice A L.length cap ∧ GX encR 10 w (fun b => base ≤ b ∧ b < w.heap.size) A L ∧ (A = none → cap = 0) ∧ L.length ≤ cap ∧ cap ≤ maxLen ∧ (A = none ∨ ∃ g, A = some ⟨g, 0, none⟩) := by
  obtain ⟨A, cap, e, h1, h2, h3, h4⟩ := GB.reads encR_len h
  refine ⟨A, cap, e, h1, h2, h3, h4, ?_⟩
  rcases GB.form encR_len h with ⟨e1, _⟩ | ⟨g, c, e1, _⟩
  · rw [e1] at e
    injection e with e2
    exact Or.inl e2.symm
  · rw [e1] at e
    injection e with e2
    exact Or.inr ⟨g, e2.symm⟩
set_option maxRecDepth 100000 in
set_option maxHeartbeats 16000000 in
theorem rorder_any (A : Option Addr) (c : Nat) (U : List Ru) (w : World) (hx : GX encR 10 w (· < w.heap.size) A U) (hl9 : U.length ≤ 1000) :
    Calls Tryz.prog 29 #[.slice A U.length c] w fun e w' => ∃ v, e = .returned v ∧ GB encR 10 72 w' w.heap.size v (ordB rkR U) ∧ Below w.heap.size w w' := by
  have HX := hid hx
  clear hx
  generalize hnU : U.length = n at *
  have HNU := hid hnU
  clear hnU
  go_enter Tryz.func29, Tryz.ntmps29
  go_wp2_with fail
  go_loopg [3, 4] n (fun g1 vo vi wr => ∃ (i : Nat), vi = .int .i64 i ∧ i ≤ n ∧ n - i ≤ g1 ∧ Hid (GB encR 10 72 wr w.heap.size vo (ordB rkR (U.take i)) ∧ Below w.heap.size w wr))
  case atStart => exact ⟨0, rfl, by omega, by omega, ⟨GB.nil _ _, Below.refl _ _⟩⟩
  case round =>
    obtain ⟨i, rfl, hin, hgk, HI⟩ := hrel
    by_cases hlt : i < n
    · have hltz : (i : Int) < (n : Int) := by omega
      have hi0 : (0 : Int) ≤ (i : Int) := by omega
      have hiU : i < U.length := by have := HNU.out; omega
      obtain ⟨u, hu⟩ : ∃ u, U[i]? = some u := ⟨_, List.getElem?_eq_getElem hiU⟩
      obtain ⟨bb, oo, rfl, hbb, hcl⟩ := HX.out i hiU
      have huL : encR U[i] = encR u := by
        obtain ⟨_, rfl⟩ := List.getElem?_eq_some_iff.1 hu
        rfl
      rw [huL] at hcl
      have hru : wr.cell? ⟨bb, oo + i * 10, none⟩ = some (.int .i64 u.rank) := (HI.out.2.cell (p := ⟨bb, oo + i * 10, none⟩) hbb).trans (hcl 0 (by omega))
      have hol : (ordB rkR (U.take i)).length = i := by rw [ordB_length]; simp; omega
      have HU := hid hu
      have HUW := hid (And.intro hcl hbb)
      obtain ⟨O, hO⟩ : ∃ O, ordB rkR (U.take i) = O := ⟨_, rfl⟩
      rw [hO] at HI hol
      have HO := hid hO
      clear hO hu hcl huL hbb
      obtain ⟨A2, c2, rfl, hgx, hA2, hc2, hcm, hsp⟩ := GB.reads2 HI.out.1
      rw [hol]
      rw [hol] at hc2
      have HGX := hid (And.intro hgx (And.intro hA2 (And.intro hol hcm)))
      have HSP := hid hsp
      clear hgx hA2 hol hcm hsp
      obtain ⟨w0, rfl⟩ : ∃ w0, w0 = wr := ⟨_, rfl⟩
      go_wp2_with fail
      go_loopg [5] i (fun g2 va wr2 => ∃ j : Nat, va = .int .i64 j ∧ j ≤ i ∧ i - j ≤ g2 ∧ Hid ((∀ t (h : t < O.length), t < j → u.rank ≤ O[t].rank) ∧ ∃ q, wr2 = w0.drewN q))
      case atStart => exact ⟨0, rfl, by omega, by omega, ⟨fun t h h2 => absurd h2 (by omega), 0, rfl⟩⟩
      case round =>
        obtain ⟨j, rfl, hji, hgj, HJ⟩ := hrel
        by_cases hjlt : j < i
        · have hd : decide ((j : Int) < (i : Int)) = true := decide_eq_true (by omega)
          have hjz : (j : Int) < (i : Int) := by omega
          have hj0 : (0 : Int) ≤ (j : Int) := by omega
          have hjO : j < O.length := by have := HGX.out.2.2.1; omega
          obtain ⟨v, hv⟩ : ∃ v, O[j]? = some v := ⟨_, List.getElem?_eq_getElem hjO⟩
          obtain ⟨b2, o2, hA2e, hb2, hcl2⟩ := HGX.out.1 j hjO
          subst hA2e
          have hvL : encR O[j] = encR v := by
            obtain ⟨_, rfl⟩ := List.getElem?_eq_some_iff.1 hv
            rfl
          rw [hvL] at hcl2
          have hrv0 : w0.cell? ⟨b2, o2 + j * 10, none⟩ = some (.int .i64 v.rank) := hcl2 0 (by omega)
          have hrv : wr.cell? ⟨b2, o2 + j * 10, none⟩ = some (.int .i64 v.rank) := by obtain ⟨q, rfl⟩ := HJ.out.2; exact hrv0
          have hru2 : wr.cell? ⟨bb, oo + i * 10, none⟩ = some (.int .i64 u.rank) := by obtain ⟨q, rfl⟩ := HJ.out.2; exact hru
          have hvg : O[j] = v := by
            obtain ⟨_, rfl⟩ := List.getElem?_eq_some_iff.1 hv
            rfl
          have HV := hid (And.intro hv hvg)
          clear hv hvL hcl2 hb2 hrv0
          by_cases hle : u.rank ≤ v.rank
          · have hle2 : decide (u.rank ≤ v.rank) = true := decide_eq_true hle
            go_upto_region 6 with (fail)
            go_quiet (fail)
            go_wp2_with fail
            go_roundg (i - (j + 1))
            case measure => omega
            case rel =>
              refine ⟨j + 1, by go_num, by omega, by omega, ⟨fun t h ht => ?_, ?_⟩⟩
              · by_cases e : t = j
                · subst e; rw [HV.out.2]; exact hle
                · exact HJ.out.1 t h (by omega)
              · obtain ⟨q, hq⟩ := HJ.out.2
                exact ⟨q + nq, by rw [hq]; exact World.drewN_drewN _ _ _⟩
          · have hle2 : decide (u.rank ≤ v.rank) = false := decide_eq_false hle
            have HSTOP := hid (show ∀ h : j < O.length, decide (u.rank ≤ O[j].rank) = false from fun h => by rw [HV.out.2]; exact hle2)
            go_upto_region 6 with (fail)
            go_quiet (fail)
            go_upto_region 8 with (fail)
            obtain ⟨S, T, hST, hSl, hTl, hins⟩ : ∃ S T : List Ru, O = S ++ T ∧ S.length = j ∧ T.length = i - j ∧ insB rkR O u = S ++ u :: T := by
              have hO := HGX.out.2.2.1
              obtain ⟨h1, h2⟩ := while_at (p := fun y : Ru => decide (u.rank ≤ y.rank)) O j (by omega) (fun t h ht => decide_eq_true (HJ.out.1 t h ht)) (fun h => HSTOP.out h)
              refine ⟨O.take j, O.drop j, (List.take_append_drop _ _).symm, by rw [List.length_take]; omega, by rw [List.length_drop]; omega, ?_⟩
              have h3 : insB rkR O u = O.takeWhile (fun y => decide (u.rank ≤ y.rank)) ++ u :: O.dropWhile (fun y => decide (u.rank ≤ y.rank)) := rfl
              rw [h3, h1, h2]
            have hg5 : GX encR 10 (wr.drewN nq) (fun b => w.heap.size ≤ b ∧ b < w0.heap.size) (some ⟨b2, o2, none⟩) (S ++ T) := by
              obtain ⟨q, hq⟩ := HJ.out.2
              have h9 := HGX.out.1
              rw [hST] at h9
              rw [hq]
              exact h9.same fun b _ => rfl
            have hb5 : Below w.heap.size w (wr.drewN nq) := by
              obtain ⟨q, hq⟩ := HJ.out.2
              rw [hq]
              exact below_drewN (below_drewN HI.out.2 _) _
            have hs5 : (wr.drewN nq).heap.size = w0.heap.size := by
              obtain ⟨q, hq⟩ := HJ.out.2
              rw [hq]; rfl
            have hl5 := HGX.out.2.2.1
            have HSI := hid (And.intro hST (And.intro hSl (And.intro hTl (And.intro hins (And.intro hl5 HGX.out.2.2.2)))))
            have HA2 := hid HGX.out.2.1
            have H5 := hid (And.intro hg5 (And.intro hb5 hs5))
            have HU5 := hid (fun (w6 : World) (hb6 : Below w.heap.size w w6) (q : Nat) (hq : q < 10) => (hb6.cell (p := ⟨bb, oo + (i * 10 + q), none⟩) HUW.out.2).trans (HUW.out.1 q hq))
            clear hg5 hb5 hs5 hl5 hST hins HSTOP HJ HGX HI
            generalize wr.drewN nq = w5 at *
            have hSz : (S.length : Int) = ((j : Nat) : Int) := by rw [hSl]
            go_wp2_with (at_builtin; refine wpList_append_gx (W0 := w5) rowR rfl _ _ rfl w5.heap.size (.slice none 0 0) [] S (some ⟨b2, o2, none⟩) c2 _ rfl (GB.nil _ _) (by rw [hSl]; rfl) H5.out.1.left (fun h => by cases h) (by have := HSI.out.2.1; simp; omega) (Below.refl _ _) (Nat.le_refl _) ?_)
            intro v6 w6 hown6 hbel6 hgr6
            have hbw6 : Below w.heap.size w w6 := H5.out.2.1.trans (hbel6.mono H5.out.2.1.size)
            have hk0 := HU5.out w6 hbw6 0 (by omega)
            have hk1 := HU5.out w6 hbw6 1 (by omega)
            have hk2 := HU5.out w6 hbw6 2 (by omega)
            have hk3 := HU5.out w6 hbw6 3 (by omega)
            have hk4 := HU5.out w6 hbw6 4 (by omega)
            have hk5 := HU5.out w6 hbw6 5 (by omega)
            have hk6 := HU5.out w6 hbw6 6 (by omega)
            have hk7 := HU5.out w6 hbw6 7 (by omega)
            have hk8 := HU5.out w6 hbw6 8 (by omega)
            have hk9 := HU5.out w6 hbw6 9 (by omega)
            have q0 : w6.cell? ⟨bb, oo + i * 10, none⟩ = some (.int .i64 u.rank) := hk0
            have q1 : w6.cell? ⟨bb, oo + i * 10 + 1, none⟩ = some (.slice u.xa u.xn u.xc) := hk1
            have q2 : w6.cell? ⟨bb, oo + i * 10 + 2, none⟩ = some (.string (bs u.tg)) := hk2
            have q3 : w6.cell? ⟨bb, oo + i * 10 + 3, none⟩ = some (.int .i64 u.ap) := hk3
            have q4 : w6.cell? ⟨bb, oo + i * 10 + 4, none⟩ = some (.int .i64 u.st) := hk4
            have q5 : w6.cell? ⟨bb, oo + i * 10 + 5, none⟩ = some (.int .i64 u.dp) := hk5
            have q6 : w6.cell? ⟨bb, oo + i * 10 + 6, none⟩ = some (.int .i64 u.dt) := hk6
            have q7 : w6.cell? ⟨bb, oo + i * 10 + 7, none⟩ = some (.int .i64 u.mp) := hk7
            have q8 : w6.cell? ⟨bb, oo + i * 10 + 8, none⟩ = some (.string (bs u.mi)) := hk8
            have q9 : w6.cell? ⟨bb, oo + i * 10 + 9, none⟩ = some (.int .i64 u.sm) := hk9
            clear hk0 hk1 hk2 hk3 hk4 hk5 hk6 hk7 hk8 hk9
            have hbE := enew w6 (.cells #[.int .i64 u.rank, .slice u.xa u.xn u.xc, .string (bs u.tg), .int .i64 u.ap, .int .i64 u.st, .int .i64 u.dp, .int .i64 u.dt, .int .i64 u.mp, .string (bs u.mi), .int .i64 u.sm] 72)
            have HE := hid (And.intro (hbel6.trans (hbE.mono hbel6.size)) (And.intro (hown6.below hbE) (GX.one (x := u) (enc := encR) (k := 10) (Bk.new w6 72 #[.int .i64 u.rank, .slice u.xa u.xn u.xc, .string (bs u.tg), .int .i64 u.ap, .int .i64 u.st, .int .i64 u.dp, .int .i64 u.dt, .int .i64 u.mp, .string (bs u.mi), .int .i64 u.sm]) rfl)))
            clear hbE hown6 hbel6 hgr6 hbw6
            go_wp2_with (at_builtin; refine wpList_append_gx (W0 := w5) rowR rfl _ _ rfl w5.heap.size v6 ([] ++ S) [u] (some ⟨w6.heap.size, 0, none⟩) 1 _ rfl HE.out.2.1 rfl HE.out.2.2 (fun h => by cases h) (by have := HSI.out.2.1; simp; omega) HE.out.1 (Nat.le_refl _) ?_)
            intro v7 w7 hown7 hbel7 hgr7
            have hT7 : GX encR 10 w7 (fun b => w.heap.size ≤ b ∧ b < w0.heap.size) (some ⟨b2, o2 + j * 10, none⟩) T := by
              have h := H5.out.1.right' (w' := w7) fun b hb => hbel7.block b (by have := H5.out.2.2; omega)
              rw [HSI.out.2.1] at h
              exact h
            have HG7 := hid (And.intro hown7 (And.intro hbel7 hT7))
            clear q0 q1 q2 q3 q4 q5 q6 q7 q8 q9 hown7 hbel7 hgr7 hT7
            go_wp2_with (at_builtin; refine wpList_append_gx (W0 := w5) rowR rfl _ _ rfl w5.heap.size v7 ([] ++ S ++ [u]) T (some ⟨b2, o2 + j * 10, none⟩) (c2 - j) _ rfl HG7.out.1 (by rw [hTl]; rfl) HG7.out.2.2 (fun h => by cases h) (by have := HSI.out.2.1; have := HSI.out.2.2.1; simp; omega) HG7.out.2.1 (Nat.le_refl _) ?_)
            intro v8 w8 hown8 hbel8 hgr8
            have H8 := hid (And.intro hown8 hbel8)
            clear hown8 hbel8 hgr8
            go_wp2_with fail
            go_roundg (n - (i + 1))
            case measure => omega
            case rel =>
              refine ⟨i + 1, by go_num, by omega, by omega, ⟨?_, H5.out.2.1.trans (H8.out.2.mono H5.out.2.1.size)⟩⟩
              rw [take_snoc' U i u HU.out, ordB_snoc, HO.out, HSI.out.2.2.2.1]
              have h8 := H8.out.1.more H5.out.2.1.size
              simpa [List.append_assoc] using h8
        · obtain ⟨i', hii⟩ : ∃ i', i' = i := ⟨_, rfl⟩
          obtain rfl : j = i := by omega
          have hd : decide ((j : Int) < (j : Int)) = false := decide_eq_false (by omega)
          have HSTOP := hid (show ∀ h : j < O.length, decide (u.rank ≤ O[j].rank) = false from fun h => absurd h (by have := HGX.out.2.2.1; omega))
          go_upto_region 6 with (fail)
          go_quiet (fail)
          go_upto_region 8 with (fail)
          rcases HSP.out with rfl | ⟨b2, rfl⟩
          · obtain rfl : c2 = 0 := HGX.out.2.1 rfl
            obtain rfl : j = 0 := by omega
            obtain ⟨S, T, hST, hSl, hTl, hins⟩ : ∃ S T : List Ru, O = S ++ T ∧ S.length = 0 ∧ T.length = 0 ∧ insB rkR O u = S ++ u :: T := by
              have hO := HGX.out.2.2.1
              obtain ⟨h1, h2⟩ := while_at (p := fun y : Ru => decide (u.rank ≤ y.rank)) O 0 (by omega) (fun t h ht => decide_eq_true (HJ.out.1 t h ht)) (fun h => HSTOP.out h)
              refine ⟨O.take 0, O.drop 0, (List.take_append_drop _ _).symm, by rw [List.length_take]; omega, by rw [List.length_drop]; omega, ?_⟩
              have h3 : insB rkR O u = O.takeWhile (fun y => decide (u.rank ≤ y.rank)) ++ u :: O.dropWhile (fun y => decide (u.rank ≤ y.rank)) := rfl
              rw [h3, h1, h2]
            have hg5 : GX encR 10 (wr.drewN nq) (fun b => w.heap.size ≤ b ∧ b < w0.heap.size) none (S ++ T) := by
              obtain ⟨q, hq⟩ := HJ.out.2
              have h9 := HGX.out.1
              rw [hST] at h9
              rw [hq]
              exact h9.same fun b _ => rfl
            have hb5 : Below w.heap.size w (wr.drewN nq) := by
              obtain ⟨q, hq⟩ := HJ.out.2
              rw [hq]
              exact below_drewN (below_drewN HI.out.2 _) _
            have hs5 : (wr.drewN nq).heap.size = w0.heap.size := by
              obtain ⟨q, hq⟩ := HJ.out.2
              rw [hq]; rfl
            have hl5 := HGX.out.2.2.1
            have HSI := hid (And.intro hST (And.intro hSl (And.intro hTl (And.intro hins (And.intro hl5 HGX.out.2.2.2)))))
            have HA2 := hid HGX.out.2.1
            have H5 := hid (And.intro hg5 (And.intro hb5 hs5))
            have HU5 := hid (fun (w6 : World) (hb6 : Below w.heap.size w w6) (q : Nat) (hq : q < 10) => (hb6.cell (p := ⟨bb, oo + (0 * 10 + q), none⟩) HUW.out.2).trans (HUW.out.1 q hq))
            clear hg5 hb5 hs5 hl5 hST hins HSTOP HJ HGX HI
            generalize wr.drewN nq = w5 at *
            have hSz : (S.length : Int) = ((0 : Nat) : Int) := by rw [hSl]
            go_wp2_with (at_builtin; refine wpList_append_gx (W0 := w5) rowR rfl _ _ rfl w5.heap.size (.slice none 0 0) [] S none 0 _ rfl (GB.nil _ _) (by rw [hSl]; rfl) H5.out.1.left (fun _ => rfl) (by have := HSI.out.2.1; simp; omega) (Below.refl _ _) (Nat.le_refl _) ?_)
            intro v6 w6 hown6 hbel6 hgr6
            have hbw6 : Below w.heap.size w w6 := H5.out.2.1.trans (hbel6.mono H5.out.2.1.size)
            have hk0 := HU5.out w6 hbw6 0 (by omega)
            have hk1 := HU5.out w6 hbw6 1 (by omega)
            have hk2 := HU5.out w6 hbw6 2 (by omega)
            have hk3 := HU5.out w6 hbw6 3 (by omega)
            have hk4 := HU5.out w6 hbw6 4 (by omega)
            have hk5 := HU5.out w6 hbw6 5 (by omega)
            have hk6 := HU5.out w6 hbw6 6 (by omega)
            have hk7 := HU5.out w6 hbw6 7 (by omega)
            have hk8 := HU5.out w6 hbw6 8 (by omega)
            have hk9 := HU5.out w6 hbw6 9 (by omega)
            have q0 : w6.cell? ⟨bb, oo, none⟩ = some (.int .i64 u.rank) := by have hh := hk0; simp only [Nat.zero_mul, Nat.zero_add, Nat.add_zero] at hh; exact hh
            have q1 : w6.cell? ⟨bb, oo + 1, none⟩ = some (.slice u.xa u.xn u.xc) := by have hh := hk1; simp only [Nat.zero_mul, Nat.zero_add, Nat.add_zero] at hh; exact hh
            have q2 : w6.cell? ⟨bb, oo + 2, none⟩ = some (.string (bs u.tg)) := by have hh := hk2; simp only [Nat.zero_mul, Nat.zero_add, Nat.add_zero] at hh; exact hh
            have q3 : w6.cell? ⟨bb, oo + 3, none⟩ = some (.int .i64 u.ap) := by have hh := hk3; simp only [Nat.zero_mul, Nat.zero_add, Nat.add_zero] at hh; exact hh
            have q4 : w6.cell? ⟨bb, oo + 4, none⟩ = some (.int .i64 u.st) := by have hh := hk4; simp only [Nat.zero_mul, Nat.zero_add, Nat.add_zero] at hh; exact hh
            have q5 : w6.cell? ⟨bb, oo + 5, none⟩ = some (.int .i64 u.dp) := by have hh := hk5; simp only [Nat.zero_mul, Nat.zero_add, Nat.add_zero] at hh; exact hh
            have q6 : w6.cell? ⟨bb, oo + 6, none⟩ = some (.int .i64 u.dt) := by have hh := hk6; simp only [Nat.zero_mul, Nat.zero_add, Nat.add_zero] at hh; exact hh
            have q7 : w6.cell? ⟨bb, oo + 7, none⟩ = some (.int .i64 u.mp) := by have hh := hk7; simp only [Nat.zero_mul, Nat.zero_add, Nat.add_zero] at hh; exact hh
            have q8 : w6.cell? ⟨bb, oo + 8, none⟩ = some (.string (bs u.mi)) := by have hh := hk8; simp only [Nat.zero_mul, Nat.zero_add, Nat.add_zero] at hh; exact hh
            have q9 : w6.cell? ⟨bb, oo + 9, none⟩ = some (.int .i64 u.sm) := by have hh := hk9; simp only [Nat.zero_mul, Nat.zero_add, Nat.add_zero] at hh; exact hh
            clear hk0 hk1 hk2 hk3 hk4 hk5 hk6 hk7 hk8 hk9
            have hbE := enew w6 (.cells #[.int .i64 u.rank, .slice u.xa u.xn u.xc, .string (bs u.tg), .int .i64 u.ap, .int .i64 u.st, .int .i64 u.dp, .int .i64 u.dt, .int .i64 u.mp, .string (bs u.mi), .int .i64 u.sm] 72)
            have HE := hid (And.intro (hbel6.trans (hbE.mono hbel6.size)) (And.intro (hown6.below hbE) (GX.one (x := u) (enc := encR) (k := 10) (Bk.new w6 72 #[.int .i64 u.rank, .slice u.xa u.xn u.xc, .string (bs u.tg), .int .i64 u.ap, .int .i64 u.st, .int .i64 u.dp, .int .i64 u.dt, .int .i64 u.mp, .string (bs u.mi), .int .i64 u.sm]) rfl)))
            clear hbE hown6 hbel6 hgr6 hbw6
            go_wp2_with (at_builtin; refine wpList_append_gx (W0 := w5) rowR rfl _ _ rfl w5.heap.size v6 ([] ++ S) [u] (some ⟨w6.heap.size, 0, none⟩) 1 _ rfl HE.out.2.1 rfl HE.out.2.2 (fun h => by cases h) (by have := HSI.out.2.1; simp; omega) HE.out.1 (Nat.le_refl _) ?_)
            intro v7 w7 hown7 hbel7 hgr7
            have hT7 : GX encR 10 w7 (fun b => w.heap.size ≤ b ∧ b < w0.heap.size) none T := by
              have h := H5.out.1.right'N (w' := w7) fun b hb => hbel7.block b (by have := H5.out.2.2; omega)
              skip
              exact h
            have HG7 := hid (And.intro hown7 (And.intro hbel7 hT7))
            clear q0 q1 q2 q3 q4 q5 q6 q7 q8 q9 hown7 hbel7 hgr7 hT7
            go_wp2_with (at_builtin; refine wpList_append_gx (W0 := w5) rowR rfl _ _ rfl w5.heap.size v7 ([] ++ S ++ [u]) T none 0 _ rfl HG7.out.1 (by rw [HSI.out.2.2.1]; rfl) HG7.out.2.2 (fun _ => rfl) (by have := HSI.out.2.1; have := HSI.out.2.2.1; simp; omega) HG7.out.2.1 (Nat.le_refl _) ?_)
            intro v8 w8 hown8 hbel8 hgr8
            have H8 := hid (And.intro hown8 hbel8)
            clear hown8 hbel8 hgr8
            go_wp2_with fail
            go_roundg (n - (0 + 1))
            case measure => omega
            case rel =>
              refine ⟨0 + 1, by go_num, by omega, by omega, ⟨?_, H5.out.2.1.trans (H8.out.2.mono H5.out.2.1.size)⟩⟩
              rw [take_snoc' U 0 u HU.out, ordB_snoc, HO.out, HSI.out.2.2.2.1]
              have h8 := H8.out.1.more H5.out.2.1.size
              simpa [List.append_assoc] using h8
          · have hjc : j ≤ c2 := hc2
            by_cases hcj : c2 = j
            · have hcj3 := hcj.symm
              subst hcj3
              obtain ⟨S, T, hST, hSl, hTl, hins⟩ : ∃ S T : List Ru, O = S ++ T ∧ S.length = j ∧ T.length = j - j ∧ insB rkR O u = S ++ u :: T := by
                have hO := HGX.out.2.2.1
                obtain ⟨h1, h2⟩ := while_at (p := fun y : Ru => decide (u.rank ≤ y.rank)) O j (by omega) (fun t h ht => decide_eq_true (HJ.out.1 t h ht)) (fun h => HSTOP.out h)
                refine ⟨O.take j, O.drop j, (List.take_append_drop _ _).symm, by rw [List.length_take]; omega, by rw [List.length_drop]; omega, ?_⟩
                have h3 : insB rkR O u = O.takeWhile (fun y => decide (u.rank ≤ y.rank)) ++ u :: O.dropWhile (fun y => decide (u.rank ≤ y.rank)) := rfl
                rw [h3, h1, h2]
              have hg5 : GX encR 10 (wr.drewN nq) (fun b => w.heap.size ≤ b ∧ b < w0.heap.size) (some ⟨b2, 0, none⟩) (S ++ T) := by
                obtain ⟨q, hq⟩ := HJ.out.2
                have h9 := HGX.out.1
                rw [hST] at h9
                rw [hq]
                exact h9.same fun b _ => rfl
              have hb5 : Below w.heap.size w (wr.drewN nq) := by
                obtain ⟨q, hq⟩ := HJ.out.2
                rw [hq]
                exact below_drewN (below_drewN HI.out.2 _) _
              have hs5 : (wr.drewN nq).heap.size = w0.heap.size := by
                obtain ⟨q, hq⟩ := HJ.out.2
                rw [hq]; rfl
              have hl5 := HGX.out.2.2.1
              have HSI := hid (And.intro hST (And.intro hSl (And.intro hTl (And.intro hins (And.intro hl5 HGX.out.2.2.2)))))
              have HA2 := hid HGX.out.2.1
              have H5 := hid (And.intro hg5 (And.intro hb5 hs5))
              have HU5 := hid (fun (w6 : World) (hb6 : Below w.heap.size w w6) (q : Nat) (hq : q < 10) => (hb6.cell (p := ⟨bb, oo + (j * 10 + q), none⟩) HUW.out.2).trans (HUW.out.1 q hq))
              clear hg5 hb5 hs5 hl5 hST hins HSTOP HJ HGX HI
              generalize wr.drewN nq = w5 at *
              have hSz : (S.length : Int) = ((j : Nat) : Int) := by rw [hSl]
              go_wp2_with (at_builtin; refine wpList_append_gx (W0 := w5) rowR rfl _ _ rfl w5.heap.size (.slice none 0 0) [] S (some ⟨b2, 0, none⟩) j _ rfl (GB.nil _ _) (by rw [hSl]; rfl) H5.out.1.left (fun h => by cases h) (by have := HSI.out.2.1; simp; omega) (Below.refl _ _) (Nat.le_refl _) ?_)
              intro v6 w6 hown6 hbel6 hgr6
              have hbw6 : Below w.heap.size w w6 := H5.out.2.1.trans (hbel6.mono H5.out.2.1.size)
              have hk0 := HU5.out w6 hbw6 0 (by omega)
              have hk1 := HU5.out w6 hbw6 1 (by omega)
              have hk2 := HU5.out w6 hbw6 2 (by omega)
              have hk3 := HU5.out w6 hbw6 3 (by omega)
              have hk4 := HU5.out w6 hbw6 4 (by omega)
              have hk5 := HU5.out w6 hbw6 5 (by omega)
              have hk6 := HU5.out w6 hbw6 6 (by omega)
              have hk7 := HU5.out w6 hbw6 7 (by omega)
              have hk8 := HU5.out w6 hbw6 8 (by omega)
              have hk9 := HU5.out w6 hbw6 9 (by omega)
              have q0 : w6.cell? ⟨bb, oo + j * 10, none⟩ = some (.int .i64 u.rank) := hk0
              have q1 : w6.cell? ⟨bb, oo + j * 10 + 1, none⟩ = some (.slice u.xa u.xn u.xc) := hk1
              have q2 : w6.cell? ⟨bb, oo + j * 10 + 2, none⟩ = some (.string (bs u.tg)) := hk2
              have q3 : w6.cell? ⟨bb, oo + j * 10 + 3, none⟩ = some (.int .i64 u.ap) := hk3
              have q4 : w6.cell? ⟨bb, oo + j * 10 + 4, none⟩ = some (.int .i64 u.st) := hk4
              have q5 : w6.cell? ⟨bb, oo + j * 10 + 5, none⟩ = some (.int .i64 u.dp) := hk5
              have q6 : w6.cell? ⟨bb, oo + j * 10 + 6, none⟩ = some (.int .i64 u.dt) := hk6
              have q7 : w6.cell? ⟨bb, oo + j * 10 + 7, none⟩ = some (.int .i64 u.mp) := hk7
              have q8 : w6.cell? ⟨bb, oo + j * 10 + 8, none⟩ = some (.string (bs u.mi)) := hk8
              have q9 : w6.cell? ⟨bb, oo + j * 10 + 9, none⟩ = some (.int .i64 u.sm) := hk9
              clear hk0 hk1 hk2 hk3 hk4 hk5 hk6 hk7 hk8 hk9
              have hbE := enew w6 (.cells #[.int .i64 u.rank, .slice u.xa u.xn u.xc, .string (bs u.tg), .int .i64 u.ap, .int .i64 u.st, .int .i64 u.dp, .int .i64 u.dt, .int .i64 u.mp, .string (bs u.mi), .int .i64 u.sm] 72)
              have HE := hid (And.intro (hbel6.trans (hbE.mono hbel6.size)) (And.intro (hown6.below hbE) (GX.one (x := u) (enc := encR) (k := 10) (Bk.new w6 72 #[.int .i64 u.rank, .slice u.xa u.xn u.xc, .string (bs u.tg), .int .i64 u.ap, .int .i64 u.st, .int .i64 u.dp, .int .i64 u.dt, .int .i64 u.mp, .string (bs u.mi), .int .i64 u.sm]) rfl)))
              clear hbE hown6 hbel6 hgr6 hbw6
              go_wp2_with (at_builtin; refine wpList_append_gx (W0 := w5) rowR rfl _ _ rfl w5.heap.size v6 ([] ++ S) [u] (some ⟨w6.heap.size, 0, none⟩) 1 _ rfl HE.out.2.1 rfl HE.out.2.2 (fun h => by cases h) (by have := HSI.out.2.1; simp; omega) HE.out.1 (Nat.le_refl _) ?_)
              intro v7 w7 hown7 hbel7 hgr7
              have hT7 : GX encR 10 w7 (fun b => w.heap.size ≤ b ∧ b < w0.heap.size) (some ⟨b2, 0, none⟩) T := by
                have hT0 : T = [] := List.eq_nil_of_length_eq_zero (by omega)
                rw [hT0]; exact GX.nil _ _ _
              have HG7 := hid (And.intro hown7 (And.intro hbel7 hT7))
              clear q0 q1 q2 q3 q4 q5 q6 q7 q8 q9 hown7 hbel7 hgr7 hT7
              go_wp2_with (at_builtin; refine wpList_append_gx (W0 := w5) rowR rfl _ _ rfl w5.heap.size v7 ([] ++ S ++ [u]) T (some ⟨b2, 0, none⟩) 0 _ rfl HG7.out.1 (by first | (rw [hTl, Nat.sub_self]; rfl) | (rw [hTl]; rfl)) HG7.out.2.2 (fun h => by cases h) (by have := HSI.out.2.1; have := HSI.out.2.2.1; simp; omega) HG7.out.2.1 (Nat.le_refl _) ?_)
              intro v8 w8 hown8 hbel8 hgr8
              have H8 := hid (And.intro hown8 hbel8)
              clear hown8 hbel8 hgr8
              go_wp2_with fail
              go_roundg (n - (j + 1))
              case measure => omega
              case rel =>
                refine ⟨j + 1, by go_num, by omega, by omega, ⟨?_, H5.out.2.1.trans (H8.out.2.mono H5.out.2.1.size)⟩⟩
                rw [take_snoc' U j u HU.out, ordB_snoc, HO.out, HSI.out.2.2.2.1]
                have h8 := H8.out.1.more H5.out.2.1.size
                simpa [List.append_assoc] using h8
            · have hcj2 : j < c2 := by omega
              obtain ⟨S, T, hST, hSl, hTl, hins⟩ : ∃ S T : List Ru, O = S ++ T ∧ S.length = j ∧ T.length = j - j ∧ insB rkR O u = S ++ u :: T := by
                have hO := HGX.out.2.2.1
                obtain ⟨h1, h2⟩ := while_at (p := fun y : Ru => decide (u.rank ≤ y.rank)) O j (by omega) (fun t h ht => decide_eq_true (HJ.out.1 t h ht)) (fun h => HSTOP.out h)
                refine ⟨O.take j, O.drop j, (List.take_append_drop _ _).symm, by rw [List.length_take]; omega, by rw [List.length_drop]; omega, ?_⟩
                have h3 : insB rkR O u = O.takeWhile (fun y => decide (u.rank ≤ y.rank)) ++ u :: O.dropWhile (fun y => decide (u.rank ≤ y.rank)) := rfl
                rw [h3, h1, h2]
              have hg5 : GX encR 10 (wr.drewN nq) (fun b => w.heap.size ≤ b ∧ b < w0.heap.size) (some ⟨b2, 0, none⟩) (S ++ T) := by
                obtain ⟨q, hq⟩ := HJ.out.2
                have h9 := HGX.out.1
                rw [hST] at h9
                rw [hq]
                exact h9.same fun b _ => rfl
              have hb5 : Below w.heap.size w (wr.drewN nq) := by
                obtain ⟨q, hq⟩ := HJ.out.2
                rw [hq]
                exact below_drewN (below_drewN HI.out.2 _) _
              have hs5 : (wr.drewN nq).heap.size = w0.heap.size := by
                obtain ⟨q, hq⟩ := HJ.out.2
                rw [hq]; rfl
              have hl5 := HGX.out.2.2.1
              have HSI := hid (And.intro hST (And.intro hSl (And.intro hTl (And.intro hins (And.intro hl5 HGX.out.2.2.2)))))
              have HA2 := hid HGX.out.2.1
              have H5 := hid (And.intro hg5 (And.intro hb5 hs5))
              have HU5 := hid (fun (w6 : World) (hb6 : Below w.heap.size w w6) (q : Nat) (hq : q < 10) => (hb6.cell (p := ⟨bb, oo + (j * 10 + q), none⟩) HUW.out.2).trans (HUW.out.1 q hq))
              clear hg5 hb5 hs5 hl5 hST hins HSTOP HJ HGX HI
              generalize wr.drewN nq = w5 at *
              have hSz : (S.length : Int) = ((j : Nat) : Int) := by rw [hSl]
              go_wp2_with (at_builtin; refine wpList_append_gx (W0 := w5) rowR rfl _ _ rfl w5.heap.size (.slice none 0 0) [] S (some ⟨b2, 0, none⟩) c2 _ rfl (GB.nil _ _) (by rw [hSl]; rfl) H5.out.1.left (fun h => by cases h) (by have := HSI.out.2.1; simp; omega) (Below.refl _ _) (Nat.le_refl _) ?_)
              intro v6 w6 hown6 hbel6 hgr6
              have hbw6 : Below w.heap.size w w6 := H5.out.2.1.trans (hbel6.mono H5.out.2.1.size)
              have hk0 := HU5.out w6 hbw6 0 (by omega)
              have hk1 := HU5.out w6 hbw6 1 (by omega)
              have hk2 := HU5.out w6 hbw6 2 (by omega)
              have hk3 := HU5.out w6 hbw6 3 (by omega)
              have hk4 := HU5.out w6 hbw6 4 (by omega)
              have hk5 := HU5.out w6 hbw6 5 (by omega)
              have hk6 := HU5.out w6 hbw6 6 (by omega)
              have hk7 := HU5.out w6 hbw6 7 (by omega)
              have hk8 := HU5.out w6 hbw6 8 (by omega)
              have hk9 := HU5.out w6 hbw6 9 (by omega)
              have q0 : w6.cell? ⟨bb, oo + j * 10, none⟩ = some (.int .i64 u.rank) := hk0
              have q1 : w6.cell? ⟨bb, oo + j * 10 + 1, none⟩ = some (.slice u.xa u.xn u.xc) := hk1
              have q2 : w6.cell? ⟨bb, oo + j * 10 + 2, none⟩ = some (.string (bs u.tg)) := hk2
              have q3 : w6.cell? ⟨bb, oo + j * 10 + 3, none⟩ = some (.int .i64 u.ap) := hk3
              have q4 : w6.cell? ⟨bb, oo + j * 10 + 4, none⟩ = some (.int .i64 u.st) := hk4
              have q5 : w6.cell? ⟨bb, oo + j * 10 + 5, none⟩ = some (.int .i64 u.dp) := hk5
              have q6 : w6.cell? ⟨bb, oo + j * 10 + 6, none⟩ = some (.int .i64 u.dt) := hk6
              have q7 : w6.cell? ⟨bb, oo + j * 10 + 7, none⟩ = some (.int .i64 u.mp) := hk7
              have q8 : w6.cell? ⟨bb, oo + j * 10 + 8, none⟩ = some (.string (bs u.mi)) := hk8
              have q9 : w6.cell? ⟨bb, oo + j * 10 + 9, none⟩ = some (.int .i64 u.sm) := hk9
              clear hk0 hk1 hk2 hk3 hk4 hk5 hk6 hk7 hk8 hk9
              have hbE := enew w6 (.cells #[.int .i64 u.rank, .slice u.xa u.xn u.xc, .string (bs u.tg), .int .i64 u.ap, .int .i64 u.st, .int .i64 u.dp, .int .i64 u.dt, .int .i64 u.mp, .string (bs u.mi), .int .i64 u.sm] 72)
              have HE := hid (And.intro (hbel6.trans (hbE.mono hbel6.size)) (And.intro (hown6.below hbE) (GX.one (x := u) (enc := encR) (k := 10) (Bk.new w6 72 #[.int .i64 u.rank, .slice u.xa u.xn u.xc, .string (bs u.tg), .int .i64 u.ap, .int .i64 u.st, .int .i64 u.dp, .int .i64 u.dt, .int .i64 u.mp, .string (bs u.mi), .int .i64 u.sm]) rfl)))
              clear hbE hown6 hbel6 hgr6 hbw6
              go_wp2_with (at_builtin; refine wpList_append_gx (W0 := w5) rowR rfl _ _ rfl w5.heap.size v6 ([] ++ S) [u] (some ⟨w6.heap.size, 0, none⟩) 1 _ rfl HE.out.2.1 rfl HE.out.2.2 (fun h => by cases h) (by have := HSI.out.2.1; simp; omega) HE.out.1 (Nat.le_refl _) ?_)
              intro v7 w7 hown7 hbel7 hgr7
              have hT7 : GX encR 10 w7 (fun b => w.heap.size ≤ b ∧ b < w0.heap.size) (some ⟨b2, j * 10, none⟩) T := by
                have hT0 : T = [] := List.eq_nil_of_length_eq_zero (by omega)
                rw [hT0]; exact GX.nil _ _ _
              have HG7 := hid (And.intro hown7 (And.intro hbel7 hT7))
              clear q0 q1 q2 q3 q4 q5 q6 q7 q8 q9 hown7 hbel7 hgr7 hT7
              go_wp2_with (at_builtin; refine wpList_append_gx (W0 := w5) rowR rfl _ _ rfl w5.heap.size v7 ([] ++ S ++ [u]) T (some ⟨b2, j * 10, none⟩) (c2 - j) _ rfl HG7.out.1 (by first | (rw [hTl, Nat.sub_self]; rfl) | (rw [hTl]; rfl)) HG7.out.2.2 (fun h => by cases h) (by have := HSI.out.2.1; have := HSI.out.2.2.1; simp; omega) HG7.out.2.1 (Nat.le_refl _) ?_)
              intro v8 w8 hown8 hbel8 hgr8
              have H8 := hid (And.intro hown8 hbel8)
              clear hown8 hbel8 hgr8
              go_wp2_with fail
              go_roundg (n - (j + 1))
              case measure => omega
              case rel =>
                refine ⟨j + 1, by go_num, by omega, by omega, ⟨?_, H5.out.2.1.trans (H8.out.2.mono H5.out.2.1.size)⟩⟩
                rw [take_snoc' U j u HU.out, ordB_snoc, HO.out, HSI.out.2.2.2.1]
                have h8 := H8.out.1.more H5.out.2.1.size
                simpa [List.append_assoc] using h8
    · obtain rfl : i = n := by omega
      have hltz : ¬ (i : Int) < (i : Int) := by omega
      have hf := HI.out.1
      rw [List.take_of_length_le (by have := HNU.out; omega)] at hf
      have HF := hid hf
      clear hf
      go_wp2_with fail
      go_returns
      exact ⟨_, rfl, HF.out, HI.out.2⟩
end Go.Proofs.YtelglcakekgdeaaGreatDoor
namespace Go.Proofs.YtelglcakekgdeaaGreatDoor
set_option linter.unusedVariables false
open Go.RowKit Go.Joins

/-- A variable that holds a config. -/
def BF (w : World) (g : Nat) (y : Value) (f : List UInt8) : Prop := Bk w g 41 #[y, .string (bs f)]
theorem BF.new (w : World) (y : Value) (f : List UInt8) : BF (w.alloc (.cells #[y, .string (bs f)] 41)) w.heap.size y f := Bk.new _ _ _
theorem BF.up {w w' : World} {g : Nat} {y : Value} {f : List UInt8} (k : BF w g y f) (hb : Below w.heap.size w w') : BF w' g y f := Bk.up k hb
theorem BF.cells {w : World} {g : Nat} {y : Value} {f : List UInt8} (k : BF w g y f) : w.cell? ⟨g, 0, none⟩ = some y ∧ w.cell? ⟨g, 1, none⟩ = some (.string (bs f)) := ⟨Bk.cell k 0, Bk.cell k 1⟩
theorem sem_of {U : List Ru} {i : Nat} {u : Ru} (hu : U[i]? = some u) : (U.map Ru.sem)[i]? = some u.sem := by
  rw [List.getElem?_map, hu]; rfl
end Go.Proofs.YtelglcakekgdeaaGreatDoor
