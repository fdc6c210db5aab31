/- Texts put together: Ei Rr Rd Rf Rc Rv Qc Ki. -/
import Derived.Test.YtgkegpdmidcmoaaG15
import Derived.Test.YtgkegpdmidcmoaaG16
import Derived.Deep.RegionHeld3
import Derived.Test.YtgkegpdmidcmoaaG02
import Derived.StillTailTactics
import Derived.BigQuiet
import Derived.Test.YtgkegpdmidcmoaaG14
namespace Go.Proofs.Ytgkegpdmidcmoaa
set_option linter.unusedVariables false
set_option linter.unusedSimpArgs false
open Go.RowKit Go.Joins

def encP (e : Pd) : List Value := [.int .i64 e.k, .string (bs e.n), .string (bs e.v)]
theorem encP_len (e : Pd) : (encP e).length = 3 := rfl
theorem rowP : RowT Try.prog encP 3 45 69 (.agg #[.int .i64 0, .string ByteArray.empty, .string ByteArray.empty]) 40 where
  ht := Try.underlying45
  inf := by kernel_rfl
  hzs := rfl
  k0 := by decide
  hk := encP_len
  h1 := fun x u hu => by
    simp [encP] at hu
    rcases hu with rfl | rfl | rfl <;> rfl
  hb := by decide
theorem PX.gx {w : World} {N : Nat → Prop} {A : Option Addr} {L : List Pd} (h : PX w N A L) : GX encP 3 w N A L := by
  intro i hi
  obtain ⟨b, o, e, h1, c0, c1, c2⟩ := h i hi
  refine ⟨b, o, e, h1, fun j hj => ?_⟩
  match j, hj with
  | 0, _ => exact c0
  | 1, _ => rw [← Nat.add_assoc]; exact c1
  | 2, _ => rw [← Nat.add_assoc]; exact c2
theorem GX.px {w : World} {N : Nat → Prop} {A : Option Addr} {L : List Pd} (h : GX encP 3 w N A L) : PX w N A L := by
  intro i hi
  obtain ⟨b, o, e, h1, h2⟩ := h i hi
  refine ⟨b, o, e, h1, ?_, ?_, ?_⟩
  · exact h2 0 (by omega)
  · rw [Nat.add_assoc]; exact h2 1 (by omega)
  · rw [Nat.add_assoc]; exact h2 2 (by omega)
theorem keepBP {w v w' : World} {g : Nat} {k : Int} {n s : List UInt8} (h : BP v g k n s) (hz : Below v.heap.size v w') : w'.cell? ⟨g, 0, none⟩ = some (.int .i64 k) ∧ w'.cell? ⟨g, 1, none⟩ = some (.string (bs n)) ∧ w'.cell? ⟨g, 2, none⟩ = some (.string (bs s)) ∧ Below v.heap.size v w' := by
  obtain ⟨a, b, c⟩ := (h.up hz).cells
  exact ⟨a, b, c, hz⟩
theorem keepPQ {v w' : World} {g g2 : Nat} {k : Int} {n s m h p b : List UInt8} {x : Value} (h1 : BP v g k n s) (h2 : BQ v g2 m h p x b) (hz : Below v.heap.size v w') :
    w'.cell? ⟨g, 0, none⟩ = some (.int .i64 k) ∧ w'.cell? ⟨g, 1, none⟩ = some (.string (bs n)) ∧ w'.cell? ⟨g, 2, none⟩ = some (.string (bs s)) ∧ w'.cell? ⟨g2, 0, none⟩ = some (.string (bs m)) ∧ w'.cell? ⟨g2, 1, none⟩ = some (.string (bs h)) ∧ w'.cell? ⟨g2, 2, none⟩ = some (.string (bs p)) ∧ w'.cell? ⟨g2, 3, none⟩ = some x ∧ w'.cell? ⟨g2, 4, none⟩ = some (.string (bs b)) ∧ Below v.heap.size v w' := by
  obtain ⟨a, b, c⟩ := (h1.up hz).cells
  obtain ⟨q0, q1, q2, q3, q4⟩ := (h2.up hz).cells
  exact ⟨a, b, c, q0, q1, q2, q3, q4, hz⟩
end Go.Proofs.Ytgkegpdmidcmoaa
namespace Go.Proofs.Ytgkegpdmidcmoaa
set_option linter.unusedVariables false
set_option linter.unusedSimpArgs false
open Go.RowKit Go.Joins

theorem rowR : RowT Try.prog encR 10 31 47 (.agg #[.int .i64 0, .slice none 0 0, .string ByteArray.empty, .int .i64 0, .int .i64 0, .int .i64 0, .int .i64 0, .int .i64 0, .string ByteArray.empty, .int .i64 0]) 112 where
  ht := Try.underlying31
  inf := by kernel_rfl
  hzs := rfl
  k0 := by decide
  hk := encR_len
  h1 := encR_one
  hb := by decide
/-- What the rules' predicates are, read at blocks that N allows. -/
def RP (w : World) (N : Nat → Prop) (U : List Ru) : Prop := ∀ u ∈ U, PV w N u.x u.ps
theorem RP.imp {w : World} {N M : Nat → Prop} {U : List Ru} (h : RP w N U) (hn : ∀ b, N b → M b) : RP w M U := fun u hu => (h u hu).imp hn
theorem RP.same {w w' : World} {N : Nat → Prop} {U : List Ru} (h : RP w N U) (hs : ∀ b, N b → w'.heap[b]? = w.heap[b]?) : RP w' N U := fun u hu => (h u hu).same hs
theorem RP.up {w w' : World} {U : List Ru} (h : RP w (· < w.heap.size) U) (hb : Below w.heap.size w w') : RP w' (· < w'.heap.size) U := fun u hu => (h u hu).up hb
theorem RP.sub {w : World} {N : Nat → Prop} {U V : List Ru} (h : RP w N U) (hs : ∀ u ∈ V, u ∈ U) : RP w N V := fun u hu => h u (hs u hu)
/-- A slice of rules, as a value that can be read. -/
def RV (w : World) (y : Value) (U : List Ru) : Prop := ∃ A c, y = .slice A U.length c ∧ GX encR 10 w (· < w.heap.size) A U ∧ RP w (· < w.heap.size) U ∧ (A = none → c = 0) ∧ U.length ≤ c ∧ U.length ≤ 9223372036854775807
theorem RV.up {w w' : World} {y : Value} {U : List Ru} (h : RV w y U) (hb : Below w.heap.size w w') : RV w' y U := by
  obtain ⟨A, c, e, h1, h2, h3⟩ := h
  exact ⟨A, c, e, h1.up hb, h2.up hb, h3⟩
theorem eqnil (t e : TypeId) (ht : Try.prog.underlying t = some (.slice e)) (a : Option Addr) (n c : Nat) (w : World) : (binOp .eql t (.slice a n c) (.slice none 0 0)).run Try.prog w = .ok (.bool a.isNone) w := by
  simp only [binOp]
  simp [run_equal_slice_nil w t e a n c ht]
end Go.Proofs.Ytgkegpdmidcmoaa
namespace Go.Proofs.Ytgkegpdmidcmoaa
set_option linter.unusedVariables false
set_option linter.unusedSimpArgs false
open Go.RowKit Go.Joins

/-- A variable that holds a rule. -/
def BR (w : World) (g : Nat) (u : Ru) : Prop := Bk w g 47 #[.int .i64 u.rank, .slice u.xa u.xn u.xc, .string (bs u.tg), .int .i64 u.ap, .int .i64 u.st, .int .i64 u.dp, .int .i64 u.dt, .int .i64 u.mp, .string (bs u.mi), .int .i64 u.sm]
theorem BR.new (w : World) (u : Ru) : BR (w.alloc (.cells #[.int .i64 u.rank, .slice u.xa u.xn u.xc, .string (bs u.tg), .int .i64 u.ap, .int .i64 u.st, .int .i64 u.dp, .int .i64 u.dt, .int .i64 u.mp, .string (bs u.mi), .int .i64 u.sm] 47)) w.heap.size u := Bk.new _ _ _
theorem BR.up {w w' : World} {g : Nat} {u : Ru} (k : BR w g u) (hb : Below w.heap.size w w') : BR w' g u := Bk.up k hb
theorem BR.cells {w : World} {g : Nat} {u : Ru} (k : BR w g u) : w.cell? ⟨g, 0, none⟩ = some (.int .i64 u.rank) ∧ w.cell? ⟨g, 1, none⟩ = some (.slice u.xa u.xn u.xc) ∧ w.cell? ⟨g, 2, none⟩ = some (.string (bs u.tg)) ∧ w.cell? ⟨g, 3, none⟩ = some (.int .i64 u.ap) ∧ w.cell? ⟨g, 4, none⟩ = some (.int .i64 u.st) ∧ w.cell? ⟨g, 5, none⟩ = some (.int .i64 u.dp) ∧ w.cell? ⟨g, 6, none⟩ = some (.int .i64 u.dt) ∧ w.cell? ⟨g, 7, none⟩ = some (.int .i64 u.mp) ∧ w.cell? ⟨g, 8, none⟩ = some (.string (bs u.mi)) ∧ w.cell? ⟨g, 9, none⟩ = some (.int .i64 u.sm) :=
  ⟨Bk.cell k 0, Bk.cell k 1, Bk.cell k 2, Bk.cell k 3, Bk.cell k 4, Bk.cell k 5, Bk.cell k 6, Bk.cell k 7, Bk.cell k 8, Bk.cell k 9⟩
/-- A rule's predicates, read where they lie. -/
def UV (w : World) (u : Ru) : Prop := PV w (· < w.heap.size) u.x u.ps
theorem UV.up {w w' : World} {u : Ru} (h : UV w u) (hb : Below w.heap.size w w') : UV w' u := PV.up h hb
theorem UV.out {w : World} {u : Ru} (h : UV w u) : u.xn = u.ps.length ∧ PX w (· < w.heap.size) u.xa u.ps ∧ (u.xa = none → u.xc = 0) ∧ u.ps.length ≤ u.xc ∧ u.ps.length ≤ 9223372036854775807 := by
  obtain ⟨A, c, e, h1, h2, h3, h4⟩ := h
  injection e with e1 e2 e3
  subst e1
  subst e3
  exact ⟨e2, h1, h2, h3, h4⟩
set_option maxRecDepth 100000 in
set_option maxHeartbeats 4000000 in
theorem hits_any (u : Ru) (m h p b : List UInt8) (x : Value) (L : List Hd) (w : World) (hu : UV w u) (hx : HV w x L) (hL : L.length ≤ 1000000) {z : Bool} (H : Hid (allE u.ps m h p L = z)) :
    Calls Try.prog 41 #[.agg #[.int .i64 u.rank, .slice u.xa u.xn u.xc, .string (bs u.tg), .int .i64 u.ap, .int .i64 u.st, .int .i64 u.dp, .int .i64 u.dt, .int .i64 u.mp, .string (bs u.mi), .int .i64 u.sm], .agg #[.string (bs m), .string (bs h), .string (bs p), x, .string (bs b)]] w fun e w' => e = .returned (.bool z) ∧ Below w.heap.size w w' := by
  have hb1 := enew w (.cells #[.int .i64 u.rank, .slice u.xa u.xn u.xc, .string (bs u.tg), .int .i64 u.ap, .int .i64 u.st, .int .i64 u.dp, .int .i64 u.dt, .int .i64 u.mp, .string (bs u.mi), .int .i64 u.sm] 47)
  have hb0 := estep hb1 (enew _ (.cells #[.string (bs m), .string (bs h), .string (bs p), x, .string (bs b)] 36))
  have hr0 := (BR.new w u).up (enew _ (.cells #[.string (bs m), .string (bs h), .string (bs p), x, .string (bs b)] 36))
  have hq0 := BQ.new (w.alloc (.cells #[.int .i64 u.rank, .slice u.xa u.xn u.xc, .string (bs u.tg), .int .i64 u.ap, .int .i64 u.st, .int .i64 u.dp, .int .i64 u.dt, .int .i64 u.mp, .string (bs u.mi), .int .i64 u.sm] 47)) m h p x b
  rw [World.size_alloc] at hq0
  obtain ⟨hn, hpx, _, _, hl9⟩ := (hu.up hb0).out
  have hx0 := hx.up hb0
  have HA := hid (fun w2 (h1 : PX w2 (· < w2.heap.size) u.xa u.ps) (h2 : HV w2 x L) => all_any m h p b x L u.xa u.xc u.ps w2 h1 hl9 h2 hL H)
  rw [← hn] at HA
  clear hu hx hb1 hn
  go_enter Try.func41, Try.ntmps41
  go_upto_region 1 with (fail)
  generalize (w.alloc (.cells #[.int .i64 u.rank, .slice u.xa u.xn u.xc, .string (bs u.tg), .int .i64 u.ap, .int .i64 u.st, .int .i64 u.dp, .int .i64 u.dt, .int .i64 u.mp, .string (bs u.mi), .int .i64 u.sm] 47)).alloc (.cells #[.string (bs m), .string (bs h), .string (bs p), x, .string (bs b)] 36) = v0 at *
  obtain ⟨-, r1, -⟩ := hr0.cells
  obtain ⟨q0, q1, q2, q3, q4⟩ := hq0.cells
  go_wp2_with fail
  refine (HA.out _ hpx hx0).mono ?_
  rintro e w1 ⟨rfl, hb2⟩
  go_wp2_with fail
  go_returns
  exact ⟨rfl, estep hb0 hb2⟩
set_option maxRecDepth 100000 in
set_option maxHeartbeats 4000000 in
theorem rhits_any (u : Ru) (m h p b : List UInt8) (x : Value) (L : List Hd) (w : World) (hu : UV w u) (hsm : smallP u.ps) (hx : HV w x L) (hL : L.length ≤ 1000000) (hpl : p.length ≤ 140737488351232) {z : Bool} (H : Hid (allE u.ps m h p L = z)) :
    Calls Try.prog 33 #[.agg #[.int .i64 u.rank, .slice u.xa u.xn u.xc, .string (bs u.tg), .int .i64 u.ap, .int .i64 u.st, .int .i64 u.dp, .int .i64 u.dt, .int .i64 u.mp, .string (bs u.mi), .int .i64 u.sm], .agg #[.string (bs m), .string (bs h), .string (bs p), x, .string (bs b)]] w fun e w' => e = .returned (.bool z) ∧ Below w.heap.size w w' := by
  have hb1 := enew w (.cells #[.int .i64 u.rank, .slice u.xa u.xn u.xc, .string (bs u.tg), .int .i64 u.ap, .int .i64 u.st, .int .i64 u.dp, .int .i64 u.dt, .int .i64 u.mp, .string (bs u.mi), .int .i64 u.sm] 47)
  have hb0 := estep hb1 (enew _ (.cells #[.string (bs m), .string (bs h), .string (bs p), x, .string (bs b)] 36))
  have hr0 := (BR.new w u).up (enew _ (.cells #[.string (bs m), .string (bs h), .string (bs p), x, .string (bs b)] 36))
  have hq0 := BQ.new (w.alloc (.cells #[.int .i64 u.rank, .slice u.xa u.xn u.xc, .string (bs u.tg), .int .i64 u.ap, .int .i64 u.st, .int .i64 u.dp, .int .i64 u.dt, .int .i64 u.mp, .string (bs u.mi), .int .i64 u.sm] 47)) m h p x b
  rw [World.size_alloc] at hq0
  obtain ⟨hn, hpx, _, _, hl9⟩ := (hu.up hb0).out
  have hx0 := hx.up hb0
  have HA := hid (fun w2 (h1 : PX w2 (· < w2.heap.size) u.xa u.ps) (h2 : HV w2 x L) => rallp_any m h p b x L u.xa u.xc u.ps w2 h1 hl9 hsm h2 hL hpl H)
  rw [← hn] at HA
  clear hu hx hb1 hn
  go_enter Try.func33, Try.ntmps33
  go_upto_region 1 with (fail)
  generalize (w.alloc (.cells #[.int .i64 u.rank, .slice u.xa u.xn u.xc, .string (bs u.tg), .int .i64 u.ap, .int .i64 u.st, .int .i64 u.dp, .int .i64 u.dt, .int .i64 u.mp, .string (bs u.mi), .int .i64 u.sm] 47)).alloc (.cells #[.string (bs m), .string (bs h), .string (bs p), x, .string (bs b)] 36) = v0 at *
  obtain ⟨-, r1, -⟩ := hr0.cells
  obtain ⟨q0, q1, q2, q3, q4⟩ := hq0.cells
  go_wp2_with fail
  refine (HA.out _ hpx hx0).mono ?_
  rintro e w1 ⟨rfl, hb2⟩
  go_wp2_with fail
  go_returns
  exact ⟨rfl, estep hb0 hb2⟩
/-- The place of the rule that hits, of the first k rules. -/
def fstK (hit : Ru → Bool) (U : List Ru) : Nat → Option Nat
  | 0 => none
  | k + 1 => match U[k]? with
    | none => fstK hit U k
    | some u => if hit u = true then (match fstK hit U k with | none => some k | some j => if kat rkR U j < u.rank then some k else some j) else fstK hit U k
def fstI (o : Option Nat) : Int := match o with | none => -1 | some j => j
theorem fstK_lt {hit : Ru → Bool} {U : List Ru} : ∀ {k j : Nat}, fstK hit U k = some j → j < k ∧ j < U.length
  | 0, j, h => by simp [fstK] at h
  | k + 1, j, h => by
    rw [fstK] at h
    cases hu : U[k]? with
    | none => rw [hu] at h; have := fstK_lt h; omega
    | some u =>
      rw [hu] at h
      have hk := (List.getElem?_eq_some_iff.1 hu).1
      simp only at h
      by_cases hh : hit u = true
      · rw [if_pos hh] at h
        cases hf : fstK hit U k with
        | none => rw [hf] at h; simp at h; omega
        | some i =>
          rw [hf] at h
          simp only at h
          have h1 := fstK_lt hf
          split at h
          · simp at h; omega
          · simp at h; omega
      · rw [if_neg hh] at h; have := fstK_lt h; omega
end Go.Proofs.Ytgkegpdmidcmoaa
namespace Go.Proofs.Ytgkegpdmidcmoaa
set_option linter.unusedVariables false
set_option linter.unusedSimpArgs false
open Go.RowKit Go.Joins

/-- A world that has all that v has, and may have more. -/
structure BW (v : World) where
  w : World
  h : Below v.heap.size v w
instance BW.instNonempty (v : World) : Nonempty (BW v) := ⟨⟨v, Below.refl _ _⟩⟩
theorem wp_region_bw {P : Program} {id : Nat} {Q : Exit → Act → World → Prop} {a : Act} {w : World} {l : List Oper} (hm : P.follows .mixedOrders = true) (hB : Region.lexB .any l.toArray = true) (h : wpQuiet P l.toArray (fun w' => ∃ p : BW w, w' = p.w) (fun a' => ∀ w', (∃ p : BW w, w' = p.w) → Q .normal a' w') l a) : (Code.region id l.toArray true).wp P Q a w :=
  wp_region_quiet (C := fun w' => ∃ p : BW w, w' = p.w) hm hB ⟨⟨_, (Below.refl _ _).drew⟩, rfl⟩ (by simpa using h)
theorem calls_bw {P : Program} {f : FuncId} {args : Array Value} {v0 : World} {p : BW v0} {v : Value} (h : Calls P f args p.w fun e w' => e = .returned v ∧ Below p.w.heap.size p.w w') : Calls P f args p.w fun e w'' => e = .returned v ∧ ∃ q : BW v0, w'' = q.w :=
  h.mono fun _ _ ⟨he, hb⟩ => ⟨he, ⟨_, p.h.trans (hb.mono p.h.size)⟩, rfl⟩
theorem BW.cell {v : World} {a : Addr} {x : Value} (h : v.cell? a = some x) (p : BW v) : p.w.cell? a = some x :=
  (p.h.cell (lt_of_cell h)).trans h
end Go.Proofs.Ytgkegpdmidcmoaa
namespace Go.Proofs.Ytgkegpdmidcmoaa
set_option linter.unusedVariables false
set_option linter.unusedSimpArgs false
open Go.RowKit Go.Joins

theorem GX.left {w : World} {N : Nat → Prop} {A : Option Addr} {S T : List Ru} (h : GX encR 10 w N A (S ++ T)) : GX encR 10 w N A S := by
  have := h.take S.length
  rwa [List.take_left] at this
theorem GX.right {w : World} {N : Nat → Prop} {b o : Nat} {S T : List Ru} (h : GX encR 10 w N (some ⟨b, o, none⟩) (S ++ T)) : GX encR 10 w N (some ⟨b, o + S.length * 10, none⟩) T := by
  have := h.drop S.length
  rwa [List.drop_left] at this
theorem GX.right' {w w' : World} {N : Nat → Prop} {b o : Nat} {S T : List Ru} (h : GX encR 10 w N (some ⟨b, o, none⟩) (S ++ T)) (hs : ∀ b, N b → w'.heap[b]? = w.heap[b]?) : GX encR 10 w' N (some ⟨b, o + S.length * 10, none⟩) T := h.right.same hs
theorem GX.right'N {w w' : World} {N : Nat → Prop} {S T : List Ru} (h : GX encR 10 w N none (S ++ T)) (hs : ∀ b, N b → w'.heap[b]? = w.heap[b]?) : GX encR 10 w' N none T := by
  have : T = [] := by
    rcases T with _ | ⟨x, r⟩
    · rfl
    · obtain ⟨b, o, e, _⟩ := h S.length (by simp)
      cases e
  subst this
  exact GX.nil _ _ _
theorem take_snoc' {α : Type} (L : List α) (i : Nat) (x : α) (h : L[i]? = some x) : L.take (i + 1) = L.take i ++ [x] := by
  obtain ⟨hi, rfl⟩ := List.getElem?_eq_some_iff.1 h
  exact List.take_succ_eq_append_getElem hi
theorem ordB_snoc (L : List Ru) (u : Ru) : ordB rkR (L ++ [u]) = insB rkR (ordB rkR L) u := by
  unfold ordB
  rw [List.foldl_append]; rfl
theorem GB.reads2 {w : World} {base : Nat} {v : Value} {L : List Ru} (h : GB encR 10 47 w base v L) : ∃ A cap, v = .slice A L.length cap ∧ GX encR 10 w (fun b => base ≤ b ∧ b < w.heap.size) A L ∧ (A = none → cap = 0) ∧ L.length ≤ cap ∧ cap ≤ maxLen ∧ (A = none ∨ ∃ g, A = some ⟨g, 0, none⟩) := by
  obtain ⟨A, cap, e, h1, h2, h3, h4⟩ := GB.reads encR_len h
  refine ⟨A, cap, e, h1, h2, h3, h4, ?_⟩
  rcases GB.form encR_len h with ⟨e1, _⟩ | ⟨g, c, e1, _⟩
  · rw [e1] at e
    injection e with e2
    exact Or.inl e2.symm
  · rw [e1] at e
    injection e with e2
    exact Or.inr ⟨g, e2.symm⟩
end Go.Proofs.Ytgkegpdmidcmoaa
namespace Go.Proofs.Ytgkegpdmidcmoaa
set_option linter.unusedVariables false
open Go.RowKit Go.ChangeShapes Go.WideShapes Go.Deep Go.Joins
section
variable {H : Type} {enc : TypeId × Value → H} {P : Program} {w : World} {base : Nat}

/-- The types of a rule, as the program has them. -/
structure RuT (P : Program) (t l q i u : TypeId) (f0 f1 f2 f3 f4 f5 f6 f7 f8 f9 g0 g1 g2 : Field) : Prop where
  ht : P.underlying t = some (.struct #[f0, f1, f2, f3, f4, f5, f6, f7, f8, f9])
  hl : P.underlying l = some (.slice q)
  pd : PdT P q i u g0 g1 g2
  ct : P.cellsOf t = 10
  cl : P.cellsOf l = 1
  ty : f0.type = i ∧ f1.type = l ∧ f2.type = u ∧ f3.type = i ∧ f4.type = i ∧ f5.type = i ∧ f6.type = i ∧ f7.type = i ∧ f8.type = u ∧ f9.type = i
  off : f0.offset = 0 ∧ f1.offset = 1 ∧ f2.offset = 2 ∧ f3.offset = 3 ∧ f4.offset = 4 ∧ f5.offset = 5 ∧ f6.offset = 6 ∧ f7.offset = 7 ∧ f8.offset = 8 ∧ f9.offset = 9
theorem ru_of {t l q i u : TypeId} {f0 f1 f2 f3 f4 f5 f6 f7 f8 f9 g0 g1 g2 : Field} (T : RuT P t l q i u f0 f1 f2 f3 f4 f5 f6 f7 f8 f9 g0 g1 g2) {fuel : Nat} {cs : List Value} {x : DataW H × List MemPlace}
    (h : DataW.trod enc P w base (fun _ => true) true fuel t cs = some x) (hz : Sized P t x.1) : ∃ (y : Value) (s : Rs), okRs s ∧ PV w (· < w.heap.size) y s.ps ∧ cs = [.int .i64 s.rank, y, .string (bs s.tg), .int .i64 s.ap, .int .i64 s.st, .int .i64 s.dp, .int .i64 s.dt, .int .i64 s.mp, .string (bs s.mi), .int .i64 s.sm] := by
  obtain ⟨xs, n, _, hx, hl, hlen, hgg⟩ := DataW.trod_struct T.ht h
  rw [T.ct] at hl
  obtain ⟨t0, t1, t2, t3, t4, t5, t6, t7, t8, t9⟩ := T.ty
  obtain ⟨o0, o1, o2, o3, o4, o5, o6, o7, o8, o9⟩ := T.off
  match cs, hl, xs, hlen with
  | [c0, c1, c2, c3, c4, c5, c6, c7, c8, c9], _, [y0, y1, y2, y3, y4, y5, y6, y7, y8, y9], _ =>
    have h0 := hgg 0 f0 rfl
    have h1 := hgg 1 f1 rfl
    have h2 := hgg 2 f2 rfl
    have h3 := hgg 3 f3 rfl
    have h4 := hgg 4 f4 rfl
    have h5 := hgg 5 f5 rfl
    have h6 := hgg 6 f6 rfl
    have h7 := hgg 7 f7 rfl
    have h8 := hgg 8 f8 rfl
    have h9 := hgg 9 f9 rfl
    rw [t0, o0, T.pd.ci] at h0
    rw [t1, o1, T.cl] at h1
    rw [t2, o2, T.pd.cu] at h2
    rw [t3, o3, T.pd.ci] at h3
    rw [t4, o4, T.pd.ci] at h4
    rw [t5, o5, T.pd.ci] at h5
    rw [t6, o6, T.pd.ci] at h6
    rw [t7, o7, T.pd.ci] at h7
    rw [t8, o8, T.pd.cu] at h8
    rw [t9, o9, T.pd.ci] at h9
    obtain ⟨a0, ea0, _, _⟩ := DataW.trod_int T.pd.hi h0
    obtain ⟨a3, ea3, _, _⟩ := DataW.trod_int T.pd.hi h3
    obtain ⟨a4, ea4, _, _⟩ := DataW.trod_int T.pd.hi h4
    obtain ⟨a5, ea5, _, _⟩ := DataW.trod_int T.pd.hi h5
    obtain ⟨a6, ea6, _, _⟩ := DataW.trod_int T.pd.hi h6
    obtain ⟨a7, ea7, _, _⟩ := DataW.trod_int T.pd.hi h7
    obtain ⟨a9, ea9, _, _⟩ := DataW.trod_int T.pd.hi h9
    rw [hx] at hz
    obtain ⟨y, L, ey, hy, hL⟩ := preds_of T.pd T.hl h1 (by have := esized_part hz T.ht (j := 1) (f := f1) (d := y1.1) rfl rfl; rw [t1] at this; exact this)
    obtain ⟨n2, en2, an2⟩ := str_of T.pd.hu h2
    have z2 := esized_part hz T.ht (j := 2) (f := f2) (d := y2.1) rfl rfl
    rw [an2] at z2
    obtain ⟨n8, en8, an8⟩ := str_of T.pd.hu h8
    have z8 := esized_part hz T.ht (j := 8) (f := f8) (d := y8.1) rfl rfl
    rw [an8] at z8
    have ec0 : c0 = .int .i64 a0 := by simpa using ea0
    have ec3 : c3 = .int .i64 a3 := by simpa using ea3
    have ec4 : c4 = .int .i64 a4 := by simpa using ea4
    have ec5 : c5 = .int .i64 a5 := by simpa using ea5
    have ec6 : c6 = .int .i64 a6 := by simpa using ea6
    have ec7 : c7 = .int .i64 a7 := by simpa using ea7
    have ec9 : c9 = .int .i64 a9 := by simpa using ea9
    have ec1 : c1 = y := by simpa using ey
    exact ⟨y, ⟨a0, L, n2, a3, a4, a5, a6, a7, n8, a9⟩, ⟨hL, z2.str, z8.str, by obtain ⟨_, _, _, _, _, _, h9⟩ := hy; exact h9⟩, hy, by rw [ec0, ec1, en2, ec3, ec4, ec5, ec6, ec7, en8, ec9]⟩
theorem open_RU {r : Reach} {b0 : Nat} {t l q i u : TypeId} {f0 f1 f2 f3 f4 f5 f6 f7 f8 f9 g0 g1 g2 : Field} (T : RuT P t l q i u f0 f1 f2 f3 f4 f5 f6 f7 f8 f9 g0 g1 g2) {v : Value} {d : DataW H} {p : List MemPlace} (hz : Sized P t d) (hv : Value.okWide P w r b0 t v) (h : DataW.Trod enc P w base (fun _ => true) true t v d p) :
    ∃ (y : Value) (s : Rs), v = .agg #[.int .i64 s.rank, y, .string (bs s.tg), .int .i64 s.ap, .int .i64 s.st, .int .i64 s.dp, .int .i64 s.dt, .int .i64 s.mp, .string (bs s.mi), .int .i64 s.sm] ∧ PV w (· < w.heap.size) y s.ps ∧ okRs s := by
  obtain ⟨cs, rfl, _⟩ := okWide_struct T.ht hv
  obtain ⟨fuel, hf⟩ := h
  obtain ⟨y, s, hs, hy, hc⟩ := ru_of T (x := (d, p)) hf hz
  refine ⟨y, s, ?_, hy, hs⟩
  have : cs = #[.int .i64 s.rank, y, .string (bs s.tg), .int .i64 s.ap, .int .i64 s.st, .int .i64 s.dp, .int .i64 s.dt, .int .i64 s.mp, .string (bs s.mi), .int .i64 s.sm] := by
    apply Array.toList_inj.1
    simpa [Value.cells] using hc
  rw [this]
end
end Go.Proofs.Ytgkegpdmidcmoaa
namespace Go.Proofs.Ytgkegpdmidcmoaa
set_option linter.unusedVariables false
open Go.RowKit Go.ChangeShapes Go.WideShapes Go.Deep Go.Joins
section
variable {H : Type} {enc : TypeId × Value → H} {P : Program} {w : World} {base : Nat}

theorem rv_one {t l q i u : TypeId} {f0 f1 f2 f3 f4 f5 f6 f7 f8 f9 g0 g1 g2 : Field} (T : RuT P t l q i u f0 f1 f2 f3 f4 f5 f6 f7 f8 f9 g0 g1 g2) {fuel : Nat} {cs : List Value} {x : DataW H × List MemPlace}
    (h : DataW.trod enc P w base (fun _ => true) true fuel t cs = some x) (hz : Sized P t x.1) : ∃ r : Ru, (okRs r.sem ∧ PV w (· < w.heap.size) r.x r.ps) ∧ cs = encR r := by
  obtain ⟨y, s, hs, hy, hc⟩ := ru_of T h hz
  obtain ⟨A, c, e, h1⟩ := hy
  exact ⟨⟨s.rank, A, s.ps.length, c, s.ps, s.tg, s.ap, s.st, s.dp, s.dt, s.mp, s.mi, s.sm⟩, ⟨hs, ⟨A, c, rfl, h1⟩⟩, by rw [hc, e]; rfl⟩
theorem rv_nil (w : World) : RV w (.slice none 0 0) [] := ⟨none, 0, rfl, GX.nil _ _ _, fun u hu => (by cases hu), fun _ => rfl, Nat.le_refl _, by simp⟩
theorem rules_of {ts t l q i u : TypeId} {f0 f1 f2 f3 f4 f5 f6 f7 f8 f9 g0 g1 g2 : Field} (T : RuT P t l q i u f0 f1 f2 f3 f4 f5 f6 f7 f8 f9 g0 g1 g2) (hts : P.underlying ts = some (.slice t)) {fuel : Nat} {cs : List Value} {x : DataW H × List MemPlace}
    (h : DataW.trod enc P w base (fun _ => true) true fuel ts cs = some x) (hz : Sized P ts x.1) :
    ∃ (v : Value) (U : List Ru), cs = [v] ∧ RV w v U ∧ ∀ u ∈ U, okRs u.sem := by
  rcases open_slice hts h with ⟨h0, _⟩ | ⟨a, len, cap, m, n, D, Pl, hcs, _, hl, hm, hmm, hx0, hx⟩
  · exact ⟨.slice none 0 0, [], h0, rv_nil w, by simp⟩
  · simp only [if_true] at hmm
    subst hmm
    rw [hx0] at hz
    have each : ∀ i, i < len → ∃ s : Ru, (okRs s.sem ∧ PV w (· < w.heap.size) s.x s.ps) ∧ ∃ cs', w.cells? base (a.add (i * 10)) 10 = some cs' ∧ cs' = encR s := fun i hi => by
      obtain ⟨cs', h1, h2⟩ := hx i (by omega)
      rw [T.ct] at h1
      obtain ⟨s, hs, hc⟩ := rv_one T h2 (hz.elem hts (d := D i) (List.mem_map.2 ⟨i, List.mem_range.2 hi, rfl⟩))
      exact ⟨s, hs, cs', h1, hc⟩
    haveI : Inhabited Ru := ⟨⟨0, none, 0, 0, [], [], 0, 0, 0, 0, 0, [], 0⟩⟩
    obtain ⟨F, hF⟩ := choose_lt each
    have hlen : ((List.range len).map F).length = len := by simp
    refine ⟨.slice (some a) len m, (List.range len).map F, hcs, ⟨some a, m, by rw [hlen], (fun k hk => ?_), (fun s hs => ?_), (fun h => by cases h), by rw [hlen]; exact hl, by rw [hlen]; unfold maxLen at hm; omega⟩, fun s hs => ?_⟩
    · rw [hlen] at hk
      obtain ⟨_, cs', h1, h2⟩ := hF k hk
      obtain ⟨_, hl', hcell⟩ := World.cells?_some h1
      have hz0 := hF 0 (by omega)
      obtain ⟨_, cs0, y1, y2⟩ := hz0
      obtain ⟨_, _, ycell⟩ := World.cells?_some y1
      have hc00 := ycell 0 (by omega)
      rw [y2] at hc00
      have hpl := plain_of_cell hc00
      simp only [Nat.zero_mul, Addr.add, if_true] at hpl
      have hat : ∀ j, j < 10 → w.cell? ⟨a.block, a.off + (k * 10 + j), none⟩ = cs'[j]? := fun j hj => by
        have := hcell j hj
        rw [hpl, add_add, Addr.add_lit] at this
        exact this
      rw [h2] at hat
      have hlt : a.block < w.heap.size := lt_of_cell (a := ⟨a.block, a.off + (k * 10 + 0), none⟩) (hat 0 (by omega))
      simp only [List.getElem_map, List.getElem_range]
      exact ⟨a.block, a.off, by rw [← hpl], hlt, hat⟩
    · obtain ⟨i, hi, rfl⟩ := List.mem_map.1 hs
      exact (hF i (List.mem_range.1 hi)).1.2
    · obtain ⟨i, hi, rfl⟩ := List.mem_map.1 hs
      exact (hF i (List.mem_range.1 hi)).1.1
theorem open_RS {r : Reach} {b0 : Nat} {ts t l q i u : TypeId} {f0 f1 f2 f3 f4 f5 f6 f7 f8 f9 g0 g1 g2 : Field} (T : RuT P t l q i u f0 f1 f2 f3 f4 f5 f6 f7 f8 f9 g0 g1 g2) (hts : P.underlying ts = some (.slice t)) {v : Value} {d : DataW H} {p : List MemPlace} (hz : Sized P ts d) (hv : Value.okWide P w r b0 ts v) (h : DataW.Trod enc P w base (fun _ => true) true ts v d p) :
    ∃ U : List Ru, RV w v U ∧ ∀ u ∈ U, okRs u.sem := by
  obtain ⟨A, n, c, rfl⟩ := okWide_slice hts hv
  obtain ⟨fuel, hf⟩ := h
  obtain ⟨v', U, e, h1, h2⟩ := rules_of T hts (x := (d, p)) hf hz
  have e' : Value.slice A n c = v' := by simpa [Value.cells] using e
  rw [e']
  exact ⟨U, h1, h2⟩
end
end Go.Proofs.Ytgkegpdmidcmoaa
namespace Go.Proofs.Ytgkegpdmidcmoaa
set_option linter.unusedVariables false
open Go.RowKit Go.ChangeShapes Go.WideShapes Go.Deep Go.Joins
section
variable {H : Type} {enc : TypeId × Value → H} {P : Program} {w : World} {base : Nat}

theorem open_CF {r : Reach} {b0 : Nat} {ct ts t l q i u : TypeId} {f0 f1 f2 f3 f4 f5 f6 f7 f8 f9 g0 g1 g2 k0 k1 : Field} (T : RuT P t l q i u f0 f1 f2 f3 f4 f5 f6 f7 f8 f9 g0 g1 g2) (hts : P.underlying ts = some (.slice t)) (hct : P.underlying ct = some (.struct #[k0, k1]))
    (hone : oneCellFields P #[k0, k1] = true) (hC : P.cellsOf ct = 2) (hk : k0.type = ts ∧ k1.type = u) {v : Value} {d : DataW H} {p : List MemPlace}
    (hz : Sized P ct d) (hv : Value.okWide P w r b0 ct v) (h : DataW.Trod enc P w base (fun _ => true) true ct v d p) :
    ∃ (y : Value) (f : List UInt8) (U : List Ru), v = .agg #[y, .string (bs f)] ∧ RV w y U ∧ (∀ x ∈ U, okRs x.sem) ∧ f.length ≤ 140737488351232 := by
  obtain ⟨v0, v1, y0, y1, nn, rfl, rfl, _, h0, h1⟩ := open_agg2 hct hone hC hv h
  obtain ⟨e0, e1⟩ := hk
  have z0 := esized_part hz hct (j := 0) (f := k0) (d := y0.1) rfl rfl
  have z1 := esized_part hz hct (j := 1) (f := k1) (d := y1.1) rfl rfl
  rw [e0] at h0 z0
  rw [e1] at h1
  obtain ⟨y, U, ey, hy, hU⟩ := rules_of T hts h0 z0
  obtain ⟨n, en, an⟩ := str_of T.pd.hu h1
  rw [an] at z1
  simp only [List.cons.injEq, and_true] at ey en
  exact ⟨y, n, U, by rw [ey, en], hy, hU, z1.str⟩
theorem open_TBL {r : Reach} {b0 : Nat} {ct ts t l q i u : TypeId} {f0 f1 f2 f3 f4 f5 f6 f7 f8 f9 g0 g1 g2 k0 k1 k2 : Field} (T : RuT P t l q i u f0 f1 f2 f3 f4 f5 f6 f7 f8 f9 g0 g1 g2) (hts : P.underlying ts = some (.slice t)) (hct : P.underlying ct = some (.struct #[k0, k1, k2]))
    (hone : oneCellFields P #[k0, k1, k2] = true) (hC : P.cellsOf ct = 3) (hk : k0.type = i ∧ k1.type = ts ∧ k2.type = u) {v : Value} {d : DataW H} {p : List MemPlace}
    (hz : Sized P ct d) (hv : Value.okWide P w r b0 ct v) (h : DataW.Trod enc P w base (fun _ => true) true ct v d p) :
    ∃ (n : Int) (y : Value) (f : List UInt8) (U : List Ru), v = .agg #[.int .i64 n, y, .string (bs f)] ∧ RV w y U ∧ (∀ x ∈ U, okRs x.sem) ∧ f.length ≤ 140737488351232 := by
  obtain ⟨v0, v1, v2, y0, y1, y2, nn, rfl, rfl, _, h0, h1, h2⟩ := open_agg3 hct hone hC hv h
  obtain ⟨e0, e1, e2⟩ := hk
  have z1 := esized_part hz hct (j := 1) (f := k1) (d := y1.1) rfl rfl
  have z2 := esized_part hz hct (j := 2) (f := k2) (d := y2.1) rfl rfl
  rw [e0] at h0
  rw [e1] at h1 z1
  rw [e2] at h2
  obtain ⟨a, ea, _, _⟩ := DataW.trod_int T.pd.hi h0
  obtain ⟨y, U, ey, hy, hU⟩ := rules_of T hts h1 z1
  obtain ⟨n, en, an⟩ := str_of T.pd.hu h2
  rw [an] at z2
  simp only [List.cons.injEq, and_true] at ea ey en
  exact ⟨a, y, n, U, by rw [ea, ey, en], hy, hU, z2.str⟩
end
end Go.Proofs.Ytgkegpdmidcmoaa
