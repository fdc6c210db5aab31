/- Texts put together: Dr. -/
import Derived.Test.YtnbkpannhcamjaaDoorRows
import Derived.ProofKit
import Derived.SizedLaws
import Derived.OpenShut
import Derived.ShutString
import Derived.ChangeOld
import Derived.Handed
import Derived.HandedShaped
import Derived.LaidLaws
import Derived.Lib.LaidTab
import Derived.Stop.LaidErr
import Derived.Lay
import Derived.Lib.SmallJoins
namespace Go.Proofs.YtnbkpannhcamjaaDoor
open Go.ChangeShapes Go.WideShapes Go.ChangeAt Go.RowKit
open Go.ChangeMaps (open_string shut_string)
set_option linter.unusedVariables false

theorem ownD : ownKnob Tryd.prog.godebug = none := by kernel_rfl
theorem layD : laidOutB Tryd.prog = true := by kernel_rfl
/-- What is listed, and the world's shape, at the first world. -/
theorem returns_door {H : Type} {enc : TypeId × Value → H} {a : Assume} {C : Checked} {os : Os} {f : FuncId} {fn : Func} {s : ChangeSpec} {conds : List PathCond} {apart fresh handsOn again : Bool} {X : World → Array Value → Prop}
    (hX : ∀ (w w' : World) (args : Array Value), w.heap = w'.heap → X w args → X w' args)
    (own : ownKnob C.prog.godebug = none) (started : os.Started) (noInit : C.prog.inits.idxOf? f = none) (hfn : C.prog.funcs[f]? = some fn)
    (witness : ∃ (w : World) (tape : Tape) (i : Input), w.os = os ∧ (w.forCall tape i).Shaped C.prog ∧ i.vars = [] ∧ Input.okWide C.prog (w.forCall tape i) .any w.heap.size f i ∧
      ((s.pre enc C.prog fn conds apart (w.forCall tape i).memory i.args ∧ X (w.forCall tape i).memory i.args) ∧ sizedMet enc C.prog fn (OpenSpec.ofChange s) apart (w.forCall tape i).memory i.args) ∧ a.holds C.prog (lone (Frame.enter C.prog f i.args .normal) [] (w.forCall tape i)))
    (contract : ∀ (W : World) (base : Nat) (args : Array Value) (ds gs : List (DataW H)) (before : List MemPlace),
      (∀ (j : Nat) t v, fn.params[j]? = some t → args[j]? = some v → Value.okWide C.prog W .any base t v) →
      DataW.Whole enc C.prog fn.params.toList s.vars apart W args.toList ds gs before →
      conds.all (PathCond.test C.prog ⟨fn.params.toList, ds, s.plain.varTypes C.prog, gs⟩) = true →
      (DataW.weightsEach C.prog (fn.params.toList ++ s.plain.varTypes C.prog) (ds ++ gs)).all (· ≤ reachBytes) = true → X W args → W.ShapedOpen C.prog →
      a.holds C.prog (lone (Frame.enter C.prog f args .normal) [] W) →
      Calls C.prog f args W fun e W' => ∃ v, e = .returned v ∧ s.post enc C.prog fn apart fresh handsOn again W args v W') :
    ReturnsInHanded a C os f .any (fun w args => (s.pre enc C.prog fn conds apart w args ∧ X w args) ∧ sizedMet enc C.prog fn (OpenSpec.ofChange s) apart w args) (s.post enc C.prog fn apart fresh handsOn again) := by
  refine returnsInHanded_of_calls own started noInit witness ?_
  intro w tape i _ hsh _ hok hpre hholds
  obtain ⟨_, _, _, fn', hfn', _, _, _, _, hval⟩ := hok
  obtain rfl : fn' = fn := Option.some.inj (hfn'.symm.trans hfn)
  obtain ⟨⟨⟨ds, gs, before, hw, hc⟩, hx⟩, hz⟩ := hpre
  refine (contract (w.forCall tape i) w.heap.size i.args ds gs before hval (DataW.Whole.of_heap (w' := w.forCall tape i) (by rfl) hw) hc (hz.weights hw) (hX _ _ _ (by rfl) hx) hsh hholds).mono fun e W' ⟨v, he, hp⟩ => ?_
  subst he
  exact ChangeSpec.post_blind hp
section
variable {H : Type} {enc : TypeId × Value → H} {P : Program} {w : World} {base : Nat} {sp : Nat → Bool} {held : Bool}

/-- A pair of a number and a text, read back. -/
theorem pair_of {t i q : TypeId} {f0 f1 : Field} {cs : List Value} {fuel : Nat} {z : Int} {l : List UInt8} {p : List MemPlace} (ht : P.underlying t = some (.struct #[f0, f1])) (hi : P.underlying i = some (.int .i64)) (hq : P.underlying q = some .string)
    (hf : f0.type = i ∧ f0.offset = 0 ∧ f1.type = q ∧ f1.offset = 1) (ci : P.cellsOf i = 1) (cq : P.cellsOf q = 1) (ct : P.cellsOf t = 2)
    (h : DataW.trod enc P w base sp held fuel t cs = some (.agg [.lit (.int .i64 z), .lit (.string l)], p)) : cs = [.int .i64 z, .string ⟨l.toArray⟩] := by
  obtain ⟨e0, o0, e1, o1⟩ := hf
  obtain ⟨xs, n, _, hx, hl, hlen, hg⟩ := DataW.trod_struct ht h
  rw [ct] at hl
  match xs, hlen with
  | [y0, y1], _ =>
    simp only [Prod.mk.injEq, DataW.agg.injEq, List.map_cons, List.map_nil, List.cons.injEq, and_true] at hx
    have h0 := hg 0 f0 rfl
    have h1 := hg 1 f1 rfl
    rw [e0, o0, ci] at h0
    rw [e1, o1, cq] at h1
    obtain ⟨m, hm, hy, _⟩ := DataW.trod_int hi h0
    obtain ⟨s, hs, hy2, _⟩ := DataW.trod_string hq h1
    match cs, hl with
    | [a, b], _ =>
      simp only [List.drop_zero, List.drop_succ_cons, List.take_succ_cons, List.take_zero, List.cons.injEq, and_true] at hm hs
      have a1 := hx.1.1
      rw [hy] at a1
      have a2 := hx.1.2
      rw [hy2] at a2
      simp only [DataW.lit.injEq, Lit.int.injEq, true_and, Lit.string.injEq] at a1 a2
      rw [hm, hs, ← a1, a2]
theorem pieces_of {t e i q : TypeId} {f0 f1 : Field} {n : Nat} {cs : List Value} {fuel : Nat} {L : List (Int × List UInt8)} {p : List MemPlace} (ha : P.underlying t = some (.array n e)) (ht : P.underlying e = some (.struct #[f0, f1])) (hi : P.underlying i = some (.int .i64)) (hq : P.underlying q = some .string)
    (hf : f0.type = i ∧ f0.offset = 0 ∧ f1.type = q ∧ f1.offset = 1) (ci : P.cellsOf i = 1) (cq : P.cellsOf q = 1) (ce : P.cellsOf e = 2) (ct : P.cellsOf t = n * 2)
    (h : DataW.trod enc P w base sp held fuel t cs = some (.agg (L.map fun x => .agg [.lit (.int .i64 x.1), .lit (.string x.2)]), p)) : cs = L.flatMap fun x => [.int .i64 x.1, .string ⟨x.2.toArray⟩] := by
  cases fuel with
  | zero => simp [DataW.trod] at h
  | succ fuel =>
    simp only [DataW.trod, ha, ce, ct] at h
    split at h
    · rename_i hl
      obtain ⟨xs, hm, hx⟩ := Option.map_eq_some_iff.1 h
      have hxs : xs.map (·.1) = L.map fun x => (.agg [.lit (.int .i64 x.1), .lit (.string x.2)] : DataW H) := by
        have := congrArg Prod.fst hx
        simpa using this
      have hxl : xs.length = n := by simpa using Go.Lib.mapM_length hm
      have hLl : L.length = n := by have := congrArg List.length hxs; simp at this; omega
      have each : ∀ j (hj : j < L.length), (cs.drop (j * 2)).take 2 = [.int .i64 (L[j]).1, .string ⟨(L[j]).2.toArray⟩] := fun j hj => by
        obtain ⟨b, hb, hfj⟩ := Go.Lib.mapM_at hm j j (by simp [show j < n from by omega])
        have h2 : (xs.map (·.1))[j]? = some b.1 := by simp [hb]
        rw [hxs, List.getElem?_map, List.getElem?_eq_getElem hj, Option.map_some, Option.some.injEq] at h2
        obtain ⟨b1, b2⟩ := b
        simp only at h2
        subst h2
        exact pair_of ht hi hq hf ci cq ce hfj
      clear h hm hx hxs hxl xs
      have key : ∀ (L : List (Int × List UInt8)) (cs : List Value), cs.length = L.length * 2 → (∀ j (hj : j < L.length), (cs.drop (j * 2)).take 2 = [.int .i64 (L[j]).1, .string ⟨(L[j]).2.toArray⟩]) → cs = L.flatMap fun x => [.int .i64 x.1, .string ⟨x.2.toArray⟩] := by
        intro L
        induction L with
        | nil => intro cs hc _; simpa using hc
        | cons x r ih =>
          intro cs hc he
          have h0 := he 0 (by simp)
          rw [Nat.zero_mul, List.drop_zero] at h0
          have hr := ih (cs.drop 2) (by rw [List.length_drop, hc, List.length_cons]; omega) (fun j hj => by
            have := he (j + 1) (by simp; omega)
            rw [List.drop_drop, show 2 + j * 2 = (j + 1) * 2 from by omega]
            simpa using this)
          rw [← List.take_append_drop 2 cs, h0, hr]
          rfl
      exact key L cs (by rw [hl, hLl]) each
    · cases h
end
end Go.Proofs.YtnbkpannhcamjaaDoor
