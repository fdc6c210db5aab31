/- The door of control's laws: what is listed, and the world's shape, at the first world. -/
import Derived.Test.YtelglcakekgdeaaGreatDoorG41
import Derived.Test.YtelglcakekgdeaaGreatDoorG28
import Derived.Test.YtelglcakekgdeaaGreatDoorRows
import Derived.ProofKit
import Derived.SizedLaws
import Derived.OpenShut
import Derived.ShutString
import Derived.ChangeOld
import Derived.Handed
import Derived.HandedShaped
import Derived.LaidLaws
import Derived.Lib.LaidTab
import Derived.Stop.LaidErr
import Derived.Lay
import Derived.Lib.SmallJoins
namespace Go.Proofs.YtelglcakekgdeaaGreatDoor
open Go.ChangeShapes Go.WideShapes Go.ChangeAt Go.RowKit
open Go.ChangeMaps (open_string shut_string)
set_option linter.unusedVariables false

theorem own18 : ownKnob Tryz.prog.godebug = none := by kernel_rfl
theorem lay18 : laidOutB Tryz.prog = true := by kernel_rfl
/-- What is listed, and the world's shape, at the first world. -/
theorem returns_shaped_18 {H : Type} {enc : TypeId × Value → H} {a : Assume} {C : Checked} {os : Os} {f : FuncId} {fn : Func} {s : ChangeSpec} {conds : List PathCond} {apart fresh handsOn again : Bool} {X : World → Array Value → Prop}
    (hX : ∀ (w w' : World) (args : Array Value), w.heap = w'.heap → X w args → X w' args)
    (own : ownKnob C.prog.godebug = none) (started : os.Started) (noInit : C.prog.inits.idxOf? f = none) (hfn : C.prog.funcs[f]? = some fn)
    (witness : ∃ (w : World) (tape : Tape) (i : Input), w.os = os ∧ (w.forCall tape i).Shaped C.prog ∧ i.vars = [] ∧ Input.okWide C.prog (w.forCall tape i) .any w.heap.size f i ∧
      ((s.pre enc C.prog fn conds apart (w.forCall tape i).memory i.args ∧ X (w.forCall tape i).memory i.args) ∧ sizedMet enc C.prog fn (OpenSpec.ofChange s) apart (w.forCall tape i).memory i.args) ∧ a.holds C.prog (lone (Frame.enter C.prog f i.args .normal) [] (w.forCall tape i)))
    (contract : ∀ (W : World) (base : Nat) (args : Array Value) (ds gs : List (DataW H)) (before : List MemPlace),
      (∀ (j : Nat) t v, fn.params[j]? = some t → args[j]? = some v → Value.okWide C.prog W .any base t v) →
      DataW.Whole enc C.prog fn.params.toList s.vars apart W args.toList ds gs before →
      conds.all (PathCond.test C.prog ⟨fn.params.toList, ds, s.plain.varTypes C.prog, gs⟩) = true →
      (DataW.weightsEach C.prog (fn.params.toList ++ s.plain.varTypes C.prog) (ds ++ gs)).all (· ≤ reachBytes) = true → X W args → W.ShapedOpen C.prog →
      a.holds C.prog (lone (Frame.enter C.prog f args .normal) [] W) →
      Calls C.prog f args W fun e W' => ∃ v, e = .returned v ∧ s.post enc C.prog fn apart fresh handsOn again W args v W') :
    ReturnsInHanded a C os f .any (fun w args => (s.pre enc C.prog fn conds apart w args ∧ X w args) ∧ sizedMet enc C.prog fn (OpenSpec.ofChange s) apart w args) (s.post enc C.prog fn apart fresh handsOn again) := by
  refine returnsInHanded_of_calls own started noInit witness ?_
  intro w tape i _ hsh _ hok hpre hholds
  obtain ⟨_, _, _, fn', hfn', _, _, _, _, hval⟩ := hok
  obtain rfl : fn' = fn := Option.some.inj (hfn'.symm.trans hfn)
  obtain ⟨⟨⟨ds, gs, before, hw, hc⟩, hx⟩, hz⟩ := hpre
  refine (contract (w.forCall tape i) w.heap.size i.args ds gs before hval (DataW.Whole.of_heap (w' := w.forCall tape i) (by rfl) hw) hc (hz.weights hw) (hX _ _ _ (by rfl) hx) hsh hholds).mono fun e W' ⟨v, he, hp⟩ => ?_
  subst he
  exact ChangeSpec.post_blind hp
def laid18 : List (String × DataW Unit) := Rows.controlStaysRow.laid
theorem tGMax18 {w : World} (h : w.ShapedOpen Tryz.prog) : ∃ m, w.cell? ⟨1, 0, none⟩ = some (.int .i64 m) := Tryz.laysM145.s1_3 w h
theorem star_es18 : "*" ++ "errors.errorString" = "*errors.errorString" := by decide
theorem row_es18 (u : TypeId) (h : Tryz.prog.typeName? 3 u = some "*errors.errorString") : u = 179 :=
  typeName_ptr_named (nm := "errors.errorString") (by rw [star_es18]; kernel_rfl) (by kernel_rfl) (by decide) u (by rw [star_es18]; exact h)
theorem var_max18 {w : World} (h : w.ShapedOpen Tryz.prog) : ∃ m, w.var? Tryz.prog "internal/bytealg.MaxLen" = some #[.int .i64 m] := by
  obtain ⟨m, hm⟩ := tGMax18 h
  obtain ⟨cs, hh, hs, _⟩ := h.1 1 #[.int .i64 0] 3 (of_decide_eq_true (by kernel_rfl)) (by kernel_rfl)
  have hcs : cs = #[.int .i64 m] := by
    obtain ⟨l⟩ := cs
    match l, hs with
    | [x], _ =>
      simp [World.cell?, hh] at hm
      rw [hm]
  exact ⟨m, by rw [World.var?, gMax]; simp [hh, hcs]⟩
section
variable {H : Type} {enc : TypeId × Value → H} {P : Program} {w : World} {base : Nat} {sp : Nat → Bool} {held : Bool}

/-- A pair of a number and a text, read back. -/
theorem pair_ss18 {t q : TypeId} {f0 f1 : Field} {cs : List Value} {fuel : Nat} {z l : List UInt8} {p : List MemPlace} (ht : P.underlying t = some (.struct #[f0, f1])) (hq : P.underlying q = some .string)
    (hf : f0.type = q ∧ f0.offset = 0 ∧ f1.type = q ∧ f1.offset = 1) (cq : P.cellsOf q = 1) (ct : P.cellsOf t = 2)
    (h : DataW.trod enc P w base sp held fuel t cs = some (.agg [.lit (.string z), .lit (.string l)], p)) : cs = [.string ⟨z.toArray⟩, .string ⟨l.toArray⟩] := by
  obtain ⟨e0, o0, e1, o1⟩ := hf
  obtain ⟨xs, n, _, hx, hl, hlen, hg⟩ := DataW.trod_struct ht h
  rw [ct] at hl
  match xs, hlen with
  | [y0, y1], _ =>
    simp only [Prod.mk.injEq, DataW.agg.injEq, List.map_cons, List.map_nil, List.cons.injEq, and_true] at hx
    have h0 := hg 0 f0 rfl
    have h1 := hg 1 f1 rfl
    rw [e0, o0, cq] at h0
    rw [e1, o1, cq] at h1
    obtain ⟨m, hm, hy, _⟩ := DataW.trod_string hq h0
    obtain ⟨s, hs, hy2, _⟩ := DataW.trod_string hq h1
    match cs, hl with
    | [a, b], _ =>
      simp only [List.drop_zero, List.drop_succ_cons, List.take_succ_cons, List.take_zero, List.cons.injEq, and_true] at hm hs
      have a1 := hx.1.1
      rw [hy] at a1
      have a2 := hx.1.2
      rw [hy2] at a2
      simp only [DataW.lit.injEq, Lit.string.injEq] at a1 a2
      rw [hm, hs, a1, a2]
theorem pieces_ss18 {t e q : TypeId} {f0 f1 : Field} {n : Nat} {cs : List Value} {fuel : Nat} {L : List (List UInt8 × List UInt8)} {p : List MemPlace} (ha : P.underlying t = some (.array n e)) (ht : P.underlying e = some (.struct #[f0, f1])) (hq : P.underlying q = some .string)
    (hf : f0.type = q ∧ f0.offset = 0 ∧ f1.type = q ∧ f1.offset = 1) (cq : P.cellsOf q = 1) (ce : P.cellsOf e = 2) (ct : P.cellsOf t = n * 2)
    (h : DataW.trod enc P w base sp held fuel t cs = some (.agg (L.map fun x => .agg [.lit (.string x.1), .lit (.string x.2)]), p)) : cs = L.flatMap fun x => [.string ⟨x.1.toArray⟩, .string ⟨x.2.toArray⟩] := by
  cases fuel with
  | zero => simp [DataW.trod] at h
  | succ fuel =>
    simp only [DataW.trod, ha, ce, ct] at h
    split at h
    · rename_i hl
      obtain ⟨xs, hm, hx⟩ := Option.map_eq_some_iff.1 h
      have hxs : xs.map (·.1) = L.map fun x => (.agg [.lit (.string x.1), .lit (.string x.2)] : DataW H) := by
        have := congrArg Prod.fst hx
        simpa using this
      have hxl : xs.length = n := by simpa using Go.Lib.mapM_length hm
      have hLl : L.length = n := by have := congrArg List.length hxs; simp at this; omega
      have each : ∀ j (hj : j < L.length), (cs.drop (j * 2)).take 2 = [.string ⟨(L[j]).1.toArray⟩, .string ⟨(L[j]).2.toArray⟩] := fun j hj => by
        obtain ⟨b, hb, hfj⟩ := Go.Lib.mapM_at hm j j (by simp [show j < n from by omega])
        have h2 : (xs.map (·.1))[j]? = some b.1 := by simp [hb]
        rw [hxs, List.getElem?_map, List.getElem?_eq_getElem hj, Option.map_some, Option.some.injEq] at h2
        obtain ⟨b1, b2⟩ := b
        simp only at h2
        subst h2
        exact pair_ss18 ht hq hf cq ce hfj
      clear h hm hx hxs hxl xs
      have key : ∀ (L : List (List UInt8 × List UInt8)) (cs : List Value), cs.length = L.length * 2 → (∀ j (hj : j < L.length), (cs.drop (j * 2)).take 2 = [.string ⟨(L[j]).1.toArray⟩, .string ⟨(L[j]).2.toArray⟩]) → cs = L.flatMap fun x => [.string ⟨x.1.toArray⟩, .string ⟨x.2.toArray⟩] := by
        intro L
        induction L with
        | nil => intro cs hc _; simpa using hc
        | cons x r ih =>
          intro cs hc he
          have h0 := he 0 (by simp)
          rw [Nat.zero_mul, List.drop_zero] at h0
          have hr := ih (cs.drop 2) (by rw [List.length_drop, hc, List.length_cons]; omega) (fun j hj => by
            have := he (j + 1) (by simp; omega)
            rw [List.drop_drop, show 2 + j * 2 = (j + 1) * 2 from by omega]
            simpa using this)
          rw [← List.take_append_drop 2 cs, h0, hr]
          rfl
      exact key L cs (by rw [hl, hLl]) each
    · cases h
end
theorem gFormsD18 : Tryz.prog.globalNamed "periscope/conf.forms" = some 0 := by kernel_rfl
theorem forms_laid18 {W : World} (h : laidMet Tryz.prog (("periscope/conf.forms", Rows.laid_periscope_conf_forms) :: []) W) : Frm W := by
  obtain ⟨ps, ⟨g', t', cs, fuel, p, q, hg', ht', hvar, hd, _, _⟩, _⟩ := h
  obtain rfl := Option.some.inj (gFormsD18.symm.trans hg')
  obtain rfl := Option.some.inj ((show (Tryz.prog.globals[0]?).map (·.type) = some 113 by kernel_rfl).symm.trans ht')
  have e := pieces_ss18 (L := frm) Tryz.underlying113 Tryz.underlying112 Tryz.underlying9 ⟨rfl, rfl, rfl, rfl⟩ (by kernel_rfl) (by kernel_rfl) (by kernel_rfl) hd
  intro i hi
  have key : ∀ i : Fin 14, ((frm.flatMap fun x => [Value.string ⟨x.1.toArray⟩, Value.string ⟨x.2.toArray⟩]).toArray[i.val * 2]? = some (.string (bs (frmW i.val)))) ∧ ((frm.flatMap fun x => [Value.string ⟨x.1.toArray⟩, Value.string ⟨x.2.toArray⟩]).toArray[i.val * 2 + 1]? = some (.string (bs (frmB i.val)))) := by
    intro i
    match i with
    | ⟨0, _⟩ => exact ⟨rfl, rfl⟩
    | ⟨1, _⟩ => exact ⟨rfl, rfl⟩
    | ⟨2, _⟩ => exact ⟨rfl, rfl⟩
    | ⟨3, _⟩ => exact ⟨rfl, rfl⟩
    | ⟨4, _⟩ => exact ⟨rfl, rfl⟩
    | ⟨5, _⟩ => exact ⟨rfl, rfl⟩
    | ⟨6, _⟩ => exact ⟨rfl, rfl⟩
    | ⟨7, _⟩ => exact ⟨rfl, rfl⟩
    | ⟨8, _⟩ => exact ⟨rfl, rfl⟩
    | ⟨9, _⟩ => exact ⟨rfl, rfl⟩
    | ⟨10, _⟩ => exact ⟨rfl, rfl⟩
    | ⟨11, _⟩ => exact ⟨rfl, rfl⟩
    | ⟨12, _⟩ => exact ⟨rfl, rfl⟩
    | ⟨13, _⟩ => exact ⟨rfl, rfl⟩
  have h1 := World.var?_cell gFormsD18 hvar (i * 2)
  have h2 := World.var?_cell gFormsD18 hvar (i * 2 + 1)
  have hk := key ⟨i, hi⟩
  rw [← e] at hk
  exact ⟨h1.trans hk.1, h2.trans hk.2⟩
theorem env_of18 {W : World} (h : laidMet Tryz.prog laid18 W) (hs : W.ShapedOpen Tryz.prog) : EnvC W := by
  have h3 : laidMet Tryz.prog (("internal/strconv.uint64pow10", Lib.tabData .u64 Lib.pow10Tab) :: ("strconv.ErrRange", Rows.laid_strconv_ErrRange) :: ("strconv.ErrSyntax", Rows.laid_strconv_ErrSyntax) :: ("periscope/conf.forms", Rows.laid_periscope_conf_forms) :: []) W := (laidMet.tail (laidMet.tail h))
  have h4 := h3.tail
  have h5 := h4.tail
  have hF := forms_laid18 h5.tail
  have t3 := Lib.tabIs_of_head (W := W) gPow (t := 188) (e := 169) (n := 20) (by kernel_rfl) (by kernel_rfl) Tryz.underlying169 (by kernel_rfl) (by kernel_rfl) h3
  have hmx := var_max18 hs
  obtain ⟨a1, s1, hv1, -, -, -⟩ := laid_sentinel h4 gRng (ti := 141) (tp := 179) (te := 181) (ts := 9) (by kernel_rfl) Tryz.underlying141 row_es18 (by kernel_rfl) Tryz.underlying181 rfl rfl Tryz.underlying9 (by kernel_rfl) (by kernel_rfl)
  obtain ⟨a0, s0, hv0, -, -, -⟩ := laid_sentinel h5 gSyn (ti := 141) (tp := 179) (te := 181) (ts := 9) (by kernel_rfl) Tryz.underlying141 row_es18 (by kernel_rfl) Tryz.underlying181 rfl rfl Tryz.underlying9 (by kernel_rfl) (by kernel_rfl)
  exact ⟨⟨t3, hmx, ⟨_, _, hv0⟩, ⟨_, _, hv1⟩⟩, hF⟩
theorem laid18_met (os : Os) (args : Array Value) : laidMet Tryz.prog laid18 ((World.laidAll Tryz.prog os laid18).forCall (fun _ _ => 0) ⟨#[], args, []⟩).memory :=
  laidMet_laidAll args (by kernel_rfl) (by kernel_rfl)
end Go.Proofs.YtelglcakekgdeaaGreatDoor
