/- The door of format's laws: what is listed, and the world's shape, at the first world. -/
import Derived.Test.YtmejcchkoflciaaDoorG31
import Derived.Test.YtmejcchkoflciaaDoorG32
namespace Go.Proofs.YtmejcchkoflciaaDoor
open Go.ChangeShapes Go.WideShapes Go.ChangeAt Go.RowKit
open Go.ChangeMaps (open_string shut_string)
set_option linter.unusedVariables false

def laid19 : List (String × DataW Unit) := Rows.formatCompilesRow.laid
theorem tGMax19 {w : World} (h : w.ShapedOpen Tryd.prog) : ∃ m, w.cell? ⟨1, 0, none⟩ = some (.int .i64 m) := Tryd.laysM145.s1_3 w h
theorem var_max19 {w : World} (h : w.ShapedOpen Tryd.prog) : ∃ m, w.var? Tryd.prog "internal/bytealg.MaxLen" = some #[.int .i64 m] := by
  obtain ⟨m, hm⟩ := tGMax19 h
  obtain ⟨cs, hh, hs, _⟩ := h.1 1 #[.int .i64 0] 3 (of_decide_eq_true (by kernel_rfl)) (by kernel_rfl)
  have hcs : cs = #[.int .i64 m] := by
    obtain ⟨l⟩ := cs
    match l, hs with
    | [x], _ =>
      simp [World.cell?, hh] at hm
      rw [hm]
  exact ⟨m, by rw [World.var?, gMaxF]; simp [hh, hcs]⟩
section
variable {H : Type} {enc : TypeId × Value → H} {P : Program} {w : World} {base : Nat} {sp : Nat → Bool} {held : Bool}
/-- A table of texts, read back. -/
theorem strs_of {t e : TypeId} {n : Nat} {cs : List Value} {fuel : Nat} {L : List (List UInt8)} {p : List MemPlace} (ha : P.underlying t = some (.array n e)) (hq : P.underlying e = some .string) (ce : P.cellsOf e = 1) (ct : P.cellsOf t = n * 1)
    (h : DataW.trod enc P w base sp held fuel t cs = some (.agg (L.map fun x => .lit (.string x)), p)) : cs = L.map fun x => .string ⟨x.toArray⟩ := by
  cases fuel with
  | zero => simp [DataW.trod] at h
  | succ fuel =>
    simp only [DataW.trod, ha, ce, ct] at h
    split at h
    · rename_i hl
      obtain ⟨xs, hm, hx⟩ := Option.map_eq_some_iff.1 h
      have hxs : xs.map (·.1) = L.map fun x => (.lit (.string x) : DataW H) := by
        have := congrArg Prod.fst hx
        simpa using this
      have hxl : xs.length = n := by simpa using Go.Lib.mapM_length hm
      have hLl : L.length = n := by have := congrArg List.length hxs; simp at this; omega
      have each : ∀ j (hj : j < L.length), (cs.drop (j * 1)).take 1 = [.string ⟨(L[j]).toArray⟩] := fun j hj => by
        obtain ⟨b, hb, hfj⟩ := Go.Lib.mapM_at hm j j (by simp [show j < n from by omega])
        have h2 : (xs.map (·.1))[j]? = some b.1 := by simp [hb]
        rw [hxs, List.getElem?_map, List.getElem?_eq_getElem hj, Option.map_some, Option.some.injEq] at h2
        obtain ⟨b1, b2⟩ := b
        simp only at h2
        subst h2
        obtain ⟨s, hs, hy2, _⟩ := DataW.trod_string hq hfj
        simp only [Prod.mk.injEq, DataW.lit.injEq, Lit.string.injEq] at hy2
        rw [hs, hy2.1]
      have key : ∀ (L : List (List UInt8)) (cs : List Value), cs.length = L.length * 1 → (∀ j (hj : j < L.length), (cs.drop (j * 1)).take 1 = [.string ⟨(L[j]).toArray⟩]) → cs = L.map fun x => .string ⟨x.toArray⟩ := by
        intro L
        induction L with
        | nil => intro cs hc _; simpa using hc
        | cons x r ih =>
          intro cs hc he
          have h0 := he 0 (by simp)
          rw [Nat.zero_mul, List.drop_zero] at h0
          have hr := ih (cs.drop 1) (by rw [List.length_drop, hc, List.length_cons]; omega) (fun j hj => by
            have := he (j + 1) (by simp; omega)
            rw [List.drop_drop, show 1 + j * 1 = (j + 1) * 1 from by omega]
            simpa using this)
          rw [← List.take_append_drop 1 cs, h0, hr]
          rfl
      exact key L cs (by rw [hl, hLl]) each
    · cases h
end
theorem gWordsD : Tryd.prog.globalNamed "periscope/format.words" = some 0 := by kernel_rfl
def wordsL : List (List UInt8) := [] :: wordsF
theorem words_laid {W : World} {r : List (String × DataW Unit)} (h : laidMet Tryd.prog (("periscope/format.words", Rows.laid_periscope_format_words) :: r) W) : WdsAt W := by
  obtain ⟨ps, ⟨g', t', cs, fuel, p, q, hg', ht', hvar, hd, _, _⟩, _⟩ := h
  obtain rfl := Option.some.inj (gWordsD.symm.trans hg')
  obtain rfl := Option.some.inj ((show (Tryd.prog.globals[0]?).map (·.type) = some 109 by kernel_rfl).symm.trans ht')
  have e := strs_of (L := wordsL) Tryd.underlying109 Tryd.underlying9 (by kernel_rfl) (by kernel_rfl) hd
  intro i hi
  have key : ∀ i : Fin 9, ((wordsL.map fun x => Value.string ⟨x.toArray⟩).toArray[i.val]? = some (.string (bs (wordF i.val)))) := by
    intro i
    match i with
    | ⟨0, _⟩ => rfl
    | ⟨1, _⟩ => rfl
    | ⟨2, _⟩ => rfl
    | ⟨3, _⟩ => rfl
    | ⟨4, _⟩ => rfl
    | ⟨5, _⟩ => rfl
    | ⟨6, _⟩ => rfl
    | ⟨7, _⟩ => rfl
    | ⟨8, _⟩ => rfl
  have h1 := World.var?_cell gWordsD hvar i
  have hk := key ⟨i, hi⟩
  rw [← e] at hk
  exact h1.trans hk
theorem env_of19 {W : World} (h : laidMet Tryd.prog laid19 W) (hs : W.ShapedOpen Tryd.prog) : EnvF W := ⟨var_max19 hs, words_laid (laidMet.tail h)⟩
theorem laid19_met (os : Os) (args : Array Value) : laidMet Tryd.prog laid19 ((World.laidAll Tryd.prog os laid19).forCall (fun _ _ => 0) ⟨#[], args, []⟩).memory :=
  laidMet_laidAll args (by kernel_rfl) (by kernel_rfl)
end Go.Proofs.YtmejcchkoflciaaDoor
