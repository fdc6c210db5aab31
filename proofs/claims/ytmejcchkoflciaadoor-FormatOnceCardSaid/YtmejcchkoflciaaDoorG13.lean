/- Texts put together: Hf. -/
import Derived.Test.YtmejcchkoflciaaDoorG12
import Derived.Laws.AppendOwnNone
import Derived.OwnWalk
namespace Go.Proofs.YtmejcchkoflciaaDoor
set_option linter.unusedVariables false
set_option linter.unusedSimpArgs false
open Go.RowKit Go.Joins

theorem one_cell_hvals (L : List Hd) : ∀ u ∈ hvals L, u.oneCell' = true := by
  intro u hu
  simp only [hvals, List.mem_flatMap] at hu
  obtain ⟨h, _, hu⟩ := hu
  exact one_cell_hd h u hu
theorem hvals_cell {w : World} {N : Nat → Prop} {b o : Nat} {L : List Hd} (h : HReads w N (some ⟨b, o, none⟩) L) : ∀ j u, (hvals L)[j]? = some u → w.cell? ((⟨b, o, none⟩ : Addr).add j) = some u := by
  intro j u hj
  have hjl : j < L.length * 2 := by rw [← hvals_length]; exact (List.getElem?_eq_some_iff.1 hj).1
  obtain ⟨b', o', e, _, h1, h2⟩ := h (j / 2) (by omega)
  injection e with e; injection e with e1 e2; subst e1; subst e2
  obtain ⟨g1, g2⟩ := hvals_at L (j / 2) (by omega)
  rw [Addr.add_lit]
  rcases Nat.mod_two_eq_zero_or_one j with e | e
  · rw [show j / 2 * 2 = j from by omega] at h1 g1
    rw [h1, ← g1, hj]
  · rw [show o + j / 2 * 2 + 1 = o + j from by omega] at h2
    rw [show j / 2 * 2 + 1 = j from by omega] at g2
    rw [h2, ← g2, hj]
/-- append of a whole slice of headers to a slice of the call's own. -/
theorem wpList_append_hds {ops : Array Oper} {rest : List Oper} {o : Oper} {a : Act} {Q : Exit → Act → World → Prop} {w W0 : World} (hgd : o.guard = none) (s x : Operand)
    (ho : o.op = .call { callee := .builtin .append, args := #[s, x], argTypes := #[40, 40] }) (base : Nat) (v : Value) (L M : List Hd) (A : Option Addr) (cap : Nat) (N : Nat → Prop)
    (hs : a.eval s = v) (hown : HB w base v L) (hx : a.eval x = .slice A M.length cap) (hR : HReads w N A M) (hA : A = none → cap = 0)
    (hl : L.length + M.length ≤ 10000000) (hW : Below base W0 w) (hbase : base ≤ W0.heap.size) (K : ∀ v' w', HB w' base v' (L ++ M) → Below base W0 w' → wpList Tryd.prog ops Q rest (a.put o.dst v') w') : wpList Tryd.prog ops Q (o :: rest) a w := by
  obtain ⟨i0, hi, hz0, hz1, hz2⟩ := info_parts infoH
  have hbw : base ≤ w.heap.size := Nat.le_trans hbase hW.size
  have fin : ∀ v' w', w'.ownsRow base 91 2 v' (L.length + M.length) (hvals L ++ hvals M) → w.grownBy w' v.ownBlock → (v' = .slice none 0 0 ↔ v = .slice none 0 0 ∧ M.length = 0) → wpList Tryd.prog ops Q rest (a.put o.dst v') w' := by
    intro v' w' h1 h2 _
    refine K v' w' ?_ (hW.grown h2 hbw (fun k hk => (World.ownsRow.lt hown k hk).1))
    unfold HB
    rw [List.length_append, ← hvals_append]
    exact h1
  rcases Nat.eq_zero_or_pos M.length with h0 | h0
  · have hM : M = [] := List.eq_nil_of_length_eq_zero h0
    subst hM
    rcases A with _ | ad
    · rw [hA rfl] at hx
      exact wpList_append_own_none hgd s x 40 ho base 91 i0 2 Tryd.underlying40 hi v L.length (hvals L) hs hown hx (K v w (by simpa using hown) hW)
    · exact wpList_append_own _ hgd s x 40 ho base 91 i0 (.agg #[.string ByteArray.empty, .string ByteArray.empty]) 2 32 Tryd.underlying40 hi hz0 hz1 hz2 rfl (by decide) v L.length (hvals L) hs hown ad 0 cap
        [] hx rfl (by intro j u hj; simp at hj) (by simp) (by unfold maxLen; omega) (by omega) hbw (fun v' w' h1 h2 h3 => fin v' w' h1 h2 h3)
  · obtain ⟨b, o', rfl, _, _, _⟩ := hR 0 h0
    exact wpList_append_own _ hgd s x 40 ho base 91 i0 (.agg #[.string ByteArray.empty, .string ByteArray.empty]) 2 32 Tryd.underlying40 hi hz0 hz1 hz2 rfl (by decide) v L.length (hvals L) hs hown ⟨b, o', none⟩ M.length cap
      (hvals M) hx (hvals_length M) (hvals_cell hR) (one_cell_hvals M) (by unfold maxLen; omega) (by omega) hbw fin
end Go.Proofs.YtmejcchkoflciaaDoor
