/- Texts put together: Hf. -/
import Derived.Test.YtnbkpannhcamjaaDoorG08
import Derived.Laws.AppendOwnNone
import Derived.OwnWalk
namespace Go.Proofs.YtnbkpannhcamjaaDoor
set_option linter.unusedVariables false
set_option linter.unusedSimpArgs false
open Go.RowKit Go.Joins

theorem one_cell_hvals (L : List Hd) : ∀ u ∈ hvals L, u.oneCell' = true := by
  intro u hu
  simp only [hvals, List.mem_flatMap] at hu
  obtain ⟨h, _, hu⟩ := hu
  exact one_cell_hd h u hu
theorem hvals_cell {w : World} {N : Nat → Prop} {b o : Nat} {L : List Hd} (h : HReads w N (some ⟨b, o, none⟩) L) : ∀ j u, (hvals L)[j]? = some u → w.cell? ((⟨b, o, none⟩ : Addr).add j) = some u := by
  intro j u hj
  have hjl : j < L.length * 2 := by rw [← hvals_length]; exact (List.getElem?_eq_some_iff.1 hj).1
  obtain ⟨b', o', e, _, h1, h2⟩ := h (j / 2) (by omega)
  injection e with e; injection e with e1 e2; subst e1; subst e2
  obtain ⟨g1, g2⟩ := hvals_at L (j / 2) (by omega)
  rw [Addr.add_lit]
  rcases Nat.mod_two_eq_zero_or_one j with e | e
  · rw [show j / 2 * 2 = j from by omega] at h1 g1
    rw [h1, ← g1, hj]
  · rw [show o + j / 2 * 2 + 1 = o + j from by omega] at h2
    rw [show j / 2 * 2 + 1 = j from by omega] at g2
    rw [h2, ← g2, hj]
/-- append of a whole slice of headers to a slice of the call's own. -/
theorem wpList_append_hds {ops : Array Oper} {rest : List Oper} {o : Oper} {a : Act} {Q : Exit → Act → World → Prop} {w W0 : World} (hgd : o.guard = none) (s x : Operand)
    (ho : o.op = .call { callee := .builtin .append, args := #[s, x], argTypes := #[22, 22] }) (base : Nat) (v : Value) (L M : List Hd) (A : Option Addr) (cap : Nat) (N : Nat → Prop)
    (hs : a.eval s = v) (hown : HB w base v L) (hx : a.eval x = .slice A M.length cap) (hR : HReads w N A M) (hA : A = none → cap = 0)
    (hl : L.length + M.length ≤ 10000000) (hW : Below base W0 w) (hbase : base ≤ W0.heap.size) (K : ∀ v' w', HB w' base v' (L ++ M) → Below base W0 w' → wpList Tryd.prog ops Q rest (a.put o.dst v') w') : wpList Tryd.prog ops Q (o :: rest) a w := by
  obtain ⟨i0, hi, hz0, hz1, hz2⟩ := info_parts infoH
  have hbw : base ≤ w.heap.size := Nat.le_trans hbase hW.size
  have fin : ∀ v' w', w'.ownsRow base 45 2 v' (L.length + M.length) (hvals L ++ hvals M) → w.grownBy w' v.ownBlock → (v' = .slice none 0 0 ↔ v = .slice none 0 0 ∧ M.length = 0) → wpList Tryd.prog ops Q rest (a.put o.dst v') w' := by
    intro v' w' h1 h2 _
    refine K v' w' ?_ (hW.grown h2 hbw (fun k hk => (World.ownsRow.lt hown k hk).1))
    unfold HB
    rw [List.length_append, ← hvals_append]
    exact h1
  rcases Nat.eq_zero_or_pos M.length with h0 | h0
  · have hM : M = [] := List.eq_nil_of_length_eq_zero h0
    subst hM
    rcases A with _ | ad
    · rw [hA rfl] at hx
      exact wpList_append_own_none hgd s x 22 ho base 45 i0 2 Tryd.underlying22 hi v L.length (hvals L) hs hown hx (K v w (by simpa using hown) hW)
    · exact wpList_append_own _ hgd s x 22 ho base 45 i0 (.agg #[.string ByteArray.empty, .string ByteArray.empty]) 2 32 Tryd.underlying22 hi hz0 hz1 hz2 rfl (by decide) v L.length (hvals L) hs hown ad 0 cap
        [] hx rfl (by intro j u hj; simp at hj) (by simp) (by unfold maxLen; omega) (by omega) hbw (fun v' w' h1 h2 h3 => fin v' w' h1 h2 h3)
  · obtain ⟨b, o', rfl, _, _, _⟩ := hR 0 h0
    exact wpList_append_own _ hgd s x 22 ho base 45 i0 (.agg #[.string ByteArray.empty, .string ByteArray.empty]) 2 32 Tryd.underlying22 hi hz0 hz1 hz2 rfl (by decide) v L.length (hvals L) hs hown ⟨b, o', none⟩ M.length cap
      (hvals M) hx (hvals_length M) (hvals_cell hR) (one_cell_hvals M) (by unfold maxLen; omega) (by omega) hbw fin
set_option maxRecDepth 100000 in
set_option maxHeartbeats 2000000 in
theorem hadd_any (A : Option Addr) (cap : Nat) (L : List Hd) (n v : List UInt8) (w : World) (hR : HReads w (· < w.heap.size) A L) (hA : A = none → cap = 0) (hl : L.length ≤ 1000000) :
    Calls Tryd.prog 29 #[.slice A L.length cap, .string (bs n), .string (bs v)] w fun e w' => ∃ r, e = .returned r ∧ HB w' w.heap.size r (addH L n v) ∧ Below w.heap.size w w' := by
  obtain ⟨i0, hi, hz0, hz1, hz2⟩ := info_parts infoH
  have HI := hid hi
  have HZ0 := hid hz0
  have HZ1 := hid hz1
  have HZ2 := hid hz2
  clear hi hz0 hz1 hz2
  have HR := hid hR
  have HA := hid hA
  clear hR hA
  go_enter Tryd.func29, Tryd.ntmps29
  go_wp2_with (refine wpList_make_own _ rfl _ _ 22 rfl w.heap.size 45 i0 (.agg #[.string ByteArray.empty, .string ByteArray.empty]) 2 Tryd.underlying22 HI.out HZ0.out HZ1.out .i64 .i64 _ (L.length + 1) rfl rfl (by simp) (by rw [HZ2.out]; omega) (by unfold maxLen; omega) (Nat.le_refl _) ?_)
  intro w1 hown1 hg1
  have H1 := hid (And.intro hown1 ((Below.refl w.heap.size w).grown hg1 (Nat.le_refl _) (fun k hk => by cases hk)))
  clear hown1 hg1
  go_wp2_with (at_builtin; refine wpList_append_hds rfl _ _ rfl w.heap.size _ [] L A cap (· < w.heap.size) rfl (H1.out.1 : HB w1 w.heap.size _ []) rfl (HR.out.below H1.out.2) HA.out (by simp; omega) H1.out.2 (Nat.le_refl _) ?_)
  intro v2 w2 hown2 hb2
  have H2 := hid (And.intro hown2 hb2)
  have hsz2 : w.heap.size ≤ w2.heap.size := hb2.size
  clear hown2 hb2
  go_wp2_with (at_builtin; refine wpList_append_hd rfl _ _ rfl w.heap.size _ ([] ++ L) (n, v) _ rfl (H2.out.1.alloc _) rfl ⟨by simp, by simp⟩ (by simp; omega) (H2.out.2.alloc hsz2 _) (Nat.le_refl _) ?_)
  intro v3 w3 hown3 hb3
  have H3 := hid (And.intro hown3 hb3)
  clear hown3 hb3
  go_wp2_with fail
  go_ret
  exact ⟨_, rfl, by simpa [addH] using H3.out.1, H3.out.2⟩
end Go.Proofs.YtnbkpannhcamjaaDoor
