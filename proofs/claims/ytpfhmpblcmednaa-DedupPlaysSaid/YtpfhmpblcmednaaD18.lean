/- Texts put together: Yx. -/
import Derived.Test.YtpfhmpblcmednaaD16
import Derived.Deep.AppendLies
namespace Go.Proofs.Ytpfhmpblcmednaa
set_option linter.unusedVariables false
set_option linter.unusedSimpArgs false
open Go.RowKit Go.Joins

theorem wpList_append_gxl {α : Type} {enc : α → List Value} {k : Nat} {e : TypeId} {P : Program} {t : TypeId} {z : Value} {bytes : Nat} (T : RowT P enc k t e z bytes) {ops : Array Oper} {rest : List Oper} {o : Oper} {a : Act} {Q : Exit → Act → World → Prop} {w : World} (hgd : o.guard = none) (s x : Operand)
    (ho : o.op = .call { callee := .builtin .append, args := #[s, x], argTypes := #[t, t] }) (base : Nat) (v : Value) (L M : List α) (b cap : Nat) (N : Nat → Prop)
    (hs : a.eval s = v) (hown : GB enc k e w base v L) (hx : a.eval x = .slice (some ⟨b, 0, none⟩) M.length cap) (hR : GX enc k w N (some ⟨b, 0, none⟩) M) (hm : 0 < M.length)
    (hl : L.length + M.length ≤ 10000000) (hbase : base ≤ w.heap.size) (K : ∀ g c w' m, Hid (m = L.length + M.length) → GB enc k e w' base (.slice (some ⟨g, 0, none⟩) m c) (L ++ M) → w.grownBy w' v.ownBlock → (v.ownBlock = some g ∨ g = w.heap.size) → wpList P ops Q rest (a.put o.dst (.slice (some ⟨g, 0, none⟩) m c)) w') : wpList P ops Q (o :: rest) a w := by
  obtain ⟨i0, hi, hz0, hz1, hz2⟩ := info_parts T.inf
  have hby : (L.length + M.length) * bytes ≤ 140737488355328 := Nat.le_trans (Nat.mul_le_mul hl T.hb) (by omega)
  refine wpList_append_lies w hgd s x t ho base e i0 z k bytes T.ht hi hz0 hz1 hz2 T.hzs T.k0 v L.length (gvals enc L) hs hown ⟨b, 0, none⟩ M.length cap (gvals enc M) hx (gvals_len enc k T.hk M) (GX.cell T.hk hR) (fun u hu => ?_) hm (by unfold maxLen; omega) hby hbase _ rfl fun g c w' h1 h2 h3 _ => ?_
  · simp only [gvals, List.mem_flatMap] at hu
    obtain ⟨y, _, hu⟩ := hu
    exact T.h1 y u hu
  · refine K g c w' _ (hid rfl) ?_ h2 h3
    unfold GB
    rw [List.length_append, ← gvals_append]
    exact h1
/-- append at a step of a region that draws, where it is told where the new row lies. -/
theorem step_append_gxl {α : Type} {enc : α → List Value} {k : Nat} {e : TypeId} {P : Program} {t : TypeId} {z : Value} {bytes : Nat} (T : RowT P enc k t e z bytes) {ops : Array Oper} {o : Oper} {a : Act} {K : Act → World → Prop} {Q : Exit → Act → World → Prop} {E : Prop} {w : World} (hgd : o.guard = none) (s x : Operand)
    (ho : o.op = .call { callee := .builtin .append, args := #[s, x], argTypes := #[t, t] }) (base : Nat) (v : Value) (L M : List α) (b cap : Nat) (N : Nat → Prop)
    (hs : a.eval s = v) (hown : GB enc k e w base v L) (hx : a.eval x = .slice (some ⟨b, 0, none⟩) M.length cap) (hR : GX enc k w N (some ⟨b, 0, none⟩) M) (hm : 0 < M.length)
    (hl : L.length + M.length ≤ 10000000) (hbase : base ≤ w.heap.size) (h : ∀ g c w' m, Hid (m = L.length + M.length) → GB enc k e w' base (.slice (some ⟨g, 0, none⟩) m c) (L ++ M) → w.grownBy w' v.ownBlock → (v.ownBlock = some g ∨ g = w.heap.size) → K (a.put o.dst (.slice (some ⟨g, 0, none⟩) m c)) w') :
    if Region.wanted o (yielded ops a.tmps) = true then Oper.wp P o a w K Q else E := by
  obtain ⟨i0, hi, hz0, hz1, hz2⟩ := info_parts T.inf
  have hby : (L.length + M.length) * bytes ≤ 140737488355328 := Nat.le_trans (Nat.mul_le_mul hl T.hb) (by omega)
  refine step_append_lies w hgd s x t ho base e i0 z k bytes T.ht hi hz0 hz1 hz2 T.hzs T.k0 v L.length (gvals enc L) hs hown ⟨b, 0, none⟩ M.length cap (gvals enc M) hx (gvals_len enc k T.hk M) (GX.cell T.hk hR) (fun u hu => ?_) hm (by unfold maxLen; omega) hby hbase _ rfl fun g c w' h1 h2 h3 _ => ?_
  · simp only [gvals, List.mem_flatMap] at hu
    obtain ⟨y, _, hu⟩ := hu
    exact T.h1 y u hu
  · refine h g c w' _ (hid rfl) ?_ h2 h3
    unfold GB
    rw [List.length_append, ← gvals_append]
    exact h1
end Go.Proofs.Ytpfhmpblcmednaa
