/- Texts put together: Gb. -/
import Derived.Test.YtpfhmpblcmednaaD04
import Derived.Test.YtpfhmpblcmednaaD16
import Derived.Test.YtpfhmpblcmednaaD02
import Derived.Deep.RegionLaw
namespace Go.Proofs.Ytpfhmpblcmednaa
set_option linter.unusedVariables false
set_option linter.unusedSimpArgs false
open Go.RowKit Go.Joins

def encB (b : UInt8) : List Value := [.int .u8 (b.toNat : Int)]
theorem encB_len (b : UInt8) : (encB b).length = 1 := rfl
theorem rowB : RowT Try.prog encB 1 69 5 (.int .u8 0) 1 where
  ht := Try.underlying69
  inf := by kernel_rfl
  hzs := rfl
  k0 := by decide
  hk := encB_len
  h1 := fun x u hu => by
    simp [encB] at hu
    subst hu; rfl
  hb := by decide
/-- A slice of bytes that the call itself has made. -/
def YB (w : World) (base : Nat) (v : Value) (l : List UInt8) : Prop := GB encB 1 5 w base v l
theorem conv_yb {w : World} {base : Nat} {v : Value} {l : List UInt8} (h : YB w base v l) : (convert 69 9 v).run Try.prog w = .ok (.string (bs l)) w := by
  refine conv_buf (base := base) ?_
  have e : gvals encB l = bvals l := by
    clear h
    induction l with
    | nil => rfl
    | cons b r ih => simp only [gvals, bvals, List.flatMap_cons, List.map_cons] at ih ⊢; rw [ih]; rfl
  unfold YB GB at h
  unfold Buf
  rw [← e]
  exact h
theorem gx_new {α : Type} {enc : α → List Value} {k : Nat} (hk : ∀ x, (enc x).length = k) {w : World} {g : Nat} {t : TypeId} {cs : Array Value} {M : List α} (h : Bk w g t cs) (hc : cs.toList = gvals enc M) : GX enc k w (fun b => b = g) (some ⟨g, 0, none⟩) M := by
  intro i hi
  refine ⟨g, 0, rfl, rfl, fun j hj => ?_⟩
  rw [Bk.cell h, ← gvals_at enc k hk M i hi j hj, ← hc, Array.getElem?_toList, Nat.zero_add]
theorem yb_made (w : World) (n : Nat) (h : n ≤ 10000000) : ∃ w', (Instr.makeSlice 69 (.int .i64 0) (.int .i64 (n : Int))).run Try.prog w = .ok (.slice (some ⟨w.heap.size, 0, none⟩) 0 n) w' ∧ YB w' w.heap.size (.slice (some ⟨w.heap.size, 0, none⟩) 0 n) [] ∧ Below w.heap.size w w' := by
  obtain ⟨i, hi, hz, hs, hb⟩ := info_parts info5
  obtain ⟨w', h1, h2, h3⟩ := run_make_own (P := Try.prog) w w.heap.size 69 5 i _ 1 Try.underlying69 hi hz hs .i64 .i64 n (by rw [hb]; omega) (by unfold maxLen; omega) (Nat.le_refl _)
  exact ⟨w', h1, h2, (Below.refl _ _).grown h3 (Nat.le_refl _) (fun k hk => by cases hk)⟩
/-- append of a row to one of the call's own, at a step of a region that draws. -/
theorem step_append_gx' {α : Type} {enc : α → List Value} {k : Nat} {e : TypeId} {P : Program} {t : TypeId} {z : Value} {bytes : Nat} (T : RowT P enc k t e z bytes) {ops : Array Oper} {o : Oper} {a : Act} {K : Act → World → Prop} {Q : Exit → Act → World → Prop} {E : Prop} {w : World} (hgd : o.guard = none) (s x : Operand)
    (ho : o.op = .call { callee := .builtin .append, args := #[s, x], argTypes := #[t, t] }) (base : Nat) (v : Value) (L M : List α) (g cap : Nat) (N : Nat → Prop)
    (hs : a.eval s = v) (hown : GB enc k e w base v L) (hx : a.eval x = .slice (some ⟨g, 0, none⟩) M.length cap) (hR : GX enc k w N (some ⟨g, 0, none⟩) M)
    (hl : L.length + M.length ≤ 10000000) (hbase : base ≤ w.heap.size) (h : ∀ v' w', GB enc k e w' base v' (L ++ M) → w.grownBy w' v.ownBlock → K (a.put o.dst v') w') :
    if Region.wanted o (yielded ops a.tmps) = true then Oper.wp P o a w K Q else E := by
  have hw : Region.wanted o (yielded ops a.tmps) = true := by simp [Region.wanted, hgd]
  rw [if_pos hw]
  obtain ⟨i0, hi, hz0, hz1, hz2⟩ := info_parts T.inf
  have hby : (L.length + M.length) * bytes ≤ 140737488355328 := Nat.le_trans (Nat.mul_le_mul hl T.hb) (by omega)
  have fin : ∀ v' w', w'.ownsRow base e k v' (L.length + M.length) (gvals enc L ++ gvals enc M) → w.grownBy w' v.ownBlock → (v' = .slice none 0 0 ↔ v = .slice none 0 0 ∧ M.length = 0) → K (a.put o.dst v') w' := by
    intro v' w' h1 h2 _
    refine h v' w' ?_ h2
    unfold GB
    rw [List.length_append, ← gvals_append]
    exact h1
  exact wp_append_own w s x t ho base e i0 z k bytes T.ht hi hz0 hz1 hz2 T.hzs T.k0 v L.length (gvals enc L) hs hown ⟨g, 0, none⟩ M.length cap
    (gvals enc M) hx (gvals_len enc k T.hk M) (GX.cell T.hk hR) (fun u hu => by
      simp only [gvals, List.mem_flatMap] at hu
      obtain ⟨y, _, hu⟩ := hu
      exact T.h1 y u hu) (by unfold maxLen; omega) hby hbase fin
/-- What escaped answers. -/
def EscR (base : Nat) (l : List UInt8) (w : World) (e : Ending) (w' : World) : Prop := ∃ v', e = .returned v' ∧ YB w' base v' l ∧ Below base w w'
theorem alloc_yb {w : World} {base : Nat} {v : Value} {l : List UInt8} (h : YB w base v l) (o : Obj) : YB (w.alloc o) base v l := GB.below h (enew w o)
theorem grown_yb {w w1 w2 : World} {base : Nat} {v : Value} {l : List UInt8} (h : YB w base v l) (hb : base ≤ w.heap.size) (h1 : Below base w w1) (hg : w1.grownBy w2 v.ownBlock) : Below base w w2 :=
  h1.grown hg (Nat.le_trans hb h1.size) (fun k hk => (World.ownsRow.lt h k hk).1)
end Go.Proofs.Ytpfhmpblcmednaa
