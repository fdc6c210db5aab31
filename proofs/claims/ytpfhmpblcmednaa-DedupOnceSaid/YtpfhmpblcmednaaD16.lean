/- Texts put together: Gr. -/
import Derived.Test.YtpfhmpblcmednaaD15
import Derived.Laws.AppendOwn
import Derived.Laws.AppendOwnNone
import Derived.Laws.OwnMore
import Derived.OwnWalk
import Derived.Laws.IdiomCopy
namespace Go.Proofs.Ytpfhmpblcmednaa
set_option linter.unusedVariables false
set_option linter.unusedSimpArgs false
open Go.RowKit Go.Joins
section
variable {α : Type} (enc : α → List Value) (k : Nat)

def gvals (L : List α) : List Value := L.flatMap enc
theorem gvals_append (L M : List α) : gvals enc L ++ gvals enc M = gvals enc (L ++ M) := by simp [gvals]
theorem gvals_len (hk : ∀ x, (enc x).length = k) (L : List α) : (gvals enc L).length = L.length * k := by
  induction L with
  | nil => simp [gvals]
  | cons x r ih =>
    have : gvals enc (x :: r) = enc x ++ gvals enc r := by simp [gvals]
    rw [this, List.length_append, ih, hk, List.length_cons, Nat.add_mul]; omega
theorem gvals_at (hk : ∀ x, (enc x).length = k) : ∀ (L : List α) (i : Nat) (hi : i < L.length) (j : Nat), j < k → (gvals enc L)[i * k + j]? = (enc L[i])[j]?
  | x :: r, 0, hi, j, hj => by
    have : gvals enc (x :: r) = enc x ++ gvals enc r := by simp [gvals]
    rw [this, List.getElem?_append_left (by rw [hk]; omega)]; simp
  | x :: r, i + 1, hi, j, hj => by
    have : gvals enc (x :: r) = enc x ++ gvals enc r := by simp [gvals]
    rw [this, List.getElem?_append_right (by rw [hk, Nat.add_mul]; omega), hk, show (i + 1) * k + j - k = i * k + j by rw [Nat.add_mul]; omega, gvals_at hk r i (by simpa using hi) j hj]
    simp
theorem gvals_set (hk : ∀ x, (enc x).length = k) (L : List α) (i : Nat) (hi : i < L.length) (x : α) (t : Nat) (ht : t < L.length * k) :
    (gvals enc (L.set i x))[t]? = if i * k ≤ t ∧ t < i * k + k then (enc x)[t - i * k]? else (gvals enc L)[t]? := by
  have k0 : 0 < k := by
    rcases Nat.eq_zero_or_pos k with h | h
    · rw [h] at ht; omega
    · exact h
  have hq : t / k < L.length := Nat.div_lt_of_lt_mul (by rw [Nat.mul_comm]; exact ht)
  have hm : t % k < k := Nat.mod_lt _ k0
  have he : t / k * k + t % k = t := by rw [Nat.mul_comm]; exact Nat.div_add_mod t k
  have h1 := gvals_at enc k hk (L.set i x) (t / k) (by simpa using hq) (t % k) hm
  have h2 := gvals_at enc k hk L (t / k) hq (t % k) hm
  rw [he] at h1 h2
  rw [h1]
  by_cases e : t / k = i
  · have hin : i * k ≤ t ∧ t < i * k + k := by rw [← e]; omega
    rw [if_pos hin]
    have : t - i * k = t % k := by rw [← e]; omega
    rw [this]
    simp [List.getElem_set, e]
  · have hout : ¬ (i * k ≤ t ∧ t < i * k + k) := by
      rintro ⟨a, b⟩
      exact e (Nat.div_eq_of_lt_le a (by rw [Nat.add_mul, Nat.one_mul]; exact b))
    rw [if_neg hout, h2]
    simp [List.getElem_set, Ne.symm e]
/-- The cells of a slice of structs, in a block that N allows. -/
def GX (w : World) (N : Nat → Prop) (A : Option Addr) (L : List α) : Prop :=
  ∀ i (h : i < L.length), ∃ b o, A = some ⟨b, o, none⟩ ∧ N b ∧ ∀ j, j < k → w.cell? ⟨b, o + (i * k + j), none⟩ = (enc L[i])[j]?
end
section
variable {α : Type} {enc : α → List Value} {k : Nat}
theorem GX.imp {w : World} {N M : Nat → Prop} {A : Option Addr} {L : List α} (h : GX enc k w N A L) (hn : ∀ b, N b → M b) : GX enc k w M A L := by
  intro i hi
  obtain ⟨b, o, e, h1, h2⟩ := h i hi
  exact ⟨b, o, e, hn _ h1, h2⟩
theorem GX.same {w w' : World} {N : Nat → Prop} {A : Option Addr} {L : List α} (h : GX enc k w N A L) (hs : ∀ b, N b → w'.heap[b]? = w.heap[b]?) : GX enc k w' N A L := by
  intro i hi
  obtain ⟨b, o, e, h1, h2⟩ := h i hi
  exact ⟨b, o, e, h1, fun j hj => (World.cell?_of_block (hs b h1)).trans (h2 j hj)⟩
theorem GX.up {w w' : World} {A : Option Addr} {L : List α} (h : GX enc k w (· < w.heap.size) A L) (hb : Below w.heap.size w w') : GX enc k w' (· < w'.heap.size) A L :=
  (h.same fun b hB => hb.block b hB).imp fun b hB => Nat.lt_of_lt_of_le hB hb.size
theorem GX.nil (w : World) (N : Nat → Prop) (A : Option Addr) : GX enc k w N A [] := fun i hi => absurd hi (by simp)
theorem GX.take {w : World} {N : Nat → Prop} {A : Option Addr} {L : List α} (h : GX enc k w N A L) (n : Nat) : GX enc k w N A (L.take n) := by
  intro i hi
  rw [List.length_take] at hi
  obtain ⟨b, o, e, h1, h2⟩ := h i (by omega)
  refine ⟨b, o, e, h1, fun j hj => ?_⟩
  rw [List.getElem_take]; exact h2 j hj
theorem GX.drop {w : World} {N : Nat → Prop} {b o : Nat} {L : List α} (h : GX enc k w N (some ⟨b, o, none⟩) L) (n : Nat) : GX enc k w N (some ⟨b, o + n * k, none⟩) (L.drop n) := by
  intro i hi
  rw [List.length_drop] at hi
  obtain ⟨b', o', e, h1, h2⟩ := h (n + i) (by omega)
  injection e with e; injection e with e1 e2; subst e1; subst e2
  refine ⟨b, _, rfl, h1, fun j hj => ?_⟩
  rw [List.getElem_drop, ← h2 j hj]
  congr 2
  rw [Nat.add_mul]; omega
/-- The types of a row, as the program has them. -/
structure RowT (P : Program) (enc : α → List Value) (k : Nat) (t e : TypeId) (z : Value) (bytes : Nat) : Prop where
  ht : P.underlying t = some (.slice e)
  inf : (P.info? e).map (fun i => (i.zero, i.size, i.bytes)) = some (some z, k, bytes)
  hzs : z.cells.size = k
  k0 : 0 < k
  hk : ∀ x, (enc x).length = k
  h1 : ∀ x, ∀ u ∈ enc x, u.oneCell' = true
  hb : bytes ≤ 1000
/-- A slice of structs that the call itself has made, holding L. -/
def GB (enc : α → List Value) (k : Nat) (e : TypeId) (w : World) (base : Nat) (v : Value) (L : List α) : Prop := w.ownsRow base e k v L.length (gvals enc L)
variable {e : TypeId}
theorem GB.nil (w : World) (base : Nat) : GB enc k e w base (.slice none 0 0) [] := ⟨by simp [gvals], Or.inl ⟨rfl, rfl⟩⟩
theorem GB.below {w w' : World} {base : Nat} {v : Value} {L : List α} (h : GB enc k e w base v L) (hb : Below w.heap.size w w') : GB enc k e w' base v L := by
  unfold GB at *
  refine World.ownsRow.kept (row := none) h ⟨hb.os, hb.tape, hb.output, hb.size, fun k hk _ => hb.block k hk⟩ ?_
  by_cases e : v.ownBlock = none
  · exact Or.inl e
  · exact Or.inr e
theorem GB.more {w : World} {base base' : Nat} {v : Value} {L : List α} (h : GB enc k e w base v L) (hb : base' ≤ base) : GB enc k e w base' v L := by
  refine ⟨h.1, ?_⟩
  rcases h.2 with h2 | ⟨g, cap', cur, e1, e2, e3⟩
  · exact Or.inl h2
  · exact Or.inr ⟨g, cap', cur, e1, Nat.le_trans hb e2, e3⟩
theorem GB.form {w : World} {base : Nat} {v : Value} {L : List α} (hk : ∀ x, (enc x).length = k) (h : GB enc k e w base v L) : (v = .slice none 0 0 ∧ L = []) ∨ ∃ g cap, v = .slice (some ⟨g, 0, none⟩) L.length cap ∧ base ≤ g ∧ g < w.heap.size ∧ L.length ≤ cap ∧ cap ≤ maxLen ∧ ∀ t, t < L.length * k → w.cell? ⟨g, t, none⟩ = (gvals enc L)[t]? ∧ w.frozen? ⟨g, t, none⟩ = false := by
  rcases h.2 with ⟨h1, h2⟩ | ⟨g, cap, cur, e1, e2, e3, e4, e5, _⟩
  · exact Or.inl ⟨h1, List.eq_nil_of_length_eq_zero h2⟩
  · refine Or.inr ⟨g, cap, e1, e2, (Array.getElem?_eq_some_iff.1 e3).1, e4, e5, fun t ht => ?_⟩
    have h' : w.ownsRow base e k (.slice (some ⟨g, 0, none⟩) L.length cap) L.length (gvals enc L) := e1 ▸ h
    exact ⟨World.ownsRow.cellAt h' t ht, World.ownsRow.frozenAt h' t⟩
theorem GB.reads {w : World} {base : Nat} {v : Value} {L : List α} (hk : ∀ x, (enc x).length = k) (h : GB enc k e w base v L) : ∃ A cap, v = .slice A L.length cap ∧ GX enc k w (fun b => base ≤ b ∧ b < w.heap.size) A L ∧ (A = none → cap = 0) ∧ L.length ≤ cap ∧ cap ≤ maxLen := by
  rcases GB.form hk h with ⟨rfl, rfl⟩ | ⟨g, cap, rfl, h1, h2, h3, h4, h5⟩
  · exact ⟨none, 0, rfl, GX.nil _ _ _, fun _ => rfl, Nat.le_refl _, by unfold maxLen; omega⟩
  · refine ⟨some ⟨g, 0, none⟩, cap, rfl, fun i hi => ⟨g, 0, rfl, ⟨h1, h2⟩, fun j hj => ?_⟩, fun h => (by cases h), h3, h4⟩
    have hlt : i * k + j < L.length * k := by
      have := Nat.mul_le_mul_right k (show i + 1 ≤ L.length from hi); rw [Nat.add_mul, Nat.one_mul] at this; omega
    rw [Nat.zero_add, (h5 _ hlt).1]
    exact gvals_at enc k hk L i hi j hj
theorem GX.cell {w : World} {N : Nat → Prop} {b o : Nat} {L : List α} (hk : ∀ x, (enc x).length = k) (h : GX enc k w N (some ⟨b, o, none⟩) L) : ∀ j u, (gvals enc L)[j]? = some u → w.cell? ((⟨b, o, none⟩ : Addr).add j) = some u := by
  intro j u hj
  have hjl : j < L.length * k := by rw [← gvals_len enc k hk]; exact (List.getElem?_eq_some_iff.1 hj).1
  have k0 : 0 < k := by
    rcases Nat.eq_zero_or_pos k with h | h
    · rw [h] at hjl; omega
    · exact h
  have hq : j / k < L.length := Nat.div_lt_of_lt_mul (by rw [Nat.mul_comm]; exact hjl)
  have hm : j % k < k := Nat.mod_lt _ k0
  have he : j / k * k + j % k = j := by rw [Nat.mul_comm]; exact Nat.div_add_mod j k
  obtain ⟨b', o', e, _, h2⟩ := h (j / k) hq
  injection e with e; injection e with e1 e2; subst e1; subst e2
  rw [Addr.add_lit]
  have h3 := h2 (j % k) hm
  rw [he] at h3
  rw [h3, ← gvals_at enc k hk L (j / k) hq (j % k) hm, he, hj]
/-- append of a whole slice of structs to a slice of the call's own. -/
theorem wpList_append_gx {P : Program} {t : TypeId} {z : Value} {bytes : Nat} (T : RowT P enc k t e z bytes) {ops : Array Oper} {rest : List Oper} {o : Oper} {a : Act} {Q : Exit → Act → World → Prop} {w W0 : World} (hgd : o.guard = none) (s x : Operand)
    (ho : o.op = .call { callee := .builtin .append, args := #[s, x], argTypes := #[t, t] }) (base : Nat) (v : Value) (L M : List α) (A : Option Addr) (cap : Nat) (N : Nat → Prop)
    (hs : a.eval s = v) (hown : GB enc k e w base v L) (hx : a.eval x = .slice A M.length cap) (hR : GX enc k w N A M) (hA : A = none → cap = 0)
    (hl : L.length + M.length ≤ 10000000) (hW : Below base W0 w) (hbase : base ≤ W0.heap.size) (K : ∀ v' w', GB enc k e w' base v' (L ++ M) → Below base W0 w' → w.grownBy w' v.ownBlock → wpList P ops Q rest (a.put o.dst v') w') : wpList P ops Q (o :: rest) a w := by
  obtain ⟨i0, hi, hz0, hz1, hz2⟩ := info_parts T.inf
  have hbw : base ≤ w.heap.size := Nat.le_trans hbase hW.size
  have hby : (L.length + M.length) * bytes ≤ 140737488355328 := Nat.le_trans (Nat.mul_le_mul hl T.hb) (by omega)
  have fin : ∀ v' w', w'.ownsRow base e k v' (L.length + M.length) (gvals enc L ++ gvals enc M) → w.grownBy w' v.ownBlock → (v' = .slice none 0 0 ↔ v = .slice none 0 0 ∧ M.length = 0) → wpList P ops Q rest (a.put o.dst v') w' := by
    intro v' w' h1 h2 _
    refine K v' w' ?_ (hW.grown h2 hbw (fun k hk => (World.ownsRow.lt hown k hk).1)) h2
    unfold GB
    rw [List.length_append, ← gvals_append]
    exact h1
  rcases Nat.eq_zero_or_pos M.length with h0 | h0
  · have hM : M = [] := List.eq_nil_of_length_eq_zero h0
    subst hM
    rcases A with _ | ad
    · rw [hA rfl] at hx
      exact wpList_append_own_none hgd s x t ho base e i0 k T.ht hi v L.length (gvals enc L) hs hown hx (K v w (by simpa using hown) hW ⟨rfl, rfl, rfl, Nat.le_refl _, fun _ _ _ => rfl⟩)
    · exact wpList_append_own _ hgd s x t ho base e i0 z k bytes T.ht hi hz0 hz1 hz2 T.hzs T.k0 v L.length (gvals enc L) hs hown ad 0 cap
        [] hx (by simp) (by intro j u hj; simp at hj) (by simp) (by unfold maxLen; omega) (by simpa using hby) hbw (fun v' w' h1 h2 h3 => fin v' w' (by simpa [gvals] using h1) h2 h3)
  · obtain ⟨b, o', rfl, _, _⟩ := hR 0 h0
    refine wpList_append_own _ hgd s x t ho base e i0 z k bytes T.ht hi hz0 hz1 hz2 T.hzs T.k0 v L.length (gvals enc L) hs hown ⟨b, o', none⟩ M.length cap
      (gvals enc M) hx (gvals_len enc k T.hk M) (GX.cell T.hk hR) (fun u hu => ?_) (by unfold maxLen; omega) hby hbw fin
    simp only [gvals, List.mem_flatMap] at hu
    obtain ⟨y, _, hu⟩ := hu
    exact T.h1 y u hu
theorem GX.one {w : World} {g : Nat} {t : TypeId} {cs : Array Value} {x : α} (h : Bk w g t cs) (hc : cs.toList = enc x) : GX enc k w (fun b => b = g) (some ⟨g, 0, none⟩) [x] := by
  intro i hi
  have : i = 0 := by simpa using hi
  subst this
  refine ⟨g, 0, rfl, rfl, fun j hj => ?_⟩
  rw [Bk.cell h]
  simp only [List.getElem_singleton]
  rw [← hc, Array.getElem?_toList]
  congr 1
  omega
end
end Go.Proofs.Ytpfhmpblcmednaa
