/- Plain facts: lists sorted by a key, those of one key as they stood. No program is imported. -/
import Derived.Test.YtldilhbomilcpaaPlain
namespace Go.Proofs.Ytldilhbomilcpaa
set_option linter.unusedVariables false
section
variable {α : Type} (key : α → Int)

def Srt (L : List α) : Prop := L.Pairwise (fun a b => key b ≤ key a)
def Eqv (L M : List α) : Prop := ∀ r : Int, L.filter (fun x => decide (key x = r)) = M.filter (fun x => decide (key x = r))
def kat (L : List α) (i : Nat) : Int := match L[i]? with | some x => key x | none => 0
def insB (out : List α) (u : α) : List α := out.takeWhile (fun y => decide (key u ≤ key y)) ++ u :: out.dropWhile (fun y => decide (key u ≤ key y))
def ordB (L : List α) : List α := L.foldl (insB key) []
variable {key}
theorem Eqv.refl (L : List α) : Eqv key L L := fun _ => rfl
theorem Eqv.symm {L M : List α} (h : Eqv key L M) : Eqv key M L := fun r => (h r).symm
theorem Eqv.trans {L M N : List α} (h : Eqv key L M) (k : Eqv key M N) : Eqv key L N := fun r => (h r).trans (k r)
theorem Eqv.append {A A' B B' : List α} (h : Eqv key A A') (k : Eqv key B B') : Eqv key (A ++ B) (A' ++ B') := fun r => by
  rw [List.filter_append, List.filter_append, h r, k r]
theorem Eqv.mem {L M : List α} (h : Eqv key L M) {x : α} (hx : x ∈ L) : x ∈ M := by
  have h1 : x ∈ L.filter (fun y => decide (key y = key x)) := List.mem_filter.2 ⟨hx, by simp⟩
  rw [h] at h1
  exact (List.mem_filter.1 h1).1
theorem Eqv.swap {A B : List α} (h : ∀ x ∈ A, ∀ y ∈ B, key x ≠ key y) : Eqv key (A ++ B) (B ++ A) := fun r => by
  rw [List.filter_append, List.filter_append]
  by_cases hA : ∃ x ∈ A, key x = r
  · obtain ⟨x, hx, rfl⟩ := hA
    have : B.filter (fun y => decide (key y = key x)) = [] := by
      rw [List.filter_eq_nil_iff]
      intro y hy
      have := h x hx y hy
      simp; omega
    rw [this]; simp
  · have : A.filter (fun y => decide (key y = r)) = [] := by
      rw [List.filter_eq_nil_iff]
      intro y hy
      simp
      exact fun e => hA ⟨y, hy, e⟩
    rw [this]; simp
theorem srt_uniq : ∀ {L M : List α}, Srt key L → Srt key M → Eqv key L M → L = M
  | [], [], _, _, _ => rfl
  | [], b :: M, _, _, h => by have := h.symm.mem (x := b) (by simp); simp at this
  | a :: L, [], _, _, h => by have := h.mem (x := a) (by simp); simp at this
  | a :: L, b :: M, h1, h2, h => by
    have g1 := List.pairwise_cons.1 h1
    have g2 := List.pairwise_cons.1 h2
    have ka : key a ≤ key b := by
      rcases List.mem_cons.1 (h.mem (x := a) (by simp)) with rfl | hm
      · omega
      · exact g2.1 a hm
    have kb : key b ≤ key a := by
      rcases List.mem_cons.1 (h.symm.mem (x := b) (by simp)) with rfl | hm
      · omega
      · exact g1.1 b hm
    have hr := h (key a)
    rw [List.filter_cons, List.filter_cons, if_pos (by simp), if_pos (by simp; omega)] at hr
    injection hr with e1 e2
    subst e1
    have ht : Eqv key L M := fun r => by
      have := h r
      rw [List.filter_cons, List.filter_cons] at this
      by_cases e : key a = r
      · subst e; exact e2
      · rwa [if_neg (by simpa using e), if_neg (by simpa using e)] at this
    rw [srt_uniq g1.2 g2.2 ht]
theorem srt_append {A B : List α} : Srt key (A ++ B) ↔ Srt key A ∧ Srt key B ∧ ∀ x ∈ A, ∀ y ∈ B, key y ≤ key x := List.pairwise_append
theorem srt_one (x : α) : Srt key [x] := List.pairwise_singleton _ _
theorem srt_nil : Srt key ([] : List α) := List.Pairwise.nil
theorem take_drop_while (p : α → Bool) (L : List α) : L.takeWhile p ++ L.dropWhile p = L := List.takeWhile_append_dropWhile
theorem mem_takeWhile_true {p : α → Bool} : ∀ {L : List α} {x : α}, x ∈ L.takeWhile p → p x = true
  | a :: L, x, h => by
    rw [List.takeWhile_cons] at h
    by_cases hp : p a = true
    · rw [if_pos hp] at h
      rcases List.mem_cons.1 h with rfl | h
      · exact hp
      · exact mem_takeWhile_true h
    · rw [if_neg hp] at h; cases h
theorem dropWhile_lt {u : α} : ∀ {L : List α}, Srt key L → ∀ y ∈ L.dropWhile (fun y => decide (key u ≤ key y)), key y < key u
  | [], _, y, h => by simp at h
  | a :: L, hs, y, h => by
    have g := List.pairwise_cons.1 hs
    rw [List.dropWhile_cons] at h
    by_cases hp : key u ≤ key a
    · rw [if_pos (by simpa using hp)] at h
      exact dropWhile_lt g.2 y h
    · rw [if_neg (by simpa using hp)] at h
      rcases List.mem_cons.1 h with rfl | h
      · omega
      · have := g.1 y h; omega
theorem insB_srt {L : List α} (h : Srt key L) (u : α) : Srt key (insB key L u) := by
  have h0 := take_drop_while (fun y => decide (key u ≤ key y)) L
  have h' := h
  rw [← h0] at h'
  obtain ⟨s1, s2, s3⟩ := srt_append.1 h'
  refine srt_append.2 ⟨s1, List.pairwise_cons.2 ⟨fun y hy => ?_, s2⟩, fun x hx y hy => ?_⟩
  · have := dropWhile_lt h y hy; omega
  · have hx' := mem_takeWhile_true hx
    rcases List.mem_cons.1 hy with rfl | hy
    · simpa using hx'
    · exact s3 x hx y hy
theorem insB_eqv {L : List α} (h : Srt key L) (u : α) : Eqv key (insB key L u) (L ++ [u]) := by
  have h0 := take_drop_while (fun y => decide (key u ≤ key y)) L
  have : Eqv key (insB key L u) (L.takeWhile (fun y => decide (key u ≤ key y)) ++ (L.dropWhile (fun y => decide (key u ≤ key y)) ++ [u])) := by
    refine (Eqv.refl _).append ?_
    refine Eqv.swap (A := [u]) fun x hx y hy => ?_
    have := dropWhile_lt h y hy
    have hx : x = u := by simpa using hx
    subst hx; omega
  rw [← List.append_assoc, h0] at this
  exact this
theorem foldl_insB : ∀ (L out : List α), Srt key out → Srt key (L.foldl (insB key) out) ∧ Eqv key (L.foldl (insB key) out) (out ++ L)
  | [], out, h => ⟨h, by simpa using Eqv.refl out⟩
  | u :: L, out, h => by
    obtain ⟨h1, h2⟩ := foldl_insB L (insB key out u) (insB_srt h u)
    refine ⟨h1, h2.trans ?_⟩
    have := (insB_eqv h u).append (Eqv.refl (key := key) L)
    simpa using this
theorem ordB_srt (L : List α) : Srt key (ordB key L) := (foldl_insB L [] srt_nil).1
theorem ordB_eqv (L : List α) : Eqv key (ordB key L) L := by
  have h := (foldl_insB (key := key) L [] srt_nil).2
  rw [List.nil_append] at h
  exact h
theorem ordB_of {L M : List α} (h : Srt key M) (e : Eqv key L M) : M = ordB key L := srt_uniq h (ordB_srt L) (e.symm.trans (ordB_eqv L).symm)
theorem insB_length (L : List α) (u : α) : (insB key L u).length = L.length + 1 := by
  have h := congrArg List.length (take_drop_while (fun y => decide (key u ≤ key y)) L)
  rw [List.length_append] at h
  unfold insB
  rw [List.length_append, List.length_cons]; omega
theorem foldl_insB_length : ∀ (L out : List α), (L.foldl (insB key) out).length = out.length + L.length
  | [], out => rfl
  | u :: L, out => by rw [List.foldl_cons, foldl_insB_length L, insB_length, List.length_cons]; omega
theorem ordB_length (L : List α) : (ordB key L).length = L.length := by rw [ordB, foldl_insB_length]; simp
theorem insB_map {β : Type} (f : β → α) (L : List β) (u : β) : insB key (L.map f) (f u) = (insB (fun y => key (f y)) L u).map f := by
  unfold insB
  rw [List.takeWhile_map, List.dropWhile_map, List.map_append, List.map_cons]; rfl
theorem foldl_insB_map {β : Type} (f : β → α) : ∀ (L out : List β), (L.map f).foldl (insB key) (out.map f) = (L.foldl (insB (fun y => key (f y))) out).map f
  | [], out => rfl
  | u :: L, out => by rw [List.map_cons, List.foldl_cons, List.foldl_cons, insB_map, foldl_insB_map f L]
theorem ordB_map {β : Type} (f : β → α) (L : List β) : ordB key (L.map f) = (ordB (fun y => key (f y)) L).map f := foldl_insB_map f L []
/-- Where the front ends, told by a loop. -/
theorem while_at {p : α → Bool} : ∀ (L : List α) (j : Nat), j ≤ L.length → (∀ i (h : i < L.length), i < j → p L[i] = true) → (∀ h : j < L.length, p L[j] = false) → L.takeWhile p = L.take j ∧ L.dropWhile p = L.drop j
  | [], j, hj, _, _ => by simp
  | a :: L, 0, hj, _, h => by
    have := h (by simp)
    simp at this
    rw [List.takeWhile_cons, List.dropWhile_cons, if_neg (by simp [this]), if_neg (by simp [this])]; simp
  | a :: L, j + 1, hj, h1, h2 => by
    have ha : p a = true := h1 0 (by simp) (by omega)
    obtain ⟨g1, g2⟩ := while_at L j (by simpa using hj) (fun i hi hij => by have := h1 (i + 1) (by simpa using hi) (by omega); simpa using this) (fun h => by have := h2 (by simpa using h); simpa using this)
    rw [List.takeWhile_cons, List.dropWhile_cons, if_pos ha, if_pos ha, g1, g2]; simp
theorem kat_eq {L : List α} {i : Nat} {x : α} (h : L[i]? = some x) : kat key L i = key x := by unfold kat; rw [h]
theorem srt_kat {L : List α} (h : Srt key L) {i j : Nat} (hij : i ≤ j) (hj : j < L.length) : kat key L j ≤ kat key L i := by
  rw [kat_eq (List.getElem?_eq_getElem hj), kat_eq (List.getElem?_eq_getElem (show i < L.length by omega))]
  rcases Nat.eq_or_lt_of_le hij with rfl | hlt
  · omega
  · exact List.pairwise_iff_getElem.1 h i j (by omega) hj hlt
theorem mem_kat_take {L : List α} {n : Nat} {x : α} (h : x ∈ L.take n) : ∃ i, i < n ∧ i < L.length ∧ key x = kat key L i := by
  obtain ⟨i, hi, rfl⟩ := List.getElem_of_mem h
  rw [List.length_take] at hi
  refine ⟨i, by omega, by omega, ?_⟩
  rw [List.getElem_take, kat_eq (List.getElem?_eq_getElem (show i < L.length by omega))]
theorem mem_kat_drop {L : List α} {n : Nat} {x : α} (h : x ∈ L.drop n) : ∃ i, n ≤ i ∧ i < L.length ∧ key x = kat key L i := by
  obtain ⟨i, hi, rfl⟩ := List.getElem_of_mem h
  rw [List.length_drop] at hi
  refine ⟨n + i, by omega, by omega, ?_⟩
  rw [List.getElem_drop, kat_eq (List.getElem?_eq_getElem (show n + i < L.length by omega))]
theorem split_ge {X Y : List α} (hX : Srt key X) (hY : Srt key Y) {s e : Nat} (hs : s ≤ X.length) (he : e ≤ Y.length) (h : s = 0 ∨ e = Y.length ∨ (e < Y.length ∧ kat key Y e ≤ kat key X (s - 1))) :
    ∀ x ∈ X.take s, ∀ y ∈ Y.drop e, key y ≤ key x := fun x hx y hy => by
  obtain ⟨i, h1, h2, h3⟩ := mem_kat_take (key := key) hx
  obtain ⟨j, h4, h5, h6⟩ := mem_kat_drop (key := key) hy
  have h7 := srt_kat hX (show i ≤ s - 1 by omega) (by omega)
  have h8 := srt_kat hY h4 h5
  rw [h3, h6]
  rcases h with h9 | h9 | h9
  · omega
  · omega
  · have h10 := h9.2
    omega
theorem split_lt {X Y : List α} (hX : Srt key X) (hY : Srt key Y) {s e : Nat} (hs : s ≤ X.length) (he : e ≤ Y.length) (h : s = X.length ∨ e = 0 ∨ (s < X.length ∧ kat key X s < kat key Y (e - 1))) :
    ∀ x ∈ X.drop s, ∀ y ∈ Y.take e, key x < key y := fun x hx y hy => by
  obtain ⟨i, h1, h2, h3⟩ := mem_kat_drop (key := key) hx
  obtain ⟨j, h4, h5, h6⟩ := mem_kat_take (key := key) hy
  have h7 := srt_kat hX h1 h2
  have h8 := srt_kat hY (show j ≤ e - 1 by omega) (by omega)
  rw [h3, h6]
  rcases h with h9 | h9 | h9
  · omega
  · omega
  · have h10 := h9.2
    omega
theorem merge_plain {A1 A2 B1 B2 Z1 Z2 : List α} (hX : Srt key (A1 ++ A2)) (hY : Srt key (B1 ++ B2)) (f1 : ∀ x ∈ A1, ∀ y ∈ B2, key y ≤ key x) (f2 : ∀ x ∈ A2, ∀ y ∈ B1, key x < key y)
    (s1 : Srt key Z1) (s2 : Srt key Z2) (e1 : Eqv key (A1 ++ B1) Z1) (e2 : Eqv key (A2 ++ B2) Z2) : Srt key (Z1 ++ Z2) ∧ Eqv key ((A1 ++ A2) ++ (B1 ++ B2)) (Z1 ++ Z2) := by
  obtain ⟨x1, x2, x3⟩ := srt_append.1 hX
  obtain ⟨y1, y2, y3⟩ := srt_append.1 hY
  refine ⟨srt_append.2 ⟨s1, s2, fun x hx y hy => ?_⟩, ?_⟩
  · have hx' := e1.symm.mem hx
    have hy' := e2.symm.mem hy
    rcases List.mem_append.1 hx' with h1 | h1 <;> rcases List.mem_append.1 hy' with h2 | h2
    · exact x3 x h1 y h2
    · exact f1 x h1 y h2
    · have := f2 y h2 x h1; omega
    · exact y3 x h1 y h2
  · have hs : Eqv key (A2 ++ B1) (B1 ++ A2) := Eqv.swap fun x hx y hy => by have := f2 x hx y hy; omega
    have h1 : Eqv key ((A1 ++ A2) ++ (B1 ++ B2)) ((A1 ++ B1) ++ (A2 ++ B2)) := by
      have := ((Eqv.refl (key := key) A1).append (hs.append (Eqv.refl (key := key) B2)))
      simpa [List.append_assoc] using this
    exact h1.trans (e1.append e2)
/-- An exchange of two places. -/
theorem swap_mid (p q r : List α) (x y : α) : (((p ++ x :: q ++ y :: r).set p.length y).set (p.length + 1 + q.length) x) = p ++ y :: q ++ x :: r := by
  have h1 : (p ++ x :: q ++ y :: r).set p.length y = p ++ y :: q ++ y :: r := by
    rw [List.append_assoc, List.set_append_right _ _ (by omega)]; simp
  rw [h1, List.append_assoc, List.set_append_right _ _ (by omega), show p.length + 1 + q.length - p.length = q.length + 1 by omega]
  simp
theorem swap_mid' (p q r : List α) (x y : α) : (((p ++ x :: q ++ y :: r).set (p.length + 1 + q.length) x).set p.length y) = p ++ y :: q ++ x :: r := by
  rw [List.set_comm _ _ (by omega)]; exact swap_mid p q r x y
theorem get_mid (p q r : List α) (x y : α) : (p ++ x :: q ++ y :: r)[p.length]? = some x ∧ (p ++ x :: q ++ y :: r)[p.length + 1 + q.length]? = some y := by
  constructor
  · rw [List.append_assoc, List.getElem?_append_right (by omega)]; simp
  · rw [List.append_assoc, List.getElem?_append_right (by omega), show p.length + 1 + q.length - p.length = q.length + 1 by omega]; simp
end
end Go.Proofs.Ytldilhbomilcpaa
