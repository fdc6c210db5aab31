/- Texts put together: He. -/
import Derived.Test.YtnbkpannhcamjaaDoorG07
import Derived.Laws.AppendOwn
import Derived.Maps.AppendAt
import Derived.Laws.OwnMore
namespace Go.Proofs.YtnbkpannhcamjaaDoor
set_option linter.unusedVariables false
set_option linter.unusedSimpArgs false
open Go.RowKit Go.Joins

set_option maxHeartbeats 1600000 in
theorem indexFunc_any (A : Option Addr) (cap : Nat) (L : List Hd) (fv : Value) (p : Hd → Bool) (w : World) (hR : HReads w (· < w.heap.size) A L) (hF : FV w w.heap.size fv p) (hl : L.length ≤ 9223372036854775807) :
    Calls Tryd.prog 27 #[.slice A L.length cap, fv] w fun e w' => e = .returned (.int .i64 (idxH p L)) ∧ Below w.heap.size w w' := by
  obtain ⟨F, c, rfl, eg, hF⟩ := hF
  have HR := hid hR
  have HF := hid hF
  clear hR hF
  go_enter Tryd.func27, Tryd.ntmps27
  go_wp2_with fail
  go_loopw [8] (fun i wr => ∃ k : Nat, k ≤ L.length ∧ i = .int .i64 k ∧ Hid ((∀ j (h : j < L.length), j < k → p L[j] = false) ∧ Below w.heap.size w wr)) (fun i _ => L.length - (intOf i).toNat)
  case atStart => exact ⟨0, by omega, rfl, hid ⟨fun j h h' => absurd h' (by omega), Below.refl _ _⟩⟩
  case round =>
    obtain ⟨k, hk, rfl, HK⟩ := hrel
    by_cases hlt : k < L.length
    · obtain ⟨b, o, rfl, hB, hc0, hc1⟩ := (HR.out.below HK.out.2) k hlt
      cases hp : p L[k]
      · have HP := hid hp
        clear hp
        go_wp2_with fail
        refine (HF.out _ HK.out.2 _).mono ?_
        rintro e w1 ⟨rfl, hb1⟩
        have HB := hid hb1
        clear hb1
        rw [HP.out]
        go_wp2_with fail
        go_roundw
        case rel => exact ⟨k + 1, by omega, by go_num, hid ⟨fun j h h' => by
          by_cases e : j = k
          · subst e; exact HP.out
          · exact HK.out.1 j h (by omega), HK.out.2.trans (HB.out.mono HK.out.2.size)⟩⟩
        case measure => simp [intOf]; omega
      · have HI := hid (findIdx_hit p L k hlt HK.out.1 hp)
        have HP := hid hp
        clear hp
        go_wp2_with fail
        refine (HF.out _ HK.out.2 _).mono ?_
        rintro e w1 ⟨rfl, hb1⟩
        have HB := hid hb1
        clear hb1
        rw [HP.out]
        go_wp2_with fail
        go_ret
        exact ⟨by rw [idxH, HI.out, if_pos hlt]; rfl, HK.out.2.trans (HB.out.mono HK.out.2.size)⟩
    · obtain rfl : k = L.length := by omega
      have HI := hid (findIdx_miss p L fun j hj => HK.out.1 j hj hj)
      go_wp2_with fail
      go_ret
      exact ⟨by rw [idxH, HI.out, if_neg (by omega)]; rfl, HK.out.2⟩
theorem infoH : (Tryd.prog.info? 45).map (fun i => (i.zero, i.size, i.bytes)) = some (some (.agg #[.string ByteArray.empty, .string ByteArray.empty]), 2, 32) := by kernel_rfl
def hvals (L : List Hd) : List Value := L.flatMap fun h => [Value.string (bs h.1), Value.string (bs h.2)]
theorem hvals_length (L : List Hd) : (hvals L).length = L.length * 2 := by
  induction L with
  | nil => rfl
  | cons h r ih => simp only [hvals, List.flatMap_cons, List.length_append] at ih ⊢; rw [ih]; simp; omega
theorem hvals_snoc (L : List Hd) (h : Hd) : hvals L ++ [.string (bs h.1), .string (bs h.2)] = hvals (L ++ [h]) := by simp [hvals]
theorem hvals_append (L M : List Hd) : hvals L ++ hvals M = hvals (L ++ M) := by simp [hvals]
theorem hvals_at (L : List Hd) (k : Nat) (h : k < L.length) : (hvals L)[k * 2]? = some (.string (bs L[k].1)) ∧ (hvals L)[k * 2 + 1]? = some (.string (bs L[k].2)) := by
  induction L generalizing k with
  | nil => simp at h
  | cons x r ih =>
    have hc : hvals (x :: r) = .string (bs x.1) :: .string (bs x.2) :: hvals r := rfl
    cases k with
    | zero => rw [hc]; simp
    | succ k =>
      have := ih k (by simpa using h)
      rw [hc, show (k + 1) * 2 = k * 2 + 1 + 1 from by omega]
      simpa using this
/-- A slice of headers that the call itself has made, holding L. -/
def HB (w : World) (base : Nat) (v : Value) (L : List Hd) : Prop := w.ownsRow base 45 2 v L.length (hvals L)
theorem HB.nil (w : World) (base : Nat) : HB w base (.slice none 0 0) [] := ⟨rfl, Or.inl ⟨rfl, rfl⟩⟩
theorem HB.reads {w : World} {base : Nat} {v : Value} {L : List Hd} (h : HB w base v L) : ∃ A cap, v = .slice A L.length cap ∧ HReads w (fun b => base ≤ b ∧ b < w.heap.size) A L := by
  rcases ownsRow_forms h with ⟨rfl, h0⟩ | ⟨g, cap, rfl⟩
  · exact ⟨none, 0, by rw [h0], fun k hk => absurd hk (by omega)⟩
  · refine ⟨some ⟨g, 0, none⟩, cap, rfl, fun k hk => ⟨g, 0, rfl, World.ownsRow.lt h g rfl, ?_, ?_⟩⟩
    · rw [Nat.zero_add, World.ownsRow.cellAt h (k * 2) (by omega)]; exact (hvals_at L k hk).1
    · rw [Nat.zero_add, World.ownsRow.cellAt h (k * 2 + 1) (by omega)]; exact (hvals_at L k hk).2
theorem HB.below {w w' : World} {base : Nat} {v : Value} {L : List Hd} (h : HB w base v L) (hb : Below w.heap.size w w') : HB w' base v L := by
  unfold HB at *
  refine World.ownsRow.kept (row := none) h ⟨hb.os, hb.tape, hb.output, hb.size, fun k hk _ => hb.block k hk⟩ ?_
  by_cases e : v.ownBlock = none
  · exact Or.inl e
  · exact Or.inr e
theorem one_cell_hd (h : Hd) : ∀ u ∈ [Value.string (bs h.1), Value.string (bs h.2)], u.oneCell' = true := by intro u hu; simp at hu; rcases hu with rfl | rfl <;> rfl
theorem cell_two_new (w : World) (x y : Value) (t : TypeId) : ∀ j u, [x, y][j]? = some u → (w.alloc (.cells #[x, y] t)).cell? ((⟨w.heap.size, 0, none⟩ : Addr).add j) = some u := by
  intro j u hj
  match j, hj with
  | 0, hj => simp at hj; subst hj; simp [Addr.add]
  | 1, hj => simp at hj; subst hj; rw [Addr.add_lit]; simp
  | j + 2, hj => simp at hj
/-- append of one header to a slice of the call's own. -/
theorem wpList_append_hd {ops : Array Oper} {rest : List Oper} {o : Oper} {a : Act} {Q : Exit → Act → World → Prop} {w W0 : World} (hgd : o.guard = none) (s x : Operand)
    (ho : o.op = .call { callee := .builtin .append, args := #[s, x], argTypes := #[22, 22] }) (base : Nat) (v : Value) (L : List Hd) (h : Hd) (g : Nat)
    (hs : a.eval s = v) (hown : HB w base v L) (hx : a.eval x = .slice (some ⟨g, 0, none⟩) 1 1) (hc : w.cell? ⟨g, 0, none⟩ = some (.string (bs h.1)) ∧ w.cell? ⟨g, 1, none⟩ = some (.string (bs h.2)))
    (hl : L.length ≤ 10000000) (hW : Below base W0 w) (hbase : base ≤ W0.heap.size) (K : ∀ v' w', HB w' base v' (L ++ [h]) → Below base W0 w' → wpList Tryd.prog ops Q rest (a.put o.dst v') w') : wpList Tryd.prog ops Q (o :: rest) a w := by
  obtain ⟨i0, hi, hz0, hz1, hz2⟩ := info_parts infoH
  have hbw : base ≤ w.heap.size := Nat.le_trans hbase hW.size
  refine wpList_append_own _ hgd s x 22 ho base 45 i0 (.agg #[.string ByteArray.empty, .string ByteArray.empty]) 2 32 Tryd.underlying22 hi hz0 hz1 hz2 rfl (by decide) v L.length (hvals L) hs hown ⟨g, 0, none⟩ 1 1
    [.string (bs h.1), .string (bs h.2)] hx rfl ?_ (one_cell_hd h) (by unfold maxLen; omega) (by omega) hbw ?_
  · intro j u hj
    match j, hj with
    | 0, hj => simp at hj; subst hj; simpa [Addr.add] using hc.1
    | 1, hj => simp at hj; subst hj; rw [Addr.add_lit]; exact hc.2
    | j + 2, hj => simp at hj
  · intro v' w' h1 h2 _
    refine K v' w' ?_ (hW.grown h2 hbw (fun k hk => (World.ownsRow.lt hown k hk).1))
    unfold HB
    rw [List.length_append, ← hvals_snoc]
    exact h1
theorem HB.alloc {w : World} {base : Nat} {v : Value} {L : List Hd} (h : HB w base v L) (o : Obj) : HB (w.alloc o) base v L := h.below ((Below.refl _ _).alloc (Nat.le_refl _) _)
set_option maxRecDepth 100000 in
set_option maxHeartbeats 2000000 in
theorem left_any (A : Option Addr) (cap : Nat) (L : List Hd) (fv : Value) (p : Hd → Bool) (w : World) (hR : HReads w (· < w.heap.size) A L) (hF : FV w w.heap.size fv p) (hl : L.length ≤ 1000000) :
    Calls Tryd.prog 32 #[.slice A L.length cap, fv] w fun e w' => ∃ v, e = .returned v ∧ HB w' w.heap.size v (L.filter p) ∧ Below w.heap.size w w' := by
  obtain ⟨F, c, rfl, eg, hF⟩ := hF
  obtain ⟨i0, hi, hz0, hz1, hz2⟩ := info_parts infoH
  have HI := hid hi
  have HZ0 := hid hz0
  have HZ1 := hid hz1
  have HZ2 := hid hz2
  clear hi hz0 hz1 hz2
  have HR := hid hR
  have HF := hid hF
  clear hR hF
  go_enter Tryd.func32, Tryd.ntmps32
  go_wp2_with fail
  go_loopw [5, 10] (fun v i wr => ∃ k : Nat, k ≤ L.length ∧ i = .int .i64 k ∧ Hid (HB wr w.heap.size v ((L.take k).filter p) ∧ Below w.heap.size w wr)) (fun _ i _ => L.length - (intOf i).toNat)
  case atStart => exact ⟨0, by omega, rfl, hid ⟨HB.nil _ _, Below.refl _ _⟩⟩
  case round =>
    obtain ⟨k, hk, rfl, HK⟩ := hrel
    by_cases hlt : k < L.length
    · obtain ⟨b, o, rfl, hB, hc0, hc1⟩ := (HR.out.below HK.out.2) k hlt
      have HFT := hid (filter_take p L k hlt)
      have hsz : w.heap.size ≤ wr.heap.size := HK.out.2.size
      generalize L[k] = h at *
      obtain ⟨h0, h1⟩ := h
      have HB1 := hid (HK.out.2.alloc hsz (.cells #[Value.string (bs h0), Value.string (bs h1)] 45))
      cases hp : p (h0, h1)
      all_goals
        have HP := hid hp
        clear hp
        go_wp2_with fail
        refine (HF.out _ HB1.out (h0, h1)).mono ?_
        rintro e w1 ⟨rfl, hb1⟩
        rw [HP.out]
      · have HB2 := hid hb1
        clear hb1
        go_wp2_with fail
        go_roundw
        case rel => exact ⟨k + 1, by omega, by go_num, hid ⟨by rw [HFT.out, HP.out]; simpa using (HK.out.1.alloc _).below HB2.out, HB1.out.trans (HB2.out.mono (by simp; omega))⟩⟩
        case measure => simp [intOf]; omega
      · have hc2 : w1.cell? ⟨wr.heap.size, 0, none⟩ = some (.string (bs h0)) := by rw [hb1.cell (by simp)]; simp
        have hc3 : w1.cell? ⟨wr.heap.size, 1, none⟩ = some (.string (bs h1)) := by rw [hb1.cell (by simp)]; simp
        have HB2 := hid hb1
        have HO := hid ((HK.out.1.alloc (.cells #[Value.string (bs h0), Value.string (bs h1)] 45)).below hb1)
        have HW1 := hid (HB1.out.trans (hb1.mono (by simp; omega)))
        have hsz1 : w.heap.size ≤ w1.heap.size := HW1.out.size
        have HFL := hid (List.length_filter_le p (L.take k))
        have HTL := hid (List.length_take_le k L)
        clear hb1
        go_wp2_with (at_builtin; refine wpList_append_hd rfl _ _ rfl w.heap.size _ ((L.take k).filter p) (h0, h1) _ rfl (HO.out.alloc _) rfl ⟨by simp, by simp⟩ (by have := HFL.out; have := HTL.out; omega) (HW1.out.alloc hsz1 _) (Nat.le_refl _) ?_)
        intro v' w2 hown hbel
        have HN := hid (And.intro hown hbel)
        clear hown hbel
        go_wp2_with fail
        go_roundw
        case rel => exact ⟨k + 1, by omega, by go_num, hid ⟨by rw [HFT.out, HP.out]; exact HN.out.1, HN.out.2⟩⟩
        case measure => simp [intOf]; omega
    · obtain rfl : k = L.length := by omega
      go_wp2_with fail
      go_ret
      have h1 := HK.out
      rw [List.take_length] at h1
      exact ⟨_, rfl, h1⟩
end Go.Proofs.YtnbkpannhcamjaaDoor
