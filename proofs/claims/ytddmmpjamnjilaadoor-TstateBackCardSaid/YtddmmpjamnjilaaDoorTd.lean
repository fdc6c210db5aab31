import Derived.Test.YtddmmpjamnjilaaDoorTc
import Derived.Test.YtddmmpjamnjilaaDoorHe
import Derived.Test.YtddmmpjamnjilaaDoorHh
namespace Go.Proofs.YtddmmpjamnjilaaDoor
set_option linter.unusedVariables false
set_option linter.unusedSimpArgs false
open Go.RowKit Go.Joins

theorem infoM : (Tryd.prog.info? 50).map (fun i => (i.zero, i.size, i.bytes)) = some (some (.agg #[.string ByteArray.empty, .string ByteArray.empty]), 2, 32) := by kernel_rfl
/-- A slice of members that the call itself has made, holding L. -/
def MB (w : World) (base : Nat) (v : Value) (L : List Hd) : Prop := w.ownsRow base 50 2 v L.length (hvals L)
theorem MB.nil (w : World) (base : Nat) : MB w base (.slice none 0 0) [] := ⟨rfl, Or.inl ⟨rfl, rfl⟩⟩
theorem MB.reads {w : World} {base : Nat} {v : Value} {L : List Hd} (h : MB w base v L) : ∃ A cap, v = .slice A L.length cap ∧ HReads w (fun b => base ≤ b ∧ b < w.heap.size) A L := by
  rcases ownsRow_forms h with ⟨rfl, h0⟩ | ⟨g, cap, rfl⟩
  · exact ⟨none, 0, by rw [h0], fun k hk => absurd hk (by omega)⟩
  · refine ⟨some ⟨g, 0, none⟩, cap, rfl, fun k hk => ⟨g, 0, rfl, World.ownsRow.lt h g rfl, ?_, ?_⟩⟩
    · rw [Nat.zero_add, World.ownsRow.cellAt h (k * 2) (by omega)]; exact (hvals_at L k hk).1
    · rw [Nat.zero_add, World.ownsRow.cellAt h (k * 2 + 1) (by omega)]; exact (hvals_at L k hk).2
theorem MB.below {w w' : World} {base : Nat} {v : Value} {L : List Hd} (h : MB w base v L) (hb : Below w.heap.size w w') : MB w' base v L := by
  unfold MB at *
  refine World.ownsRow.kept (row := none) h ⟨hb.os, hb.tape, hb.output, hb.size, fun k hk _ => hb.block k hk⟩ ?_
  by_cases e : v.ownBlock = none
  · exact Or.inl e
  · exact Or.inr e
/-- append of one member to a slice of the call's own. -/
theorem wpList_append_mb {ops : Array Oper} {rest : List Oper} {o : Oper} {a : Act} {Q : Exit → Act → World → Prop} {w W0 : World} (hgd : o.guard = none) (s x : Operand)
    (ho : o.op = .call { callee := .builtin .append, args := #[s, x], argTypes := #[38, 38] }) (base : Nat) (v : Value) (L : List Hd) (h : Hd) (g : Nat)
    (hs : a.eval s = v) (hown : MB w base v L) (hx : a.eval x = .slice (some ⟨g, 0, none⟩) 1 1) (hc : w.cell? ⟨g, 0, none⟩ = some (.string (bs h.1)) ∧ w.cell? ⟨g, 1, none⟩ = some (.string (bs h.2)))
    (hl : L.length ≤ 10000000) (hW : Below base W0 w) (hbase : base ≤ W0.heap.size) (K : ∀ v' w', MB w' base v' (L ++ [h]) → Below base W0 w' → wpList Tryd.prog ops Q rest (a.put o.dst v') w') : wpList Tryd.prog ops Q (o :: rest) a w := by
  obtain ⟨i0, hi, hz0, hz1, hz2⟩ := info_parts infoM
  have hbw : base ≤ w.heap.size := Nat.le_trans hbase hW.size
  refine wpList_append_own _ hgd s x 38 ho base 50 i0 (.agg #[.string ByteArray.empty, .string ByteArray.empty]) 2 32 Tryd.underlying38 hi hz0 hz1 hz2 rfl (by decide) v L.length (hvals L) hs hown ⟨g, 0, none⟩ 1 1
    [.string (bs h.1), .string (bs h.2)] hx rfl ?_ (one_cell_hd h) (by unfold maxLen; omega) (by omega) hbw ?_
  · intro j u hj
    match j, hj with
    | 0, hj => simp at hj; subst hj; simpa [Addr.add] using hc.1
    | 1, hj => simp at hj; subst hj; rw [Addr.add_lit]; exact hc.2
    | j + 2, hj => simp at hj
  · intro v' w' h1 h2 _
    refine K v' w' ?_ (hW.grown h2 hbw (fun k hk => (World.ownsRow.lt hown k hk).1))
    unfold MB
    rw [List.length_append, ← hvals_snoc]
    exact h1
theorem MB.alloc {w : World} {base : Nat} {v : Value} {L : List Hd} (h : MB w base v L) (o : Obj) : MB (w.alloc o) base v L := h.below ((Below.refl _ _).alloc (Nat.le_refl _) _)
theorem MB.more {w : World} {base base' : Nat} {v : Value} {L : List Hd} (h : MB w base v L) (hb : base' ≤ base) : MB w base' v L := by
  refine ⟨h.1, ?_⟩
  rcases h.2 with h2 | ⟨g, cap', cur, e1, e2, e3⟩
  · exact Or.inl h2
  · exact Or.inr ⟨g, cap', cur, e1, Nat.le_trans hb e2, e3⟩
theorem MB.form {w : World} {base : Nat} {v : Value} {L : List Hd} (h : MB w base v L) : ∃ A cap, v = .slice A L.length cap ∧ L.length ≤ cap ∧ HReads w (· < w.heap.size) A L := by
  obtain ⟨A, cap, rfl, hr⟩ := h.reads
  refine ⟨A, cap, rfl, ?_, hr.imp fun b hb => hb.2⟩
  rcases h.2 with ⟨e, h0⟩ | ⟨g, cap', cur, e, _, _, h1, _⟩
  · omega
  · injection e with e1 e2 e3; omega
theorem MB.one (w : World) (base : Nat) (hb : base ≤ w.heap.size) (k v : List UInt8) : MB (w.alloc (.cells #[.string (bs k), .string (bs v)] 50)) base (.slice (some ⟨w.heap.size, 0, none⟩) 1 1) [(k, v)] :=
  World.ownsRow_lit w #[.string (bs k), .string (bs v)] 1 hb (by decide) rfl
theorem put_ret {M : List Hd × Int} {X : List Hd} {c : Int} {w w' : World} {base : Nat} {r : Value} (h : M = (X, c)) (hm : MB w' base r X) (hb : Below base w w') :
    (∃ r', Ending.returned (.tuple #[r, .int .i64 c]) = .returned (.tuple #[r', .int .i64 M.2]) ∧ MB w' base r' M.1) ∧ Below base w w' := by
  subst h; exact ⟨⟨r, rfl, hm⟩, hb⟩
def othK (k : List UInt8) (h : Hd) : Bool := !(h.1 == k)
theorem putM_fill (L : List Hd) (k v : List UInt8) (j : Nat) (h : 32 ≤ ((k, v) :: (L.take j).filter (othK k)).length) (h2 : ((k, v) :: (L.take j).filter (othK k)).length ≤ 32) : ((k, v) :: L.filter (othK k)).take 32 = (k, v) :: (L.take j).filter (othK k) := by
  have e : (k, v) :: L.filter (othK k) = ((k, v) :: (L.take j).filter (othK k)) ++ (L.drop j).filter (othK k) := by
    rw [List.cons_append, ← List.filter_append, List.take_append_drop]
  rw [e, List.take_append_of_le_length h, List.take_of_length_le h2]
theorem putM_all (L : List Hd) (k v : List UInt8) (h2 : ((k, v) :: (L.take L.length).filter (othK k)).length ≤ 32) : ((k, v) :: L.filter (othK k)).take 32 = (k, v) :: (L.take L.length).filter (othK k) := by
  rw [List.take_length] at h2 ⊢; rw [List.take_of_length_le h2]
set_option maxRecDepth 100000 in
set_option maxHeartbeats 4000000 in
theorem tput_any (A : Option Addr) (cap : Nat) (L : List Hd) (k v : List UInt8) (w : World) (hR : HReads w (· < w.heap.size) A L) (hl : L.length ≤ 9223372036854775807) (hk : k.length ≤ 140737488351232) (hv : v.length ≤ 140737488351232) :
    Calls Tryd.prog 25 #[.slice A L.length cap, .string (bs k), .string (bs v)] w fun e w' => (∃ r, e = .returned (.tuple #[r, .int .i64 (putM L k v).2]) ∧ MB w' w.heap.size r (putM L k v).1) ∧ Below w.heap.size w w' := by
  have HR := hid hR
  clear hR
  have hnot := notB'
  cases h1 : keyB k
  · have HP := hid (show putM L k v = ([], 3) by rw [putM, if_pos h1])
    have H1 := hid h1
    clear h1
    go_enter Tryd.func25, Tryd.ntmps25
    go_wp2_with fail
    refine (tkey_any _ _ hk).mono ?_
    rintro e w1 ⟨rfl, rfl⟩
    rw [H1.out]
    go_wp2_with fail
    go_ret2
    exact put_ret HP.out (MB.nil _ _) (Below.refl _ _)
  have H1 := hid h1
  clear h1
  cases h2 : valM v
  · have HP := hid (show putM L k v = ([], 3) by rw [putM, if_neg (by rw [H1.out]; simp), if_pos h2])
    have H2 := hid h2
    clear h2
    go_enter Tryd.func25, Tryd.ntmps25
    go_wp2_with fail
    refine (tkey_any _ _ hk).mono ?_
    rintro e w1 ⟨rfl, rfl⟩
    rw [H1.out]
    go_wp2_with fail
    refine (tval_any _ _ hv).mono ?_
    rintro e w1 ⟨rfl, rfl⟩
    rw [H2.out]
    go_wp2_with fail
    go_ret2
    exact put_ret HP.out (MB.nil _ _) (Below.refl _ _)
  have H2 := hid h2
  clear h2
  have HP := hid (show putM L k v = (((k, v) :: L.filter (othK k)).take 32, 0) by rw [putM, if_neg (by rw [H1.out]; simp), if_neg (by rw [H2.out]; simp)]; rfl)
  have HO := hid (MB.one w w.heap.size (Nat.le_refl _) k v)
  have HAL := hid (tbelow_new w (.cells #[.string (bs k), .string (bs v)] 50))
  go_enter Tryd.func25, Tryd.ntmps25
  go_wp2_with fail
  refine (tkey_any _ _ hk).mono ?_
  rintro e w1 ⟨rfl, rfl⟩
  rw [H1.out]
  go_wp2_with fail
  refine (tval_any _ _ hv).mono ?_
  rintro e w1 ⟨rfl, rfl⟩
  rw [H2.out]
  go_wp2_with fail
  go_loopw [8, 25] (fun r i wr => ∃ (j : Nat) (N : Nat) (A1 : Option Addr) (c1 : Nat), j ≤ L.length ∧ i = .int .i64 j ∧ r = .slice A1 N c1 ∧ N ≤ 32 ∧ Hid (N = ((k, v) :: (L.take j).filter (othK k)).length ∧ MB wr w.heap.size (.slice A1 N c1) ((k, v) :: (L.take j).filter (othK k)) ∧ Below w.heap.size w wr)) (fun _ i _ => L.length - (intOf i).toNat)
  case atStart => exact ⟨0, 1, _, _, by omega, rfl, rfl, by omega, hid ⟨rfl, HO.out, HAL.out⟩⟩
  case round =>
    obtain ⟨j, N, A1, c1, hj, rfl, rfl, hN, HK⟩ := hrel
    by_cases hlt : j < L.length
    · obtain ⟨b, o, rfl, hB1, hc0, hc1⟩ := (HR.out.below HK.out.2.2) j hlt
      have HFT := hid (filter_take (othK k) L j hlt)
      have hsz : w.heap.size ≤ wr.heap.size := HK.out.2.2.size
      generalize L[j] = h at *
      obtain ⟨h0, h1⟩ := h
      have HB1 := hid (HK.out.2.2.alloc hsz (.cells #[Value.string (bs h0), Value.string (bs h1)] 50))
      have HOW := hid (HK.out.2.1.alloc (.cells #[Value.string (bs h0), Value.string (bs h1)] 50))
      by_cases h32 : N = 32
      · have HF := hid (show putM L k v = ((k, v) :: (L.take j).filter (othK k), 0) by rw [HP.out, putM_fill L k v j (by have := HK.out.1; omega) (by have := HK.out.1; omega)])
        subst h32
        go_wp2_with fail
        go_ret2
        exact put_ret HF.out (HOW.out) (HB1.out)
      · have h32' : ((N : Int) == 32) = false := by simp; omega
        have hN2 : N ≤ 31 := by omega
        clear h32
        cases hp : (h0 == k)
        · have HPP := hid (show othK k (h0, h1) = true by simp [othK, hp])
          go_wp2_with (at_builtin; refine wpList_append_mb rfl _ _ rfl w.heap.size _ ((k, v) :: (L.take j).filter (othK k)) (h0, h1) _ rfl (HOW.out.alloc _) rfl ⟨by simp, by simp⟩ (by have := HK.out.1; omega) (HB1.out.alloc (by simp; omega) _) (Nat.le_refl _) ?_)
          intro r' w3 hown hbel
          obtain ⟨A2, c2, e2, hle, _⟩ := hown.form
          have e3 : r' = .slice A2 (N + 1) c2 := by have := HK.out.1; rw [e2]; simp at this ⊢; omega
          have HL := hid (show N + 1 = ((k, v) :: ((L.take j).filter (othK k) ++ [(h0, h1)])).length by rw [← List.cons_append, List.length_append, ← HK.out.1]; rfl)
          subst e3
          have HN := hid (And.intro hown hbel)
          clear hown hbel hle e2
          go_wp2_with fail
          go_roundw
          case rel => exact ⟨j + 1, N + 1, _, _, by omega, by go_num, rfl, by omega, hid ⟨by rw [HFT.out, HPP.out, if_pos rfl]; exact HL.out, by rw [HFT.out, HPP.out, if_pos rfl]; exact HN.out.1, HN.out.2⟩⟩
          case measure => simp [intOf]; omega
        · have HPP := hid (show othK k (h0, h1) = false by simp [othK, hp])
          go_wp2_with fail
          go_roundw
          case rel => exact ⟨j + 1, N, _, _, by omega, by go_num, rfl, by omega, hid ⟨by rw [HFT.out, HPP.out]; simpa using HK.out.1, by rw [HFT.out, HPP.out]; simpa using HOW.out, HB1.out⟩⟩
          case measure => simp [intOf]; omega
    · obtain rfl : j = L.length := by omega
      have HF := hid (show putM L k v = ((k, v) :: (L.take L.length).filter (othK k), 0) by rw [HP.out, putM_all L k v (by have := HK.out.1; omega)])
      go_wp2_with fail
      go_ret2
      exact put_ret HF.out (HK.out.2.1) (HK.out.2.2)
set_option maxRecDepth 100000 in
set_option maxHeartbeats 4000000 in
theorem rtput_any (A : Option Addr) (cap : Nat) (L : List Hd) (k v : List UInt8) (w : World) (hR : HReads w (· < w.heap.size) A L) (hl : L.length ≤ 9223372036854775807) (hk : k.length ≤ 140737488351232) (hv : v.length ≤ 140737488351232) :
    Calls Tryd.prog 26 #[.slice A L.length cap, .string (bs k), .string (bs v)] w fun e w' => (∃ r, e = .returned (.tuple #[r, .int .i64 (putM L k v).2]) ∧ MB w' w.heap.size r (putM L k v).1) ∧ Below w.heap.size w w' := by
  have HR := hid hR
  clear hR
  have hnot := notB'
  cases h1 : keyB k
  · have HP := hid (show putM L k v = ([], 3) by rw [putM, if_pos h1])
    have H1 := hid h1
    clear h1
    go_enter Tryd.func26, Tryd.ntmps26
    go_wp2_with fail
    refine (rkey_any _ _ hk).mono ?_
    rintro e w1 ⟨rfl, rfl⟩
    rw [H1.out]
    go_wp2_with fail
    go_ret2
    exact put_ret HP.out (MB.nil _ _) (Below.refl _ _)
  have H1 := hid h1
  clear h1
  cases h2 : valM v
  · have HP := hid (show putM L k v = ([], 3) by rw [putM, if_neg (by rw [H1.out]; simp), if_pos h2])
    have H2 := hid h2
    clear h2
    go_enter Tryd.func26, Tryd.ntmps26
    go_wp2_with fail
    refine (rkey_any _ _ hk).mono ?_
    rintro e w1 ⟨rfl, rfl⟩
    rw [H1.out]
    go_wp2_with fail
    refine (rval_any _ _ hv).mono ?_
    rintro e w1 ⟨rfl, rfl⟩
    rw [H2.out]
    go_wp2_with fail
    go_ret2
    exact put_ret HP.out (MB.nil _ _) (Below.refl _ _)
  have H2 := hid h2
  clear h2
  have HP := hid (show putM L k v = (((k, v) :: L.filter (othK k)).take 32, 0) by rw [putM, if_neg (by rw [H1.out]; simp), if_neg (by rw [H2.out]; simp)]; rfl)
  have hmn := MB.nil w w.heap.size
  go_enter Tryd.func26, Tryd.ntmps26
  go_wp2_with fail
  refine (rkey_any _ _ hk).mono ?_
  rintro e w1 ⟨rfl, rfl⟩
  rw [H1.out]
  go_wp2_with fail
  refine (rval_any _ _ hv).mono ?_
  rintro e w1 ⟨rfl, rfl⟩
  rw [H2.out]
  go_wp2_with (at_builtin; refine wpList_append_mb rfl _ _ rfl w.heap.size _ [] (k, v) _ rfl (hmn.alloc _) rfl (ttwo_new _ _ _ _) (by simp) (tbelow_new w _) (Nat.le_refl _) ?_)
  intro r' w2 hown hbel
  obtain ⟨A2, c2, e2, hle, _⟩ := hown.form
  have e3 : r' = .slice A2 1 c2 := e2
  subst e3
  have HO := hid (And.intro hown hbel)
  clear hown hbel hle hmn e2
  go_wp2_with fail
  go_loopw [8, 9] (fun r i wr => ∃ (j : Nat) (N : Nat) (A1 : Option Addr) (c1 : Nat), j ≤ L.length ∧ i = .int .i64 j ∧ r = .slice A1 N c1 ∧ N ≤ 32 ∧ Hid (N = ((k, v) :: (L.take j).filter (othK k)).length ∧ MB wr w.heap.size (.slice A1 N c1) ((k, v) :: (L.take j).filter (othK k)) ∧ Below w.heap.size w wr)) (fun _ i _ => L.length - (intOf i).toNat)
  case atStart => exact ⟨0, 1, _, _, by omega, rfl, rfl, by omega, hid ⟨rfl, HO.out.1, HO.out.2⟩⟩
  case round =>
    obtain ⟨j, N, A1, c1, hj, rfl, rfl, hN, HK⟩ := hrel
    by_cases hlt : j < L.length
    · obtain ⟨b, o, rfl, hB1, hc0, hc1⟩ := (HR.out.below HK.out.2.2) j hlt
      have HFT := hid (filter_take (othK k) L j hlt)
      have hsz : w.heap.size ≤ wr.heap.size := HK.out.2.2.size
      generalize L[j] = h at *
      obtain ⟨h0, h1⟩ := h
      by_cases h32 : N = 32
      · have HF := hid (show putM L k v = ((k, v) :: (L.take j).filter (othK k), 0) by rw [HP.out, putM_fill L k v j (by have := HK.out.1; omega) (by have := HK.out.1; omega)])
        subst h32
        go_wp2_with fail
        go_ret2
        exact put_ret HF.out (HK.out.2.1) (HK.out.2.2)
      · have hN2 : N ≤ 31 := by omega
        clear h32
        cases hp : (h0 == k)
        · have HPP := hid (show othK k (h0, h1) = true by simp [othK, hp])
          go_wp2_with (at_builtin; refine wpList_append_mb rfl _ _ rfl w.heap.size _ ((k, v) :: (L.take j).filter (othK k)) (h0, h1) _ rfl (HK.out.2.1.alloc _) rfl (ttwo_new _ _ _ _) (by have := HK.out.1; omega) (HK.out.2.2.alloc hsz _) (Nat.le_refl _) ?_)
          intro r' w3 hown hbel
          obtain ⟨A2, c2, e2, hle, _⟩ := hown.form
          have e3 : r' = .slice A2 (N + 1) c2 := by have := HK.out.1; rw [e2]; simp at this ⊢; omega
          have HL := hid (show N + 1 = ((k, v) :: ((L.take j).filter (othK k) ++ [(h0, h1)])).length by rw [← List.cons_append, List.length_append, ← HK.out.1]; rfl)
          subst e3
          have HN := hid (And.intro hown hbel)
          clear hown hbel hle e2
          go_wp2_with fail
          go_roundw
          case rel => exact ⟨j + 1, N + 1, _, _, by omega, by go_num, rfl, by omega, hid ⟨by rw [HFT.out, HPP.out, if_pos rfl]; exact HL.out, by rw [HFT.out, HPP.out, if_pos rfl]; exact HN.out.1, HN.out.2⟩⟩
          case measure => simp [intOf]; omega
        · have HPP := hid (show othK k (h0, h1) = false by simp [othK, hp])
          go_wp2_with fail
          go_roundw
          case rel => exact ⟨j + 1, N, _, _, by omega, by go_num, rfl, by omega, hid ⟨by rw [HFT.out, HPP.out]; simpa using HK.out.1, by rw [HFT.out, HPP.out]; simpa using HK.out.2.1, HK.out.2.2⟩⟩
          case measure => simp [intOf]; omega
    · obtain rfl : j = L.length := by omega
      have HF := hid (show putM L k v = ((k, v) :: (L.take L.length).filter (othK k), 0) by rw [HP.out, putM_all L k v (by have := HK.out.1; omega)])
      go_wp2_with fail
      go_ret2
      exact put_ret HF.out (HK.out.2.1) (HK.out.2.2)
end Go.Proofs.YtddmmpjamnjilaaDoor
