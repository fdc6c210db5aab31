/- Texts put together: Td Th Te. -/
import Derived.Test.YtnbkpannhcamjaaDoorG17
import Derived.Test.YtnbkpannhcamjaaDoorG08
import Derived.Test.YtnbkpannhcamjaaDoorG11
import Derived.Laws.StructEq
namespace Go.Proofs.YtnbkpannhcamjaaDoor
set_option linter.unusedVariables false
set_option linter.unusedSimpArgs false
open Go.RowKit Go.Joins

theorem infoM : (Tryd.prog.info? 77).map (fun i => (i.zero, i.size, i.bytes)) = some (some (.agg #[.string ByteArray.empty, .string ByteArray.empty]), 2, 32) := by kernel_rfl
/-- A slice of members that the call itself has made, holding L. -/
def MB (w : World) (base : Nat) (v : Value) (L : List Hd) : Prop := w.ownsRow base 77 2 v L.length (hvals L)
theorem MB.nil (w : World) (base : Nat) : MB w base (.slice none 0 0) [] := ⟨rfl, Or.inl ⟨rfl, rfl⟩⟩
theorem MB.reads {w : World} {base : Nat} {v : Value} {L : List Hd} (h : MB w base v L) : ∃ A cap, v = .slice A L.length cap ∧ HReads w (fun b => base ≤ b ∧ b < w.heap.size) A L := by
  rcases ownsRow_forms h with ⟨rfl, h0⟩ | ⟨g, cap, rfl⟩
  · exact ⟨none, 0, by rw [h0], fun k hk => absurd hk (by omega)⟩
  · refine ⟨some ⟨g, 0, none⟩, cap, rfl, fun k hk => ⟨g, 0, rfl, World.ownsRow.lt h g rfl, ?_, ?_⟩⟩
    · rw [Nat.zero_add, World.ownsRow.cellAt h (k * 2) (by omega)]; exact (hvals_at L k hk).1
    · rw [Nat.zero_add, World.ownsRow.cellAt h (k * 2 + 1) (by omega)]; exact (hvals_at L k hk).2
theorem MB.below {w w' : World} {base : Nat} {v : Value} {L : List Hd} (h : MB w base v L) (hb : Below w.heap.size w w') : MB w' base v L := by
  unfold MB at *
  refine World.ownsRow.kept (row := none) h ⟨hb.os, hb.tape, hb.output, hb.size, fun k hk _ => hb.block k hk⟩ ?_
  by_cases e : v.ownBlock = none
  · exact Or.inl e
  · exact Or.inr e
/-- append of one member to a slice of the call's own. -/
theorem wpList_append_mb {ops : Array Oper} {rest : List Oper} {o : Oper} {a : Act} {Q : Exit → Act → World → Prop} {w W0 : World} (hgd : o.guard = none) (s x : Operand)
    (ho : o.op = .call { callee := .builtin .append, args := #[s, x], argTypes := #[49, 49] }) (base : Nat) (v : Value) (L : List Hd) (h : Hd) (g : Nat)
    (hs : a.eval s = v) (hown : MB w base v L) (hx : a.eval x = .slice (some ⟨g, 0, none⟩) 1 1) (hc : w.cell? ⟨g, 0, none⟩ = some (.string (bs h.1)) ∧ w.cell? ⟨g, 1, none⟩ = some (.string (bs h.2)))
    (hl : L.length ≤ 10000000) (hW : Below base W0 w) (hbase : base ≤ W0.heap.size) (K : ∀ v' w', MB w' base v' (L ++ [h]) → Below base W0 w' → wpList Tryd.prog ops Q rest (a.put o.dst v') w') : wpList Tryd.prog ops Q (o :: rest) a w := by
  obtain ⟨i0, hi, hz0, hz1, hz2⟩ := info_parts infoM
  have hbw : base ≤ w.heap.size := Nat.le_trans hbase hW.size
  refine wpList_append_own _ hgd s x 49 ho base 77 i0 (.agg #[.string ByteArray.empty, .string ByteArray.empty]) 2 32 Tryd.underlying49 hi hz0 hz1 hz2 rfl (by decide) v L.length (hvals L) hs hown ⟨g, 0, none⟩ 1 1
    [.string (bs h.1), .string (bs h.2)] hx rfl ?_ (one_cell_hd h) (by unfold maxLen; omega) (by omega) hbw ?_
  · intro j u hj
    match j, hj with
    | 0, hj => simp at hj; subst hj; simpa [Addr.add] using hc.1
    | 1, hj => simp at hj; subst hj; rw [Addr.add_lit]; exact hc.2
    | j + 2, hj => simp at hj
  · intro v' w' h1 h2 _
    refine K v' w' ?_ (hW.grown h2 hbw (fun k hk => (World.ownsRow.lt hown k hk).1))
    unfold MB
    rw [List.length_append, ← hvals_snoc]
    exact h1
theorem MB.alloc {w : World} {base : Nat} {v : Value} {L : List Hd} (h : MB w base v L) (o : Obj) : MB (w.alloc o) base v L := h.below ((Below.refl _ _).alloc (Nat.le_refl _) _)
theorem MB.more {w : World} {base base' : Nat} {v : Value} {L : List Hd} (h : MB w base v L) (hb : base' ≤ base) : MB w base' v L := by
  refine ⟨h.1, ?_⟩
  rcases h.2 with h2 | ⟨g, cap', cur, e1, e2, e3⟩
  · exact Or.inl h2
  · exact Or.inr ⟨g, cap', cur, e1, Nat.le_trans hb e2, e3⟩
theorem MB.form {w : World} {base : Nat} {v : Value} {L : List Hd} (h : MB w base v L) : ∃ A cap, v = .slice A L.length cap ∧ L.length ≤ cap ∧ HReads w (· < w.heap.size) A L := by
  obtain ⟨A, cap, rfl, hr⟩ := h.reads
  refine ⟨A, cap, rfl, ?_, hr.imp fun b hb => hb.2⟩
  rcases h.2 with ⟨e, h0⟩ | ⟨g, cap', cur, e, _, _, h1, _⟩
  · omega
  · injection e with e1 e2 e3; omega
theorem MB.one (w : World) (base : Nat) (hb : base ≤ w.heap.size) (k v : List UInt8) : MB (w.alloc (.cells #[.string (bs k), .string (bs v)] 77)) base (.slice (some ⟨w.heap.size, 0, none⟩) 1 1) [(k, v)] :=
  World.ownsRow_lit w #[.string (bs k), .string (bs v)] 1 hb (by decide) rfl
theorem put_ret {M : List Hd × Int} {X : List Hd} {c : Int} {w w' : World} {base : Nat} {r : Value} (h : M = (X, c)) (hm : MB w' base r X) (hb : Below base w w') :
    (∃ r', Ending.returned (.tuple #[r, .int .i64 c]) = .returned (.tuple #[r', .int .i64 M.2]) ∧ MB w' base r' M.1) ∧ Below base w w' := by
  subst h; exact ⟨⟨r, rfl, hm⟩, hb⟩
def othK (k : List UInt8) (h : Hd) : Bool := !(h.1 == k)
theorem putM_fill (L : List Hd) (k v : List UInt8) (j : Nat) (h : 32 ≤ ((k, v) :: (L.take j).filter (othK k)).length) (h2 : ((k, v) :: (L.take j).filter (othK k)).length ≤ 32) : ((k, v) :: L.filter (othK k)).take 32 = (k, v) :: (L.take j).filter (othK k) := by
  have e : (k, v) :: L.filter (othK k) = ((k, v) :: (L.take j).filter (othK k)) ++ (L.drop j).filter (othK k) := by
    rw [List.cons_append, ← List.filter_append, List.take_append_drop]
  rw [e, List.take_append_of_le_length h, List.take_of_length_le h2]
theorem putM_all (L : List Hd) (k v : List UInt8) (h2 : ((k, v) :: (L.take L.length).filter (othK k)).length ≤ 32) : ((k, v) :: L.filter (othK k)).take 32 = (k, v) :: (L.take L.length).filter (othK k) := by
  rw [List.take_length] at h2 ⊢; rw [List.take_of_length_le h2]
set_option maxRecDepth 100000 in
set_option maxHeartbeats 4000000 in
theorem tput_any (A : Option Addr) (cap : Nat) (L : List Hd) (k v : List UInt8) (w : World) (hR : HReads w (· < w.heap.size) A L) (hl : L.length ≤ 9223372036854775807) (hk : k.length ≤ 140737488351232) (hv : v.length ≤ 140737488351232) :
    Calls Tryd.prog 25 #[.slice A L.length cap, .string (bs k), .string (bs v)] w fun e w' => (∃ r, e = .returned (.tuple #[r, .int .i64 (putM L k v).2]) ∧ MB w' w.heap.size r (putM L k v).1) ∧ Below w.heap.size w w' := by
  have HR := hid hR
  clear hR
  have hnot := notB'
  cases h1 : keyB k
  · have HP := hid (show putM L k v = ([], 3) by rw [putM, if_pos h1])
    have H1 := hid h1
    clear h1
    go_enter Tryd.func25, Tryd.ntmps25
    go_wp2_with fail
    refine (tkey_any _ _ hk).mono ?_
    rintro e w1 ⟨rfl, rfl⟩
    rw [H1.out]
    go_wp2_with fail
    go_ret2
    exact put_ret HP.out (MB.nil _ _) (Below.refl _ _)
  have H1 := hid h1
  clear h1
  cases h2 : valM v
  · have HP := hid (show putM L k v = ([], 3) by rw [putM, if_neg (by rw [H1.out]; simp), if_pos h2])
    have H2 := hid h2
    clear h2
    go_enter Tryd.func25, Tryd.ntmps25
    go_wp2_with fail
    refine (tkey_any _ _ hk).mono ?_
    rintro e w1 ⟨rfl, rfl⟩
    rw [H1.out]
    go_wp2_with fail
    refine (tval_any _ _ hv).mono ?_
    rintro e w1 ⟨rfl, rfl⟩
    rw [H2.out]
    go_wp2_with fail
    go_ret2
    exact put_ret HP.out (MB.nil _ _) (Below.refl _ _)
  have H2 := hid h2
  clear h2
  have HP := hid (show putM L k v = (((k, v) :: L.filter (othK k)).take 32, 0) by rw [putM, if_neg (by rw [H1.out]; simp), if_neg (by rw [H2.out]; simp)]; rfl)
  have HO := hid (MB.one w w.heap.size (Nat.le_refl _) k v)
  have HAL := hid (tbelow_new w (.cells #[.string (bs k), .string (bs v)] 77))
  go_enter Tryd.func25, Tryd.ntmps25
  go_wp2_with fail
  refine (tkey_any _ _ hk).mono ?_
  rintro e w1 ⟨rfl, rfl⟩
  rw [H1.out]
  go_wp2_with fail
  refine (tval_any _ _ hv).mono ?_
  rintro e w1 ⟨rfl, rfl⟩
  rw [H2.out]
  go_wp2_with fail
  go_loopw [8, 25] (fun r i wr => ∃ (j : Nat) (N : Nat) (A1 : Option Addr) (c1 : Nat), j ≤ L.length ∧ i = .int .i64 j ∧ r = .slice A1 N c1 ∧ N ≤ 32 ∧ Hid (N = ((k, v) :: (L.take j).filter (othK k)).length ∧ MB wr w.heap.size (.slice A1 N c1) ((k, v) :: (L.take j).filter (othK k)) ∧ Below w.heap.size w wr)) (fun _ i _ => L.length - (intOf i).toNat)
  case atStart => exact ⟨0, 1, _, _, by omega, rfl, rfl, by omega, hid ⟨rfl, HO.out, HAL.out⟩⟩
  case round =>
    obtain ⟨j, N, A1, c1, hj, rfl, rfl, hN, HK⟩ := hrel
    by_cases hlt : j < L.length
    · obtain ⟨b, o, rfl, hB1, hc0, hc1⟩ := (HR.out.below HK.out.2.2) j hlt
      have HFT := hid (filter_take (othK k) L j hlt)
      have hsz : w.heap.size ≤ wr.heap.size := HK.out.2.2.size
      generalize L[j] = h at *
      obtain ⟨h0, h1⟩ := h
      have HB1 := hid (HK.out.2.2.alloc hsz (.cells #[Value.string (bs h0), Value.string (bs h1)] 77))
      have HOW := hid (HK.out.2.1.alloc (.cells #[Value.string (bs h0), Value.string (bs h1)] 77))
      by_cases h32 : N = 32
      · have HF := hid (show putM L k v = ((k, v) :: (L.take j).filter (othK k), 0) by rw [HP.out, putM_fill L k v j (by have := HK.out.1; omega) (by have := HK.out.1; omega)])
        subst h32
        go_wp2_with fail
        go_ret2
        exact put_ret HF.out (HOW.out) (HB1.out)
      · have h32' : ((N : Int) == 32) = false := by simp; omega
        have hN2 : N ≤ 31 := by omega
        clear h32
        cases hp : (h0 == k)
        · have HPP := hid (show othK k (h0, h1) = true by simp [othK, hp])
          go_wp2_with (at_builtin; refine wpList_append_mb rfl _ _ rfl w.heap.size _ ((k, v) :: (L.take j).filter (othK k)) (h0, h1) _ rfl (HOW.out.alloc _) rfl ⟨by simp, by simp⟩ (by have := HK.out.1; omega) (HB1.out.alloc (by simp; omega) _) (Nat.le_refl _) ?_)
          intro r' w3 hown hbel
          obtain ⟨A2, c2, e2, hle, _⟩ := hown.form
          have e3 : r' = .slice A2 (N + 1) c2 := by have := HK.out.1; rw [e2]; simp at this ⊢; omega
          have HL := hid (show N + 1 = ((k, v) :: ((L.take j).filter (othK k) ++ [(h0, h1)])).length by rw [← List.cons_append, List.length_append, ← HK.out.1]; rfl)
          subst e3
          have HN := hid (And.intro hown hbel)
          clear hown hbel hle e2
          go_wp2_with fail
          go_roundw
          case rel => exact ⟨j + 1, N + 1, _, _, by omega, by go_num, rfl, by omega, hid ⟨by rw [HFT.out, HPP.out, if_pos rfl]; exact HL.out, by rw [HFT.out, HPP.out, if_pos rfl]; exact HN.out.1, HN.out.2⟩⟩
          case measure => simp [intOf]; omega
        · have HPP := hid (show othK k (h0, h1) = false by simp [othK, hp])
          go_wp2_with fail
          go_roundw
          case rel => exact ⟨j + 1, N, _, _, by omega, by go_num, rfl, by omega, hid ⟨by rw [HFT.out, HPP.out]; simpa using HK.out.1, by rw [HFT.out, HPP.out]; simpa using HOW.out, HB1.out⟩⟩
          case measure => simp [intOf]; omega
    · obtain rfl : j = L.length := by omega
      have HF := hid (show putM L k v = ((k, v) :: (L.take L.length).filter (othK k), 0) by rw [HP.out, putM_all L k v (by have := HK.out.1; omega)])
      go_wp2_with fail
      go_ret2
      exact put_ret HF.out (HK.out.2.1) (HK.out.2.2)
end Go.Proofs.YtnbkpannhcamjaaDoor
namespace Go.Proofs.YtnbkpannhcamjaaDoor
set_option linter.unusedVariables false
set_option linter.unusedSimpArgs false
open Go.RowKit Go.Joins

theorem mb_guard (op : BinOp) (x y : Operand) (xs ys : Array Value) (w : World) : (eqGuard op 77 x y (.agg xs) (.agg ys)).run Tryd.prog w = .ok () w := run_eqGuard_agg w op _ x y xs ys (by kernel_rfl)
theorem mb_eqIn (w : World) (x y : Hd) : (Op.equalIn 10000 77 (.agg #[.string (bs x.1), .string (bs x.2)]) (.agg #[.string (bs y.1), .string (bs y.2)])).run Tryd.prog w = .ok (sameHd x y) w := by
  obtain ⟨x0, x1⟩ := x
  obtain ⟨y0, y1⟩ := y
  have us := Tryd.underlying9
  have asx := Tryd.isAgg9
  have zs := Tryd.sizeOf9
  rw [show (10000 : Nat) = 9999 + 1 from rfl, run_equalIn_agg w 9999 _ _ _ (by kernel_rfl) (by kernel_rfl)]
  simp only [Program.fieldsOf, Tryd.underlying77]
  go_simp
  unfold sameHd
  by_cases h1 : x0 = y0 <;> by_cases h2 : x1 = y1 <;> simp [h1, h2]
theorem mb_neq (w : World) (x y : Hd) : (binOp .neq 77 (.agg #[.string (bs x.1), .string (bs x.2)]) (.agg #[.string (bs y.1), .string (bs y.2)])).run Tryd.prog w = .ok (.bool (!sameHd x y)) w := by
  rw [run_neq_struct, mb_eqIn]; rfl
theorem mb_eql (w : World) (x y : Hd) : (binOp .eql 77 (.agg #[.string (bs x.1), .string (bs x.2)]) (.agg #[.string (bs y.1), .string (bs y.2)])).run Tryd.prog w = .ok (.bool (sameHd x y)) w := by
  rw [run_eql_struct, mb_eqIn]; rfl
end Go.Proofs.YtnbkpannhcamjaaDoor
namespace Go.Proofs.YtnbkpannhcamjaaDoor
set_option linter.unusedVariables false
set_option linter.unusedSimpArgs false
open Go.RowKit Go.Joins

theorem lib_join (g c : Nat) (M : List (List UInt8)) (sep : List UInt8) (w : World) (hR : STexts w (· < w.heap.size) (some ⟨g, 0, none⟩) M) (hg : g < w.heap.size) (hn : M.length ≤ 100000) (hc : M.length ≤ c) (hlen : (Lib.join M sep).length ≤ 100000000) :
    Calls Tryd.prog 37 #[.slice (some ⟨g, 0, none⟩) M.length c, .string (bs sep)] w fun e w' => e = .returned (.string (bs (Lib.join M sep))) ∧ Below w.heap.size w w' := by
  have hx : (M.map bs).map (·.data.toList) = M := by
    rw [List.map_map]; conv => rhs; rw [← List.map_id M]
    exact List.map_congr_left fun l _ => bs_data l
  have := Tryd.strings_Join g 0 c (M.map bs) (bs sep) w (fun j x hj => by
    rw [List.getElem?_map, Option.map_eq_some_iff] at hj
    obtain ⟨l, hl, rfl⟩ := hj
    obtain ⟨hlt, rfl⟩ := List.getElem?_eq_some_iff.1 hl
    obtain ⟨ad, e, _, h2⟩ := hR j hlt
    injection e with e
    subst e
    rw [Addr.add_lit] at h2
    exact h2) hg (by rw [List.length_map]; omega) (by rw [List.length_map]; omega) (by rw [hx, bs_data]; omega)
  rw [hx, bs_data, List.length_map] at this
  exact this
theorem madeCells_str (n : Nat) : madeCells (Value.cells (.string ByteArray.empty)) (n * 1) = (tvals (List.replicate n [])).toArray := by
  apply Array.ext
  · simp [madeCells, tvals]
  · intro i h1 h2
    simp [madeCells, tvals, Value.cells, Nat.mod_one, bs]
    rfl
theorem make_texts (w : World) (n : Nat) (h : n ≤ 1000) :
    (Instr.makeSlice 37 (.int .i64 (n : Int)) (.int .i64 (n : Int))).run Tryd.prog w = .ok (.slice (some ⟨w.heap.size, 0, none⟩) n n) (w.alloc (.cells (tvals (List.replicate n [])).toArray 9)) := by
  obtain ⟨i, hi, hz, hs, hb⟩ := info_parts infoS
  have := run_make (P := Tryd.prog) w 37 9 i _ Tryd.underlying37 hi hz .i64 .i64 n n (by omega) (by omega) (by rw [hb]; omega) (by omega)
  rw [this, hs, Int.toNat_natCast, madeCells_str]
/-- A row of texts that is filled. -/
def fillT (M : List (List UInt8)) (k : Nat) : List (List UInt8) := M.take k ++ List.replicate (M.length - k) []
theorem fillT_len (M : List (List UInt8)) (k : Nat) (h : k ≤ M.length) : (fillT M k).length = M.length := by simp [fillT]; omega
theorem fillT_set (M : List (List UInt8)) (k : Nat) (h : k < M.length) : (fillT M k).set k M[k] = fillT M (k + 1) := by
  unfold fillT
  rw [List.set_append_right _ _ (by simp; omega), List.take_succ_eq_append_getElem h, show M.length - k = (M.length - (k + 1)) + 1 by omega, List.replicate_succ]
  simp [Nat.min_eq_left (Nat.le_of_lt h)]
  rw [List.take_succ_eq_append_getElem h, List.append_assoc]; rfl
theorem TBM_new (w : World) (n : Nat) (base : Nat) (hb : base ≤ w.heap.size) (hn : n ≤ 1000) : TB (w.alloc (.cells (tvals (List.replicate n [])).toArray 9)) base (.slice (some ⟨w.heap.size, 0, none⟩) n n) (List.replicate n []) := by
  have := World.ownsRow_lit (e := 9) (size := 1) w (tvals (List.replicate n [])).toArray n hb (by unfold maxLen; omega) (by simp [tvals])
  unfold TB
  rw [List.length_replicate]
  simpa using this
theorem TBM_set {w : World} {base g n : Nat} {M : List (List UInt8)} (h : TB w base (.slice (some ⟨g, 0, none⟩) n n) M) (hn : n = M.length) (k : Nat) (l : List UInt8) : TB (w.setCell ⟨g, k, none⟩ (.string (bs l))) base (.slice (some ⟨g, 0, none⟩) n n) (M.set k l) := by
  subst hn
  have := (World.ownsRow.stored h k (.string (bs l))).1
  unfold TB
  rw [List.length_set, show tvals (M.set k l) = (tvals M).set k (.string (bs l)) by simp [tvals, List.map_set]]
  exact this
theorem TBM_cell {w : World} {base g n : Nat} {M : List (List UInt8)} (h : TB w base (.slice (some ⟨g, 0, none⟩) n n) M) (hn : n = M.length) (k : Nat) (hk : k < M.length) : w.cell? ⟨g, k, none⟩ = some (.string (bs M[k])) ∧ w.frozen? ⟨g, k, none⟩ = false := by
  subst hn
  refine ⟨?_, World.ownsRow.frozenAt h k⟩
  rw [World.ownsRow.cellAt h k (by omega)]
  simp [tvals, hk]
theorem joinM_len : ∀ (L : List Hd) (N : Nat), (∀ m ∈ L, (memT m).length ≤ N) → (joinM L).length ≤ (N + 1) * L.length
  | [], N, _ => by simp [joinM, Lib.join]
  | [m], N, h => by
    have := h m (by simp)
    rw [joinM, List.map_singleton, Lib.join_one]; simp; omega
  | m :: x :: r, N, h => by
    have hm := h m (by simp)
    have ih := joinM_len (x :: r) N fun y hy => h y (by simp [hy])
    have : joinM (m :: x :: r) = memT m ++ 44 :: joinM (x :: r) := by
      simp only [joinM, List.map_cons]
      rw [Lib.join_cons, Lib.join_cons]
      simp [Lib.joinTail]
    rw [this, List.length_append, List.length_cons, List.length_cons, Nat.mul_succ]
    omega
theorem joinM_take (L : List Hd) (k : Nat) (h : k < L.length) : joinM (L.take (k + 1)) = if k = 0 then memT L[k] else joinM (L.take k) ++ [44] ++ memT L[k] := by
  cases L with
  | nil => simp at h
  | cons m r =>
    cases k with
    | zero => simp [joinM, Lib.join_one]
    | succ k =>
      have hk : k < r.length := by simpa using h
      rw [if_neg (by omega)]
      simp only [joinM, List.take_succ_cons, List.map_cons, List.getElem_cons_succ]
      rw [Lib.join_cons, Lib.join_cons, List.map_take, List.map_take, Lib.joinTail_take_succ [44] (r.map memT) k (memT r[k]) (by simp [hk])]
      simp
theorem memT_len (m : Hd) : (memT m).length = m.1.length + m.2.length + 1 := by simp [memT]; omega
theorem mayM_small {L : List Hd} (h : chkM [] L = 0) : okM L := by
  have := (chkM_zero L).1 h
  refine ⟨this.2.2, fun m hm => ⟨(key_len (this.1 m hm).1).2, (val_len' (this.1 m hm).2).2⟩⟩
theorem joinM_small {L : List Hd} (h : okM L) (k : Nat) : (joinM (L.take k)).length ≤ 4000 := by
  have := joinM_len (L.take k) 97 fun m hm => by
    have := h.2 m (List.mem_of_mem_take hm)
    rw [memT_len]; omega
  have h2 := h.1
  have h3 := List.length_take_le' k L
  refine Nat.le_trans this ?_
  omega
set_option maxRecDepth 100000 in
set_option maxHeartbeats 4000000 in
theorem twrite_any (A : Option Addr) (cap : Nat) (L : List Hd) (w : World) (hR : HReads w (· < w.heap.size) A L) (hcap : L.length ≤ cap) (hl : L.length ≤ 9223372036854775807) (hs : ∀ h ∈ L, h.1.length ≤ 140737488351232 ∧ h.2.length ≤ 140737488351232) :
    Calls Tryd.prog 23 #[.slice A L.length cap] w fun e w' => e = .returned (.tuple #[.string (bs (writeM L).1), .int .i64 (writeM L).2]) ∧ Below w.heap.size w w' := by
  have HC := hid (tcheck_any A cap L w hR hcap hl hs)
  have HR := hid hR
  clear hR hs
  by_cases hc : chkM [] L = 0
  · have HQ := hid (show writeM L = (joinM L, 0) by rw [writeM, if_pos hc])
    have hok := mayM_small hc
    have HOK := hid hok
    have h32 : L.length ≤ 32 := hok.1
    have HJ := hid (show (Lib.join (L.map memT) [44]).length ≤ 100000000 by have := joinM_small hok L.length; rw [List.take_length] at this; simp only [joinM] at this; omega)
    rw [hc] at HC
    clear hc hok
    have hmk := fun w => make_texts w L.length (by omega)
    go_enter Tryd.func23, Tryd.ntmps23
    go_wp2_with fail
    refine HC.out.mono ?_
    rintro e w1 ⟨rfl, hb1⟩
    have HB1 := hid hb1
    clear hb1
    have HN0 := hid (TBM_new w1 L.length w1.heap.size (Nat.le_refl _) (by omega))
    go_wp2_with fail
    have HB2 := hid (tbelow_step HB1.out (tbelow_new w1 (.cells (tvals (List.replicate L.length [])).toArray 9)))
    have hg0 : w1.heap.size < (w1.alloc (.cells (tvals (List.replicate L.length [])).toArray 9)).heap.size := by simp
    generalize w1.alloc (.cells (tvals (List.replicate L.length [])).toArray 9) = w2 at *
    have hMl : (L.map memT).length = L.length := List.length_map ..
    go_loopw [18] (fun i wr => ∃ k : Nat, k ≤ L.length ∧ i = .int .i64 k ∧ Hid (TB wr w1.heap.size (.slice (some ⟨w1.heap.size, 0, none⟩) L.length L.length) (fillT (L.map memT) k) ∧ Below w.heap.size w wr ∧ w1.heap.size < wr.heap.size)) (fun i _ => L.length - (intOf i).toNat)
    case atStart => exact ⟨0, by omega, rfl, hid ⟨by simpa [fillT] using HN0.out, HB2.out, hg0⟩⟩
    case round =>
      obtain ⟨k, hk, rfl, HK⟩ := hrel
      by_cases hlt : k < L.length
      · have HRk := hid (HR.out.up HK.out.2.1)
        obtain ⟨b, o, hA, hB1, hc0, hc1⟩ := HRk.out k hlt
        have hsz := HK.out.2.2
        have hsz0 : w.heap.size ≤ w1.heap.size := HB1.out.size
        obtain ⟨hs0, hs1⟩ := HOK.out.2 _ (List.getElem_mem hlt)
        have HSET := hid (fillT_set (L.map memT) k (by omega))
        have hm : (L.map memT)[k]'(by omega) = memT L[k] := by simp
        rw [hm] at HSET
        have hfl : L.length = (fillT (L.map memT) k).length := by rw [fillT_len _ _ (by omega), hMl]
        obtain ⟨hq0, hq1⟩ := TBM_cell HK.out.1 hfl k (by omega)
        have HST := hid (TBM_set HK.out.1 hfl k (memT L[k]))
        rw [HSET.out] at HST
        generalize (fillT (L.map memT) k)[k]'(by omega) = old at *
        clear hm HSET hfl
        subst hA
        have HMT := hid (show memT L[k] = L[k].1 ++ 61 :: L[k].2 by simp [memT])
        rw [HMT.out] at HST
        have c1 : (ByteArray.mk #[61]) = bs [61] := rfl
        generalize L[k] = h at *
        obtain ⟨h0, h1⟩ := h
        have hi0 : (0 : Int) ≤ (k : Int) := by omega
        have hi1 : (k : Int) < (L.length : Int) := by omega
        have hz0 : h0.length ≤ 32 := hs0
        have hz1 : h1.length ≤ 64 := hs1
        go_wp2_with fail
        go_roundw
        case rel =>
          refine ⟨k + 1, by omega, by go_num, hid ⟨?_, ?_, ?_⟩⟩
          · exact HST.out.alloc _
          · exact (HK.out.2.1.setCell (p := ⟨w1.heap.size, k, none⟩) hsz0 _).alloc (by simp; omega) _
          · simp; omega
        case measure => simp [intOf]; omega
      · obtain rfl : k = L.length := by omega
        have hfl : fillT (L.map memT) L.length = L.map memT := by rw [fillT, List.take_of_length_le (by simp), List.length_map, Nat.sub_self]; simp
        have hT := HK.out.1
        rw [hfl] at hT
        obtain ⟨A2, c2, e2, hS⟩ := hT.reads
        injection e2 with e2 e3 e4
        subst e2
        have HX := hid (lib_join w1.heap.size L.length (L.map memT) [44] wr (hS.imp fun b hb => hb.2) HK.out.2.2 (by omega) (by omega) HJ.out)
        rw [hMl] at HX
        clear hT hS e3 e4 hfl
        have c1 : (ByteArray.mk #[44]) = bs [44] := rfl
        go_wp2_with fail
        refine HX.out.mono ?_
        rintro e w4 ⟨rfl, hb4⟩
        have HB4 := hid hb4
        clear hb4
        go_wp2_with fail
        go_ret2
        exact ⟨by rw [HQ.out]; rfl, tbelow_step HK.out.2.1 HB4.out⟩
  · have HQ := hid (show writeM L = ([], chkM [] L) by rw [writeM, if_neg hc])
    generalize chkM [] L = c at *
    have hne : (c != 0) = true := by simpa using hc
    clear hc
    go_enter Tryd.func23, Tryd.ntmps23
    go_wp2_with fail
    refine HC.out.mono ?_
    rintro e w1 ⟨rfl, hb1⟩
    have HB1 := hid hb1
    clear hb1
    go_wp2_with fail
    go_ret2
    exact ⟨by rw [HQ.out]; rfl, HB1.out⟩
end Go.Proofs.YtnbkpannhcamjaaDoor
