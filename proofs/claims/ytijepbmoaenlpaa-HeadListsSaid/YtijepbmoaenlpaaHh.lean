import Derived.Test.YtijepbmoaenlpaaHg
import Derived.Test.YtijepbmoaenlpaaHi
namespace Go.Proofs.Ytijepbmoaenlpaa
set_option linter.unusedVariables false
set_option linter.unusedSimpArgs false
open Go.RowKit Go.Joins

theorem infoS : (Try.prog.info? 9).map (fun i => (i.zero, i.size, i.bytes)) = some (some (.string ByteArray.empty), 1, 16) := by kernel_rfl
def tvals (L : List (List UInt8)) : List Value := L.map fun l => Value.string (bs l)
theorem tvals_length (L : List (List UInt8)) : (tvals L).length = L.length := by simp [tvals]
theorem tvals_snoc (L : List (List UInt8)) (l : List UInt8) : tvals L ++ [.string (bs l)] = tvals (L ++ [l]) := by simp [tvals]
/-- A slice of strings that the call itself has made, holding L. -/
def TB (w : World) (base : Nat) (v : Value) (L : List (List UInt8)) : Prop := w.ownsRow base 9 1 v L.length (tvals L)
theorem TB.nil (w : World) (base : Nat) : TB w base (.slice none 0 0) [] := ⟨rfl, Or.inl ⟨rfl, rfl⟩⟩
theorem TB.reads {w : World} {base : Nat} {v : Value} {L : List (List UInt8)} (h : TB w base v L) : ∃ A cap, v = .slice A L.length cap ∧ STexts w (fun b => base ≤ b ∧ b < w.heap.size) A L := by
  rcases ownsRow_forms h with ⟨rfl, h0⟩ | ⟨g, cap, rfl⟩
  · exact ⟨none, 0, by rw [h0], fun k hk => absurd hk (by omega)⟩
  · refine ⟨some ⟨g, 0, none⟩, cap, rfl, fun k hk => ⟨⟨g, 0, none⟩, rfl, World.ownsRow.lt h g rfl, ?_⟩⟩
    rw [Addr.add_lit, Nat.zero_add, World.ownsRow.cellAt h k (by omega)]
    simp [tvals, hk]
theorem TB.below {w w' : World} {base : Nat} {v : Value} {L : List (List UInt8)} (h : TB w base v L) (hb : Below w.heap.size w w') : TB w' base v L := by
  unfold TB at *
  refine World.ownsRow.kept (row := none) h ⟨hb.os, hb.tape, hb.output, hb.size, fun k hk _ => hb.block k hk⟩ ?_
  by_cases e : v.ownBlock = none
  · exact Or.inl e
  · exact Or.inr e
theorem TB.more {w : World} {base base' : Nat} {v : Value} {L : List (List UInt8)} (h : TB w base v L) (hb : base' ≤ base) : TB w base' v L := by
  refine ⟨h.1, ?_⟩
  rcases h.2 with h2 | ⟨g, cap', cur, e1, e2, e3⟩
  · exact Or.inl h2
  · exact Or.inr ⟨g, cap', cur, e1, Nat.le_trans hb e2, e3⟩
theorem TB.alloc {w : World} {base : Nat} {v : Value} {L : List (List UInt8)} (h : TB w base v L) (o : Obj) : TB (w.alloc o) base v L := h.below ((Below.refl _ _).alloc (Nat.le_refl _) _)
/-- append of one string to a slice of the call's own. -/
theorem wpList_append_tx {ops : Array Oper} {rest : List Oper} {o : Oper} {a : Act} {Q : Exit → Act → World → Prop} {w W0 : World} (hgd : o.guard = none) (s x : Operand)
    (ho : o.op = .call { callee := .builtin .append, args := #[s, x], argTypes := #[33, 33] }) (base : Nat) (v : Value) (L : List (List UInt8)) (l : List UInt8) (g : Nat)
    (hs : a.eval s = v) (hown : TB w base v L) (hx : a.eval x = .slice (some ⟨g, 0, none⟩) 1 1) (hc : w.cell? ⟨g, 0, none⟩ = some (.string (bs l)))
    (hl : L.length ≤ 10000000) (hW : Below base W0 w) (hbase : base ≤ W0.heap.size) (K : ∀ v' w', TB w' base v' (L ++ [l]) → Below base W0 w' → wpList Try.prog ops Q rest (a.put o.dst v') w') : wpList Try.prog ops Q (o :: rest) a w := by
  obtain ⟨i0, hi, hz0, hz1, hz2⟩ := info_parts infoS
  have hbw : base ≤ w.heap.size := Nat.le_trans hbase hW.size
  refine wpList_append_own _ hgd s x 33 ho base 9 i0 (.string ByteArray.empty) 1 16 Try.underlying33 hi hz0 hz1 hz2 rfl (by decide) v L.length (tvals L) hs hown ⟨g, 0, none⟩ 1 1
    [.string (bs l)] hx rfl ?_ (by intro u hu; simp at hu; subst hu; rfl) (by unfold maxLen; omega) (by omega) hbw ?_
  · intro j u hj
    match j, hj with
    | 0, hj => simp at hj; subst hj; simpa [Addr.add] using hc
    | j + 1, hj => simp at hj
  · intro v' w' h1 h2 _
    refine K v' w' ?_ (hW.grown h2 hbw (fun k hk => (World.ownsRow.lt hown k hk).1))
    unfold TB
    rw [List.length_append, ← tvals_snoc]
    exact h1
theorem map_take {α β : Type} (f : α → β) (L : List α) (k : Nat) (h : k < L.length) : (L.take (k + 1)).map f = (L.take k).map f ++ [f L[k]] := by
  rw [List.take_succ_eq_append_getElem h, List.map_append]; rfl
set_option maxRecDepth 100000 in
set_option maxHeartbeats 2000000 in
theorem hall_any (A : Option Addr) (cap : Nat) (L : List Hd) (n : List UInt8) (w : World) (hR : HReads w (· < w.heap.size) A L) (hl : L.length ≤ 1000000) :
    Calls Try.prog 31 #[.slice A L.length cap, .string (bs n)] w fun e w' => ∃ v, e = .returned v ∧ TB w' w.heap.size v (allS L n) ∧ Below w.heap.size w w' := by
  have HR := hid hR
  clear hR
  have HNM := hid (named_any (some ⟨w.heap.size, 0, none⟩) 1 [n] (w.alloc (.cells #[.string (bs n)] 9)) (stexts_one w n _) (by simp))
  go_enter Try.func31, Try.ntmps31
  go_wp2_with fail
  refine HNM.out.mono ?_
  rintro e w1 ⟨fv, rfl, hfv, hb1⟩
  have hw1 := below_step' ((Below.refl w.heap.size w).alloc (Nat.le_refl _) (.cells #[.string (bs n)] 9)) hb1
  have HFV := hid hfv
  have HB1 := hid hw1
  clear hfv hb1 hw1
  go_wp2_with fail
  refine (left_any A cap L fv (hasN [n]) w1 ((HR.out.below HB1.out).imp fun b hb => Nat.lt_of_lt_of_le hb HB1.out.size) HFV.out hl).mono ?_
  rintro e w2 ⟨r, rfl, hr, hb2⟩
  have hML := List.length_filter_le (hasN [n]) L
  have HALL := hid (show allS L n = (L.filter (hasN [n])).map (·.2) from rfl)
  generalize L.filter (hasN [n]) = M at *
  obtain ⟨A2, cap2, rfl, hR2⟩ := hr.reads
  have HR2 := hid (hR2.imp (M := (· < w2.heap.size)) fun b hb => hb.2)
  have HB2 := hid (below_step' HB1.out hb2)
  clear hr hR2 hb2
  go_wp2_with fail
  generalize hV : M.map (·.2) = V at *
  have hVl : V.length = M.length := by rw [← hV]; simp
  have HV := hid (show ∀ k (h : k < M.length), V.take (k + 1) = V.take k ++ [(M[k]).2] by
    intro k h
    rw [List.take_succ_eq_append_getElem (by omega)]
    subst hV
    simp)
  clear hV
  have hle1 : V.length ≤ 1000000 := by omega
  have hle2 : V.length ≤ M.length := by omega
  have hle3 : M.length ≤ V.length := by omega
  clear hVl
  go_loopw [5, 14] (fun v i wr => ∃ k : Nat, k ≤ M.length ∧ i = .int .i64 k ∧ Hid (TB wr w2.heap.size v (V.take k) ∧ Below w2.heap.size w2 wr)) (fun _ i _ => M.length - (intOf i).toNat)
  case atStart => exact ⟨0, by omega, rfl, hid ⟨TB.nil _ _, Below.refl _ _⟩⟩
  case round =>
    obtain ⟨k, hk, rfl, HK⟩ := hrel
    by_cases hlt : k < M.length
    · obtain ⟨b, o, rfl, hB, hc0, hc1⟩ := (HR2.out.below HK.out.2) k hlt
      have HMT := hid (HV.out k hlt)
      generalize M[k] = h at *
      obtain ⟨h0, h1⟩ := h
      have hsz : w2.heap.size ≤ wr.heap.size := HK.out.2.size
      go_wp2_with (at_builtin; refine wpList_append_tx rfl _ _ rfl w2.heap.size _ (V.take k) h1 _ rfl ((HK.out.1.alloc _).alloc _) rfl (by simp) (by have := List.length_take_le k V; omega) ((HK.out.2.alloc hsz _).alloc (by simp; omega) _) (Nat.le_refl _) ?_)
      intro v' w3 hown hbel
      have HN := hid (And.intro hown hbel)
      clear hown hbel
      go_wp2_with fail
      go_roundw
      case rel => exact ⟨k + 1, by omega, by go_num, hid ⟨by rw [HMT.out]; exact HN.out.1, HN.out.2⟩⟩
      case measure => simp [intOf]; omega
    · obtain rfl : k = M.length := by omega
      have h1 := HK.out
      rw [List.take_of_length_le hle2] at h1
      have H1 := hid h1
      clear h1
      go_wp2_with fail
      go_ret
      refine ⟨_, rfl, ?_, HB2.out.trans (H1.out.2.mono HB2.out.size)⟩
      rw [HALL.out]
      exact H1.out.1.more HB2.out.size
/-- A comparison of two lists of headers. -/
theorem hd_ne (a b : Hd) : (a == b) = (a.1 == b.1 && a.2 == b.2) := by cases a; cases b; rfl
set_option maxRecDepth 100000 in
set_option maxHeartbeats 2000000 in
theorem same_any (A B : Option Addr) (ca cb : Nat) (L M : List Hd) (w : World) (hA : HReads w (· < w.heap.size) A L) (hB : HReads w (· < w.heap.size) B M) (hl : L.length ≤ 10000000) (hm : M.length ≤ 10000000) :
    Calls Try.prog 33 #[.slice A L.length ca, .slice B M.length cb] w fun e w' => e = .returned (.bool (decide (L = M))) ∧ Below w.heap.size w w' := by
  have HA := hid hA
  have HB := hid hB
  clear hA hB
  by_cases hlen : L.length = M.length
  · have h1 : L.length ≤ M.length := by omega
    have h2 : M.length ≤ L.length := by omega
    have hne : ((L.length : Int) != (M.length : Int)) = false := by simp; omega
    clear hlen
    go_enter Try.func33, Try.ntmps33
    go_wp2_with fail
    go_loopw [5] (fun i wr => ∃ k : Nat, k ≤ L.length ∧ i = .int .i64 k ∧ Hid (L.take k = M.take k ∧ Below w.heap.size w wr)) (fun i _ => L.length - (intOf i).toNat)
    case atStart => exact ⟨0, by omega, rfl, hid ⟨rfl, Below.refl _ _⟩⟩
    case round =>
      obtain ⟨k, hk, rfl, HK⟩ := hrel
      by_cases hlt : k < L.length
      · obtain ⟨b, o, rfl, hB1, hc0, hc1⟩ := (HA.out.below HK.out.2) k hlt
        obtain ⟨b2, o2, rfl, hB2, hd0, hd1⟩ := (HB.out.below HK.out.2) k (by omega)
        have HT1 := hid (List.take_succ_eq_append_getElem hlt)
        have HT2 := hid (List.take_succ_eq_append_getElem (show k < M.length by omega))
        have HN1 := hid (show L = M → L[k] = M[k]'(by omega) by rintro rfl; rfl)
        generalize L[k] = x at *
        generalize M[k]'(by omega) = y at *
        obtain ⟨x0, x1⟩ := x
        obtain ⟨y0, y1⟩ := y
        have hi0 : (0 : Int) ≤ (k : Int) := by omega
        have hi1 : (k : Int) < (L.length : Int) := by omega
        have hi2 : (k : Int) < (M.length : Int) := by omega
        have hg1 : ∀ (a b : Operand) (xs ys : Array Value) (w : World), (eqGuard .neq 82 a b (.agg xs) (.agg ys)).run Try.prog w = .ok () w := fun a b xs ys w => hd_guard .neq a b xs ys w
        have hg2 : ∀ w : World, (binOp .neq 82 (.agg #[.string (bs x0), .string (bs x1)]) (.agg #[.string (bs y0), .string (bs y1)])).run Try.prog w = .ok (.bool (!sameHd (x0, x1) (y0, y1))) w := fun w => hd_neq w (x0, x1) (y0, y1)
        cases hs : sameHd (x0, x1) (y0, y1)
        · have HS := hid hs
          rw [hs] at hg2
          clear hs
          go_wp2_with fail
          go_quiet (fail)
          go_wp2_with fail
          go_ret
          have hne2 : ¬ L = M := fun e => by have := HN1.out e; have := HS.out; simp_all [sameHd]
          exact ⟨by rw [decide_eq_false hne2]; rfl, below_drewN HK.out.2 _⟩
        · have HS := hid hs
          rw [hs] at hg2
          clear hs
          go_wp2_with fail
          go_quiet (fail)
          go_wp2_with fail
          go_roundw
          case rel => exact ⟨k + 1, by omega, by go_num, hid ⟨by
            rw [HT1.out, HT2.out, HK.out.1]
            have : ((x0, x1) : Hd) = (y0, y1) := of_decide_eq_true HS.out
            rw [this], below_drewN HK.out.2 _⟩⟩
          case measure => simp [intOf]; omega
      · obtain rfl : k = L.length := by omega
        have h3 := HK.out
        rw [List.take_length, List.take_of_length_le h2] at h3
        have H3 := hid h3
        clear h3
        go_wp2_with fail
        go_ret
        exact ⟨by rw [decide_eq_true H3.out.1]; rfl, H3.out.2⟩
  · have HN := hid (show decide (L = M) = false from decide_eq_false (fun e => hlen (by rw [e])))
    have hne : ((L.length : Int) != (M.length : Int)) = true := by simp; omega
    go_enter Try.func33, Try.ntmps33
    go_wp2_with fail
    go_ret
    exact ⟨by rw [HN.out]; rfl, Below.refl _ _⟩
set_option maxRecDepth 100000 in
set_option maxHeartbeats 2000000 in
theorem texts_any (A B : Option Addr) (ca cb : Nat) (L M : List (List UInt8)) (w : World) (hA : STexts w (· < w.heap.size) A L) (hB : STexts w (· < w.heap.size) B M) (hl : L.length ≤ 10000000) (hm : M.length ≤ 10000000) :
    Calls Try.prog 30 #[.slice A L.length ca, .slice B M.length cb] w fun e w' => e = .returned (.bool (decide (L = M))) ∧ Below w.heap.size w w' := by
  have HA := hid hA
  have HB := hid hB
  clear hA hB
  by_cases hlen : L.length = M.length
  · have h1 : L.length ≤ M.length := by omega
    have h2 : M.length ≤ L.length := by omega
    have hne : ((L.length : Int) != (M.length : Int)) = false := by simp; omega
    clear hlen
    go_enter Try.func30, Try.ntmps30
    go_wp2_with fail
    go_loopw [5] (fun i wr => ∃ k : Nat, k ≤ L.length ∧ i = .int .i64 k ∧ Hid (L.take k = M.take k ∧ Below w.heap.size w wr)) (fun i _ => L.length - (intOf i).toNat)
    case atStart => exact ⟨0, by omega, rfl, hid ⟨rfl, Below.refl _ _⟩⟩
    case round =>
      obtain ⟨k, hk, rfl, HK⟩ := hrel
      by_cases hlt : k < L.length
      · obtain ⟨ad, rfl, hB1, hc0⟩ := (HA.out.below HK.out.2) k hlt
        obtain ⟨ad2, rfl, hB2, hd0⟩ := (HB.out.below HK.out.2) k (by omega)
        have HT1 := hid (List.take_succ_eq_append_getElem hlt)
        have HT2 := hid (List.take_succ_eq_append_getElem (show k < M.length by omega))
        have HN1 := hid (show L = M → L[k] = M[k]'(by omega) by rintro rfl; rfl)
        generalize L[k] = x at *
        generalize M[k]'(by omega) = y at *
        have hi0 : (0 : Int) ≤ (k : Int) := by omega
        have hi1 : (k : Int) < (L.length : Int) := by omega
        have hi2 : (k : Int) < (M.length : Int) := by omega
        by_cases hs : x = y
        · subst hs
          go_wp2_with fail
          go_quiet (fail)
          go_wp2_with fail
          go_roundw
          case rel => exact ⟨k + 1, by omega, by go_num, hid ⟨by rw [HT1.out, HT2.out, HK.out.1], below_drewN HK.out.2 _⟩⟩
          case measure => simp [intOf]; omega
        · have hb : (x == y) = false := by simpa using hs
          have HS := hid hs
          clear hs
          go_wp2_with fail
          go_quiet (fail)
          go_wp2_with fail
          go_ret
          have hne2 : ¬ L = M := fun e => HS.out (HN1.out e)
          exact ⟨by rw [decide_eq_false hne2]; rfl, below_drewN HK.out.2 _⟩
      · obtain rfl : k = L.length := by omega
        have h3 := HK.out
        rw [List.take_length, List.take_of_length_le h2] at h3
        have H3 := hid h3
        clear h3
        go_wp2_with fail
        go_ret
        exact ⟨by rw [decide_eq_true H3.out.1]; rfl, H3.out.2⟩
  · have HN := hid (show decide (L = M) = false from decide_eq_false (fun e => hlen (by rw [e])))
    have hne : ((L.length : Int) != (M.length : Int)) = true := by simp; omega
    go_enter Try.func30, Try.ntmps30
    go_wp2_with fail
    go_ret
    exact ⟨by rw [HN.out]; rfl, Below.refl _ _⟩
end Go.Proofs.Ytijepbmoaenlpaa
