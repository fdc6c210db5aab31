/- Texts put together: Hi Hh Hj. -/
import Derived.Test.YtpfhmpblcmednaaD13
import Derived.Laws.StructEq
namespace Go.Proofs.Ytpfhmpblcmednaa
set_option linter.unusedVariables false
set_option linter.unusedSimpArgs false
open Go.RowKit Go.Joins

def sameHd (x y : Hd) : Bool := decide (x = y)
end Go.Proofs.Ytpfhmpblcmednaa
namespace Go.Proofs.Ytpfhmpblcmednaa
set_option linter.unusedVariables false
set_option linter.unusedSimpArgs false
open Go.RowKit Go.Joins

theorem infoS : (Try.prog.info? 9).map (fun i => (i.zero, i.size, i.bytes)) = some (some (.string ByteArray.empty), 1, 16) := by kernel_rfl
def tvals (L : List (List UInt8)) : List Value := L.map fun l => Value.string (bs l)
theorem tvals_length (L : List (List UInt8)) : (tvals L).length = L.length := by simp [tvals]
theorem tvals_snoc (L : List (List UInt8)) (l : List UInt8) : tvals L ++ [.string (bs l)] = tvals (L ++ [l]) := by simp [tvals]
/-- A slice of strings that the call itself has made, holding L. -/
def TB (w : World) (base : Nat) (v : Value) (L : List (List UInt8)) : Prop := w.ownsRow base 9 1 v L.length (tvals L)
theorem TB.nil (w : World) (base : Nat) : TB w base (.slice none 0 0) [] := ⟨rfl, Or.inl ⟨rfl, rfl⟩⟩
theorem TB.reads {w : World} {base : Nat} {v : Value} {L : List (List UInt8)} (h : TB w base v L) : ∃ A cap, v = .slice A L.length cap ∧ STexts w (fun b => base ≤ b ∧ b < w.heap.size) A L := by
  rcases ownsRow_forms h with ⟨rfl, h0⟩ | ⟨g, cap, rfl⟩
  · exact ⟨none, 0, by rw [h0], fun k hk => absurd hk (by omega)⟩
  · refine ⟨some ⟨g, 0, none⟩, cap, rfl, fun k hk => ⟨⟨g, 0, none⟩, rfl, World.ownsRow.lt h g rfl, ?_⟩⟩
    rw [Addr.add_lit, Nat.zero_add, World.ownsRow.cellAt h k (by omega)]
    simp [tvals, hk]
theorem TB.below {w w' : World} {base : Nat} {v : Value} {L : List (List UInt8)} (h : TB w base v L) (hb : Below w.heap.size w w') : TB w' base v L := by
  unfold TB at *
  refine World.ownsRow.kept (row := none) h ⟨hb.os, hb.tape, hb.output, hb.size, fun k hk _ => hb.block k hk⟩ ?_
  by_cases e : v.ownBlock = none
  · exact Or.inl e
  · exact Or.inr e
theorem TB.more {w : World} {base base' : Nat} {v : Value} {L : List (List UInt8)} (h : TB w base v L) (hb : base' ≤ base) : TB w base' v L := by
  refine ⟨h.1, ?_⟩
  rcases h.2 with h2 | ⟨g, cap', cur, e1, e2, e3⟩
  · exact Or.inl h2
  · exact Or.inr ⟨g, cap', cur, e1, Nat.le_trans hb e2, e3⟩
theorem TB.alloc {w : World} {base : Nat} {v : Value} {L : List (List UInt8)} (h : TB w base v L) (o : Obj) : TB (w.alloc o) base v L := h.below ((Below.refl _ _).alloc (Nat.le_refl _) _)
/-- append of one string to a slice of the call's own. -/
theorem wpList_append_tx {ops : Array Oper} {rest : List Oper} {o : Oper} {a : Act} {Q : Exit → Act → World → Prop} {w W0 : World} (hgd : o.guard = none) (s x : Operand)
    (ho : o.op = .call { callee := .builtin .append, args := #[s, x], argTypes := #[41, 41] }) (base : Nat) (v : Value) (L : List (List UInt8)) (l : List UInt8) (g : Nat)
    (hs : a.eval s = v) (hown : TB w base v L) (hx : a.eval x = .slice (some ⟨g, 0, none⟩) 1 1) (hc : w.cell? ⟨g, 0, none⟩ = some (.string (bs l)))
    (hl : L.length ≤ 10000000) (hW : Below base W0 w) (hbase : base ≤ W0.heap.size) (K : ∀ v' w', TB w' base v' (L ++ [l]) → Below base W0 w' → wpList Try.prog ops Q rest (a.put o.dst v') w') : wpList Try.prog ops Q (o :: rest) a w := by
  obtain ⟨i0, hi, hz0, hz1, hz2⟩ := info_parts infoS
  have hbw : base ≤ w.heap.size := Nat.le_trans hbase hW.size
  refine wpList_append_own _ hgd s x 41 ho base 9 i0 (.string ByteArray.empty) 1 16 Try.underlying41 hi hz0 hz1 hz2 rfl (by decide) v L.length (tvals L) hs hown ⟨g, 0, none⟩ 1 1
    [.string (bs l)] hx rfl ?_ (by intro u hu; simp at hu; subst hu; rfl) (by unfold maxLen; omega) (by omega) hbw ?_
  · intro j u hj
    match j, hj with
    | 0, hj => simp at hj; subst hj; simpa [Addr.add] using hc
    | j + 1, hj => simp at hj
  · intro v' w' h1 h2 _
    refine K v' w' ?_ (hW.grown h2 hbw (fun k hk => (World.ownsRow.lt hown k hk).1))
    unfold TB
    rw [List.length_append, ← tvals_snoc]
    exact h1
theorem map_take {α β : Type} (f : α → β) (L : List α) (k : Nat) (h : k < L.length) : (L.take (k + 1)).map f = (L.take k).map f ++ [f L[k]] := by
  rw [List.take_succ_eq_append_getElem h, List.map_append]; rfl
/-- A comparison of two lists of headers. -/
theorem hd_ne (a b : Hd) : (a == b) = (a.1 == b.1 && a.2 == b.2) := by cases a; cases b; rfl
set_option maxRecDepth 100000 in
set_option maxHeartbeats 2000000 in
theorem texts_any (A B : Option Addr) (ca cb : Nat) (L M : List (List UInt8)) (w : World) (hA : STexts w (· < w.heap.size) A L) (hB : STexts w (· < w.heap.size) B M) (hl : L.length ≤ 10000000) (hm : M.length ≤ 10000000) :
    Calls Try.prog 42 #[.slice A L.length ca, .slice B M.length cb] w fun e w' => e = .returned (.bool (decide (L = M))) ∧ Below w.heap.size w w' := by
  have HA := hid hA
  have HBr := hid hB
  clear hA hB
  by_cases hlen : L.length = M.length
  · have h1 : L.length ≤ M.length := by omega
    have h2 : M.length ≤ L.length := by omega
    have hne : ((L.length : Int) != (M.length : Int)) = false := by simp; omega
    clear hlen
    go_enter Try.func42, Try.ntmps42
    go_wp2_with fail
    go_loopw [5] (fun i wr => ∃ k : Nat, k ≤ L.length ∧ i = .int .i64 k ∧ Hid (L.take k = M.take k ∧ Below w.heap.size w wr)) (fun i _ => L.length - (intOf i).toNat)
    case atStart => exact ⟨0, by omega, rfl, hid ⟨rfl, Below.refl _ _⟩⟩
    case round =>
      obtain ⟨k, hk, rfl, HK⟩ := hrel
      by_cases hlt : k < L.length
      · obtain ⟨ad, rfl, hB1, hc0⟩ := (HA.out.below HK.out.2) k hlt
        obtain ⟨ad2, rfl, hB2, hd0⟩ := (HBr.out.below HK.out.2) k (by omega)
        have HT1 := hid (List.take_succ_eq_append_getElem hlt)
        have HT2 := hid (List.take_succ_eq_append_getElem (show k < M.length by omega))
        have HN1 := hid (show L = M → L[k] = M[k]'(by omega) by rintro rfl; rfl)
        generalize L[k] = x at *
        generalize M[k]'(by omega) = y at *
        have hi0 : (0 : Int) ≤ (k : Int) := by omega
        have hi1 : (k : Int) < (L.length : Int) := by omega
        have hi2 : (k : Int) < (M.length : Int) := by omega
        by_cases hs : x = y
        · subst hs
          go_wp2_with fail
          go_quiet (fail)
          go_wp2_with fail
          go_roundw
          case rel => exact ⟨k + 1, by omega, by go_num, hid ⟨by rw [HT1.out, HT2.out, HK.out.1], below_drewN HK.out.2 _⟩⟩
          case measure => simp [intOf]; omega
        · have hb : (x == y) = false := by simpa using hs
          have HS := hid hs
          clear hs
          go_wp2_with fail
          go_quiet (fail)
          go_wp2_with fail
          go_ret
          have hne2 : ¬ L = M := fun e => HS.out (HN1.out e)
          exact ⟨by rw [decide_eq_false hne2]; rfl, below_drewN HK.out.2 _⟩
      · obtain rfl : k = L.length := by omega
        have h3 := HK.out
        rw [List.take_length, List.take_of_length_le h2] at h3
        have H3 := hid h3
        clear h3
        go_wp2_with fail
        go_ret
        exact ⟨by rw [decide_eq_true H3.out.1]; rfl, H3.out.2⟩
  · have HN := hid (show decide (L = M) = false from decide_eq_false (fun e => hlen (by rw [e])))
    have hne : ((L.length : Int) != (M.length : Int)) = true := by simp; omega
    go_enter Try.func42, Try.ntmps42
    go_wp2_with fail
    go_ret
    exact ⟨by rw [HN.out]; rfl, Below.refl _ _⟩
end Go.Proofs.Ytpfhmpblcmednaa
namespace Go.Proofs.Ytpfhmpblcmednaa
set_option linter.unusedVariables false
set_option linter.unusedSimpArgs false
open Go.RowKit Go.Joins

theorem allS_take (L : List Hd) (n : List UInt8) (k : Nat) (h : k < L.length) : allS (L.take (k + 1)) n = allS (L.take k) n ++ if (L[k].1 == n) = true then [L[k].2] else [] := by
  rw [allS, allS, filter_take _ _ _ h, hasN_one]
  cases hp : (L[k].1 == n) <;> simp
theorem allS_length (L : List Hd) (n : List UInt8) : (allS L n).length ≤ L.length := by rw [allS, List.length_map]; exact List.length_filter_le _ _
theorem setR_step (n v : List UInt8) (met : Bool) (L : List Hd) (k : Nat) (h : k < L.length) :
    setR n v met (L.drop k) = if (L[k].1 == n) = false then L[k] :: setR n v met (L.drop (k + 1)) else if met = true then setR n v met (L.drop (k + 1)) else (n, v) :: setR n v true (L.drop (k + 1)) := by
  rw [List.drop_eq_getElem_cons h, setR]
  by_cases e : L[k].1 = n <;> simp [e]
theorem setR_length (n v : List UInt8) (L : List Hd) : ∀ met, (setR n v met L).length ≤ L.length + 1 := by
  induction L with
  | nil => intro met; cases met <;> simp [setR]
  | cons h r ih =>
    intro met
    rw [setR]
    have := ih met
    have := ih true
    split
    · simp only [List.length_cons]; omega
    · split
      · simp only [List.length_cons]; omega
      · simp only [List.length_cons]; omega
end Go.Proofs.Ytpfhmpblcmednaa
