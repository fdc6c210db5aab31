import Derived.Test.YtddmmpjamnjilaaDoorTd
import Derived.Laws.StructEq
namespace Go.Proofs.YtddmmpjamnjilaaDoor
set_option linter.unusedVariables false
set_option linter.unusedSimpArgs false
open Go.RowKit Go.Joins

theorem mb_guard (op : BinOp) (x y : Operand) (xs ys : Array Value) (w : World) : (eqGuard op 50 x y (.agg xs) (.agg ys)).run Tryd.prog w = .ok () w := run_eqGuard_agg w op _ x y xs ys (by kernel_rfl)
theorem mb_eqIn (w : World) (x y : Hd) : (Op.equalIn 10000 50 (.agg #[.string (bs x.1), .string (bs x.2)]) (.agg #[.string (bs y.1), .string (bs y.2)])).run Tryd.prog w = .ok (sameHd x y) w := by
  obtain ⟨x0, x1⟩ := x
  obtain ⟨y0, y1⟩ := y
  have us := Tryd.underlying9
  have asx := Tryd.isAgg9
  have zs := Tryd.sizeOf9
  rw [show (10000 : Nat) = 9999 + 1 from rfl, run_equalIn_agg w 9999 _ _ _ (by kernel_rfl) (by kernel_rfl)]
  simp only [Program.fieldsOf, Tryd.underlying50]
  go_simp
  unfold sameHd
  by_cases h1 : x0 = y0 <;> by_cases h2 : x1 = y1 <;> simp [h1, h2]
theorem mb_neq (w : World) (x y : Hd) : (binOp .neq 50 (.agg #[.string (bs x.1), .string (bs x.2)]) (.agg #[.string (bs y.1), .string (bs y.2)])).run Tryd.prog w = .ok (.bool (!sameHd x y)) w := by
  rw [run_neq_struct, mb_eqIn]; rfl
theorem mb_eql (w : World) (x y : Hd) : (binOp .eql 50 (.agg #[.string (bs x.1), .string (bs x.2)]) (.agg #[.string (bs y.1), .string (bs y.2)])).run Tryd.prog w = .ok (.bool (sameHd x y)) w := by
  rw [run_eql_struct, mb_eqIn]; rfl
set_option maxRecDepth 100000 in
set_option maxHeartbeats 2000000 in
theorem tsame_any (A B : Option Addr) (ca cb : Nat) (L M : List Hd) (w : World) (hA : HReads w (· < w.heap.size) A L) (hB : HReads w (· < w.heap.size) B M) (hl : L.length ≤ 10000000) (hm : M.length ≤ 10000000) :
    Calls Tryd.prog 21 #[.slice A L.length ca, .slice B M.length cb] w fun e w' => e = .returned (.bool (decide (L = M))) ∧ Below w.heap.size w w' := by
  have HA := hid hA
  have HBb := hid hB
  clear hA hB
  by_cases hlen : L.length = M.length
  · have h1 : L.length ≤ M.length := by omega
    have h2 : M.length ≤ L.length := by omega
    have hne : ((L.length : Int) != (M.length : Int)) = false := by simp; omega
    clear hlen
    go_enter Tryd.func21, Tryd.ntmps21
    go_wp2_with fail
    go_loopw [5] (fun i wr => ∃ k : Nat, k ≤ L.length ∧ i = .int .i64 k ∧ Hid (L.take k = M.take k ∧ Below w.heap.size w wr)) (fun i _ => L.length - (intOf i).toNat)
    case atStart => exact ⟨0, by omega, rfl, hid ⟨rfl, Below.refl _ _⟩⟩
    case round =>
      obtain ⟨k, hk, rfl, HK⟩ := hrel
      by_cases hlt : k < L.length
      · obtain ⟨b, o, rfl, hB1, hc0, hc1⟩ := (HA.out.below HK.out.2) k hlt
        obtain ⟨b2, o2, rfl, hB2, hd0, hd1⟩ := (HBb.out.below HK.out.2) k (by omega)
        have HT1 := hid (List.take_succ_eq_append_getElem hlt)
        have HT2 := hid (List.take_succ_eq_append_getElem (show k < M.length by omega))
        have HN1 := hid (show L = M → L[k] = M[k]'(by omega) by rintro rfl; rfl)
        generalize L[k] = x at *
        generalize M[k]'(by omega) = y at *
        obtain ⟨x0, x1⟩ := x
        obtain ⟨y0, y1⟩ := y
        have hi0 : (0 : Int) ≤ (k : Int) := by omega
        have hi1 : (k : Int) < (L.length : Int) := by omega
        have hi2 : (k : Int) < (M.length : Int) := by omega
        have hg1 : ∀ (a b : Operand) (xs ys : Array Value) (w : World), (eqGuard .neq 50 a b (.agg xs) (.agg ys)).run Tryd.prog w = .ok () w := fun a b xs ys w => mb_guard .neq a b xs ys w
        have hg2 : ∀ w : World, (binOp .neq 50 (.agg #[.string (bs x0), .string (bs x1)]) (.agg #[.string (bs y0), .string (bs y1)])).run Tryd.prog w = .ok (.bool (!sameHd (x0, x1) (y0, y1))) w := fun w => mb_neq w (x0, x1) (y0, y1)
        cases hs : sameHd (x0, x1) (y0, y1)
        · have HS := hid hs
          rw [hs] at hg2
          clear hs
          go_wp2_with fail
          go_quiet (fail)
          go_wp2_with fail
          go_ret
          have hne2 : ¬ L = M := fun e => by have := HN1.out e; have := HS.out; simp_all [sameHd]
          exact ⟨by rw [decide_eq_false hne2]; rfl, below_drewN HK.out.2 _⟩
        · have HS := hid hs
          rw [hs] at hg2
          clear hs
          go_wp2_with fail
          go_quiet (fail)
          go_wp2_with fail
          go_roundw
          case rel => exact ⟨k + 1, by omega, by go_num, hid ⟨by
            rw [HT1.out, HT2.out, HK.out.1]
            have : ((x0, x1) : Hd) = (y0, y1) := of_decide_eq_true HS.out
            rw [this], below_drewN HK.out.2 _⟩⟩
          case measure => simp [intOf]; omega
      · obtain rfl : k = L.length := by omega
        have h3 := HK.out
        rw [List.take_length, List.take_of_length_le h2] at h3
        have H3 := hid h3
        clear h3
        go_wp2_with fail
        go_ret
        exact ⟨by rw [decide_eq_true H3.out.1]; rfl, H3.out.2⟩
  · have HN := hid (show decide (L = M) = false from decide_eq_false (fun e => hlen (by rw [e])))
    have hne : ((L.length : Int) != (M.length : Int)) = true := by simp; omega
    go_enter Tryd.func21, Tryd.ntmps21
    go_wp2_with fail
    go_ret
    exact ⟨by rw [HN.out]; rfl, Below.refl _ _⟩
set_option maxHeartbeats 1600000 in
theorem tfew_any (A : Option Addr) (cap : Nat) (L : List Hd) (w : World) (hR : HReads w (· < w.heap.size) A L) (hl : L.length ≤ 9223372036854775807) (hs : ∀ h ∈ L, h.1.length ≤ 140737488351232 ∧ h.2.length ≤ 140737488351232) :
    Calls Tryd.prog 22 #[.slice A L.length cap] w fun e w' => e = .returned (.bool (fewOk L)) ∧ Below w.heap.size w w' := by
  have HR := hid hR
  have HS := hid hs
  clear hR hs
  by_cases h60 : 60 < L.length
  · have HC := hid (show fewOk L = false by rw [fewOk, decide_eq_false (by omega)]; rfl)
    go_enter Tryd.func22, Tryd.ntmps22
    go_wp2_with fail
    go_ret
    exact ⟨by rw [HC.out]; rfl, Below.refl _ _⟩
  · have HC := hid (show fewOk L = L.all fun h => decide (h.1.length + h.2.length ≤ 400) by rw [fewOk, decide_eq_true (by omega)]; rfl)
    go_enter Tryd.func22, Tryd.ntmps22
    go_wp2_with fail
    go_loopw [3] (fun i wr => ∃ k : Nat, k ≤ L.length ∧ i = .int .i64 k ∧ Hid (((L.take k).all fun h => decide (h.1.length + h.2.length ≤ 400)) = true ∧ Below w.heap.size w wr)) (fun i _ => L.length - (intOf i).toNat)
    case atStart => exact ⟨0, by omega, rfl, hid ⟨rfl, Below.refl _ _⟩⟩
    case round =>
      obtain ⟨k, hk, rfl, HW⟩ := hrel
      by_cases hlt : k < L.length
      · obtain ⟨b, o, rfl, hB, hc0, hc1⟩ := (HR.out.below HW.out.2) k hlt
        have HT := hid (List.take_succ_eq_append_getElem hlt)
        have HM := hid (List.getElem_mem hlt)
        obtain ⟨hs0, hs1⟩ := HS.out _ (List.getElem_mem hlt)
        generalize L[k] = h at *
        obtain ⟨h0, h1⟩ := h
        have hz0 : h0.length ≤ 140737488351232 := hs0
        have hz1 : h1.length ≤ 140737488351232 := hs1
        clear hs0 hs1
        have hi0 : (0 : Int) ≤ (k : Int) := by omega
        have hi1 : (k : Int) < (L.length : Int) := by omega
        have hadd : IntKind.i64.wrap ((h0.length : Int) + (h1.length : Int)) = (h0.length : Int) + (h1.length : Int) := IntWalk.i64_in _ (by omega)
        go_wp2_with fail
        go_quiet (fail)
        go_wp2_with fail
        · go_ret
          exact ⟨by rw [HC.out, List.all_eq_false.2 ⟨_, HM.out, by simp; omega⟩]; rfl, below_drewN HW.out.2 _⟩
        · go_roundw
          case rel => exact ⟨k + 1, by omega, by go_num, hid ⟨by rw [HT.out, List.all_append, HW.out.1]; simp; omega, below_drewN HW.out.2 _⟩⟩
          case measure => simp [intOf]; omega
      · obtain rfl : k = L.length := by omega
        go_wp2_with fail
        go_ret
        have := HW.out.1
        rw [List.take_length] at this
        exact ⟨by rw [HC.out, this]; rfl, HW.out.2⟩
end Go.Proofs.YtddmmpjamnjilaaDoor
