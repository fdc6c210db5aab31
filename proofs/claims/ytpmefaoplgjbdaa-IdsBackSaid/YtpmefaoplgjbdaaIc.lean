import Derived.Test.YtpmefaoplgjbdaaIb
import Derived.Maps.OwnSet
import Derived.Laws.Small
namespace Go.Proofs.Ytpmefaoplgjbdaa
set_option linter.unusedVariables false
set_option linter.unusedSimpArgs false
open Go.RowKit Go.Maps

/-- The cells of a slice of numbers. -/
def NReads (w : World) (N : Nat → Prop) (A : Option Addr) (L : List Nat) : Prop :=
  ∀ k (h : k < L.length), ∃ ad, A = some ad ∧ N ad.block ∧ w.cell? (ad.add k) = some (.int .u64 (L[k] : Int))
theorem NReads.below {w w' : World} {B : Nat} {A : Option Addr} {L : List Nat} (h : NReads w (· < B) A L) (hb : Below B w w') : NReads w' (· < B) A L := by
  intro k hk
  obtain ⟨ad, e, h1, h2⟩ := h k hk
  exact ⟨ad, e, h1, (hb.cell (by rw [add_block]; exact h1)).trans h2⟩
theorem NReads.imp {w : World} {N M : Nat → Prop} {A : Option Addr} {L : List Nat} (h : NReads w N A L) (hn : ∀ b, N b → M b) : NReads w M A L := by
  intro k hk
  obtain ⟨ad, e, h1, h2⟩ := h k hk
  exact ⟨ad, e, hn _ h1, h2⟩
set_option maxHeartbeats 800000 in
theorem at_any (A : Option Addr) (cap : Nat) (L : List Nat) (n : Int) (N : Nat → Prop) (w : World) (hR : NReads w N A L) (hl : L.length ≤ 140737488351232) (hn : -9223372036854775808 ≤ n ∧ n ≤ 9223372036854775807) :
    Calls Try.prog 17 #[.slice A L.length cap, .int .i64 n] w fun e w' => e = .returned (.int .u64 (atS L n)) ∧ w = w' := by
  obtain ⟨hn1, hn2⟩ := hn
  by_cases h0 : 0 ≤ n
  · obtain ⟨k, rfl⟩ := Int.eq_ofNat_of_zero_le h0
    by_cases hk : k < L.length
    · obtain ⟨ad, rfl, hB, hc⟩ := hR k hk
      have HA := hid (atS_in hk)
      generalize L[k] = x at *
      have hki : (k : Int) < (L.length : Int) := by omega
      clear hR
      go_enter Try.func17, Try.ntmps17
      go_wp2_with fail
      go_returns
      exact ⟨by rw [HA.out]; rfl, rfl⟩
    · have HA := hid (atS_out (L := L) (n := (k : Int)) (by omega))
      have hnk : ¬ (k : Int) < (L.length : Int) := by omega
      have h3 : ¬ (0 : Int) > (k : Int) := by omega
      have hw : IntKind.u64.wrap (k : Int) = k := wrap_u64_nat _ (by omega)
      have hw2 : IntKind.u64.wrap (4294967296 + (k : Int)) = 4294967296 + (k : Int) := IntWalk.u64_in _ (by omega)
      clear hR
      go_enter Try.func17, Try.ntmps17
      go_wp2_with fail
      go_returns
      refine ⟨?_, rfl⟩
      show Ending.returned (.int .u64 (4294967296 + (k : Int))) = _
      rw [HA.out, if_neg (by omega), show ((4294967296 + ((k : Int)).toNat : Nat) : Int) = 4294967296 + (k : Int) from by omega]
  · have HA := hid (atS_out (L := L) (n := n) (by omega))
    clear hR
    go_enter Try.func17, Try.ntmps17
    go_wp2_with fail
    go_returns
    exact ⟨by rw [HA.out, if_pos (by omega)]; rfl, rfl⟩
set_option maxHeartbeats 800000 in
theorem rat_any (A : Option Addr) (cap : Nat) (L : List Nat) (n : Int) (N : Nat → Prop) (w : World) (hR : NReads w N A L) (hl : L.length ≤ 140737488351232) (hn : -9223372036854775808 ≤ n ∧ n ≤ 9223372036854775807) :
    Calls Try.prog 18 #[.slice A L.length cap, .int .i64 n] w fun e w' => e = .returned (.int .u64 (atS L n)) ∧ w = w' := by
  obtain ⟨hn1, hn2⟩ := hn
  by_cases h0 : 0 ≤ n
  · obtain ⟨k, rfl⟩ := Int.eq_ofNat_of_zero_le h0
    by_cases hk : k < L.length
    · obtain ⟨ad, rfl, hB, hc⟩ := hR k hk
      have HA := hid (atS_in hk)
      generalize L[k] = x at *
      have hki : (k : Int) < (L.length : Int) := by omega
      clear hR
      go_enter Try.func18, Try.ntmps18
      go_wp2_with fail
      go_returns
      exact ⟨by rw [HA.out]; rfl, rfl⟩
    · have HA := hid (atS_out (L := L) (n := (k : Int)) (by omega))
      have hnk : ¬ (k : Int) < (L.length : Int) := by omega
      have h3 : ¬ (0 : Int) > (k : Int) := by omega
      have hw : IntKind.u64.wrap (k : Int) = k := wrap_u64_nat _ (by omega)
      have hw2 : IntKind.u64.wrap (4294967296 + (k : Int)) = 4294967296 + (k : Int) := IntWalk.u64_in _ (by omega)
      clear hR
      go_enter Try.func18, Try.ntmps18
      go_wp2_with fail
      go_returns
      refine ⟨?_, rfl⟩
      show Ending.returned (.int .u64 (4294967296 + (k : Int))) = _
      rw [HA.out, if_neg (by omega), show ((4294967296 + ((k : Int)).toNat : Nat) : Int) = 4294967296 + (k : Int) from by omega]
  · have HA := hid (atS_out (L := L) (n := n) (by omega))
    clear hR
    go_enter Try.func18, Try.ntmps18
    go_wp2_with fail
    go_returns
    exact ⟨by rw [HA.out, if_pos (by omega)]; rfl, rfl⟩

def keysU (L : List Nat) (k : Nat) : List Lit := (List.range k).map fun (i : Nat) => Lit.int .u64 (atS L (i : Int) : Int)
def Seen (L : List Nat) (k : Nat) : DataW Unit := setOf (.agg []) (keysU L k)
theorem seen_zero (L : List Nat) : Seen L 0 = .map [] := rfl
theorem seen_succ (L : List Nat) (k : Nat) : Seen L (k + 1) = (Seen L k).put (.int .u64 (atS L (k : Int) : Int)) (.agg []) := by
  unfold Seen keysU
  rw [List.range_succ, List.map_append, List.map_singleton, setOf_snoc]
theorem has_seen (L : List Nat) (k : Nat) (x : Nat) : Maps.has (Seen L k) (.int .u64 (x : Int)) = true ↔ ∃ j, j < k ∧ atS L (j : Int) = x := by
  unfold Seen
  rw [has_setOf _ _ _ (fun y hy => by obtain ⟨_, _, rfl⟩ := List.mem_map.1 hy; trivial), List.any_eq_true]
  constructor
  · rintro ⟨y, hy, he⟩
    obtain ⟨j, hj, rfl⟩ := List.mem_map.1 hy
    refine ⟨j, List.mem_range.1 hj, ?_⟩
    have : IntKind.u64 = IntKind.u64 ∧ (atS L (j : Int) : Int) = (x : Int) := of_decide_eq_true he
    omega
  · rintro ⟨j, hj, rfl⟩
    exact ⟨_, List.mem_map.2 ⟨j, List.mem_range.2 hj, rfl⟩, decide_eq_true ⟨rfl, rfl⟩⟩
theorem lawU : Keyed Try.prog 22 := int_keyed Try.underlying22
theorem zeroUnit (w : World) : (zeroValue 43).run Try.prog w = .ok (.agg #[]) w := by kernel_rfl
theorem wf_u64 {n : Nat} (h : n < 18446744073709551616) : (Lit.int .u64 (n : Int)).wf = true := WalkArith.wf_u64 ⟨by omega, by omega⟩
theorem atS_lt {L : List Nat} (hL : ∀ x ∈ L, x < 18446744073709551616) {n : Int} (hn : n ≤ 9223372036854775807) : atS L n < 18446744073709551616 := by
  unfold atS
  split
  · exact hL _ (List.getElem_mem _)
  · split <;> omega
set_option maxRecDepth 100000 in
set_option maxHeartbeats 4000000 in
theorem distinct_any (A : Option Addr) (cap : Nat) (L : List Nat) (n : Int) (w : World) (hR : NReads w (· < w.heap.size) A L) (hl : L.length ≤ 140737488351232) (hL : ∀ x ∈ L, x < 18446744073709551616) (hn : -9223372036854775808 ≤ n ∧ n ≤ 9223372036854775807) :
    Calls Try.prog 19 #[.slice A L.length cap, .int .i64 n] w fun e w' => e = .returned (.bool (distS L n)) ∧ Below w.heap.size w w' := by
  obtain ⟨M, hM⟩ : ∃ M, (min n 4096).toNat = M := ⟨_, rfl⟩
  have HM := hid hM
  have HR := hid hR
  have HL := hid hL
  clear hR hL
  have hmm := @run_makeMap Try.prog
  obtain ⟨m, hm⟩ : ∃ m : Int, (if 4096 < n then 4096 else n) = m := ⟨_, rfl⟩
  have h1 : ∀ k : Nat, ((k : Int) < m ↔ k < M) := by intro k; rw [← hm, ← hM]; split <;> omega
  have h2 : m ≤ 4096 := by rw [← hm]; split <;> omega
  have h3 : M ≤ 4096 := by omega
  have H1 := hid h1
  clear h1 hM
  go_enter Try.func19, Try.ntmps19
  go_wp2_with fail
  go_loopw [13] (fun i wr => ∃ k : Nat, k ≤ M ∧ i = .int .i64 k ∧ Hid (wr.ownsMap Try.prog 22 (unitElem (H := Unit)) w.heap.size k (Seen L k) ∧ Apart L k ∧ Below w.heap.size w wr)) (fun i _ => M - (intOf i).toNat)
  case atStart => exact ⟨0, by omega, rfl, hid ⟨by rw [seen_zero]; exact World.ownsMap_made _ _ _ _, apart_zero L, (Below.refl _ _).alloc (Nat.le_refl _) _⟩⟩
  case round =>
    obtain ⟨k, hk, rfl, HW⟩ := hrel
    by_cases hlt : k < M
    · have hkm : (k : Int) < m := (H1.out k).2 hlt
      have hx := atS_lt HL.out (n := (k : Int)) (by omega)
      have HAT := hid (at_any A cap L (k : Int) _ wr (HR.out.below HW.out.2.2) hl ⟨by omega, by omega⟩)
      have HS := hid (seen_succ L k)
      have HHS := hid (has_seen L k (atS L (k : Int)))
      have HC := hid (show (atS L (k : Int) ≠ 0 → (∀ j : Nat, j < k → atS L (j : Int) ≠ atS L (k : Int)) → Apart L (k + 1)) ∧ (atS L (k : Int) = 0 → distS L n = false) ∧ (∀ j : Nat, j < k → atS L (j : Int) = atS L (k : Int) → distS L n = false) from ⟨fun h0 h1 => apart_succ HW.out.2.1 h0 h1, fun h0 => distS_false (by rw [HM.out]; exact not_apart_zero hlt h0), fun j hj h0 => distS_false (by rw [HM.out]; exact not_apart_two hlt hj h0)⟩)
      generalize atS L (k : Int) = x at *
      have hkey : keyOf Try.prog 22 (.int .u64 (x : Int)) = some (.int .u64 (x : Int)) := keyOf_int_mk Try.underlying22 (wf_u64 hx)
      have hq := beq0 x
      have hown := HW.out.1
      have hsz : w.heap.size ≤ wr.heap.size := HW.out.2.2.size
      cases hhas : Maps.has (Seen L k) (.int .u64 (x : Int))
      · have HH := hid hhas
        cases hx0 : decide (x = 0)
        · have HX0 := hid hx0
          rw [hx0] at hq
          clear hx0
          go_wp2_with fail
          refine HAT.out.mono ?_
          rintro e w1 ⟨rfl, rfl⟩
          go_wp2_with (first
            | (at_lookup; refine wpList_lookup_own_unit _ rfl _ _ 42 rfl 22 43 lawU Try.underlying42 (zeroUnit _) w.heap.size k (Seen L k) rfl hown _ _ rfl hkey ?_; rw [hhas])
            | (at_mapUpdate; refine wpList_mapUpdate_own _ rfl _ _ _ 42 rfl 22 43 lawU Try.underlying42 (unitElem (H := Unit)) w.heap.size k _ rfl (hown.alloc _) (by unfold maxLen; omega) _ _ _ rfl rfl hkey _ [] unitElem_mk ?_; intro w1 hown1 hgrow1))
          go_roundw
          case rel =>
            refine ⟨k + 1, by omega, by go_num, hid ⟨by rw [HS.out]; exact hown1, HC.out.1 (of_decide_eq_false HX0.out) (fun j hj e => ?_), ?_⟩⟩
            · have := HHS.out.2 ⟨j, hj, e⟩
              rw [HH.out] at this
              exact absurd this (by decide)
            · exact (HW.out.2.2.alloc hsz _).grown hgrow1 (by simp; omega) (fun j hj => by cases hj; exact Nat.le_refl _)
          case measure => simp [intOf]; omega
        · have HX0 := hid hx0
          rw [hx0] at hq
          clear hx0
          go_wp2_with fail
          refine HAT.out.mono ?_
          rintro e w1 ⟨rfl, rfl⟩
          go_wp2_with (at_lookup; refine wpList_lookup_own_unit _ rfl _ _ 42 rfl 22 43 lawU Try.underlying42 (zeroUnit _) w.heap.size k (Seen L k) rfl hown _ _ rfl hkey ?_; rw [hhas])
          go_ret
          exact ⟨by rw [HC.out.2.1 (of_decide_eq_true HX0.out)]; rfl, HW.out.2.2.alloc hsz _⟩
      · have HH := hid hhas
        go_wp2_with fail
        refine HAT.out.mono ?_
        rintro e w1 ⟨rfl, rfl⟩
        go_wp2_with (at_lookup; refine wpList_lookup_own_unit _ rfl _ _ 42 rfl 22 43 lawU Try.underlying42 (zeroUnit _) w.heap.size k (Seen L k) rfl hown _ _ rfl hkey ?_; rw [hhas])
        go_ret
        obtain ⟨j, hj, e⟩ := HHS.out.1 HH.out
        exact ⟨by rw [HC.out.2.2 j hj e]; rfl, HW.out.2.2.alloc hsz _⟩
    · have hkm : ¬ (k : Int) < m := fun h => hlt ((H1.out k).1 h)
      obtain rfl : k = M := by omega
      go_wp2_with fail
      go_ret
      exact ⟨by rw [distS_true (by rw [HM.out]; exact HW.out.2.1)]; rfl, HW.out.2.2⟩
set_option maxRecDepth 100000 in
set_option maxHeartbeats 4000000 in
theorem rdistinct_any (A : Option Addr) (cap : Nat) (L : List Nat) (n : Int) (w : World) (hR : NReads w (· < w.heap.size) A L) (hl : L.length ≤ 140737488351232) (hL : ∀ x ∈ L, x < 18446744073709551616) (hn : -9223372036854775808 ≤ n ∧ n ≤ 9223372036854775807) :
    Calls Try.prog 20 #[.slice A L.length cap, .int .i64 n] w fun e w' => e = .returned (.bool (distS L n)) ∧ w = w' := by
  obtain ⟨M, hM⟩ : ∃ M, (min n 4096).toNat = M := ⟨_, rfl⟩
  have HM := hid hM
  have HR := hid hR
  clear hR
  obtain ⟨m, hm⟩ : ∃ m : Int, (if 4096 < n then 4096 else n) = m := ⟨_, rfl⟩
  have h1 : ∀ k : Nat, ((k : Int) < m ↔ k < M) := by intro k; rw [← hm, ← hM]; split <;> omega
  have h2 : m ≤ 4096 := by rw [← hm]; split <;> omega
  have h3 : M ≤ 4096 := by omega
  have H1 := hid h1
  clear h1 hM
  go_enter Try.func20, Try.ntmps20
  go_wp2_with fail
  go_loop [5] (fun i => ∃ k : Nat, k ≤ M ∧ i = .int .i64 k ∧ Hid (Apart L k)) (fun i => M - (intOf i).toNat)
  case atStart => exact ⟨0, by omega, rfl, hid (apart_zero L)⟩
  case round =>
    obtain ⟨k, hk, rfl, HW⟩ := hrel
    by_cases hlt : k < M
    · have hkm : (k : Int) < m := (H1.out k).2 hlt
      have HAT := hid (rat_any A cap L (k : Int) _ w HR.out hl ⟨by omega, by omega⟩)
      have HC := hid (show (atS L (k : Int) ≠ 0 → (∀ j : Nat, j < k → atS L (j : Int) ≠ atS L (k : Int)) → Apart L (k + 1)) ∧ (atS L (k : Int) = 0 → distS L n = false) ∧ (∀ j : Nat, j < k → atS L (j : Int) = atS L (k : Int) → distS L n = false) from ⟨fun h0 h1 => apart_succ HW.out h0 h1, fun h0 => distS_false (by rw [HM.out]; exact not_apart_zero hlt h0), fun j hj h0 => distS_false (by rw [HM.out]; exact not_apart_two hlt hj h0)⟩)
      generalize hxk : atS L (k : Int) = x at *
      clear hxk
      have hq := beq0 x
      cases hx0 : decide (x = 0)
      · have HX0 := hid hx0
        rw [hx0] at hq
        clear hx0
        go_wp2_with fail
        refine HAT.out.mono ?_
        rintro e w1 ⟨rfl, rfl⟩
        go_wp2_with fail
        go_loop [6] (fun j => ∃ q : Nat, q ≤ k ∧ j = .int .i64 q ∧ Hid (∀ r : Nat, r < q → atS L (r : Int) ≠ x)) (fun j => k - (intOf j).toNat)
        case atStart => exact ⟨0, by omega, rfl, hid (fun r hr => absurd hr (by omega))⟩
        case round =>
          obtain ⟨q, hq1, rfl, HQ⟩ := hrel
          by_cases hqk : q < k
          · have HAQ := hid (rat_any A cap L (q : Int) _ w HR.out hl ⟨by omega, by omega⟩)
            have HCQ := hid (HC.out.2.2 q hqk)
            have HQN := hid (show atS L (q : Int) ≠ x → ∀ r : Nat, r < q + 1 → atS L (r : Int) ≠ x from fun h r hr => by
              by_cases e : r = q
              · subst e; exact h
              · exact HQ.out r (by omega))
            generalize atS L (q : Int) = y at *
            have hbq : ((y : Int) == (x : Int)) = decide (y = x) := by rw [Bool.eq_iff_iff]; simp; omega
            cases hyx : decide (y = x)
            all_goals
              have HYX := hid hyx
              rw [hyx] at hbq
              clear hyx
              go_wp2_with fail
              refine HAQ.out.mono ?_
              rintro e w1 ⟨rfl, rfl⟩
              go_wp2_with fail
              refine HAT.out.mono ?_
              rintro e w1 ⟨rfl, rfl⟩
              go_wp2_with fail
            · go_round
              case rel => exact ⟨q + 1, by omega, by go_num, hid (HQN.out (of_decide_eq_false HYX.out))⟩
              case measure => simp [intOf]; omega
            · go_ret
              exact ⟨by rw [HCQ.out (of_decide_eq_true HYX.out)]; rfl, rfl⟩
          · obtain rfl : q = k := by omega
            go_wp2_with fail
            go_round
            case rel => exact ⟨q + 1, by omega, by go_num, hid (HC.out.1 (of_decide_eq_false HX0.out) HQ.out)⟩
            case measure => simp [intOf]; omega
      · have HX0 := hid hx0
        rw [hx0] at hq
        clear hx0
        go_wp2_with fail
        refine HAT.out.mono ?_
        rintro e w1 ⟨rfl, rfl⟩
        go_wp2_with fail
        go_ret
        exact ⟨by rw [HC.out.2.1 (of_decide_eq_true HX0.out)]; rfl, rfl⟩
    · have hkm : ¬ (k : Int) < m := fun h => hlt ((H1.out k).1 h)
      obtain rfl : k = M := by omega
      go_wp2_with fail
      go_ret
      exact ⟨by rw [distS_true (by rw [HM.out]; exact HW.out)]; rfl, rfl⟩
end Go.Proofs.Ytpmefaoplgjbdaa
