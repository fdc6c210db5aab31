import Derived.Test.YtijepbmoaenlpaaCl
namespace Go.Proofs.Ytijepbmoaenlpaa
set_option linter.unusedVariables false
set_option linter.unusedSimpArgs false
open Go.RowKit

theorem joinL_step (L : List (List UInt8)) (k : Nat) (h : k < L.length) (h1 : (joinL (L.take k)).length ≤ 300 * k) (h2 : (L[k]).length ≤ 300) : (joinL (L.take (k + 1))).length ≤ 300 * (k + 1) := by
  rw [joinL_take _ _ h, List.length_append]; omega
/-- A machine that has not been asked, or has. -/
def MS (w : World) (g n : Nat) : Prop := ∃ (d0 made0 : Int) (k0 : Nat), ((d0 = 0 ∧ made0 = 0 ∧ k0 = 0) ∨ (d0 = 1 ∧ made0 = 1 ∧ k0 = 256)) ∧ Mc w g d0 0 made0 n k0
theorem mof_any (g n : Nat) (A : Option Addr) (cap : Nat) (L : List (List UInt8)) (w : World)
    (h : MS w g n) (hS : STexts w (· ≠ g) A L) (hl : L.length ≤ 1000000) (hn : n + (joinL L).length ≤ 1000000000) :
    Calls Try.prog 17 #[.pointer (some ⟨g, 0, none⟩), .slice A L.length cap] w fun e w' => e = .returned (.int .u32 (crcS (joinL L) : Nat)) ∧ Mc w' g 1 0 1 ((n + (joinL L).length : Nat) : Int) 256 ∧ Only g w w' := by
  obtain ⟨d0, made0, k0, h1, h2⟩ := h
  exact mof_loop g d0 made0 k0 n A cap L w h1 h2 hS hl hn
set_option maxRecDepth 100000 in
set_option maxHeartbeats 4000000 in
theorem crcMachine_walk (v : Value) (LL : List (List (List UInt8))) (w : World) (hv : TXX w (· < w.heap.size) v LL) :
    Calls Try.prog 4 #[v] w fun e w' => e = .returned (.bool true) ∧ Below w.heap.size w w' := by
  obtain ⟨A, cap, rfl, hlen, hcells⟩ := hv
  have HV : Hid (TXX w (· < w.heap.size) (.slice A LL.length cap) LL) := hid ⟨A, cap, rfl, hlen, hcells⟩
  clear hcells
  unfold maxLen at hlen
  by_cases h40 : 40 < LL.length
  · go_enter Try.func4, Try.ntmps4
    go_wp2_with fail
    refine (known3_any _).mono ?_
    rintro e w1 ⟨rfl, hb1⟩
    go_wp2_with fail
    go_ret
    exact ⟨rfl, hb1⟩
  · go_enter Try.func4, Try.ntmps4
    go_wp2_with fail
    refine (cnew_any _).mono ?_
    rintro e w1 ⟨rfl, hM1, hb1⟩
    have H1 := hid (And.intro hM1 hb1)
    clear hM1 hb1
    generalize hg : w.heap.size = g at *
    have HG := hid hg
    clear hg
    go_wp2_with fail
    go_loopw [5, 6] (fun b i wr => ∃ k n : Nat, k ≤ LL.length ∧ n ≤ 6000 * k ∧ i = .int .i64 k ∧ b = .int .i64 n ∧ Hid (MS wr g n ∧ Below g w wr)) (fun _ i _ => LL.length - (intOf i).toNat)
    case atStart => exact ⟨0, 0, by omega, by omega, rfl, rfl, hid ⟨⟨0, 0, 0, Or.inl ⟨rfl, rfl, rfl⟩, H1.out.1⟩, H1.out.2⟩⟩
    case round =>
      obtain ⟨k, n, hk, hn, rfl, rfl, HW⟩ := hrel
      by_cases hlt : k < LL.length
      · obtain ⟨ad, A', cap', rfl, hB, hcell, hST, hL1, hL2⟩ := (HV.out.below HW.out.2).at_ k hlt
        have HL2 := hid hL2
        clear hL2
        have HST := hid hST
        clear hST
        unfold maxLen at hL1
        clear hlen
        have hgw : g ≤ wr.heap.size := by have := HW.out.2.size; rw [HG.out] at this; exact this
        generalize LL[k] = L at *
        by_cases h20 : 20 < L.length
        · go_wp2_with fail
          refine (known3_any _).mono ?_
          rintro e w2 ⟨rfl, hb2⟩
          go_wp2_with fail
          go_ret
          refine ⟨rfl, ?_⟩
          rw [HG.out]
          exact HW.out.2.trans (hb2.mono (hgw))
        · go_wp2_with fail
          go_loop [7, 8] (fun a j => ∃ q : Nat, q ≤ L.length ∧ (joinL (L.take q)).length ≤ 300 * q ∧ j = .int .i64 q ∧ a = .string (bs (joinL (L.take q)))) (fun _ j => L.length - (intOf j).toNat)
          case atStart => exact ⟨0, by omega, by simp [joinL], rfl, rfl⟩
          case round =>
            obtain ⟨q, hq, hql, rfl, rfl⟩ := hrel
            by_cases hqq : q < L.length
            · obtain ⟨ad2, rfl, hB2, hcell2⟩ := HST.out q hqq
              have hs1 : (L[q]).length ≤ maxLen := HL2.out _ (List.getElem_mem hqq)
              have HSTEP := hid (joinL_step L q hqq hql)
              unfold maxLen at hs1
              have HJ := hid (joinL_take L q hqq)
              by_cases h300 : 300 < (L[q]).length
              · go_wp2_with fail
                refine (known3_any _).mono ?_
                rintro e w2 ⟨rfl, hb2⟩
                go_wp2_with fail
                go_ret
                refine ⟨rfl, ?_⟩
                rw [HG.out]
                exact HW.out.2.trans (hb2.mono hgw)
              · go_wp2_with fail
                go_round
                case rel => exact ⟨q + 1, by omega, HSTEP.out (by omega), by go_num, by rw [HJ.out]⟩
                case measure => simp [intOf]; omega
            · obtain rfl : q = L.length := by omega
              have HT := hid (List.take_length (l := L))
              rw [HT.out] at hql ⊢
              go_wp2_with fail
              refine (mof_any g n A' cap' L _ HW.out.1 (HST.out.imp (fun b hb => by omega)) (by omega) (by omega)).mono ?_
              rintro e w2 ⟨rfl, hM2, hO2⟩
              have H2 := hid (And.intro hM2 (Only.below HW.out.2 hO2 (Nat.le_refl _) hgw))
              clear hM2 hO2
              go_wp2_with fail
              refine (rof_any _ _ (by omega)).mono ?_
              rintro e w3 ⟨rfl, rfl⟩
              have hn3 : n + (joinL L).length ≤ 6000 * (k + 1) := by omega
              go_wp2_with fail
              refine (made_any g 1 _ H2.out.1.cm (by omega) (by omega)).mono ?_
              rintro e w3 ⟨rfl, rfl⟩
              go_wp2_with fail
              refine (bytes_any g _ _ H2.out.1.cn (by omega) (by omega)).mono ?_
              rintro e w3 ⟨rfl, rfl⟩
              have hc : (((n + (joinL L).length : Nat) : Int) != (n : Int) + ((joinL L).length : Int)) = false := by simp
              go_wp2_with fail
              go_roundw
              case rel => exact ⟨k + 1, n + (joinL L).length, by omega, hn3, by go_num, by go_num, hid ⟨⟨1, 1, 256, Or.inr ⟨rfl, rfl, rfl⟩, H2.out.1⟩, H2.out.2⟩⟩
              case measure => simp [intOf]; omega
      · obtain rfl : k = LL.length := by omega
        have hgw : g ≤ wr.heap.size := by have := HW.out.2.size; rw [HG.out] at this; exact this
        go_wp2_with fail
        refine (mof_nil _ _).mono ?_
        rintro e w2 ⟨rfl, rfl⟩
        go_wp2_with fail
        refine (made_nil _).mono ?_
        rintro e w2 ⟨rfl, rfl⟩
        go_wp2_with fail
        refine (bytes_nil _).mono ?_
        rintro e w2 ⟨rfl, rfl⟩
        go_wp2_with fail
        refine (known3_any _).mono ?_
        rintro e w2 ⟨rfl, hb2⟩
        go_wp2_with fail
        go_ret
        refine ⟨rfl, ?_⟩
        rw [HG.out]
        exact ((HW.out.2.alloc hgw _).trans (hb2.mono (by simp; omega)))
end Go.Proofs.Ytijepbmoaenlpaa
