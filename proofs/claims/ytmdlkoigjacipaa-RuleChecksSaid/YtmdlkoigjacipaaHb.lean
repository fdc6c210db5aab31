import Derived.Test.YtmdlkoigjacipaaHa
namespace Go.Proofs.Ytmdlkoigjacipaa
set_option linter.unusedVariables false
set_option linter.unusedSimpArgs false
open Go.RowKit

set_option maxHeartbeats 1600000 in
theorem hcheck_any (A : Option Addr) (cap : Nat) (L : List Hd) (w : World) (hR : HReads w (· < w.heap.size) A L) (hl : L.length ≤ 1000000) (hs : ∀ h ∈ L, h.1.length ≤ 140737488351232 ∧ h.2.length ≤ 140737488351232) :
    Calls Try.prog 77 #[.slice A L.length cap] w fun e w' => e = .returned (.int .i64 (checkS L)) ∧ Below w.heap.size w w' := by
  have HR := hid hR
  have HS := hid hs
  clear hR hs
  by_cases h16 : 16 < L.length
  · have HC := hid (show checkS L = 8 by rw [checkS, if_pos h16])
    go_enter Try.func77, Try.ntmps77
    go_wp2_with fail
    go_ret
    exact ⟨by rw [HC.out]; rfl, Below.refl _ _⟩
  · have HC := hid (show checkS L = faultS (L.drop 0) by rw [checkS, if_neg h16]; rfl)
    have hnot := notB'
    go_enter Try.func77, Try.ntmps77
    go_wp2_with fail
    go_loopw [10] (fun i wr => ∃ k : Nat, k ≤ L.length ∧ i = .int .i64 k ∧ Hid (faultS (L.drop 0) = faultS (L.drop k) ∧ Below w.heap.size w wr)) (fun i _ => L.length - (intOf i).toNat)
    case atStart => exact ⟨0, by omega, rfl, hid ⟨rfl, Below.refl _ _⟩⟩
    case round =>
      obtain ⟨k, hk, rfl, HW⟩ := hrel
      by_cases hlt : k < L.length
      · obtain ⟨b, o, rfl, hB, hc0, hc1⟩ := (HR.out.below HW.out.2) k hlt
        have HF := hid (faultS_drop L k hlt)
        obtain ⟨hs0, hs1⟩ := HS.out _ (List.getElem_mem hlt)
        generalize L[k] = h at *
        obtain ⟨h0, h1⟩ := h
        have hsz : w.heap.size ≤ wr.heap.size := HW.out.2.size
        have HA := hid (HW.out.2.alloc hsz (.cells #[Value.string (bs h0), Value.string (bs h1)] 53))
        cases hn : nameB h0
        · have HN := hid hn
          clear hn
          go_wp2_with fail
          refine (hname_any _ _ hs0).mono ?_
          rintro e w1 ⟨rfl, rfl⟩
          rw [HN.out]
          go_wp2_with fail
          go_ret
          exact ⟨by rw [HC.out, HW.out.1, HF.out, if_pos HN.out]; rfl, HA.out⟩
        · have HN := hid hn
          clear hn
          cases hv : valueB h1
          all_goals
            have HV := hid hv
            clear hv
            go_wp2_with fail
            refine (hname_any _ _ hs0).mono ?_
            rintro e w1 ⟨rfl, rfl⟩
            rw [HN.out]
            go_wp2_with fail
            refine (hvalue_any _ _ hs1).mono ?_
            rintro e w1 ⟨rfl, rfl⟩
            rw [HV.out]
            go_wp2_with fail
          · go_ret
            exact ⟨by rw [HC.out, HW.out.1, HF.out, if_neg (by simp [HN.out]), if_pos HV.out]; rfl, HA.out⟩
          · go_roundw
            case rel => exact ⟨k + 1, by omega, by go_num, hid ⟨by rw [HW.out.1, HF.out, if_neg (by simp [HN.out]), if_neg (by simp [HV.out])], HA.out⟩⟩
            case measure => simp [intOf]; omega
      · obtain rfl : k = L.length := by omega
        go_wp2_with fail
        go_ret
        exact ⟨by rw [HC.out, HW.out.1, List.drop_length]; rfl, HW.out.2⟩
end Go.Proofs.Ytmdlkoigjacipaa
