import Derived.Test.YtddmmpjamnjilaaDoorOr
namespace Go.Proofs.YtddmmpjamnjilaaDoor
set_option linter.unusedVariables false
open Go.RowKit

theorem hexv_cases {c : UInt8} {d : Nat} (h : hexv c = some d) : (48 ≤ c.toNat ∧ c.toNat ≤ 57 ∧ c.toNat = d + 48) ∨ (97 ≤ c.toNat ∧ c.toNat ≤ 102 ∧ c.toNat = d + 87) := by
  unfold hexv at h; split at h
  · simp at h; omega
  · split at h
    · simp at h; omega
    · simp at h
theorem hexv_none {c : UInt8} (h : hexv c = none) : ¬ (48 ≤ c.toNat ∧ c.toNat ≤ 57) ∧ ¬ (97 ≤ c.toNat ∧ c.toNat ≤ 102) := by
  unfold hexv at h; split at h
  · simp at h
  · split at h
    · simp at h
    · exact ⟨‹_›, ‹_›⟩
set_option maxHeartbeats 800000 in
theorem runhex_any (s : ByteArray) (w : World) (hs : s.size ≤ maxLen) :
    Calls Tryd.prog 37 #[.string s] w fun e w' => e = .returned (.tuple #[.int .u64 (unhexS s.data.toList).1, .int .i64 (unhexS s.data.toList).2]) ∧ w = w' := by
  obtain ⟨l, rfl⟩ : ∃ l, s = bs l := ⟨_, bs_of s⟩
  rw [bs_data]
  rw [bs_size] at hs
  unfold maxLen at hs
  by_cases h1 : l.length < 1 ∨ 16 < l.length
  · rw [unhexS_bad h1]
    go_enter Tryd.func37, Tryd.ntmps37
    go_wp2_with fail
    all_goals (go_ret2; exact ⟨rfl, rfl⟩)
  obtain ⟨h2, h3⟩ : 1 ≤ l.length ∧ l.length ≤ 16 := by omega
  have H1 := hid h1
  clear h1
  go_enter Tryd.func37, Tryd.ntmps37
  go_wp2_with fail
  go_loop [4, 5] (fun n0 i => ∃ k m : Nat, k ≤ l.length ∧ Hid (m < 16 ^ k ∧ uh m (l.drop k) = uh 0 l) ∧ i = .int .i64 k ∧ n0 = .int .u64 m) (fun _ i => l.length - (intOf i).toNat)
  case atStart => exact ⟨0, 0, Nat.zero_le _, hid ⟨by omega, by simp⟩, rfl, rfl⟩
  case round =>
    obtain ⟨k, m, hk, Hm, rfl, rfl⟩ := hrel
    by_cases hlt : k < l.length
    · have hc := UInt8.toNat_lt l[k]
      cases hd : hexv l[k] with
      | none =>
        have hn := hexv_none hd
        have Hd := hid hd
        clear hd
        go_wp2_with fail
        all_goals
          go_ret2
          rw [unhexS_none H1.out (by rw [← Hm.out.2, uh_drop _ _ _ hlt, Hd.out])]
          exact ⟨rfl, rfl⟩
      | some d =>
        have hn := hexv_cases hd
        have Hd := hid hd
        clear hd
        have h16 := hexv_lt Hd.out
        have hm16 : m < 16 ^ 15 := Nat.lt_of_lt_of_le Hm.out.1 (Nat.pow_le_pow_right (by omega) (by omega))
        rw [show 16 ^ 15 = 1152921504606846976 from rfl] at hm16
        rcases hn with ⟨n1, n2, n3⟩ | ⟨n1, n2, n3⟩
        · have N3 := hid n3
          clear n3
          go_wp2_with fail
          go_round
          case rel => exact ⟨k + 1, m * 16 + d, by omega, hid ⟨by rw [Nat.pow_succ]; have := Hm.out.1; omega, by rw [← Hm.out.2, uh_drop _ _ _ hlt, Hd.out, Nat.mul_comm]⟩, by go_num, by have := N3.out; congr 1; omega⟩
          case measure => simp [intOf]; omega
        · have N3 := hid n3
          clear n3
          go_wp2_with fail
          go_round
          case rel => exact ⟨k + 1, m * 16 + d, by omega, hid ⟨by rw [Nat.pow_succ]; have := Hm.out.1; omega, by rw [← Hm.out.2, uh_drop _ _ _ hlt, Hd.out, Nat.mul_comm]⟩, by go_num, by have := N3.out; congr 1; omega⟩
          case measure => simp [intOf]; omega
    · go_wp2
      go_ret2
      obtain rfl : k = l.length := by omega
      have hu : uh 0 l = some m := by rw [← Hm.out.2]; simp [uh]
      rw [unhexS_some H1.out hu]
      exact ⟨rfl, rfl⟩

end Go.Proofs.YtddmmpjamnjilaaDoor
