import Derived.Test.YtgpioafkahoahaaSf
import Derived.Test.YtgpioafkahoahaaSg
import Derived.Test.YtgpioafkahoahaaOr
namespace Go.Proofs.Ytgpioafkahoahaa
set_option linter.unusedVariables false
set_option linter.unusedSimpArgs false
open Go.RowKit Go.Joins

def fxS (l : List UInt8) : Nat → Int → List Nat × Int
  | 0, _ => ([], 0)
  | k + 1, a => if (getS l a 8).2 ≠ 0 then ([], (getS l a 8).2) else if (fxS l k (a + 8)).2 ≠ 0 then ([], (fxS l k (a + 8)).2) else ((getS l a 8).1 :: (fxS l k (a + 8)).1, 0)
def cmf (acc : List Nat) (r : List Nat × Int) : List Nat × Int := if r.2 ≠ 0 then ([], r.2) else (acc ++ r.1, 0)
theorem cmf_nil (l : List UInt8) (k : Nat) (a : Int) : cmf [] (fxS l k a) = fxS l k a := by
  cases k with
  | zero => rfl
  | succ k =>
    by_cases h : (getS l a 8).2 = 0
    · by_cases h2 : (fxS l k (a + 8)).2 = 0
      · simp [cmf, fxS, h, h2]
      · simp [cmf, fxS, h, h2]
    · simp [cmf, fxS, h]
theorem fxS_err {l : List UInt8} {k : Nat} {a : Int} {n : Nat} {e : Int} (h : getS l a 8 = (n, e)) (he : e ≠ 0) : fxS l (k + 1) a = ([], e) := by rw [fxS, h, if_pos he]
theorem cmf_step {l : List UInt8} {k : Nat} {a : Int} {n : Nat} (acc : List Nat) (h : getS l a 8 = (n, 0)) : cmf acc (fxS l (k + 1) a) = cmf (acc ++ [n]) (fxS l k (a + 8)) := by
  rw [fxS, h]
  simp only [ne_eq, not_true_eq_false, if_false]
  unfold cmf
  by_cases h2 : (fxS l k (a + 8)).2 = 0
  · simp [h2]
  · simp [h2]
theorem srget_at (l : List UInt8) (a wd : Int) (w : World) (hs : l.length ≤ 140737488351232) (ha : a ≤ 9223372036854775807) {n : Nat} {e : Int} (H : Hid (getS l a wd = (n, e))) :
    Calls Try.prog 72 #[.string (bs l), .int .i64 a, .int .i64 wd] w fun r w' => r = .returned (.tuple #[.int .u64 n, .int .i64 e]) ∧ w = w' :=
  (rget_any (bs l) a wd w (by rw [bs_size]; unfold maxLen; omega) ha).mono fun r w' ⟨h1, h2⟩ => ⟨by rw [bs_data, H.out] at h1; exact h1, h2⟩
set_option maxHeartbeats 1600000 in
theorem fixed_any (l : List UInt8) (a : Nat) (w : World) (hs : l.length ≤ 140737488351232) (ha : a ≤ l.length) {L : List Nat} {e : Int} (H : Hid (fxS l 4 a = (L, e))) :
    Calls Try.prog 46 #[.string (bs l), .int .i64 a] w fun r w' => (∃ v, r = .returned (.tuple #[v, .int .i64 e]) ∧ NU w' w.heap.size v L) ∧ Below w.heap.size w w' := by
  go_enter Try.func46, Try.ntmps46
  go_wp2_with fail
  go_loopw [6, 7] (fun f i wr => ∃ (k : Nat) (acc : List Nat), k ≤ 4 ∧ Hid (acc.length = k ∧ cmf acc (fxS l (4 - k) ((a + 8 * k : Nat) : Int)) = (L, e) ∧ NU wr w.heap.size f acc ∧ Below w.heap.size w wr) ∧ i = .int .i64 k) (fun _ i _ => 4 - (intOf i).toNat)
  case atStart => exact ⟨0, [], by omega, hid ⟨rfl, by rw [cmf_nil]; exact H.out, NU.nil _ _, Below.refl _ _⟩, rfl⟩
  case round =>
    obtain ⟨k, acc, hk, HW, rfl⟩ := hrel
    by_cases hlt : k < 4
    · obtain ⟨n, er, hn⟩ : ∃ n er, getS l ((a + 8 * k : Nat) : Int) 8 = (n, er) := ⟨_, _, rfl⟩
      have HN := hid hn
      have hki : decide ((k : Int) < 4) = true := by simp; omega
      have h8 : IntKind.i64.wrap (8 * (k : Int)) = 8 * (k : Int) := IntWalk.i64_in _ (by omega)
      have hw8 : IntKind.i64.wrap ((a : Int) + 8 * (k : Int)) = ((a + 8 * k : Nat) : Int) := by rw [IntWalk.i64_in _ (by omega)]; omega
      have hra := fun w' => srget_at l ((a + 8 * k : Nat) : Int) 8 w' hs (by omega) HN
      have e8 : ((a + 8 * k : Nat) : Int) = (a : Int) + 8 * (k : Int) := by omega
      rw [e8] at hra
      by_cases he : er = 0
      · subst he
        have HS := hid (cmf_step (k := 4 - (k + 1)) acc hn)
        clear hn
        have hsz : ∀ o, Below w.heap.size w (wr.alloc o) := fun o => HW.out.2.2.2.alloc HW.out.2.2.2.size _
        have HZ := hid hsz
        clear hsz
        go_wp2_with fail
        refine (hra _).mono ?_
        rintro r w1 ⟨rfl, rfl⟩
        go_wp2_with (at_builtin; refine wpList_append_NU rfl _ _ rfl w.heap.size _ acc n wr.heap.size rfl (HW.out.2.2.1.below (sbelow_new _ _)) rfl (by simp) (by have := HW.out.1; omega) (HZ.out _) (Nat.le_refl _) ?_)
        intro v' w2 hown hb2
        have H2 := hid (And.intro hown hb2)
        clear hown hb2
        go_wp2_with fail
        go_roundw
        case rel =>
          refine ⟨k + 1, acc ++ [n], by omega, hid ⟨by rw [List.length_append, HW.out.1]; rfl, ?_, H2.out.1, H2.out.2⟩, by go_num⟩
          have h0 := HW.out.2.1
          rw [show 4 - k = 4 - (k + 1) + 1 by omega, HS.out] at h0
          rw [show ((a + 8 * (k + 1) : Nat) : Int) = ((a + 8 * k : Nat) : Int) + 8 by omega]
          exact h0
        case measure => simp [intOf]; omega
      · have HS := hid (fxS_err (k := 4 - (k + 1)) hn he)
        have hb : (er != 0) = true := by simpa using he
        have H0 := HW.out.2.1
        rw [show 4 - k = 4 - (k + 1) + 1 by omega, HS.out, cmf, if_pos he] at H0
        simp only [Prod.mk.injEq] at H0
        obtain ⟨rfl, rfl⟩ := H0
        clear hn he
        go_wp2_with fail
        refine (hra _).mono ?_
        rintro r w1 ⟨rfl, rfl⟩
        go_wp2_with fail
        go_returns
        exact ⟨⟨_, rfl, NU.nil _ _⟩, HW.out.2.2.2⟩
    · obtain rfl : k = 4 := by omega
      have H0 := HW.out.2.1
      rw [Nat.sub_self, fxS, cmf, if_neg (by simp)] at H0
      simp only [Prod.mk.injEq, List.append_nil] at H0
      obtain ⟨rfl, rfl⟩ := H0
      go_wp2_with fail
      go_returns
      exact ⟨⟨_, rfl, HW.out.2.2.1⟩, HW.out.2.2.2⟩
/-- The reader's parts, as the definition reads them. -/
theorem oct_get {l : List UInt8} {a b e : Int} {n : Nat} (h : octP l 8 a 0 = (n, b, e)) : getS l a 8 = (n, e) ∧ (e = 0 → b = a + 8) := by
  rw [octP, if_neg (by simp)] at h
  split at h
  · rename_i h0
    simp only [Prod.mk.injEq] at h
    obtain ⟨h1, h2, h3⟩ := h
    exact ⟨Prod.ext h1 (by rw [h0, ← h3]), fun _ => h2.symm⟩
  · rename_i h0
    simp only [Prod.mk.injEq] at h
    obtain ⟨h1, h2, h3⟩ := h
    exact ⟨Prod.ext h1 h3, fun he => absurd (h3.trans he) h0⟩
theorem num_numM {l : List UInt8} {a b e : Int} {n : Nat} (h : numP l a 0 = (n, b, e)) : (e = 0 → numM l a 1099511627776 = (n, b, 0)) ∧ (e ≠ 0 → numM l a 1099511627776 = (0, 0, e)) := by
  rw [numP, if_neg (by simp)] at h
  rw [numM]
  split at h
  · rename_i h0
    simp only [Prod.mk.injEq] at h
    obtain ⟨h1, h2, h3⟩ := h
    exact ⟨fun he => absurd (h3.trans he) h0, fun _ => by rw [if_pos h0, h3]⟩
  · rename_i h0
    split at h
    · rename_i h4
      simp only [Prod.mk.injEq] at h
      obtain ⟨h1, h2, h3⟩ := h
      exact ⟨fun he => absurd (h3.trans he) (by omega), fun _ => by rw [if_neg h0, if_pos h4, h3]⟩
    · rename_i h4
      simp only [Prod.mk.injEq] at h
      obtain ⟨h1, h2, h3⟩ := h
      exact ⟨fun _ => by rw [if_neg h0, if_neg h4, h1, h2], fun he => absurd h3.symm he⟩
end Go.Proofs.Ytgpioafkahoahaa
