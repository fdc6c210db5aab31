/- ring: Put, Len, Lost. -/
import Derived.Test.YtldilhbomilcpaaJd
namespace Go.Proofs.Ytldilhbomilcpaa
set_option linter.unusedVariables false
set_option linter.unusedSimpArgs false
open Go.RowKit Go.Joins

theorem rgPut_lost1 (c : Nat) (x : Rgs) (s : List UInt8) : (rgPut c x s).2 ≤ x.2 + 1 := by
  unfold rgPut
  split
  · simp only; omega
  · simp only; omega
theorem rgAll_lost1 (c : Nat) : ∀ (l : List (List UInt8)) (x : Rgs), (rgAll c x l).2 ≤ x.2 + l.length
  | [], x => Nat.le_refl _
  | s :: l, x => by
    have h1 := rgAll_lost1 c l (rgPut c x s)
    have h2 := rgPut_lost1 c x s
    show (rgAll c (rgPut c x s) l).2 ≤ _
    rw [List.length_cons]
    omega
theorem stx_onS {S M : Nat → Prop} {w w' : World} {A : Option Addr} {L : List (List UInt8)} (h : STexts w (In M w) A L) (ho : OnS S w w') (hg : ∀ b, M b → ¬ S b) : STexts w' (In M w') A L :=
  (h.same fun b hB => ho.block b hB.1 (hg b hB.2)).imp fun b hB => ⟨Nat.lt_of_lt_of_le hB.1 ho.size, hB.2⟩
set_option maxRecDepth 100000 in
set_option maxHeartbeats 4000000 in
theorem rgPuts_any (M : Nat → Prop) (g p c : Nat) (x : Rgs) (A : Option Addr) (cap : Nat) (L : List (List UInt8)) (w : World) (h : RgH w g p c x) (hA : STexts w (In M w) A L) (hM : ∀ b, M b → ¬ (b = g ∨ b = p)) (hn : x.2 + L.length ≤ 1099511627776) (hl : L.length ≤ 1000000) :
    Calls Try.prog 12 #[.pointer (some ⟨g, 0, none⟩), .slice A L.length cap] w fun e w' => RgR w g p c (rgAll c x L) e w' := by
  have HA := hid hA
  have HM := hid hM
  have HR := hid h
  have HN := hid hn
  have HL := hid hl
  obtain ⟨n, hnl⟩ : ∃ n, L.length = n := ⟨_, rfl⟩
  have HNL := hid hnl
  clear hA hM h hn hl
  rw [hnl]
  clear hnl
  go_enter Try.func12, Try.ntmps12
  go_wp2_with fail
  go_loopg [10] n (fun g1 vi wr => ∃ k : Nat, vi = .int .i64 k ∧ k ≤ n ∧ n - k ≤ g1 ∧ Hid (RgH wr g p c (rgAll c x (L.take k)) ∧ OnS (fun b => b = g ∨ b = p) w wr))
  case atStart => exact ⟨0, rfl, by omega, by omega, hid ⟨HR.out, OnS.refl _ _⟩⟩
  case round =>
    obtain ⟨k, rfl, hkn, hgk, HK⟩ := hrel
    by_cases hlt : k < n
    · have hkL : k < L.length := by have := HNL.out; omega
      obtain ⟨ad, rfl, hB, hc0⟩ := (stx_onS HA.out HK.out.2 HM.out) k hkL
      have HS := hid (rgAll_take c x L k hkL)
      have hltz : (k : Int) < (n : Int) := by omega
      have hltd : decide ((k : Int) < (n : Int)) = true := decide_eq_true hltz
      have hi0 : (0 : Int) ≤ (k : Int) := by omega
      have HP := hid (rgput_any g p c (rgAll c x (L.take k)) L[k] wr HK.out.1 (by have h1 := rgAll_lost1 c (L.take k) x; rw [List.length_take] at h1; have := HN.out; omega))
      have hn6 : n ≤ 1000000 := by have := HNL.out; have := HL.out; omega
      generalize L[k] = s at *
      go_wp2_with fail
      refine HP.out.mono ?_
      rintro e w2 ⟨rfl, hR2, hO2⟩
      have H2 : Hid (RgH w2 g p c (rgAll c x (L.take (k + 1))) ∧ OnS (fun b => b = g ∨ b = p) w w2) := hid ⟨by rw [HS.out]; exact hR2, HK.out.2.trans hO2⟩
      clear hR2 hO2 hc0
      go_wp2_with fail
      go_roundg (n - (k + 1))
      case measure => omega
      case rel => exact ⟨k + 1, by go_num, by omega, by omega, H2⟩
    · obtain rfl : k = n := by omega
      have hltz : ¬ (k : Int) < (k : Int) := by omega
      have HE := hid (show L.take k = L by rw [← HNL.out]; exact List.take_length)
      go_wp2_with fail
      go_returns
      have h1 := HK.out
      rw [HE.out] at h1
      exact ⟨rfl, h1⟩
set_option maxRecDepth 100000 in
set_option maxHeartbeats 4000000 in
theorem rgLen_any (g p c : Nat) (x : Rgs) (w : World) (h : RgH w g p c x) {k : Nat} (H : Hid (x.1.length = k)) :
    Calls Try.prog 16 #[.pointer (some ⟨g, 0, none⟩)] w fun e w' => e = .returned (.int .i64 (k : Int)) ∧ Below w.heap.size w w' := by
  have h2 := h.cell2
  rw [H.out] at h2
  clear h
  go_enter Try.func16, Try.ntmps16
  go_wp2_with fail
  go_returns
  exact ⟨rfl, Below.refl _ _⟩
set_option maxRecDepth 100000 in
set_option maxHeartbeats 4000000 in
theorem rgLost_any (g p c : Nat) (x : Rgs) (w : World) (h : RgH w g p c x) (hx : x.2 ≤ 1099511627776) {k : Nat} (H : Hid (x.2 = k)) :
    Calls Try.prog 17 #[.pointer (some ⟨g, 0, none⟩)] w fun e w' => e = .returned (.int .i64 (k : Int)) ∧ Below w.heap.size w w' := by
  have h2 := h.cell3
  rw [H.out] at h2 hx
  have H2 := hid (ncount_any ⟨g, 3, none⟩ k w h2 (by omega) (by omega))
  clear h h2
  go_enter Try.func17, Try.ntmps17
  go_wp2_with fail
  refine H2.out.mono ?_
  rintro e w' ⟨rfl, rfl⟩
  go_wp2_with fail
  go_returns
  exact ⟨rfl, Below.refl _ _⟩
set_option maxRecDepth 100000 in
theorem rgPuts_nil (y : Value) (w : World) : Calls Try.prog 12 #[.pointer none, y] w fun e w' => e = .returned (.tuple #[]) ∧ Below w.heap.size w w' := by
  go_enter Try.func12, Try.ntmps12
  go_wp2_with fail
  go_returns
  exact ⟨rfl, Below.refl _ _⟩
set_option maxRecDepth 100000 in
theorem rgLen_nil (w : World) : Calls Try.prog 16 #[.pointer none] w fun e w' => e = .returned (.int .i64 0) ∧ Below w.heap.size w w' := by
  go_enter Try.func16, Try.ntmps16
  go_wp2_with fail
  go_returns
  exact ⟨rfl, Below.refl _ _⟩
set_option maxRecDepth 100000 in
theorem rgLost_nil (w : World) : Calls Try.prog 17 #[.pointer none] w fun e w' => e = .returned (.int .i64 0) ∧ Below w.heap.size w w' := by
  go_enter Try.func17, Try.ntmps17
  go_wp2_with fail
  go_returns
  exact ⟨rfl, Below.refl _ _⟩
set_option maxRecDepth 100000 in
set_option maxHeartbeats 4000000 in
theorem rgAll_nil (w : World) : Calls Try.prog 15 #[.pointer none] w fun e w' => e = .returned (.slice none 0 0) ∧ Below w.heap.size w w' := by
  have H := hid (rgLen_nil w)
  go_enter Try.func15, Try.ntmps15
  go_wp2_with fail
  refine H.out.mono ?_
  rintro e w1 ⟨rfl, hb⟩
  have HBl := hid hb
  clear hb
  go_wp2_with fail
  go_loopg [3, 7] 1 (fun g1 v vi wr => v = .slice none 0 0 ∧ vi = .int .i64 0 ∧ wr = w1)
  case atStart => exact ⟨rfl, rfl, rfl⟩
  case round =>
    obtain ⟨rfl, rfl, rfl⟩ := hrel
    go_wp2_with fail
    go_returns
    exact ⟨rfl, HBl.out⟩
end Go.Proofs.Ytldilhbomilcpaa
