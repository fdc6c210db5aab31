/- Texts put together: Yv. -/
import Derived.Test.YtpfhmpblcmednaaD17
import Derived.Test.YtpfhmpblcmednaaD18
import Derived.BigQuiet
namespace Go.Proofs.Ytpfhmpblcmednaa
set_option linter.unusedVariables false
set_option linter.unusedSimpArgs false
open Go.RowKit Go.Joins

def encWi (n : Int) : List Value := [.int .i64 n]
theorem encWi_len (n : Int) : (encWi n).length = 1 := rfl
theorem rowWi : RowT Try.prog encWi 1 32 3 (.int .i64 0) 8 where
  ht := Try.underlying32
  inf := by kernel_rfl
  hzs := rfl
  k0 := by decide
  hk := encWi_len
  h1 := fun x u hu => by
    simp [encWi] at hu
    subst hu; rfl
  hb := by decide
theorem GX.wi {w : World} {N : Nat → Prop} {A : Option Addr} {L : List Int} (h : GX encWi 1 w N A L) (j : Nat) (hj : j < L.length) : ∃ b o, A = some ⟨b, o, none⟩ ∧ N b ∧ w.cell? ⟨b, o + j, none⟩ = some (.int .i64 L[j]) := by
  obtain ⟨b, o, e, h1, h2⟩ := h j hj
  refine ⟨b, o, e, h1, ?_⟩
  have := h2 0 (by omega)
  rw [show j * 1 + 0 = j by omega] at this
  rw [this]; rfl
set_option maxRecDepth 100000 in
set_option maxHeartbeats 4000000 in
/-- Ints of lists that are alike. -/
theorem ints_same (A B : Option Addr) (ca cb : Nat) (L : List Int) {n : Nat} (hn : L.length = n) (w : World) (hA : GX encWi 1 w (· < w.heap.size) A L) (hB : GX encWi 1 w (· < w.heap.size) B L) (hl : n ≤ 1000000) :
    Calls Try.prog 69 #[.slice A n ca, .slice B n cb] w fun e w' => e = .returned (.bool true) ∧ Below w.heap.size w w' := by
  have HA := hid hA
  have HBr := hid hB
  have HN := hid hn
  clear hA hB hn
  go_enter Try.func69, Try.ntmps69
  go_wp2_with fail
  go_loopw [5] (fun i wr => ∃ k : Nat, k ≤ n ∧ i = .int .i64 k ∧ Hid (Below w.heap.size w wr)) (fun i _ => n - (intOf i).toNat)
  case atStart => exact ⟨0, by omega, rfl, hid (Below.refl _ _)⟩
  case round =>
    obtain ⟨k, hk, rfl, HK⟩ := hrel
    by_cases hlt : k < n
    · have hkL : k < L.length := by have := HN.out; omega
      obtain ⟨b, o, rfl, hB1, hc0⟩ := (HA.out.up HK.out).wi k hkL
      obtain ⟨b2, o2, rfl, hB2, hd0⟩ := (HBr.out.up HK.out).wi k hkL
      generalize L[k] = x at *
      have hi0 : (0 : Int) ≤ (k : Int) := by omega
      have hi1 : (k : Int) < (n : Int) := by omega
      go_wp2_with fail
      go_quiet (fail)
      go_wp2_with fail
      go_roundw
      case rel => exact ⟨k + 1, by omega, by go_num, hid (below_drewN HK.out _)⟩
      case measure => simp [intOf]; omega
    · obtain rfl : k = n := by omega
      go_wp2_with fail
      go_ret
      exact ⟨rfl, HK.out⟩
set_option maxRecDepth 100000 in
set_option maxHeartbeats 4000000 in
theorem oin_any (A : Option Addr) (c n : Nat) (L : List Int) (s : Int) (w : World) (hA : GX encWi 1 w (· < w.heap.size) A L) (hn : Hid (L.length = n)) (hl : n ≤ 1000000) {z : Bool} (H : Hid (decide (s ∈ L) = z)) :
    Calls Try.prog 28 #[.slice A n c, .int .i64 s] w fun e w' => e = .returned (.bool z) ∧ Below w.heap.size w w' := by
  have HA := hid hA
  clear hA
  go_enter Try.func28, Try.ntmps28
  go_wp2_with fail
  go_loopw [5] (fun i wr => ∃ k : Nat, k ≤ n ∧ i = .int .i64 k ∧ Hid (Below w.heap.size w wr ∧ s ∉ L.take k)) (fun i _ => n - (intOf i).toNat)
  case atStart => exact ⟨0, by omega, rfl, hid ⟨Below.refl _ _, by simp⟩⟩
  case round =>
    obtain ⟨k, hk, rfl, HK⟩ := hrel
    by_cases hlt : k < n
    · have hkL : k < L.length := by have := hn.out; omega
      obtain ⟨b, o, rfl, hB1, hc0⟩ := (HA.out.up HK.out.1).wi k hkL
      have hi0 : (0 : Int) ≤ (k : Int) := by omega
      have hi1 : (k : Int) < (n : Int) := by omega
      obtain ⟨x, hx⟩ : ∃ x, L[k] = x := ⟨_, rfl⟩
      have HX := hid hx
      rw [hx] at hc0
      clear hx
      by_cases hxs : x = s
      · have hd : (x == s) = true := by simpa using hxs
        have HZ := hid (show z = true by rw [← H.out]; exact decide_eq_true (by rw [← hxs, ← HX.out]; exact List.getElem_mem hkL))
        clear hxs
        go_wp2_with fail
        go_returns
        exact ⟨by rw [HZ.out]; rfl, HK.out.1⟩
      · have hd : (x == s) = false := by simpa using hxs
        have HN : Hid (s ∉ L.take (k + 1)) := hid (by
          rw [List.take_succ_eq_append_getElem hkL, List.mem_append, List.mem_singleton, HX.out]
          exact fun h => h.elim HK.out.2 fun e => hxs e.symm)
        clear hxs
        go_wp2_with fail
        go_roundw
        case rel => exact ⟨k + 1, by omega, by go_num, hid ⟨HK.out.1, HN.out⟩⟩
        case measure => simp [intOf]; omega
    · obtain rfl : k = n := by omega
      have HZ := hid (show z = false by rw [← H.out]; exact decide_eq_false (by have := HK.out.2; rwa [List.take_of_length_le (Nat.le_of_eq hn.out)] at this))
      go_wp2_with fail
      go_returns
      exact ⟨by rw [HZ.out]; rfl, HK.out.1⟩
/-- What slices.Index answers, as far as it is asked. -/
def IxR (w : World) (L : List Int) (s : Int) (e : Ending) (w' : World) : Prop := ∃ z : Int, e = .returned (.int .i64 z) ∧ decide (0 ≤ z) = decide (s ∈ L) ∧ Below w.heap.size w w'
set_option maxRecDepth 100000 in
set_option maxHeartbeats 4000000 in
theorem iindex_any (A : Option Addr) (c n : Nat) (L : List Int) (s : Int) (w : World) (hA : GX encWi 1 w (· < w.heap.size) A L) (hn : Hid (L.length = n)) (hl : n ≤ 1000000) :
    Calls Try.prog 108 #[.slice A n c, .int .i64 s] w fun e w' => IxR w L s e w' := by
  have HA := hid hA
  clear hA
  go_enter Try.func108, Try.ntmps108
  go_wp2_with fail
  go_loopg [8] n (fun g1 vi wr => ∃ k : Nat, vi = .int .i64 k ∧ k ≤ n ∧ n - k ≤ g1 ∧ Hid (Below w.heap.size w wr ∧ s ∉ L.take k))
  case atStart => exact ⟨0, rfl, by omega, by omega, hid ⟨Below.refl _ _, by simp⟩⟩
  case round =>
    obtain ⟨k, rfl, hk, hgk, HK⟩ := hrel
    by_cases hlt : k < n
    · have hkL : k < L.length := by have := hn.out; omega
      obtain ⟨b, o, rfl, hB1, hc0⟩ := (HA.out.up HK.out.1).wi k hkL
      have hi0 : (0 : Int) ≤ (k : Int) := by omega
      have hi1 : (k : Int) < (n : Int) := by omega
      have hltd : decide ((k : Int) < (n : Int)) = true := decide_eq_true hi1
      obtain ⟨x, hx⟩ : ∃ x, L[k] = x := ⟨_, rfl⟩
      have HX := hid hx
      rw [hx] at hc0
      clear hx
      by_cases hxs : x = s
      · have hd : (s == x) = true := by simpa using hxs.symm
        have HZ := hid (show decide (s ∈ L) = true from decide_eq_true (by rw [← hxs, ← HX.out]; exact List.getElem_mem hkL))
        clear hxs
        go_wp2_with fail
        go_returns
        exact ⟨(k : Int), rfl, by rw [HZ.out]; exact decide_eq_true hi0, HK.out.1⟩
      · have hd : (s == x) = false := by simpa using fun h : s = x => hxs h.symm
        have HN : Hid (s ∉ L.take (k + 1)) := hid (by
          rw [List.take_succ_eq_append_getElem hkL, List.mem_append, List.mem_singleton, HX.out]
          exact fun h => h.elim HK.out.2 fun e => hxs e.symm)
        clear hxs
        go_wp2_with fail
        go_roundg (n - (k + 1))
        case measure => omega
        case rel => exact ⟨k + 1, by go_num, by omega, by omega, hid ⟨HK.out.1, HN.out⟩⟩
    · obtain rfl : k = n := by omega
      have hltd : decide ((k : Int) < (k : Int)) = false := by simp
      have HZ := hid (show decide (s ∈ L) = false from decide_eq_false (by have := HK.out.2; rwa [List.take_of_length_le (Nat.le_of_eq hn.out)] at this))
      go_wp2_with fail
      go_returns
      exact ⟨-1, rfl, by rw [HZ.out]; rfl, HK.out.1⟩
set_option maxRecDepth 100000 in
set_option maxHeartbeats 4000000 in
theorem icontains_any (A : Option Addr) (c n : Nat) (L : List Int) (s : Int) (w : World) (hA : GX encWi 1 w (· < w.heap.size) A L) (hn : Hid (L.length = n)) (hl : n ≤ 1000000) {z : Bool} (H : Hid (decide (s ∈ L) = z)) :
    Calls Try.prog 70 #[.slice A n c, .int .i64 s] w fun e w' => e = .returned (.bool z) ∧ Below w.heap.size w w' := by
  have HI := hid (iindex_any A c n L s w hA hn hl)
  clear hA
  go_enter Try.func70, Try.ntmps70
  go_wp2_with fail
  refine HI.out.mono ?_
  rintro e w1 ⟨i, rfl, hi, hb⟩
  have hi' : decide (0 ≤ i) = z := hi.trans H.out
  have HBl := hid hb
  clear hb hi HI
  go_wp2_with fail
  go_returns
  exact ⟨rfl, HBl.out⟩
theorem ieqnil (t e : TypeId) (ht : Try.prog.underlying t = some (.slice e)) (a : Option Addr) (n c : Nat) (w : World) : (binOp .eql t (.slice a n c) (.slice none 0 0)).run Try.prog w = .ok (.bool a.isNone) w := by
  simp only [binOp]
  simp [run_equal_slice_nil w t e a n c ht]
set_option maxRecDepth 100000 in
set_option maxHeartbeats 4000000 in
theorem clonei_any (A : Option Addr) (n c : Nat) (L : List Int) (w : World) (h1 : GX encWi 1 w (· < w.heap.size) A L) (hn : Hid (L.length = n)) (hl : n ≤ 1000000) :
    Calls Try.prog 102 #[.slice A n c] w fun e w' => ∃ v, e = .returned v ∧ GB encWi 1 3 w' w.heap.size v L ∧ Below w.heap.size w w' := by
  have heq := ieqnil 32 3 Try.underlying32
  rcases A with _ | ad
  · have hL0 : L = [] := by
      rcases L with _ | ⟨p, r⟩
      · rfl
      · obtain ⟨b, o, e, _⟩ := h1 0 (by simp)
        cases e
    subst hL0
    have hn0 := hn.out
    clear hn
    go_enter Try.func102, Try.ntmps102
    go_wp2_with fail
    go_returns
    exact ⟨_, rfl, GB.nil _ _, Below.refl _ _⟩
  · have hb0 := enew w (.cells #[] 3)
    have hown0 : GB encWi 1 3 (w.alloc (.cells #[] 3)) w.heap.size (.slice (some ⟨w.heap.size, 0, none⟩) 0 0) [] := by
      have := World.ownsRow_lit (e := 3) (size := 1) w #[] 0 (Nat.le_refl _) (by unfold maxLen; omega) (by simp)
      simpa [GB, gvals] using this
    have H0 := hid (And.intro hb0 (And.intro hown0 (h1.up hb0)))
    clear hb0 hown0 h1
    go_enter Try.func102, Try.ntmps102
    go_wp2_with (at_builtin; refine wpList_append_gx (W0 := w) rowWi rfl _ _ rfl w.heap.size (.slice (some ⟨w.heap.size, 0, none⟩) 0 0) [] L (some ad) c _ rfl H0.out.2.1 (by rw [hn.out]; rfl) H0.out.2.2 (fun h => by cases h) (by have := hn.out; simp; omega) H0.out.1 (Nat.le_refl _) ?_)
    intro v1 w1 hown1 hbel1 _
    have H1 := hid (And.intro hown1 hbel1)
    clear hown1 hbel1
    go_wp2_with fail
    go_returns
    exact ⟨_, rfl, H1.out.1, H1.out.2⟩
end Go.Proofs.Ytpfhmpblcmednaa
