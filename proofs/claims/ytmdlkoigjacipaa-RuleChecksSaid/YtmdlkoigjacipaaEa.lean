import Derived.Test.YtmdlkoigjacipaaEv
import Derived.Deep.RegionHeld3
namespace Go.Proofs.Ytmdlkoigjacipaa
set_option linter.unusedVariables false
set_option linter.unusedSimpArgs false
open Go.RowKit Go.Joins

theorem eprefix_any (s p : List UInt8) (w : World) :
    Calls Try.prog 70 #[.string (bs s), .string (bs p)] w fun e w' => e = .returned (.bool (List.isPrefixOf p s)) ∧ w = w' :=
  (Try.strings_HasPrefix (bs s) (bs p) w).mono fun e w' ⟨a, b⟩ => ⟨by rw [bs_data, bs_data] at a; exact a, b.symm⟩
set_option maxHeartbeats 1600000 in
theorem hasMethod_any (m h p b : List UInt8) (x : Value) (k : Int) (n v : List UInt8) (w : World) :
    Calls Try.prog 51 #[.agg #[.string (bs m), .string (bs h), .string (bs p), x, .string (bs b)], .agg #[.int .i64 k, .string (bs n), .string (bs v)]] w fun e w' => e = .returned (.bool (m == v)) ∧ Below w.heap.size w w' := by
  have hb := estep (enew w (.cells #[.string (bs m), .string (bs h), .string (bs p), x, .string (bs b)] 31)) (enew _ (.cells #[.int .i64 k, .string (bs n), .string (bs v)] 23))
  go_enter Try.func51, Try.ntmps51
  go_wp2_with fail
  go_ret
  exact ⟨rfl, hb⟩
set_option maxHeartbeats 1600000 in
theorem hasHost_any (m h p b : List UInt8) (x : Value) (k : Int) (n v : List UInt8) (w : World) :
    Calls Try.prog 53 #[.agg #[.string (bs m), .string (bs h), .string (bs p), x, .string (bs b)], .agg #[.int .i64 k, .string (bs n), .string (bs v)]] w fun e w' => e = .returned (.bool (h == v)) ∧ Below w.heap.size w w' := by
  have hb := estep (enew w (.cells #[.string (bs m), .string (bs h), .string (bs p), x, .string (bs b)] 31)) (enew _ (.cells #[.int .i64 k, .string (bs n), .string (bs v)] 23))
  go_enter Try.func53, Try.ntmps53
  go_wp2_with fail
  go_ret
  exact ⟨rfl, hb⟩
set_option maxHeartbeats 1600000 in
theorem hasPath_any (m h p b : List UInt8) (x : Value) (k : Int) (n v : List UInt8) (w : World) :
    Calls Try.prog 55 #[.agg #[.string (bs m), .string (bs h), .string (bs p), x, .string (bs b)], .agg #[.int .i64 k, .string (bs n), .string (bs v)]] w fun e w' => e = .returned (.bool (p == v)) ∧ Below w.heap.size w w' := by
  have hb := estep (enew w (.cells #[.string (bs m), .string (bs h), .string (bs p), x, .string (bs b)] 31)) (enew _ (.cells #[.int .i64 k, .string (bs n), .string (bs v)] 23))
  go_enter Try.func55, Try.ntmps55
  go_wp2_with fail
  go_ret
  exact ⟨rfl, hb⟩
set_option maxHeartbeats 1600000 in
theorem hasPrefix_any (m h p b : List UInt8) (x : Value) (k : Int) (n v : List UInt8) (w : World) :
    Calls Try.prog 56 #[.agg #[.string (bs m), .string (bs h), .string (bs p), x, .string (bs b)], .agg #[.int .i64 k, .string (bs n), .string (bs v)]] w fun e w' => e = .returned (.bool (List.isPrefixOf v p)) ∧ Below w.heap.size w w' := by
  have hb := estep (enew w (.cells #[.string (bs m), .string (bs h), .string (bs p), x, .string (bs b)] 31)) (enew _ (.cells #[.int .i64 k, .string (bs n), .string (bs v)] 23))
  go_enter Try.func56, Try.ntmps56
  go_wp2_with fail
  refine (eprefix_any p v _).mono ?_
  rintro e w1 ⟨rfl, rfl⟩
  go_wp2_with fail
  go_ret
  exact ⟨rfl, hb⟩
/-- Where a header stands. -/
def idxV (L : List Hd) (n v : List UInt8) : Int := if L.findIdx ((n, v) == ·) < L.length then (L.findIdx ((n, v) == ·) : Int) else -1
theorem idxV_ge (L : List Hd) (n v : List UInt8) : decide (0 ≤ idxV L n v) = memH L n v := by
  unfold memH
  rw [Bool.eq_iff_iff, decide_eq_true_eq, List.contains_iff_mem, idxV]
  constructor
  · intro h
    by_cases h1 : L.findIdx ((n, v) == ·) < L.length
    · have := List.findIdx_getElem (w := h1)
      have e : (n, v) = L[L.findIdx ((n, v) == ·)] := by simpa using this
      rw [e]; exact List.getElem_mem _
    · rw [if_neg h1] at h; omega
  · intro h
    have : L.findIdx ((n, v) == ·) < L.length := List.findIdx_lt_length_of_exists ⟨(n, v), h, by simp⟩
    rw [if_pos this]; omega
theorem sameHd_beq (x y : Hd) : sameHd x y = (x == y) := by
  unfold sameHd
  rw [Bool.eq_iff_iff]; simp
set_option maxRecDepth 100000 in
set_option maxHeartbeats 2000000 in
theorem indexHd_any (A : Option Addr) (cap : Nat) (L : List Hd) (n v : List UInt8) (w : World) (hR : HReads w (· < w.heap.size) A L) (hl : L.length ≤ 9223372036854775807) :
    Calls Try.prog 81 #[.slice A L.length cap, .agg #[.string (bs n), .string (bs v)]] w fun e w' => e = .returned (.int .i64 (idxV L n v)) ∧ Below w.heap.size w w' := by
  have hb0 := enew w (.cells #[.string (bs n), .string (bs v)] 53)
  have hs0 := Bk.new w 53 #[.string (bs n), .string (bs v)]
  have HR := hid (hR.later' hb0)
  clear hR
  go_enter Try.func81, Try.ntmps81
  go_upto_region 1 with (fail)
  generalize w.alloc (.cells #[.string (bs n), .string (bs v)] 53) = v0 at *
  have HB0 := hid hb0
  have HS0 := hid hs0
  clear hb0 hs0
  go_wp2_with fail
  go_loopw [8] (fun i wr => ∃ k : Nat, k ≤ L.length ∧ i = .int .i64 k ∧ Hid ((∀ j (h : j < L.length), j < k → ((n, v) == L[j]) = false) ∧ Below v0.heap.size v0 wr)) (fun i _ => L.length - (intOf i).toNat)
  case atStart => exact ⟨0, by omega, rfl, hid ⟨fun j h h' => absurd h' (by omega), Below.refl _ _⟩⟩
  case round =>
    obtain ⟨k, hk, rfl, HK⟩ := hrel
    by_cases hlt : k < L.length
    · obtain ⟨bb, o, rfl, hB, hc0, hc1⟩ := (HR.out.below HK.out.2) k hlt
      have HN := hid (show ∀ j (h : j < L.length), j = k → L[j] = L[k] from fun j h e => by subst e; rfl)
      have HI := hid (show ((n, v) == L[k]) = true → L.findIdx ((n, v) == ·) = k from fun he => findIdx_hit ((n, v) == ·) L k hlt HK.out.1 he)
      have q0 : wr.cell? ⟨w.heap.size, 0, none⟩ = some (.string (bs n)) := Bk.cell (HS0.out.up HK.out.2) 0
      have q1 : wr.cell? ⟨w.heap.size, 1, none⟩ = some (.string (bs v)) := Bk.cell (HS0.out.up HK.out.2) 1
      generalize L[k] = y at *
      obtain ⟨y0, y1⟩ := y
      have hi0 : (0 : Int) ≤ (k : Int) := by omega
      have hi1 : (k : Int) < (L.length : Int) := by omega
      have hg1 : ∀ (a b : Operand) (xs ys : Array Value) (w : World), (eqGuard .eql 53 a b (.agg xs) (.agg ys)).run Try.prog w = .ok () w := fun a b xs ys w => hd_guard .eql a b xs ys w
      have hg2 : ∀ w : World, (binOp .eql 53 (.agg #[.string (bs n), .string (bs v)]) (.agg #[.string (bs y0), .string (bs y1)])).run Try.prog w = .ok (.bool (sameHd (n, v) (y0, y1))) w := fun w => hd_eql w (n, v) (y0, y1)
      cases hs : sameHd (n, v) (y0, y1)
      · have HS := hid (show ((n, v) == ((y0, y1) : Hd)) = false by rw [← sameHd_beq]; exact hs)
        rw [hs] at hg2
        clear hs
        go_wp2_with fail
        go_quiet (fail)
        go_wp2_with fail
        go_roundw
        case rel => exact ⟨k + 1, by omega, by go_num, hid ⟨fun j h h' => by
          by_cases e : j = k
          · rw [HN.out j h e]; exact HS.out
          · exact HK.out.1 j h (by omega), below_drewN HK.out.2 _⟩⟩
        case measure => simp [intOf]; omega
      · have HS := hid (show ((n, v) == ((y0, y1) : Hd)) = true by rw [← sameHd_beq]; exact hs)
        rw [hs] at hg2
        clear hs
        go_wp2_with fail
        go_quiet (fail)
        go_wp2_with fail
        go_ret
        exact ⟨by rw [idxV, HI.out HS.out, if_pos hlt]; rfl, estep HB0.out (below_drewN HK.out.2 _)⟩
    · obtain rfl : k = L.length := by omega
      have HI := hid (findIdx_miss ((n, v) == ·) L fun j hj => HK.out.1 j hj hj)
      go_wp2_with fail
      go_ret
      exact ⟨by rw [idxV, HI.out, if_neg (by omega)]; rfl, estep HB0.out HK.out.2⟩
set_option maxHeartbeats 1600000 in
theorem containsHd_any (A : Option Addr) (cap : Nat) (L : List Hd) (n v : List UInt8) (w : World) (hR : HReads w (· < w.heap.size) A L) (hl : L.length ≤ 9223372036854775807) :
    Calls Try.prog 72 #[.slice A L.length cap, .agg #[.string (bs n), .string (bs v)]] w fun e w' => e = .returned (.bool (memH L n v)) ∧ Below w.heap.size w w' := by
  have hb0 := enew w (.cells #[.string (bs n), .string (bs v)] 53)
  have HX := hid (indexHd_any A cap L n v _ (hR.later' hb0) hl)
  have HG := hid (idxV_ge L n v)
  clear hR
  go_enter Try.func72, Try.ntmps72
  go_wp2_with fail
  refine HX.out.mono ?_
  rintro e w1 ⟨rfl, hb1⟩
  go_wp2_with fail
  go_ret
  exact ⟨by rw [← HG.out]; rfl, estep hb0 hb1⟩
set_option maxHeartbeats 1600000 in
theorem hasHead_any (m h p b : List UInt8) (x : Value) (L : List Hd) (k : Int) (n v : List UInt8) (w : World) (hx : HV w x L) (hl : L.length ≤ 1000000) :
    Calls Try.prog 58 #[.agg #[.string (bs m), .string (bs h), .string (bs p), x, .string (bs b)], .agg #[.int .i64 k, .string (bs n), .string (bs v)]] w fun e w' => e = .returned (.bool (memH L n v)) ∧ Below w.heap.size w w' := by
  have hb := estep (enew w (.cells #[.string (bs m), .string (bs h), .string (bs p), x, .string (bs b)] 31)) (enew _ (.cells #[.int .i64 k, .string (bs n), .string (bs v)] 23))
  obtain ⟨A, c, rfl, hR⟩ := hx
  have HX := hid (fun w2 (hR2 : HReads w2 (· < w2.heap.size) A L) => containsHd_any A c L n v w2 hR2 (by omega))
  have HR := hid (hR.later' hb)
  clear hR
  go_enter Try.func58, Try.ntmps58
  go_wp2_with fail
  refine (HX.out _ HR.out).mono ?_
  rintro e w1 ⟨rfl, hb1⟩
  go_wp2_with fail
  go_ret
  exact ⟨rfl, estep hb hb1⟩
set_option maxHeartbeats 1600000 in
theorem hasName_any (m h p b : List UInt8) (x : Value) (L : List Hd) (k : Int) (n v : List UInt8) (w : World) (hx : HV w x L) (hl : L.length ≤ 1000000) :
    Calls Try.prog 59 #[.agg #[.string (bs m), .string (bs h), .string (bs p), x, .string (bs b)], .agg #[.int .i64 k, .string (bs n), .string (bs v)]] w fun e w' => e = .returned (.bool (getH L n).2) ∧ Below w.heap.size w w' := by
  have hb := estep (enew w (.cells #[.string (bs m), .string (bs h), .string (bs p), x, .string (bs b)] 31)) (enew _ (.cells #[.int .i64 k, .string (bs n), .string (bs v)] 23))
  obtain ⟨A, c, rfl, hR⟩ := hx
  obtain ⟨g1, g2, hg⟩ : ∃ a b, getH L n = (a, b) := ⟨_, _, rfl⟩
  have HX := hid (fun w2 (hR2 : HReads w2 (· < w2.heap.size) A L) => hget_any A c L n w2 hR2 hl)
  rw [hg] at HX
  rw [hg]
  clear hg
  have HR := hid (hR.later' hb)
  clear hR
  go_enter Try.func59, Try.ntmps59
  go_wp2_with fail
  refine (HX.out _ HR.out).mono ?_
  rintro e w1 ⟨rfl, hb1⟩
  go_wp2_with fail
  go_ret
  exact ⟨rfl, estep hb hb1⟩
end Go.Proofs.Ytmdlkoigjacipaa
