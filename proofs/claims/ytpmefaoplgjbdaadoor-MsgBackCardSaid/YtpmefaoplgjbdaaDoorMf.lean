import Derived.Test.YtpmefaoplgjbdaaDoorMe
import Derived.Test.YtpmefaoplgjbdaaDoorOa
namespace Go.Proofs.YtpmefaoplgjbdaaDoor
set_option linter.unusedVariables false
set_option linter.unusedSimpArgs false
open Go.RowKit Go.Joins

set_option maxHeartbeats 800000 in
theorem digits_one (d : Nat) (w : World) (hd : d ≤ 9) :
    Calls Tryd.prog 35 #[.int .i64 (d : Int)] w fun e w' => e = .returned (.string (bs [UInt8.ofNat (48 + d)])) ∧ Below w.heap.size w w' := by
  have h1 : (d : Int) > -10 := by omega
  have h2 : ¬ (d : Int) < 0 := by omega
  have h3 : (d : Int) ≥ 0 := by omega
  have h4 : (d : Int) < 10 := by omega
  have h5 : IntKind.i64.wrap (48 + (d : Int)) = 48 + (d : Int) := IntWalk.i64_in _ (by omega)
  have h6 : IntKind.u64.wrap (48 + (d : Int)) = 48 + (d : Int) := IntWalk.u64_in _ (by omega)
  go_enter Tryd.func35, Tryd.ntmps35
  go_wp2_with fail
  refine (byte_any (48 + (d : Int)) _ (by omega)).mono ?_
  rintro e w1 ⟨rfl, hb1⟩
  have h7 : (48 + (d : Int)).toNat % 256 = 48 + d := by omega
  obtain ⟨B, hB⟩ : ∃ B, UInt8.ofNat (48 + d) = B := ⟨_, rfl⟩
  have HBB := hid hB
  rw [h7, hB]
  clear hB
  go_wp2_with fail
  go_ret
  exact ⟨by rw [HBB.out]; rfl, hb1⟩
set_option maxHeartbeats 800000 in
theorem digits_more (n : Nat) (l : List UInt8) (hn : 10 ≤ n) (hn2 : n ≤ 599) (hl : l.length ≤ 100) (hrec : ∀ w : World, Calls Tryd.prog 35 #[.int .i64 ((n : Int) / 10)] w fun e w' => e = .returned (.string (bs l)) ∧ Below w.heap.size w w') (w : World) :
    Calls Tryd.prog 35 #[.int .i64 (n : Int)] w fun e w' => e = .returned (.string (bs (l ++ [UInt8.ofNat (48 + n % 10)]))) ∧ Below w.heap.size w w' := by
  have h1 : (n : Int) > -10 := by omega
  have h2 : ¬ (n : Int) < 0 := by omega
  have h3 : (n : Int) ≥ 0 := by omega
  have h4 : ¬ (n : Int) < 10 := by omega
  have HR := hid hrec
  clear hrec
  go_enter Tryd.func35, Tryd.ntmps35
  go_wp2_with fail
  refine (HR.out _).mono ?_
  rintro e w1 ⟨rfl, hb1⟩
  have HB1 := hid hb1
  clear hb1
  have h5 : IntKind.i64.wrap (48 + (n : Int) % 10) = 48 + (n : Int) % 10 := IntWalk.i64_in _ (by omega)
  have h6 : IntKind.u64.wrap (48 + (n : Int) % 10) = 48 + (n : Int) % 10 := IntWalk.u64_in _ (by omega)
  go_wp2_with fail
  refine (byte_any (48 + (n : Int) % 10) _ (by omega)).mono ?_
  rintro e w2 ⟨rfl, hb2⟩
  have h7 : (48 + (n : Int) % 10).toNat % 256 = 48 + n % 10 := by omega
  obtain ⟨B, hB⟩ : ∃ B, UInt8.ofNat (48 + n % 10) = B := ⟨_, rfl⟩
  have HBB := hid hB
  rw [h7, hB]
  clear hB
  go_wp2_with fail
  go_ret
  exact ⟨by rw [HBB.out]; rfl, below_step' HB1.out hb2⟩
theorem digits_any (n : Nat) (h1 : 100 ≤ n) (h2 : n ≤ 599) (w : World) :
    Calls Tryd.prog 35 #[.int .i64 (n : Int)] w fun e w' => e = .returned (.string (bs (d3 n))) ∧ Below w.heap.size w w' := by
  have e1 : ((n : Int) / 10) = ((n / 10 : Nat) : Int) := by omega
  have e2 : (((n / 10 : Nat) : Int) / 10) = ((n / 100 : Nat) : Int) := by omega
  have a1 : ∀ w : World, Calls Tryd.prog 35 #[.int .i64 (((n / 10 : Nat) : Int) / 10)] w fun e w' => e = .returned (.string (bs [UInt8.ofNat (48 + n / 100)])) ∧ Below w.heap.size w w' := fun w => by
    rw [e2]; exact digits_one (n / 100) w (by omega)
  have a2 : ∀ w : World, Calls Tryd.prog 35 #[.int .i64 ((n : Int) / 10)] w fun e w' => e = .returned (.string (bs ([UInt8.ofNat (48 + n / 100)] ++ [UInt8.ofNat (48 + n / 10 % 10)]))) ∧ Below w.heap.size w w' := fun w => by
    rw [e1]; exact digits_more (n / 10) _ (by omega) (by omega) (by simp) a1 w
  exact digits_more n _ (by omega) h2 (by simp) a2 w
def wrP (n : Int) (L : List Hd) (b : List UInt8) : List UInt8 × Int := if chkP n L b = 0 then (text3 (d3 n.toNat) L b, 0) else ([], chkP n L b)
theorem keep_three {w1 w' : World} {g : Nat} {x0 x1 x2 : Value} (h : w1.cell? ⟨g, 0, none⟩ = some x0 ∧ w1.cell? ⟨g, 1, none⟩ = some x1 ∧ w1.cell? ⟨g, 2, none⟩ = some x2) (hb : Below w1.heap.size w1 w') :
    w'.cell? ⟨g, 0, none⟩ = some x0 ∧ w'.cell? ⟨g, 1, none⟩ = some x1 ∧ w'.cell? ⟨g, 2, none⟩ = some x2 ∧ Below w1.heap.size w1 w' :=
  ⟨(hb.cell (lt_of_cell h.1)).trans h.1, (hb.cell (lt_of_cell h.2.1)).trans h.2.1, (hb.cell (lt_of_cell h.2.2)).trans h.2.2, hb⟩
theorem three_new (w : World) (x0 x1 x2 : Value) (t : TypeId) :
    (w.alloc (.cells #[x0, x1, x2] t)).cell? ⟨w.heap.size, 0, none⟩ = some x0 ∧ (w.alloc (.cells #[x0, x1, x2] t)).cell? ⟨w.heap.size, 1, none⟩ = some x1 ∧ (w.alloc (.cells #[x0, x1, x2] t)).cell? ⟨w.heap.size, 2, none⟩ = some x2 := ⟨by simp, by simp, by simp⟩
theorem d3_len (n : Nat) : (d3 n).length = 3 := rfl
set_option maxRecDepth 100000 in
set_option maxHeartbeats 1600000 in
theorem writeback_any (n : Int) (A : Option Addr) (cap : Nat) (L : List Hd) (b : List UInt8) (w : World) (hR : HReads w (· < w.heap.size) A L) (hl : L.length ≤ 1000000) (hs : ∀ h ∈ L, h.1.length ≤ 140737488351232 ∧ h.2.length ≤ 140737488351232) (hb : b.length ≤ 140737488351232) (E : Env w) :
    Calls Tryd.prog 14 #[.agg #[.int .i64 n, .slice A L.length cap, .string (bs b)]] w fun e w' => e = .returned (.tuple #[.string (bs (wrP n L b).1), .int .i64 (wrP n L b).2]) ∧ Below w.heap.size w w' := by
  have hal := below_new' w (.cells #[.int .i64 n, .slice A L.length cap, .string (bs b)] 32)
  have h5 := three_new w (.int .i64 n) (.slice A L.length cap) (.string (bs b)) 32
  have HC := hid (checkback_any n A cap L b _ (hR.later' hal) hl hs hb)
  by_cases hc : chkP n L b = 0
  · obtain ⟨z1, z2, z3⟩ := chkP_ok hc
    obtain ⟨n, rfl⟩ := Int.eq_ofNat_of_zero_le (show 0 ≤ n by omega)
    have HQ := hid (show wrP (n : Int) L b = (text3 (d3 n) L b, 0) by rw [wrP, if_pos hc, Int.toNat_natCast])
    obtain ⟨c1, c2⟩ := tailChk_ok z3
    have z4 := small_of c1
    rw [hc] at HC
    have zt := tailT_len z4 c2
    have HR := hid (And.intro hR z4)
    have HE := hid E
    clear hR hc hs E z3 c1
    go_enter Tryd.func14, Tryd.ntmps14
    go_wp2_with fail
    generalize w.alloc (.cells #[.int .i64 (n : Int), .slice A L.length cap, .string (bs b)] 32) = v0 at *
    refine HC.out.mono ?_
    rintro e w1 ⟨rfl, hb1⟩
    have k5 := hid (keep_three h5 hb1)
    have HB1 := hid (below_step' hal hb1)
    clear hb1 h5 hal HC
    go_wp2_with fail
    have hz : Below w1.heap.size w1 w1.drew := (Below.refl _ _).drew
    have HT := hid (fun (w2 : World) (hz : Below w1.heap.size w1 w2) => tail_any A cap L b w2 ((HR.out.1.later' HB1.out).later' hz) HR.out.2 c2)
    have HI := hid (fun (w2 : World) (hz : Below w1.heap.size w1 w2) => by have := lib_itoa (n : Int) (by omega) (by omega) w2 ((HE.out.later HB1.out).later hz); rw [itoa_d3 (by omega) (by omega)] at this; exact this)
    have e2 : (ByteArray.mk #[10]) = bs [10] := rfl
    generalize hT : tailT L b = T at *
    have HTT := hid hT
    clear hT
    generalize hD : d3 n = D at *
    have hDl : D.length = 3 := by rw [← hD]; rfl
    have HDD := hid hD
    clear hD
    have s1 : ¬ 9223372036854775807 < D.length + 1 := by omega
    have s2 : ¬ 9223372036854775807 < D.length + 1 + T.length := by omega
    clear hDl
    go_region_held3 (fun w' => w'.cell? ⟨w.heap.size, 0, none⟩ = some (.int .i64 (n : Int)) ∧ w'.cell? ⟨w.heap.size, 1, none⟩ = some (.slice A L.length cap) ∧ w'.cell? ⟨w.heap.size, 2, none⟩ = some (.string (bs b)) ∧ Below w1.heap.size w1 w')
      (first | exact keep_three ⟨k5.out.1, k5.out.2.1, k5.out.2.2.1⟩ hz) (first
      | (go_at_call 34; refine (HI.out _ hz).mono ?_; rintro e w3 ⟨rfl, hy⟩; have hz := hz.trans (hy.mono hz.size))
      | (go_at_call 24; refine (HT.out _ hz).mono ?_; rintro e w3 ⟨rfl, hy⟩; have hz := hz.trans (hy.mono hz.size)))
    all_goals
      go_wp2_with fail
      go_returns
      exact ⟨by rw [HQ.out, show text3 D L b = D ++ 10 :: T by rw [← HTT.out]; simp [text3]]; rfl, below_step' HB1.out hz⟩
  · have HQ := hid (show wrP n L b = ([], chkP n L b) by rw [wrP, if_neg hc])
    generalize chkP n L b = c at *
    have hne : (c != 0) = true := by simpa using hc
    clear hR hs hc E
    go_enter Tryd.func14, Tryd.ntmps14
    go_wp2_with fail
    refine HC.out.mono ?_
    rintro e w1 ⟨rfl, hb1⟩
    go_wp2_with fail
    go_returns
    exact ⟨by rw [HQ.out]; rfl, below_step' hal hb1⟩
set_option maxRecDepth 100000 in
set_option maxHeartbeats 1600000 in
theorem rwriteback_any (n : Int) (A : Option Addr) (cap : Nat) (L : List Hd) (b : List UInt8) (w : World) (hR : HReads w (· < w.heap.size) A L) (hl : L.length ≤ 1000000) (hs : ∀ h ∈ L, h.1.length ≤ 140737488351232 ∧ h.2.length ≤ 140737488351232) (hb : b.length ≤ 140737488351232) :
    Calls Tryd.prog 15 #[.agg #[.int .i64 n, .slice A L.length cap, .string (bs b)]] w fun e w' => e = .returned (.tuple #[.string (bs (wrP n L b).1), .int .i64 (wrP n L b).2]) ∧ Below w.heap.size w w' := by
  have hal := below_new' w (.cells #[.int .i64 n, .slice A L.length cap, .string (bs b)] 32)
  have h5 := three_new w (.int .i64 n) (.slice A L.length cap) (.string (bs b)) 32
  have HC := hid (rcheckback_any n A cap L b _ (hR.later' hal) hl hs hb)
  by_cases hc : chkP n L b = 0
  · obtain ⟨z1, z2, z3⟩ := chkP_ok hc
    obtain ⟨n, rfl⟩ := Int.eq_ofNat_of_zero_le (show 0 ≤ n by omega)
    have HQ := hid (show wrP (n : Int) L b = (text3 (d3 n) L b, 0) by rw [wrP, if_pos hc, Int.toNat_natCast])
    obtain ⟨c1, c2⟩ := tailChk_ok z3
    have z4 := small_of c1
    rw [hc] at HC
    have zt := tailT_len z4 c2
    have HR := hid (And.intro hR z4)
    clear hR hc hs z3 c1
    go_enter Tryd.func15, Tryd.ntmps15
    go_wp2_with fail
    generalize w.alloc (.cells #[.int .i64 (n : Int), .slice A L.length cap, .string (bs b)] 32) = v0 at *
    refine HC.out.mono ?_
    rintro e w1 ⟨rfl, hb1⟩
    have k5 := hid (keep_three h5 hb1)
    have HB1 := hid (below_step' hal hb1)
    clear hb1 h5 hal HC
    go_wp2_with fail
    have hz : Below w1.heap.size w1 w1.drew := (Below.refl _ _).drew
    have HT := hid (fun (w2 : World) (hz : Below w1.heap.size w1 w2) => rest_any A cap L b w2 ((HR.out.1.later' HB1.out).later' hz) HR.out.2 c2)
    have HI := hid (fun (w2 : World) (hz : Below w1.heap.size w1 w2) => digits_any n (by omega) (by omega) w2)
    have e2 : (ByteArray.mk #[10]) = bs [10] := rfl
    generalize hT : tailT L b = T at *
    have HTT := hid hT
    clear hT
    generalize hD : d3 n = D at *
    have hDl : D.length = 3 := by rw [← hD]; rfl
    have HDD := hid hD
    clear hD
    have s1 : ¬ 9223372036854775807 < D.length + 1 := by omega
    have s2 : ¬ 9223372036854775807 < D.length + 1 + T.length := by omega
    clear hDl
    go_region_held3 (fun w' => w'.cell? ⟨w.heap.size, 0, none⟩ = some (.int .i64 (n : Int)) ∧ w'.cell? ⟨w.heap.size, 1, none⟩ = some (.slice A L.length cap) ∧ w'.cell? ⟨w.heap.size, 2, none⟩ = some (.string (bs b)) ∧ Below w1.heap.size w1 w')
      (first | exact keep_three ⟨k5.out.1, k5.out.2.1, k5.out.2.2.1⟩ hz) (first
      | (go_at_call 35; refine (HI.out _ hz).mono ?_; rintro e w3 ⟨rfl, hy⟩; have hz := hz.trans (hy.mono hz.size))
      | (go_at_call 25; refine (HT.out _ hz).mono ?_; rintro e w3 ⟨rfl, hy⟩; have hz := hz.trans (hy.mono hz.size)))
    all_goals
      go_wp2_with fail
      go_returns
      exact ⟨by rw [HQ.out, show text3 D L b = D ++ 10 :: T by rw [← HTT.out]; simp [text3]]; rfl, below_step' HB1.out hz⟩
  · have HQ := hid (show wrP n L b = ([], chkP n L b) by rw [wrP, if_neg hc])
    have HC2 := hid (fun (w2 : World) (hz : Below w.heap.size w w2) => rcheckback_any n A cap L b w2 (hR.later' hz) hl hs hb)
    generalize chkP n L b = c at *
    have hne : (c != 0) = true := by simpa using hc
    clear hR hs hc HC
    go_enter Tryd.func15, Tryd.ntmps15
    go_wp2_with fail
    refine (HC2.out _ hal).mono ?_
    rintro e w1 ⟨rfl, hb1⟩
    have hb2 := below_step' hal hb1
    obtain ⟨k0, k1, k2, _⟩ := keep_three h5 hb1
    go_wp2_with fail
    refine (HC2.out _ hb2).mono ?_
    rintro e w2 ⟨rfl, hb3⟩
    go_wp2_with fail
    go_returns
    exact ⟨by rw [HQ.out]; rfl, below_step' hb2 hb3⟩
end Go.Proofs.YtpmefaoplgjbdaaDoor
