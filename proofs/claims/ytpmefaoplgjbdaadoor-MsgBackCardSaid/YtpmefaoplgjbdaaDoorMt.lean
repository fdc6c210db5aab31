import Derived.Test.YtpmefaoplgjbdaaDoorMs
namespace Go.Proofs.YtpmefaoplgjbdaaDoor
set_option linter.unusedVariables false
set_option linter.unusedSimpArgs false
open Go.RowKit Go.Joins

set_option maxRecDepth 100000 in
set_option maxHeartbeats 16000000 in
theorem msgWrites_walk (m h p : List UInt8) (A : Option Addr) (cap : Nat) (L : List Hd) (b : List UInt8) (w : World) (E : Env w)
    (hR : HReads w (· < w.heap.size) A L) (lL : L.length ≤ 9223372036854775807) (gL : big L) (hm : m.length ≤ 140737488351232) (hh : h.length ≤ 140737488351232) (hp : p.length ≤ 140737488351232) (hb : b.length ≤ 140737488351232) :
    Calls Tryd.prog 3 #[.agg #[.string (bs m), .string (bs h), .string (bs p), .slice A L.length cap, .string (bs b)]] w fun e w' => e = .returned (.bool true) ∧ Below w.heap.size w w' := by
  have hA := below_new' w (.cells #[.string (bs m), .string (bs h), .string (bs p), .slice A L.length cap, .string (bs b)] 24)
  have hf := (show F5 _ _ _ _ _ _ _ from five_new w (.string (bs m)) (.string (bs h)) (.string (bs p)) (.slice A L.length cap) (.string (bs b)) 24)
  have H0 := hid (And.intro (hR.later' hA) (And.intro hf (And.intro hA (E.later hA))))
  have HL := hid gL
  clear hA hf hR E gL
  cases hf : fewQ m h p L b
  · have HF := hid hf
    clear hf
    go_enter Tryd.func3, Tryd.ntmps3
    go_wp2_with fail
    generalize w.alloc (.cells #[.string (bs m), .string (bs h), .string (bs p), .slice A L.length cap, .string (bs b)] 24) = v0 at *
    refine (fewq_any m h p A cap L b v0 H0.out.1 (by omega) HL.out hm hh hp hb).mono ?_
    rintro e w1 ⟨rfl, hb1⟩
    rw [HF.out]
    have HB := hid hb1
    clear hb1
    go_wp2_with fail
    refine (known5_any _ (H0.out.2.2.2.later HB.out)).mono ?_
    rintro e w9 ⟨rfl, hb1⟩
    have HB := hid (below_step' HB.out hb1)
    clear hb1
    go_wp2_with fail
    go_ret
    exact ⟨rfl, below_step' H0.out.2.2.1 HB.out⟩
  · have lL : L.length ≤ 1000000 := fewQ_len hf
    have HF := hid hf
    clear hf
    go_enter Tryd.func3, Tryd.ntmps3
    go_wp2_with fail
    generalize w.alloc (.cells #[.string (bs m), .string (bs h), .string (bs p), .slice A L.length cap, .string (bs b)] 24) = v0 at *
    refine (fewq_any m h p A cap L b v0 H0.out.1 (by omega) HL.out hm hh hp hb).mono ?_
    rintro e w1 ⟨rfl, hb1⟩
    rw [HF.out]
    have HB := hid hb1
    clear hb1
    obtain ⟨q0, q1, q2, q3, q4⟩ := H0.out.2.1.later HB.out
    go_wp2_with fail
    refine (hid (write_any m h p A cap L b w1 (H0.out.1.later' HB.out) lL HL.out hm hh hp hb)).out.mono ?_
    rintro e w3 ⟨rfl, hb1⟩
    clear q0 q1 q2 q3 q4
    have HB := hid (below_step' HB.out hb1)
    clear hb1
    obtain ⟨q0, q1, q2, q3, q4⟩ := H0.out.2.1.later HB.out
    go_wp2_with fail
    refine (hid (rwrite_any m h p A cap L b w3 (H0.out.1.later' HB.out) lL HL.out hm hh hp hb)).out.mono ?_
    rintro e w4 ⟨rfl, hb1⟩
    clear q0 q1 q2 q3 q4
    have HB := hid (below_step' HB.out hb1)
    clear hb1
    have k5 := hid (H0.out.2.1.later HB.out)
    have HCk := hid (fun (w2 : World) (hz : Below w4.heap.size w4 w2) => check_any m h p A cap L b w2 ((H0.out.1.later' HB.out).later' hz) lL HL.out hm hh hp hb)
    have HRk := hid (fun (w2 : World) (hz : Below w4.heap.size w4 w2) => rchk_any m h p A cap L b w2 ((H0.out.1.later' HB.out).later' hz) lL HL.out hm hh hp hb)
    have HKn := hid (fun (w2 : World) (hz : Below w4.heap.size w4 w2) => known5_any w2 ((H0.out.2.2.2.later HB.out).later hz))
    generalize chkQ m h p L b = cc at *
    generalize (wrQ m h p L b).1 = T at *
    generalize (wrQ m h p L b).2 = c at *
    obtain ⟨q0, q1, q2, q3, q4⟩ := k5.out
    go_wp2_with fail
    have hz : Below w4.heap.size w4 w4.drew := (Below.refl _ _).drew
    go_region_held3 (fun w' => w'.cell? ⟨w.heap.size, 0, none⟩ = some (.string (bs m)) ∧ w'.cell? ⟨w.heap.size, 1, none⟩ = some (.string (bs h)) ∧ w'.cell? ⟨w.heap.size, 2, none⟩ = some (.string (bs p)) ∧ w'.cell? ⟨w.heap.size, 3, none⟩ = some (.slice A L.length cap) ∧ w'.cell? ⟨w.heap.size, 4, none⟩ = some (.string (bs b)) ∧ Below w4.heap.size w4 w')
      (first | exact keep_five ⟨k5.out.1, k5.out.2.1, k5.out.2.2.1, k5.out.2.2.2.1, k5.out.2.2.2.2⟩ hz) (first
      | (go_at_call 11; refine (HCk.out _ hz).mono ?_; rintro e w5 ⟨rfl, hy⟩; have hz := hz.trans (hy.mono hz.size))
      | (go_at_call 12; refine (HRk.out _ hz).mono ?_; rintro e w5 ⟨rfl, hy⟩; have hz := hz.trans (hy.mono hz.size))
      | (go_at_call 8; refine (HKn.out _ hz).mono ?_; rintro e w5 ⟨rfl, hy⟩; have hz := hz.trans (hy.mono hz.size)))
    all_goals
      go_wp2_with fail
      go_returns
      exact ⟨rfl, below_step' H0.out.2.2.1 (below_step' HB.out hz)⟩

set_option maxRecDepth 100000 in
set_option maxHeartbeats 16000000 in
theorem msgAnswers_walk (n : Int) (A : Option Addr) (cap : Nat) (L : List Hd) (b : List UInt8) (w : World) (E : Env w)
    (hR : HReads w (· < w.heap.size) A L) (lL : L.length ≤ 9223372036854775807) (gL : big L) (hb : b.length ≤ 140737488351232) :
    Calls Tryd.prog 4 #[.agg #[.int .i64 n, .slice A L.length cap, .string (bs b)]] w fun e w' => e = .returned (.bool true) ∧ Below w.heap.size w w' := by
  have hA := below_new' w (.cells #[.int .i64 n, .slice A L.length cap, .string (bs b)] 32)
  have hf := (show F3 _ _ _ _ _ from three_new w (.int .i64 n) (.slice A L.length cap) (.string (bs b)) 32)
  have H0 := hid (And.intro (hR.later' hA) (And.intro hf (And.intro hA (E.later hA))))
  have HL := hid gL
  clear hA hf hR E gL
  by_cases hd2 : (b.length : Int) > 2000
  · have HB := hid (Below.refl (w.alloc (.cells #[.int .i64 n, .slice A L.length cap, .string (bs b)] 32)).heap.size (w.alloc (.cells #[.int .i64 n, .slice A L.length cap, .string (bs b)] 32)))
    go_enter Tryd.func4, Tryd.ntmps4
    go_wp2_with fail
    generalize w.alloc (.cells #[.int .i64 n, .slice A L.length cap, .string (bs b)] 32) = v0 at *
    refine (known5_any _ (H0.out.2.2.2.later HB.out)).mono ?_
    rintro e w9 ⟨rfl, hb1⟩
    have HB := hid (below_step' HB.out hb1)
    clear hb1
    go_wp2_with fail
    go_ret
    exact ⟨rfl, below_step' H0.out.2.2.1 HB.out⟩
  · cases hg : fewOk L
    · have HG := hid hg
      clear hg
      go_enter Tryd.func4, Tryd.ntmps4
      go_wp2_with fail
      generalize w.alloc (.cells #[.int .i64 n, .slice A L.length cap, .string (bs b)] 32) = v0 at *
      refine (few_any A cap L v0 H0.out.1 (by omega) HL.out).mono ?_
      rintro e w1 ⟨rfl, hb1⟩
      rw [HG.out]
      have HB := hid hb1
      clear hb1
      go_wp2_with fail
      refine (known5_any _ (H0.out.2.2.2.later HB.out)).mono ?_
      rintro e w9 ⟨rfl, hb1⟩
      have HB := hid (below_step' HB.out hb1)
      clear hb1
      go_wp2_with fail
      go_ret
      exact ⟨rfl, below_step' H0.out.2.2.1 HB.out⟩
    · have lL : L.length ≤ 1000000 := fewOk_len hg
      have HG := hid hg
      clear hg
      go_enter Tryd.func4, Tryd.ntmps4
      go_wp2_with fail
      generalize w.alloc (.cells #[.int .i64 n, .slice A L.length cap, .string (bs b)] 32) = v0 at *
      refine (few_any A cap L v0 H0.out.1 (by omega) HL.out).mono ?_
      rintro e w1 ⟨rfl, hb1⟩
      rw [HG.out]
      have HB := hid hb1
      clear hb1
      obtain ⟨q0, q1, q2⟩ := H0.out.2.1.later HB.out
      go_wp2_with fail
      refine (hid (writeback_any n A cap L b w1 (H0.out.1.later' HB.out) lL HL.out hb (H0.out.2.2.2.later HB.out))).out.mono ?_
      rintro e w3 ⟨rfl, hb1⟩
      clear q0 q1 q2
      have HB := hid (below_step' HB.out hb1)
      clear hb1
      obtain ⟨q0, q1, q2⟩ := H0.out.2.1.later HB.out
      go_wp2_with fail
      refine (hid (rwriteback_any n A cap L b w3 (H0.out.1.later' HB.out) lL HL.out hb)).out.mono ?_
      rintro e w4 ⟨rfl, hb1⟩
      clear q0 q1 q2
      have HB := hid (below_step' HB.out hb1)
      clear hb1
      have k5 := hid (H0.out.2.1.later HB.out)
      have HCk := hid (fun (w2 : World) (hz : Below w4.heap.size w4 w2) => checkback_any n A cap L b w2 ((H0.out.1.later' HB.out).later' hz) lL HL.out hb)
      have HRk := hid (fun (w2 : World) (hz : Below w4.heap.size w4 w2) => rcheckback_any n A cap L b w2 ((H0.out.1.later' HB.out).later' hz) lL HL.out hb)
      have HKn := hid (fun (w2 : World) (hz : Below w4.heap.size w4 w2) => known5_any w2 ((H0.out.2.2.2.later HB.out).later hz))
      generalize chkP n L b = cc at *
      generalize (wrP n L b).1 = T at *
      generalize (wrP n L b).2 = c at *
      obtain ⟨q0, q1, q2⟩ := k5.out
      go_wp2_with fail
      have hz : Below w4.heap.size w4 w4.drew := (Below.refl _ _).drew
      go_region_held3 (fun w' => w'.cell? ⟨w.heap.size, 0, none⟩ = some (.int .i64 n) ∧ w'.cell? ⟨w.heap.size, 1, none⟩ = some (.slice A L.length cap) ∧ w'.cell? ⟨w.heap.size, 2, none⟩ = some (.string (bs b)) ∧ Below w4.heap.size w4 w')
        (first | exact keep_three ⟨k5.out.1, k5.out.2.1, k5.out.2.2⟩ hz) (first
        | (go_at_call 16; refine (HCk.out _ hz).mono ?_; rintro e w5 ⟨rfl, hy⟩; have hz := hz.trans (hy.mono hz.size))
        | (go_at_call 17; refine (HRk.out _ hz).mono ?_; rintro e w5 ⟨rfl, hy⟩; have hz := hz.trans (hy.mono hz.size))
        | (go_at_call 8; refine (HKn.out _ hz).mono ?_; rintro e w5 ⟨rfl, hy⟩; have hz := hz.trans (hy.mono hz.size)))
      all_goals
        go_wp2_with fail
        go_returns
        exact ⟨rfl, below_step' H0.out.2.2.1 (below_step' HB.out hz)⟩

end Go.Proofs.YtpmefaoplgjbdaaDoor
