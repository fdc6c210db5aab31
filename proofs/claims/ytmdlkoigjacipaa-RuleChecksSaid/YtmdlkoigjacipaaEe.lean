import Derived.Test.YtmdlkoigjacipaaEv
namespace Go.Proofs.Ytmdlkoigjacipaa
set_option linter.unusedVariables false
set_option linter.unusedSimpArgs false
open Go.RowKit Go.Joins

set_option maxRecDepth 100000 in
set_option maxHeartbeats 4000000 in
theorem rpcheck1_any (n v : List UInt8) (w : World) (hn : n.length ≤ 140737488351232) (hv : v.length ≤ 140737488351232) {z : Int} (H : Hid (cE 1 n v = z)) :
    Calls Try.prog 11 #[.agg #[.int .i64 1, .string (bs n), .string (bs v)]] w fun e w' => e = .returned (.int .i64 z) ∧ Below w.heap.size w w' := by
  have hnot := enot
  by_cases hn0 : n = []
  · subst hn0
    cases hb : methodB v
    · have HM := hid (fun w2 => rmethod_any v w2 hv)
      rw [hb] at HM
      have HB := hid hb
      clear hb
      have HZ := hid (show z = 3 by rw [← H.out]; simp [cE, HB.out])
      clear H
      have hb0 := enew w (.cells #[.int .i64 1, .string (bs []), .string (bs v)] 23)
      have hp0 := BP.new w 1 [] v
      go_enter Try.func11, Try.ntmps11
      go_upto_region 1 with (fail)
      generalize w.alloc (.cells #[.int .i64 1, .string (bs []), .string (bs v)] 23) = v0 at *
      obtain ⟨k0, k1, k2⟩ := hp0.cells
      go_wp2_with fail
      refine (HM.out _).mono ?_
      rintro e w1 ⟨rfl, rfl⟩
      go_wp2_with fail
      go_returns
      exact ⟨by rw [HZ.out]; rfl, hb0⟩
    · have HM := hid (fun w2 => rmethod_any v w2 hv)
      rw [hb] at HM
      have HB := hid hb
      clear hb
      have HZ := hid (show z = 0 by rw [← H.out]; simp [cE, HB.out])
      clear H
      have hb0 := enew w (.cells #[.int .i64 1, .string (bs []), .string (bs v)] 23)
      have hp0 := BP.new w 1 [] v
      go_enter Try.func11, Try.ntmps11
      go_upto_region 1 with (fail)
      generalize w.alloc (.cells #[.int .i64 1, .string (bs []), .string (bs v)] 23) = v0 at *
      obtain ⟨k0, k1, k2⟩ := hp0.cells
      go_wp2_with fail
      refine (HM.out _).mono ?_
      rintro e w1 ⟨rfl, rfl⟩
      go_wp2_with fail
      go_returns
      exact ⟨by rw [HZ.out]; rfl, hb0⟩
  · have hnb : (n == []) = false := by simpa using hn0
    have HN := hid hn0
    clear hn0
    have HZ := hid (show z = 2 by rw [← H.out]; simp [cE, HN.out])
    clear H
    have hb0 := enew w (.cells #[.int .i64 1, .string (bs n), .string (bs v)] 23)
    have hp0 := BP.new w 1 n v
    go_enter Try.func11, Try.ntmps11
    go_upto_region 1 with (fail)
    generalize w.alloc (.cells #[.int .i64 1, .string (bs n), .string (bs v)] 23) = v0 at *
    obtain ⟨k0, k1, k2⟩ := hp0.cells
    go_wp2_with fail
    go_returns
    exact ⟨by rw [HZ.out]; rfl, hb0⟩
set_option maxRecDepth 100000 in
set_option maxHeartbeats 4000000 in
theorem rpcheck2_any (n v : List UInt8) (w : World) (hn : n.length ≤ 140737488351232) (hv : v.length ≤ 140737488351232) {z : Int} (H : Hid (cE 2 n v = z)) :
    Calls Try.prog 11 #[.agg #[.int .i64 2, .string (bs n), .string (bs v)]] w fun e w' => e = .returned (.int .i64 z) ∧ Below w.heap.size w w' := by
  have hnot := enot
  by_cases hn0 : n = []
  · subst hn0
    cases hb : nameB v
    · have HM := hid (fun w2 => rname_any v w2 hv)
      rw [hb] at HM
      have HB := hid hb
      clear hb
      have HZ := hid (show z = 7 by rw [← H.out]; simp [cE, HB.out])
      clear H
      have hb0 := enew w (.cells #[.int .i64 2, .string (bs []), .string (bs v)] 23)
      have hp0 := BP.new w 2 [] v
      go_enter Try.func11, Try.ntmps11
      go_upto_region 1 with (fail)
      generalize w.alloc (.cells #[.int .i64 2, .string (bs []), .string (bs v)] 23) = v0 at *
      obtain ⟨k0, k1, k2⟩ := hp0.cells
      go_wp2_with fail
      refine (HM.out _).mono ?_
      rintro e w1 ⟨rfl, rfl⟩
      go_wp2_with fail
      go_returns
      exact ⟨by rw [HZ.out]; rfl, hb0⟩
    · have HM := hid (fun w2 => rname_any v w2 hv)
      rw [hb] at HM
      have HB := hid hb
      clear hb
      have HZ := hid (show z = 0 by rw [← H.out]; simp [cE, HB.out])
      clear H
      have hb0 := enew w (.cells #[.int .i64 2, .string (bs []), .string (bs v)] 23)
      have hp0 := BP.new w 2 [] v
      go_enter Try.func11, Try.ntmps11
      go_upto_region 1 with (fail)
      generalize w.alloc (.cells #[.int .i64 2, .string (bs []), .string (bs v)] 23) = v0 at *
      obtain ⟨k0, k1, k2⟩ := hp0.cells
      go_wp2_with fail
      refine (HM.out _).mono ?_
      rintro e w1 ⟨rfl, rfl⟩
      go_wp2_with fail
      go_returns
      exact ⟨by rw [HZ.out]; rfl, hb0⟩
  · have hnb : (n == []) = false := by simpa using hn0
    have HN := hid hn0
    clear hn0
    have HZ := hid (show z = 2 by rw [← H.out]; simp [cE, HN.out])
    clear H
    have hb0 := enew w (.cells #[.int .i64 2, .string (bs n), .string (bs v)] 23)
    have hp0 := BP.new w 2 n v
    go_enter Try.func11, Try.ntmps11
    go_upto_region 1 with (fail)
    generalize w.alloc (.cells #[.int .i64 2, .string (bs n), .string (bs v)] 23) = v0 at *
    obtain ⟨k0, k1, k2⟩ := hp0.cells
    go_wp2_with fail
    go_returns
    exact ⟨by rw [HZ.out]; rfl, hb0⟩
set_option maxRecDepth 100000 in
set_option maxHeartbeats 4000000 in
theorem rpcheck3_any (n v : List UInt8) (w : World) (hn : n.length ≤ 140737488351232) (hv : v.length ≤ 140737488351232) {z : Int} (H : Hid (cE 3 n v = z)) :
    Calls Try.prog 11 #[.agg #[.int .i64 3, .string (bs n), .string (bs v)]] w fun e w' => e = .returned (.int .i64 z) ∧ Below w.heap.size w w' := by
  have hnot := enot
  by_cases hn0 : n = []
  · subst hn0
    cases hb : pathB v
    · have HM := hid (fun w2 => rpath_any v w2 hv)
      rw [hb] at HM
      have HB := hid hb
      clear hb
      have HZ := hid (show z = 12 by rw [← H.out]; simp [cE, HB.out])
      clear H
      have hb0 := enew w (.cells #[.int .i64 3, .string (bs []), .string (bs v)] 23)
      have hp0 := BP.new w 3 [] v
      go_enter Try.func11, Try.ntmps11
      go_upto_region 1 with (fail)
      generalize w.alloc (.cells #[.int .i64 3, .string (bs []), .string (bs v)] 23) = v0 at *
      obtain ⟨k0, k1, k2⟩ := hp0.cells
      go_wp2_with fail
      refine (HM.out _).mono ?_
      rintro e w1 ⟨rfl, rfl⟩
      go_wp2_with fail
      go_returns
      exact ⟨by rw [HZ.out]; rfl, hb0⟩
    · have HM := hid (fun w2 => rpath_any v w2 hv)
      rw [hb] at HM
      have HB := hid hb
      clear hb
      have HZ := hid (show z = 0 by rw [← H.out]; simp [cE, HB.out])
      clear H
      have hb0 := enew w (.cells #[.int .i64 3, .string (bs []), .string (bs v)] 23)
      have hp0 := BP.new w 3 [] v
      go_enter Try.func11, Try.ntmps11
      go_upto_region 1 with (fail)
      generalize w.alloc (.cells #[.int .i64 3, .string (bs []), .string (bs v)] 23) = v0 at *
      obtain ⟨k0, k1, k2⟩ := hp0.cells
      go_wp2_with fail
      refine (HM.out _).mono ?_
      rintro e w1 ⟨rfl, rfl⟩
      go_wp2_with fail
      go_returns
      exact ⟨by rw [HZ.out]; rfl, hb0⟩
  · have hnb : (n == []) = false := by simpa using hn0
    have HN := hid hn0
    clear hn0
    have HZ := hid (show z = 2 by rw [← H.out]; simp [cE, HN.out])
    clear H
    have hb0 := enew w (.cells #[.int .i64 3, .string (bs n), .string (bs v)] 23)
    have hp0 := BP.new w 3 n v
    go_enter Try.func11, Try.ntmps11
    go_upto_region 1 with (fail)
    generalize w.alloc (.cells #[.int .i64 3, .string (bs n), .string (bs v)] 23) = v0 at *
    obtain ⟨k0, k1, k2⟩ := hp0.cells
    go_wp2_with fail
    go_returns
    exact ⟨by rw [HZ.out]; rfl, hb0⟩
set_option maxRecDepth 100000 in
set_option maxHeartbeats 4000000 in
theorem rpcheck4_any (n v : List UInt8) (w : World) (hn : n.length ≤ 140737488351232) (hv : v.length ≤ 140737488351232) {z : Int} (H : Hid (cE 4 n v = z)) :
    Calls Try.prog 11 #[.agg #[.int .i64 4, .string (bs n), .string (bs v)]] w fun e w' => e = .returned (.int .i64 z) ∧ Below w.heap.size w w' := by
  have hnot := enot
  by_cases hn0 : n = []
  · subst hn0
    cases hb : pathB v
    · have HM := hid (fun w2 => rpath_any v w2 hv)
      rw [hb] at HM
      have HB := hid hb
      clear hb
      have HZ := hid (show z = 12 by rw [← H.out]; simp [cE, HB.out])
      clear H
      have hb0 := enew w (.cells #[.int .i64 4, .string (bs []), .string (bs v)] 23)
      have hp0 := BP.new w 4 [] v
      go_enter Try.func11, Try.ntmps11
      go_upto_region 1 with (fail)
      generalize w.alloc (.cells #[.int .i64 4, .string (bs []), .string (bs v)] 23) = v0 at *
      obtain ⟨k0, k1, k2⟩ := hp0.cells
      go_wp2_with fail
      refine (HM.out _).mono ?_
      rintro e w1 ⟨rfl, rfl⟩
      go_wp2_with fail
      go_returns
      exact ⟨by rw [HZ.out]; rfl, hb0⟩
    · have HM := hid (fun w2 => rpath_any v w2 hv)
      rw [hb] at HM
      have HB := hid hb
      clear hb
      have HZ := hid (show z = 0 by rw [← H.out]; simp [cE, HB.out])
      clear H
      have hb0 := enew w (.cells #[.int .i64 4, .string (bs []), .string (bs v)] 23)
      have hp0 := BP.new w 4 [] v
      go_enter Try.func11, Try.ntmps11
      go_upto_region 1 with (fail)
      generalize w.alloc (.cells #[.int .i64 4, .string (bs []), .string (bs v)] 23) = v0 at *
      obtain ⟨k0, k1, k2⟩ := hp0.cells
      go_wp2_with fail
      refine (HM.out _).mono ?_
      rintro e w1 ⟨rfl, rfl⟩
      go_wp2_with fail
      go_returns
      exact ⟨by rw [HZ.out]; rfl, hb0⟩
  · have hnb : (n == []) = false := by simpa using hn0
    have HN := hid hn0
    clear hn0
    have HZ := hid (show z = 2 by rw [← H.out]; simp [cE, HN.out])
    clear H
    have hb0 := enew w (.cells #[.int .i64 4, .string (bs n), .string (bs v)] 23)
    have hp0 := BP.new w 4 n v
    go_enter Try.func11, Try.ntmps11
    go_upto_region 1 with (fail)
    generalize w.alloc (.cells #[.int .i64 4, .string (bs n), .string (bs v)] 23) = v0 at *
    obtain ⟨k0, k1, k2⟩ := hp0.cells
    go_wp2_with fail
    go_returns
    exact ⟨by rw [HZ.out]; rfl, hb0⟩
set_option maxRecDepth 100000 in
set_option maxHeartbeats 4000000 in
theorem rpcheck5_any (n v : List UInt8) (w : World) (hn : n.length ≤ 140737488351232) (hv : v.length ≤ 140737488351232) {z : Int} (H : Hid (cE 5 n v = z)) :
    Calls Try.prog 11 #[.agg #[.int .i64 5, .string (bs n), .string (bs v)]] w fun e w' => e = .returned (.int .i64 z) ∧ Below w.heap.size w w' := by
  have hnot := enot
  have HM := hid (fun w2 => rname_any n w2 hn)
  have HV := hid (fun w2 => rvalue_any v w2 hv)
  cases hb : nameB n
  · have HB := hid hb
    rw [hb] at HM
    clear hb
    have HZ := hid (show z = 7 by rw [← H.out]; simp [cE, HB.out])
    clear H
    have hb0 := enew w (.cells #[.int .i64 5, .string (bs n), .string (bs v)] 23)
    have hp0 := BP.new w 5 n v
    go_enter Try.func11, Try.ntmps11
    go_upto_region 1 with (fail)
    generalize w.alloc (.cells #[.int .i64 5, .string (bs n), .string (bs v)] 23) = v0 at *
    obtain ⟨k0, k1, k2⟩ := hp0.cells
    go_wp2_with fail
    refine (HM.out _).mono ?_
    rintro e w1 ⟨rfl, rfl⟩
    go_wp2_with fail
    go_returns
    exact ⟨by rw [HZ.out]; rfl, hb0⟩
  · have HB := hid hb
    rw [hb] at HM
    clear hb
    cases hc : valueB v
    · have HC := hid hc
      rw [hc] at HV
      clear hc
      have HZ := hid (show z = 15 by rw [← H.out]; simp [cE, HB.out, HC.out])
      clear H
      have hb0 := enew w (.cells #[.int .i64 5, .string (bs n), .string (bs v)] 23)
      have hp0 := BP.new w 5 n v
      go_enter Try.func11, Try.ntmps11
      go_upto_region 1 with (fail)
      generalize w.alloc (.cells #[.int .i64 5, .string (bs n), .string (bs v)] 23) = v0 at *
      obtain ⟨k0, k1, k2⟩ := hp0.cells
      go_wp2_with fail
      refine (HM.out _).mono ?_
      rintro e w1 ⟨rfl, rfl⟩
      go_wp2_with fail
      refine (HV.out _).mono ?_
      rintro e w1 ⟨rfl, rfl⟩
      go_wp2_with fail
      go_returns
      exact ⟨by rw [HZ.out]; rfl, hb0⟩
    · have HC := hid hc
      rw [hc] at HV
      clear hc
      have HZ := hid (show z = 0 by rw [← H.out]; simp [cE, HB.out, HC.out])
      clear H
      have hb0 := enew w (.cells #[.int .i64 5, .string (bs n), .string (bs v)] 23)
      have hp0 := BP.new w 5 n v
      go_enter Try.func11, Try.ntmps11
      go_upto_region 1 with (fail)
      generalize w.alloc (.cells #[.int .i64 5, .string (bs n), .string (bs v)] 23) = v0 at *
      obtain ⟨k0, k1, k2⟩ := hp0.cells
      go_wp2_with fail
      refine (HM.out _).mono ?_
      rintro e w1 ⟨rfl, rfl⟩
      go_wp2_with fail
      refine (HV.out _).mono ?_
      rintro e w1 ⟨rfl, rfl⟩
      go_wp2_with fail
      go_returns
      exact ⟨by rw [HZ.out]; rfl, hb0⟩
set_option maxRecDepth 100000 in
set_option maxHeartbeats 4000000 in
theorem rpcheck6_any (n v : List UInt8) (w : World) (hn : n.length ≤ 140737488351232) (hv : v.length ≤ 140737488351232) {z : Int} (H : Hid (cE 6 n v = z)) :
    Calls Try.prog 11 #[.agg #[.int .i64 6, .string (bs n), .string (bs v)]] w fun e w' => e = .returned (.int .i64 z) ∧ Below w.heap.size w w' := by
  have hnot := enot
  by_cases hv0 : v = []
  · subst hv0
    have HM := hid (fun w2 => rname_any n w2 hn)
    cases hb : nameB n
    · have HB := hid hb
      rw [hb] at HM
      clear hb
      have HZ := hid (show z = 7 by rw [← H.out]; simp [cE, HB.out])
      clear H
      have hb0 := enew w (.cells #[.int .i64 6, .string (bs n), .string (bs [])] 23)
      have hp0 := BP.new w 6 n []
      go_enter Try.func11, Try.ntmps11
      go_upto_region 1 with (fail)
      generalize w.alloc (.cells #[.int .i64 6, .string (bs n), .string (bs [])] 23) = v0 at *
      obtain ⟨k0, k1, k2⟩ := hp0.cells
      go_wp2_with fail
      refine (HM.out _).mono ?_
      rintro e w1 ⟨rfl, rfl⟩
      go_wp2_with fail
      go_returns
      exact ⟨by rw [HZ.out]; rfl, hb0⟩
    · have HB := hid hb
      rw [hb] at HM
      clear hb
      have HZ := hid (show z = 0 by rw [← H.out]; simp [cE, HB.out])
      clear H
      have hb0 := enew w (.cells #[.int .i64 6, .string (bs n), .string (bs [])] 23)
      have hp0 := BP.new w 6 n []
      go_enter Try.func11, Try.ntmps11
      go_upto_region 1 with (fail)
      generalize w.alloc (.cells #[.int .i64 6, .string (bs n), .string (bs [])] 23) = v0 at *
      obtain ⟨k0, k1, k2⟩ := hp0.cells
      go_wp2_with fail
      refine (HM.out _).mono ?_
      rintro e w1 ⟨rfl, rfl⟩
      go_wp2_with fail
      go_returns
      exact ⟨by rw [HZ.out]; rfl, hb0⟩
  · have hvb : (v == []) = false := by simpa using hv0
    have HN := hid hv0
    clear hv0
    have HZ := hid (show z = 2 by rw [← H.out]; simp [cE, HN.out])
    clear H
    have hb0 := enew w (.cells #[.int .i64 6, .string (bs n), .string (bs v)] 23)
    have hp0 := BP.new w 6 n v
    go_enter Try.func11, Try.ntmps11
    go_upto_region 1 with (fail)
    generalize w.alloc (.cells #[.int .i64 6, .string (bs n), .string (bs v)] 23) = v0 at *
    obtain ⟨k0, k1, k2⟩ := hp0.cells
    go_wp2_with fail
    go_returns
    exact ⟨by rw [HZ.out]; rfl, hb0⟩
theorem cE_no' {k : Int} (h : ¬ (1 ≤ k ∧ k ≤ 6)) (n v : List UInt8) : cE k n v = 2 := by
  unfold cE
  rw [if_neg (by omega), if_neg (by omega), if_neg (by omega), if_neg (by omega), if_neg (by omega), if_neg (by omega)]
set_option maxRecDepth 100000 in
set_option maxHeartbeats 4000000 in
theorem rpcheckno_any (k : Int) (n v : List UInt8) (w : World) (h : ¬ (1 ≤ k ∧ k ≤ 6)) {z : Int} (H : Hid (cE k n v = z)) :
    Calls Try.prog 11 #[.agg #[.int .i64 k, .string (bs n), .string (bs v)]] w fun e w' => e = .returned (.int .i64 z) ∧ Below w.heap.size w w' := by
  have hnot := enot
  by_cases h1 : k < 1
  ·
    have HZ := hid (show z = 2 by rw [← H.out]; exact cE_no' h _ _)
    clear H
    have hb0 := enew w (.cells #[.int .i64 k, .string (bs n), .string (bs v)] 23)
    have hp0 := BP.new w k n v
    go_enter Try.func11, Try.ntmps11
    go_upto_region 1 with (fail)
    generalize w.alloc (.cells #[.int .i64 k, .string (bs n), .string (bs v)] 23) = v0 at *
    obtain ⟨k0, k1, k2⟩ := hp0.cells
    go_wp2_with fail
    go_returns
    exact ⟨by rw [HZ.out]; rfl, hb0⟩
  · have h6 : 6 < k := by omega
    have HZ := hid (show z = 2 by rw [← H.out]; exact cE_no' h _ _)
    clear H
    have hb0 := enew w (.cells #[.int .i64 k, .string (bs n), .string (bs v)] 23)
    have hp0 := BP.new w k n v
    go_enter Try.func11, Try.ntmps11
    go_upto_region 1 with (fail)
    generalize w.alloc (.cells #[.int .i64 k, .string (bs n), .string (bs v)] 23) = v0 at *
    obtain ⟨k0, k1, k2⟩ := hp0.cells
    go_wp2_with fail
    go_returns
    exact ⟨by rw [HZ.out]; rfl, hb0⟩
theorem rpcheck_any (k : Int) (n v : List UInt8) (w : World) (hn : n.length ≤ 140737488351232) (hv : v.length ≤ 140737488351232) {z : Int} (H : Hid (cE k n v = z)) :
    Calls Try.prog 11 #[.agg #[.int .i64 k, .string (bs n), .string (bs v)]] w fun e w' => e = .returned (.int .i64 z) ∧ Below w.heap.size w w' := by
  by_cases h : 1 ≤ k ∧ k ≤ 6
  · have hk : k = 1 ∨ k = 2 ∨ k = 3 ∨ k = 4 ∨ k = 5 ∨ k = 6 := by omega
    rcases hk with rfl | rfl | rfl | rfl | rfl | rfl
    · exact rpcheck1_any n v w hn hv H
    · exact rpcheck2_any n v w hn hv H
    · exact rpcheck3_any n v w hn hv H
    · exact rpcheck4_any n v w hn hv H
    · exact rpcheck5_any n v w hn hv H
    · exact rpcheck6_any n v w hn hv H
  · exact rpcheckno_any k n v w h H
end Go.Proofs.Ytmdlkoigjacipaa
