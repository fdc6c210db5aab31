import Derived.Test.YtmdlkoigjacipaaEb
namespace Go.Proofs.Ytmdlkoigjacipaa
set_option linter.unusedVariables false
set_option linter.unusedSimpArgs false
open Go.RowKit Go.Joins

theorem kindof_any (k : Int) (w : World) (h1 : 1 ≤ k) (h6 : k ≤ 6) :
    Calls Try.prog 31 #[.int .i64 k] w fun e w' => ∃ G H, (e = .returned (.tuple #[.agg #[.bool (ndK k), .bool (vlK k), .func (.func G) #[] #[], .func (.func H) #[] #[]], .bool true]) ∧ Below w.heap.size w w') ∧ GiveD G k ∧ HasC H k := by
  have hk : k = 1 ∨ k = 2 ∨ k = 3 ∨ k = 4 ∨ k = 5 ∨ k = 6 := by omega
  rcases hk with rfl | rfl | rfl | rfl | rfl | rfl
  · exact (kind1_any w).mono fun e w' h => ⟨_, _, h, kind1_give, kind1_has⟩
  · exact (kind2_any w).mono fun e w' h => ⟨_, _, h, kind2_give, kind2_has⟩
  · exact (kind3_any w).mono fun e w' h => ⟨_, _, h, kind3_give, kind3_has⟩
  · exact (kind4_any w).mono fun e w' h => ⟨_, _, h, kind4_give, kind4_has⟩
  · exact (kind5_any w).mono fun e w' h => ⟨_, _, h, kind5_give, kind5_has⟩
  · exact (kind6_any w).mono fun e w' h => ⟨_, _, h, kind6_give, kind6_has⟩
theorem mE_no {k : Int} (h : ¬ (1 ≤ k ∧ k ≤ 6)) (n v m hh p : List UInt8) (L : List Hd) : mE k n v m hh p L = false := by
  unfold mE
  rw [if_neg (by omega), if_neg (by omega), if_neg (by omega), if_neg (by omega), if_neg (by omega), if_neg (by omega)]
theorem cE_no {k : Int} (h : ¬ (1 ≤ k ∧ k ≤ 6)) (n v : List UInt8) : cE k n v = 2 := by
  unfold cE
  rw [if_neg (by omega), if_neg (by omega), if_neg (by omega), if_neg (by omega), if_neg (by omega), if_neg (by omega)]
set_option maxHeartbeats 1600000 in
theorem kindno_any (k : Int) (w : World) (h : ¬ (1 ≤ k ∧ k ≤ 6)) :
    Calls Try.prog 31 #[.int .i64 k] w fun e w' => e = .returned (.tuple #[.agg #[.bool false, .bool false, .nilFunc, .nilFunc], .bool false]) ∧ Below w.heap.size w w' := by
  have hb0 := enew w (.cells #[.bool false, .bool false, .nilFunc, .nilFunc] 57)
  have e1 : (k == 1) = false := by rw [beq_eq_false_iff_ne]; omega
  have e2 : (k == 2) = false := by rw [beq_eq_false_iff_ne]; omega
  have e3 : (k == 3) = false := by rw [beq_eq_false_iff_ne]; omega
  have e4 : (k == 4) = false := by rw [beq_eq_false_iff_ne]; omega
  have e5 : (k == 5) = false := by rw [beq_eq_false_iff_ne]; omega
  have e6 : (k == 6) = false := by rw [beq_eq_false_iff_ne]; omega
  go_enter Try.func31, Try.ntmps31
  go_wp2_with fail
  go_returns
  exact ⟨rfl, hb0⟩
set_option maxRecDepth 100000 in
set_option maxHeartbeats 4000000 in
theorem match_any (m h p b : List UInt8) (x : Value) (L : List Hd) (k : Int) (n v : List UInt8) (w : World) (hx : HV w x L) (hl : L.length ≤ 1000000) {z : Bool} (H : Hid (mE k n v m h p L = z)) :
    Calls Try.prog 14 #[.agg #[.int .i64 k, .string (bs n), .string (bs v)], .agg #[.string (bs m), .string (bs h), .string (bs p), x, .string (bs b)]] w fun e w' => e = .returned (.bool z) ∧ Below w.heap.size w w' := by
  have hb0 := estep (enew w (.cells #[.int .i64 k, .string (bs n), .string (bs v)] 23)) (enew _ (.cells #[.string (bs m), .string (bs h), .string (bs p), x, .string (bs b)] 31))
  have hp0 := (BP.new w k n v).up (enew _ (.cells #[.string (bs m), .string (bs h), .string (bs p), x, .string (bs b)] 31))
  have hq0 := BQ.new (w.alloc (.cells #[.int .i64 k, .string (bs n), .string (bs v)] 23)) m h p x b
  rw [World.size_alloc] at hq0
  have hx0 := hx.up hb0
  by_cases hk : 1 ≤ k ∧ k ≤ 6
  · have HK := hid (fun w2 => kindof_any k w2 hk.1 hk.2)
    clear hk
    go_enter Try.func14, Try.ntmps14
    go_upto_region 1 with (fail)
    generalize (w.alloc (.cells #[.int .i64 k, .string (bs n), .string (bs v)] 23)).alloc (.cells #[.string (bs m), .string (bs h), .string (bs p), x, .string (bs b)] 31) = v0 at *
    obtain ⟨k0, k1, k2⟩ := hp0.cells
    go_wp2_with fail
    refine (HK.out _).mono ?_
    rintro e w1 ⟨G, F, ⟨rfl, hb1⟩, -, hF⟩
    have hb2 := estep hb1 (enew w1 (.cells #[.bool (ndK k), .bool (vlK k), .func (.func G) #[] #[], .func (.func F) #[] #[]] 57))
    have hk2 := Bk.new w1 57 #[.bool (ndK k), .bool (vlK k), .func (.func G) #[] #[], .func (.func F) #[] #[]]
    have hp2 := hp0.up hb2
    have hq2 := hq0.up hb2
    have hx2 := hx0.up hb2
    have hb3 := estep hb0 hb2
    clear hb0 hb1 hb2 hp0 hq0 hx0 k0 k1 k2
    obtain ⟨eg, hFF⟩ := hF
    have HF := hid (fun w2 (h2 : HV w2 x L) => hFF m h p b x L n v w2 h2 hl)
    clear hFF
    go_upto_region 2 with (fail)
    generalize w1.alloc (.cells #[.bool (ndK k), .bool (vlK k), .func (.func G) #[] #[], .func (.func F) #[] #[]] 57) = v2 at *
    obtain ⟨k0, k1, k2⟩ := hp2.cells
    obtain ⟨q0, q1, q2, q3, q4⟩ := hq2.cells
    have s3 := Bk.cell hk2 3
    have e3 : (#[Value.bool (ndK k), .bool (vlK k), .func (.func G) #[] #[], .func (.func F) #[] #[]] : Array Value)[3]? = some (.func (.func F) #[] #[]) := rfl
    rw [e3] at s3
    clear e3
    go_wp2_with fail
    refine (HF.out _ hx2).mono ?_
    rintro e w3 ⟨rfl, hb4⟩
    go_wp2_with fail
    go_returns
    exact ⟨by rw [H.out]; rfl, estep hb3 hb4⟩
  · have HK := hid (fun w2 => kindno_any k w2 hk)
    have HZ := hid (show z = false by rw [← H.out]; exact mE_no hk _ _ _ _ _ _)
    clear hk H
    go_enter Try.func14, Try.ntmps14
    go_upto_region 1 with (fail)
    generalize (w.alloc (.cells #[.int .i64 k, .string (bs n), .string (bs v)] 23)).alloc (.cells #[.string (bs m), .string (bs h), .string (bs p), x, .string (bs b)] 31) = v0 at *
    obtain ⟨k0, k1, k2⟩ := hp0.cells
    go_wp2_with fail
    refine (HK.out _).mono ?_
    rintro e w1 ⟨rfl, hb1⟩
    have hb3 := estep hb0 (estep hb1 (enew w1 (.cells #[.bool false, .bool false, .nilFunc, .nilFunc] 57)))
    clear k0 k1 k2
    go_wp2_with fail
    go_returns
    exact ⟨by rw [HZ.out]; rfl, hb3⟩
set_option maxRecDepth 100000 in
set_option maxHeartbeats 4000000 in
theorem all_any (m h p b : List UInt8) (x : Value) (L : List Hd) (A : Option Addr) (c : Nat) (l : List Pd) (w : World) (hl : PX w (· < w.heap.size) A l) (hln : l.length ≤ 9223372036854775807) (hx : HV w x L) (hL : L.length ≤ 1000000) {z : Bool} (H : Hid (allE l m h p L = z)) :
    Calls Try.prog 16 #[.slice A l.length c, .agg #[.string (bs m), .string (bs h), .string (bs p), x, .string (bs b)]] w fun e w' => e = .returned (.bool z) ∧ Below w.heap.size w w' := by
  have hnot := enot
  have hb0 := enew w (.cells #[.string (bs m), .string (bs h), .string (bs p), x, .string (bs b)] 31)
  have hq0 := BQ.new w m h p x b
  have hx0 := hx.up hb0
  have HR := hid (hl.up hb0)
  clear hl hx
  go_enter Try.func16, Try.ntmps16
  go_upto_region 1 with (fail)
  generalize w.alloc (.cells #[.string (bs m), .string (bs h), .string (bs p), x, .string (bs b)] 31) = v0 at *
  have H0 := hid (And.intro hb0 (And.intro hq0 hx0))
  clear hb0 hq0 hx0
  go_wp2_with fail
  go_loopw [9] (fun i wr => ∃ k : Nat, k ≤ l.length ∧ i = .int .i64 k ∧ Hid (((l.take k).all fun e => mE e.k e.n e.v m h p L) = true ∧ Below v0.heap.size v0 wr)) (fun i _ => l.length - (intOf i).toNat)
  case atStart => exact ⟨0, by omega, rfl, hid ⟨rfl, Below.refl _ _⟩⟩
  case round =>
    obtain ⟨k, hk, rfl, HW⟩ := hrel
    by_cases hlt : k < l.length
    · obtain ⟨bb, o, rfl, hB, c0, c1, c2⟩ := (HR.out.up HW.out.2) k hlt
      have HT := hid (all_take' (fun e => mE e.k e.n e.v m h p L) l k hlt)
      have HF := hid (fun (hp : mE l[k].k l[k].n l[k].v m h p L = false) => all_false' (p := fun e => mE e.k e.n e.v m h p L) hlt hp)
      generalize l[k] = y at *
      obtain ⟨yk, yn, yv⟩ := y
      simp only at c0 c1 c2 HT HF
      have hki : decide ((k : Int) < ((l.length : Nat) : Int)) = true := by simp; omega
      have hb1 := estep HW.out.2 (enew wr (.cells #[.int .i64 yk, .string (bs yn), .string (bs yv)] 23))
      have hp1 := BP.new wr yk yn yv
      have hq1 := (H0.out.2.1.up HW.out.2).up (enew wr (.cells #[.int .i64 yk, .string (bs yn), .string (bs yv)] 23))
      have hx1 := (H0.out.2.2.up HW.out.2).up (enew wr (.cells #[.int .i64 yk, .string (bs yn), .string (bs yv)] 23))
      obtain ⟨zz, hz⟩ : ∃ zz, mE yk yn yv m h p L = zz := ⟨_, rfl⟩
      have HZ := hid hz
      have HM := hid (fun w2 (h2 : HV w2 x L) => match_any m h p b x L yk yn yv w2 h2 hL HZ)
      cases zz
      · have HE := hid (show allE l m h p L = false from HF.out hz)
        clear hz
        go_upto_region 4 with (fail)
        clear c0 c1 c2
        generalize wr.alloc (.cells #[.int .i64 yk, .string (bs yn), .string (bs yv)] 23) = v1 at *
        obtain ⟨c0, c1, c2⟩ := hp1.cells
        obtain ⟨q0, q1, q2, q3, q4⟩ := hq1.cells
        go_wp2_with fail
        refine (HM.out _ hx1).mono ?_
        rintro e w1 ⟨rfl, hb2⟩
        have hb3 := estep H0.out.1 (estep hb1 hb2)
        clear hb1 hb2 hp1 hq1 hx1 c0 c1 c2 q0 q1 q2 q3 q4
        go_wp2_with fail
        go_returns
        exact ⟨by rw [← H.out, HE.out]; rfl, hb3⟩
      · clear hz
        go_upto_region 4 with (fail)
        clear c0 c1 c2
        generalize wr.alloc (.cells #[.int .i64 yk, .string (bs yn), .string (bs yv)] 23) = v1 at *
        obtain ⟨c0, c1, c2⟩ := hp1.cells
        obtain ⟨q0, q1, q2, q3, q4⟩ := hq1.cells
        go_wp2_with fail
        refine (HM.out _ hx1).mono ?_
        rintro e w1 ⟨rfl, hb2⟩
        have hb3 := hid (estep hb1 hb2)
        clear hb1 hb2 hp1 hq1 hx1 c0 c1 c2 q0 q1 q2 q3 q4
        go_wp2_with fail
        go_roundw
        case rel => exact ⟨k + 1, by omega, by go_num, hid ⟨by rw [HT.out, HW.out.1, HZ.out]; rfl, hb3.out⟩⟩
        case measure => simp [intOf]; omega
    · obtain rfl : k = l.length := by omega
      have HE := hid (show allE l m h p L = true by have := HW.out.1; rw [List.take_length] at this; exact this)
      go_wp2_with fail
      go_returns
      exact ⟨by rw [← H.out, HE.out]; rfl, estep H0.out.1 HW.out.2⟩
end Go.Proofs.Ytmdlkoigjacipaa
