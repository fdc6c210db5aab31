/- All behind the laws of chance and decide. -/
import Derived.Test.YtgkegpdmidcmoaaG22
import Derived.BigRegion
import Derived.Test.YtgkegpdmidcmoaaG17
namespace Go.Proofs.Ytgkegpdmidcmoaa
set_option linter.unusedVariables false
set_option linter.unusedSimpArgs false
open Go.RowKit Go.Joins

theorem fireB_left (d b p : Int) : fireB (d + 100 * b) p = fireB d p := by
  unfold fireB
  rw [show (d + 100 * b) % 100 = d % 100 by omega]
theorem ofA_left (hit : Ru → Bool) (U : List Ru) (d0 d1 d2 b0 b1 b2 : Int) (sh : Bool) : ofA hit U (d0 + 100 * b0) (d1 + 100 * b1) (d2 + 100 * b2) sh = ofA hit U d0 d1 d2 sh := by
  unfold ofA ofU pDl pMi
  simp only [fireB_left]
theorem smA_left (hit : Ru → Bool) (U : List Ru) (d b : Int) : smA hit U (d + 100 * b) = smA hit U d := by
  unfold smA
  simp only [fireB_left]
set_option maxRecDepth 100000 in
set_option maxHeartbeats 16000000 in
theorem decideLeft_walk (v : Int) (y : Value) (f : List UInt8) (U : List Ru) (mU : ∀ u ∈ U, okRs u.sem) (hf : f.length ≤ 140737488351232) (m h p b : List UInt8) (x : Value) (L : List Hd) (hL : L.length ≤ 9223372036854775807) (hs : ∀ h ∈ L, h.1.length ≤ 140737488351232 ∧ h.2.length ≤ 140737488351232) (s0 : m.length ≤ 140737488351232) (s1 : h.length ≤ 140737488351232) (s2 : p.length ≤ 140737488351232) (s3 : b.length ≤ 140737488351232) (d0 d1 d2 : Int) (b0 b1 b2 : Int) (h0 : Hid (-9223372036854775808 ≤ d0 ∧ d0 ≤ 9223372036854775807)) (h1 : Hid (-9223372036854775808 ≤ d1 ∧ d1 ≤ 9223372036854775807)) (h2' : Hid (-9223372036854775808 ≤ d2 ∧ d2 ≤ 9223372036854775807)) (hb0' : Hid (-128 ≤ b0 ∧ b0 ≤ 127)) (hb1' : Hid (-128 ≤ b1 ∧ b1 ≤ 127)) (hb2' : Hid (-128 ≤ b2 ∧ b2 ≤ 127)) (w : World) (hy : RV w y U) (hx : HV w x L) :
    Calls Try.prog 8 #[.agg #[.int .i64 v, y, .string (bs f)], .agg #[.string (bs m), .string (bs h), .string (bs p), x, .string (bs b)], .agg #[.int .i64 d0, .int .i64 d1, .int .i64 d2], .agg #[.int .i8 b0, .int .i8 b1, .int .i8 b2]] w fun e w' => e = .returned (.bool true) ∧ Below w.heap.size w w' := by
  obtain ⟨hb01, hb02⟩ := hb0'.out
  obtain ⟨hb11, hb12⟩ := hb1'.out
  obtain ⟨hb21, hb22⟩ := hb2'.out
  obtain ⟨⟨ak, ar, atg, ast, adl, ami⟩, ha⟩ : ∃ a, ofA (fun u => allE u.ps m h p L) U d0 d1 d2 false = a := ⟨_, rfl⟩
  obtain ⟨s, hsm⟩ : ∃ s, smA (fun u => allE u.ps m h p L) U d0 = s := ⟨_, rfl⟩
  have HA := hid ha
  have HS := hid hsm
  clear ha hsm
  have hbx := enew (((w.alloc (.cells #[.int .i64 v, y, .string (bs f)] 33)).alloc (.cells #[.string (bs m), .string (bs h), .string (bs p), x, .string (bs b)] 36)).alloc (.cells #[.int .i64 d0, .int .i64 d1, .int .i64 d2] 25)) (.cells #[.int .i8 b0, .int .i8 b1, .int .i8 b2] 50)
  have hby0 := Bk.new (((w.alloc (.cells #[.int .i64 v, y, .string (bs f)] 33)).alloc (.cells #[.string (bs m), .string (bs h), .string (bs p), x, .string (bs b)] 36)).alloc (.cells #[.int .i64 d0, .int .i64 d1, .int .i64 d2] 25)) 50 #[.int .i8 b0, .int .i8 b1, .int .i8 b2]
  have hnot := enot
  have hg := ac_guard
  have hb1 := enew w (.cells #[.int .i64 v, y, .string (bs f)] 33)
  have hb2 := enew (w.alloc (.cells #[.int .i64 v, y, .string (bs f)] 33)) (.cells #[.string (bs m), .string (bs h), .string (bs p), x, .string (bs b)] 36)
  have hb3 := enew ((w.alloc (.cells #[.int .i64 v, y, .string (bs f)] 33)).alloc (.cells #[.string (bs m), .string (bs h), .string (bs p), x, .string (bs b)] 36)) (.cells #[.int .i64 d0, .int .i64 d1, .int .i64 d2] 25)
  have ht := (BT.new w v y f).up (estep hb2 hb3)
  have hq := (BQ.new (w.alloc (.cells #[.int .i64 v, y, .string (bs f)] 33)) m h p x b).up hb3
  have hd := BA.new ((w.alloc (.cells #[.int .i64 v, y, .string (bs f)] 33)).alloc (.cells #[.string (bs m), .string (bs h), .string (bs p), x, .string (bs b)] 36)) d0 d1 d2
  simp only [World.size_alloc] at hq hd hby0
  have ht := ht.up hbx
  have hq := hq.up hbx
  have hd := hd.up hbx
  have hb0 := estep (estep hb1 (estep hb2 hb3)) hbx
  have H0 := hid (And.intro (hy.up hb0) (And.intro (hx.up hb0) hb0))
  obtain ⟨zf, hzf⟩ : ∃ z, fewC f (U.map Ru.sem) = z := ⟨_, rfl⟩
  obtain ⟨zq, hzq⟩ : ∃ z, fewR m h p L b = z := ⟨_, rfl⟩
  have HZ := hid hzq
  have HFT := hid (fun w2 (h1 : RV w2 y U) => tfew_any v y f U w2 h1 mU hf (hid hzf))
  have HFQ := hid (fun w2 (h1 : HV w2 x L) => rfew_any m h p b x L w2 h1 hL hs s0 s1 s2 s3 (hid hzq))
  have HSM := hid (fun u (hu : u ∈ U) => (mU u hu).1)
  have HPL := hid s2
  clear hbx hzf hzq mU hf hL hs s0 s1 s2 s3 hb1 hb2 hb3 hb0 hy hx
  have hby := hby0
  clear hby0
  go_enter Try.func8, Try.ntmps8
  go_upto_region 1 with (fail)
  generalize (((w.alloc (.cells #[.int .i64 v, y, .string (bs f)] 33)).alloc (.cells #[.string (bs m), .string (bs h), .string (bs p), x, .string (bs b)] 36)).alloc (.cells #[.int .i64 d0, .int .i64 d1, .int .i64 d2] 25)).alloc (.cells #[.int .i8 b0, .int .i8 b1, .int .i8 b2] 50) = v0 at *
  obtain ⟨t0, t1, t2⟩ := ht.cells
  go_wp2_with fail
  refine (HFT.out _ H0.out.1).mono ?_
  rintro e w1 ⟨rfl, hb1⟩
  clear t0 t1 t2
  have H1 := hid (And.intro (H0.out.1.up hb1) (And.intro (H0.out.2.1.up hb1) hb1))
  clear hb1
  cases zf
  · go_wp2_with fail
    refine (known16_any _).mono ?_
    rintro e w2 ⟨rfl, hb2⟩
    go_wp2_with fail
    go_returns
    exact ⟨rfl, estep H0.out.2.2 (estep H1.out.2.2 hb2)⟩
  obtain ⟨q0, q1, q2, q3, q4⟩ := (hq.up H1.out.2.2).cells
  go_wp2_with fail
  refine (HFQ.out _ H1.out.2.1).mono ?_
  rintro e w3 ⟨rfl, hb3⟩
  clear q0 q1 q2 q3 q4
  have H3 := hid (And.intro (H1.out.1.up hb3) (And.intro (H1.out.2.1.up hb3) (estep H1.out.2.2 hb3)))
  clear hb3
  cases zq
  · go_wp2_with fail
    refine (known16_any _).mono ?_
    rintro e w4 ⟨rfl, hb4⟩
    go_wp2_with fail
    go_returns
    exact ⟨rfl, estep H0.out.2.2 (estep H3.out.2.2 hb4)⟩
  have HLH := hid (show L.length ≤ 1000000 by have := fewR_len HZ.out; omega)
  clear HZ HFT HFQ
  have ht := ht.up H3.out.2.2
  have hq := hq.up H3.out.2.2
  have hd := hd.up H3.out.2.2
  have hby := hby.up H3.out.2.2
  have HM0 := hid (BA.new w3 d0 d1 d2)
  have HB4 := hid (enew w3 (.cells #[.int .i64 d0, .int .i64 d1, .int .i64 d2] 25))
  obtain ⟨dc0, dc1, dc2⟩ := hd.cells
  go_upto_region 4 with (fail)
  generalize w3.alloc (.cells #[.int .i64 d0, .int .i64 d1, .int .i64 d2] 25) = v4 at *
  have hg4 : w.heap.size + 3 < w3.heap.size := Bk.lt hby
  have HG4 := hid hg4
  have hgs : w3.heap.size ≤ w3.heap.size := Nat.le_refl _
  generalize hg4e : w3.heap.size = g4 at *
  have HGE := hid hg4e
  clear dc0 dc1 dc2 hg4 hg4e
  have HB := hid (And.intro ht (And.intro hq (And.intro hd hby)))
  clear ht hq hd hby
  go_wp2_with fail
  go_loopw [10] (fun i wr => ∃ k : Int, (k = 0 ∨ k = 1 ∨ k = 2 ∨ k = 3) ∧ i = .int .i64 k ∧ Hid (∃ m0 m1 m2 : Int, BA wr g4 m0 m1 m2 ∧ Below g4 w3 wr ∧ ((1 ≤ k → m0 = d0 + 100 * b0 ∧ -1000000 ≤ d0 ∧ d0 ≤ 1000000) ∧ (2 ≤ k → m1 = d1 + 100 * b1 ∧ -1000000 ≤ d1 ∧ d1 ≤ 1000000) ∧ (3 ≤ k → m2 = d2 + 100 * b2 ∧ -1000000 ≤ d2 ∧ d2 ≤ 1000000)))) (fun i _ => (3 - intOf i).toNat)
  case atStart => exact ⟨0, by omega, rfl, hid ⟨d0, d1, d2, HM0.out, HB4.out, by omega, by omega, by omega⟩⟩
  case round =>
    obtain ⟨k, hk, rfl, m0, m1, m2, hm, hbg, hi⟩ := hrel
    have HW : Hid (Below w3.heap.size w3 wr) := hid (by rw [HGE.out]; exact hbg)
    have HBG := hid hbg
    have HM := hid hm
    have HI := hid hi
    clear hbg hm hi
    rcases hk with rfl | rfl | rfl | rfl
    · obtain ⟨dc0, dc1, dc2⟩ := (HB.out.2.2.1.up HW.out).cells
      have bc := Bk.cell (HB.out.2.2.2.up HW.out) 0
      simp at bc
      obtain ⟨mc0, mc1, mc2⟩ := HM.out.cells
      obtain ⟨mf0, mf1, mf2⟩ := HM.out.froz
      by_cases g1 : d0 < -1000000
      · go_wp2_with fail
        refine (known16_any _).mono ?_
        rintro e w6 ⟨rfl, hb6⟩
        go_wp2_with fail
        go_returns
        exact ⟨rfl, estep H0.out.2.2 (estep H3.out.2.2 (estep HW.out hb6))⟩
      by_cases g2 : 1000000 < d0
      · go_wp2_with fail
        refine (known16_any _).mono ?_
        rintro e w6 ⟨rfl, hb6⟩
        go_wp2_with fail
        go_returns
        exact ⟨rfl, estep H0.out.2.2 (estep H3.out.2.2 (estep HW.out hb6))⟩
      have g3 : -1000000 ≤ d0 := by omega
      have g5 : d0 ≤ 1000000 := by omega
      have HD1 := hid g3
      have HD2 := hid g5
      go_upto_region 9 with (fail)
      go_region
      go_wp2_with fail
      go_roundw
      case measure => simp [intOf]
      case rel => exact ⟨1, by omega, rfl, hid ⟨d0 + 100 * b0, m1, m2, (HM.out.set0 _).drew, (HBG.out.setCell (p := ⟨g4, 0, none⟩) (by show _ ≤ g4; omega) _).drew, fun _ => ⟨rfl, HD1.out, HD2.out⟩, fun h => absurd h (by omega), fun h => absurd h (by omega)⟩⟩
    · obtain ⟨dc0, dc1, dc2⟩ := (HB.out.2.2.1.up HW.out).cells
      have bc := Bk.cell (HB.out.2.2.2.up HW.out) 1
      simp at bc
      obtain ⟨mc0, mc1, mc2⟩ := HM.out.cells
      obtain ⟨mf0, mf1, mf2⟩ := HM.out.froz
      by_cases g1 : d1 < -1000000
      · go_wp2_with fail
        refine (known16_any _).mono ?_
        rintro e w6 ⟨rfl, hb6⟩
        go_wp2_with fail
        go_returns
        exact ⟨rfl, estep H0.out.2.2 (estep H3.out.2.2 (estep HW.out hb6))⟩
      by_cases g2 : 1000000 < d1
      · go_wp2_with fail
        refine (known16_any _).mono ?_
        rintro e w6 ⟨rfl, hb6⟩
        go_wp2_with fail
        go_returns
        exact ⟨rfl, estep H0.out.2.2 (estep H3.out.2.2 (estep HW.out hb6))⟩
      have g3 : -1000000 ≤ d1 := by omega
      have g5 : d1 ≤ 1000000 := by omega
      have HD1 := hid g3
      have HD2 := hid g5
      go_upto_region 9 with (fail)
      go_region
      go_wp2_with fail
      go_roundw
      case measure => simp [intOf]
      case rel => exact ⟨2, by omega, rfl, hid ⟨m0, d1 + 100 * b1, m2, (HM.out.set1 _).drew, (HBG.out.setCell (p := ⟨g4, 1, none⟩) (by show _ ≤ g4; omega) _).drew, fun _ => HI.out.1 (by omega), fun _ => ⟨rfl, HD1.out, HD2.out⟩, fun h => absurd h (by omega)⟩⟩
    · obtain ⟨dc0, dc1, dc2⟩ := (HB.out.2.2.1.up HW.out).cells
      have bc := Bk.cell (HB.out.2.2.2.up HW.out) 2
      simp at bc
      obtain ⟨mc0, mc1, mc2⟩ := HM.out.cells
      obtain ⟨mf0, mf1, mf2⟩ := HM.out.froz
      by_cases g1 : d2 < -1000000
      · go_wp2_with fail
        refine (known16_any _).mono ?_
        rintro e w6 ⟨rfl, hb6⟩
        go_wp2_with fail
        go_returns
        exact ⟨rfl, estep H0.out.2.2 (estep H3.out.2.2 (estep HW.out hb6))⟩
      by_cases g2 : 1000000 < d2
      · go_wp2_with fail
        refine (known16_any _).mono ?_
        rintro e w6 ⟨rfl, hb6⟩
        go_wp2_with fail
        go_returns
        exact ⟨rfl, estep H0.out.2.2 (estep H3.out.2.2 (estep HW.out hb6))⟩
      have g3 : -1000000 ≤ d2 := by omega
      have g5 : d2 ≤ 1000000 := by omega
      have HD1 := hid g3
      have HD2 := hid g5
      go_upto_region 9 with (fail)
      go_region
      go_wp2_with fail
      go_roundw
      case measure => simp [intOf]
      case rel => exact ⟨3, by omega, rfl, hid ⟨m0, m1, d2 + 100 * b2, (HM.out.set2 _).drew, (HBG.out.setCell (p := ⟨g4, 2, none⟩) (by show _ ≤ g4; omega) _).drew, fun _ => HI.out.1 (by omega), fun _ => HI.out.2.1 (by omega), fun _ => ⟨rfl, HD1.out, HD2.out⟩⟩⟩
    · obtain rfl := (HI.out.1 (by omega)).1
      obtain rfl := (HI.out.2.1 (by omega)).1
      obtain rfl := (HI.out.2.2 (by omega)).1
      have GD := hid (And.intro (HI.out.1 (by omega)).2 (And.intro (HI.out.2.1 (by omega)).2 (HI.out.2.2 (by omega)).2))
      clear HI
      have ha := HA.out
      have hsm := HS.out
      have ha2 := (ofA_left (fun u => allE u.ps m h p L) U d0 d1 d2 b0 b1 b2 false).trans ha
      have hsm2 := (smA_left (fun u => allE u.ps m h p L) U d0 b0).trans hsm
      have HO : Hid (∀ (w2 : World), Below wr.heap.size wr w2 → Calls Try.prog 19 #[.agg #[.int .i64 v, y, .string (bs f)], .agg #[.string (bs m), .string (bs h), .string (bs p), x, .string (bs b)], .agg #[.int .i64 d0, .int .i64 d1, .int .i64 d2], .bool false] w2 fun e w' => e = .returned (.agg #[.int .i64 ak, .int .i64 ar, .string (bs atg), .int .i64 ast, .int .i64 adl, .string (bs ami)]) ∧ Below w2.heap.size w2 w') := hid fun w2 h2 => of_any v y f U m h p b x L d0 d1 d2 false w2 (H3.out.1.up (estep HW.out h2)) (H3.out.2.1.up (estep HW.out h2)) HLH.out h0.out h1.out h2'.out (a := ⟨ak, ar, atg, ast, adl, ami⟩) (hid ha)
      have HO2 : Hid (∀ (w2 : World), Below wr.heap.size wr w2 → Calls Try.prog 19 #[.agg #[.int .i64 v, y, .string (bs f)], .agg #[.string (bs m), .string (bs h), .string (bs p), x, .string (bs b)], .agg #[.int .i64 (d0 + 100 * b0), .int .i64 (d1 + 100 * b1), .int .i64 (d2 + 100 * b2)], .bool false] w2 fun e w' => e = .returned (.agg #[.int .i64 ak, .int .i64 ar, .string (bs atg), .int .i64 ast, .int .i64 adl, .string (bs ami)]) ∧ Below w2.heap.size w2 w') := hid fun w2 h2 => of_any v y f U m h p b x L (d0 + 100 * b0) (d1 + 100 * b1) (d2 + 100 * b2) false w2 (H3.out.1.up (estep HW.out h2)) (H3.out.2.1.up (estep HW.out h2)) HLH.out ⟨by have := GD.out.1; omega, by have := GD.out.1; omega⟩ ⟨by have := GD.out.2.1; omega, by have := GD.out.2.1; omega⟩ ⟨by have := GD.out.2.2; omega, by have := GD.out.2.2; omega⟩ (a := ⟨ak, ar, atg, ast, adl, ami⟩) (hid ha2)
      have HSA : Hid (∀ (w2 : World), Below wr.heap.size wr w2 → Calls Try.prog 21 #[.agg #[.int .i64 v, y, .string (bs f)], .agg #[.string (bs m), .string (bs h), .string (bs p), x, .string (bs b)], .int .i64 d0] w2 fun e w' => e = .returned (.bool s) ∧ Below w2.heap.size w2 w') := hid fun w2 h2 => sampled_any v y f U m h p b x L d0 w2 (H3.out.1.up (estep HW.out h2)) (H3.out.2.1.up (estep HW.out h2)) HLH.out h0.out (hid hsm)
      have HSB : Hid (∀ (w2 : World), Below wr.heap.size wr w2 → Calls Try.prog 21 #[.agg #[.int .i64 v, y, .string (bs f)], .agg #[.string (bs m), .string (bs h), .string (bs p), x, .string (bs b)], .int .i64 (d0 + 100 * b0)] w2 fun e w' => e = .returned (.bool s) ∧ Below w2.heap.size w2 w') := hid fun w2 h2 => sampled_any v y f U m h p b x L (d0 + 100 * b0) w2 (H3.out.1.up (estep HW.out h2)) (H3.out.2.1.up (estep HW.out h2)) HLH.out ⟨by have := GD.out.1; omega, by have := GD.out.1; omega⟩ (hid hsm2)
      clear ha hsm ha2 hsm2 HA HS
      have he : ∀ w : World, (binOp .eql 40 (.agg #[.int .i64 ak, .int .i64 ar, .string (bs atg), .int .i64 ast, .int .i64 adl, .string (bs ami)]) (.agg #[.int .i64 ak, .int .i64 ar, .string (bs atg), .int .i64 ast, .int .i64 adl, .string (bs ami)])).run Try.prog w = .ok (.bool true) w := fun w => ac_eql w _ _ _ _ _ _
      obtain ⟨t0, t1, t2⟩ := (HB.out.1.up HW.out).cells
      obtain ⟨q0, q1, q2, q3, q4⟩ := (HB.out.2.1.up HW.out).cells
      obtain ⟨dc0, dc1, dc2⟩ := (HB.out.2.2.1.up HW.out).cells
      obtain ⟨mc0, mc1, mc2⟩ := HM.out.cells
      have K0 := BW.cell t0
      have K1 := BW.cell t1
      have K2 := BW.cell t2
      have K3 := BW.cell q0
      have K4 := BW.cell q1
      have K5 := BW.cell q2
      have K6 := BW.cell q3
      have K7 := BW.cell q4
      have K8 := BW.cell dc0
      have K9 := BW.cell dc1
      have K10 := BW.cell dc2
      have K11 := BW.cell mc0
      have K12 := BW.cell mc1
      have K13 := BW.cell mc2
      clear t0 t1 t2 q0 q1 q2 q3 q4 dc0 dc1 dc2 mc0 mc1 mc2
      go_upto_region 10 with (fail)
      refine wp_region_bw (by kernel_rfl) (by kernel_rfl) ?_
      repeat (go_big_quiet_step ((first
        | (go_at_call 19; first | with_reducible exact calls_bw (HO.out _ (BW.h _)) | with_reducible exact calls_bw (HO2.out _ (BW.h _)))
        | (go_at_call 21; first | with_reducible exact calls_bw (HSA.out _ (BW.h _)) | with_reducible exact calls_bw (HSB.out _ (BW.h _)))
        | (go_at_call 18; with_reducible exact calls_bw (known16_any _)))))
      refine wpQuiet_nil ?_
      rintro _ ⟨pq, rfl⟩
      clear K0 K1 K2 K3 K4 K5 K6 K7 K8 K9 K10 K11 K12 K13
      have HB9 := hid (estep H0.out.2.2 (estep H3.out.2.2 (estep HW.out pq.h)))
      go_wp2_with fail
      go_returns
      exact ⟨rfl, HB9.out⟩
end Go.Proofs.Ytgkegpdmidcmoaa
namespace Go.Proofs.Ytgkegpdmidcmoaa
theorem dz_here : True := trivial
end Go.Proofs.Ytgkegpdmidcmoaa
