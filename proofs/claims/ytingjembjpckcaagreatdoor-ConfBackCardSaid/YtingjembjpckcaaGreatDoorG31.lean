/- Texts put together: Na Nb Nc. -/
import Derived.Test.YtingjembjpckcaaGreatDoorG26
import Derived.Test.YtingjembjpckcaaGreatDoorG30
import Derived.Test.YtingjembjpckcaaGreatDoorG19
namespace Go.Proofs.YtingjembjpckcaaGreatDoor
set_option linter.unusedVariables false
set_option linter.unusedSimpArgs false
open Go.RowKit Go.Joins

def c13fewC (f : List UInt8) (U : List Rs) : Bool := decide (f.length ≤ 400) && fewRu U
theorem c13rufew_rv (y : Value) (U : List Ru) (w : World) (h : RV w y U) (hs : ∀ u ∈ U, okRs u.sem) {z : Bool} (H : Hid (fewRu (U.map Ru.sem) = z)) :
    Calls Tryz.prog 13 #[y] w fun e w' => e = .returned (.bool z) ∧ Below w.heap.size w w' := by
  obtain ⟨A, c, rfl, hgx, hrp, -, -, hl9⟩ := h
  exact rufew_any A c U w hgx hrp hs hl9 H
set_option maxRecDepth 100000 in
set_option maxHeartbeats 4000000 in
theorem c13cfew_any (y : Value) (f : List UInt8) (U : List Ru) (w : World) (hy : RV w y U) (hs : ∀ u ∈ U, okRs u.sem) (hf : f.length ≤ 140737488351232) {z : Bool} (H : Hid (c13fewC f (U.map Ru.sem) = z)) :
    Calls Tryz.prog 5 #[.agg #[y, .string (bs f)]] w fun e w' => e = .returned (.bool z) ∧ Below w.heap.size w w' := by
  have hb1 := enew w (.cells #[y, .string (bs f)] 24)
  have hk0 := BF.new w y f
  have HY := hid (hy.up hb1)
  have HB := hid hb1
  have HS := hid hs
  have HF := hid (show z = (decide (f.length ≤ 400) && fewRu (U.map Ru.sem)) from H.out.symm)
  clear hy hb1 hs H
  by_cases h4 : f.length ≤ 400
  · have d1 : decide ((f.length : Int) ≤ 400) = true := decide_eq_true (by omega)
    have HFW := hid (show fewRu (U.map Ru.sem) = z by rw [HF.out, decide_eq_true h4]; rfl)
    have HC := hid (fun (w2 : World) (h : RV w2 y U) => c13rufew_rv y U w2 h HS.out HFW)
    clear h4
    go_enter Tryz.func5, Tryz.ntmps5
    go_upto_region 1 with (fail)
    generalize w.alloc (.cells #[y, .string (bs f)] 24) = v0 at *
    obtain ⟨k0, k1⟩ := hk0.cells
    go_wp2_with fail
    refine (HC.out _ HY.out).mono ?_
    rintro e w1 ⟨rfl, hb2⟩
    go_wp2_with fail
    go_returns
    exact ⟨rfl, estep HB.out hb2⟩
  · have d1 : decide ((f.length : Int) ≤ 400) = false := decide_eq_false (by omega)
    have HZ := hid (show z = false by rw [HF.out, decide_eq_false h4]; rfl)
    clear h4
    go_enter Tryz.func5, Tryz.ntmps5
    go_upto_region 1 with (fail)
    generalize w.alloc (.cells #[y, .string (bs f)] 24) = v0 at *
    obtain ⟨k0, k1⟩ := hk0.cells
    go_wp2_with fail
    go_returns
    exact ⟨by rw [HZ.out]; rfl, HB.out⟩
theorem c13rsame_rv (y1 y2 : Value) (U V : List Ru) (w : World) (he : U.map Ru.sem = V.map Ru.sem) (h1 : RV w y1 U) (h2 : RV w y2 V) (hl : U.length ≤ 1000000) :
    Calls Tryz.prog 22 #[y1, y2] w fun e w' => e = .returned (.bool true) ∧ Below w.heap.size w w' := by
  obtain ⟨A, c, rfl, hx, hp, -⟩ := h1
  obtain ⟨B, d, rfl, hx2, hp2, -⟩ := h2
  exact rsame_any A B c d U V w he hx hp hx2 hp2 hl
set_option maxHeartbeats 1600000 in
theorem rcsame_any (f : List UInt8) (y1 y2 : Value) (U V : List Ru) (w : World) (he : U.map Ru.sem = V.map Ru.sem) (h1 : RV w y1 U) (h2 : RV w y2 V) (hl : U.length ≤ 1000000) :
    Calls Tryz.prog 12 #[.agg #[y1, .string (bs f)], .agg #[y2, .string (bs f)]] w fun e w' => e = .returned (.bool true) ∧ Below w.heap.size w w' := by
  have hb1 := enew w (.cells #[y1, .string (bs f)] 24)
  have hb2 := enew (w.alloc (.cells #[y1, .string (bs f)] 24)) (.cells #[y2, .string (bs f)] 24)
  have hr0 := (BF.new w y1 f).up hb2
  have hs0 := BF.new (w.alloc (.cells #[y1, .string (bs f)] 24)) y2 f
  rw [World.size_alloc] at hs0
  have hb0 := estep hb1 hb2
  have HB := hid hb0
  have HS := hid (c13rsame_rv y1 y2 U V _ he (h1.up hb0) (h2.up hb0) hl)
  clear hb1 hb2 hb0 h1 h2
  go_enter Tryz.func12, Tryz.ntmps12
  go_upto_region 1 with (fail)
  generalize (w.alloc (.cells #[y1, .string (bs f)] 24)).alloc (.cells #[y2, .string (bs f)] 24) = v0 at *
  obtain ⟨k0, k1⟩ := hr0.cells
  obtain ⟨d0, d1⟩ := hs0.cells
  go_wp2_with fail
  refine HS.out.mono ?_
  rintro e w1 ⟨rfl, hb2⟩
  go_wp2_with fail
  go_returns
  exact ⟨rfl, estep HB.out hb2⟩
def k13a (g : Nat) : Ru := ⟨5, some ⟨g, 0, none⟩, 2, 2, [⟨4, [], [47, 97]⟩, ⟨5, [107], [118, 32, 119]⟩], [98], 0, 0, 10, 3, 0, [], 100⟩
def k13f : List UInt8 := [37, 80, 65, 84, 72, 37, 32, 120]
def k13t : List UInt8 := [102, 111, 114, 109, 97, 116, 32, 37, 80, 65, 84, 72, 37, 32, 120, 10, 114, 117, 108, 101, 32, 53, 10, 112, 114, 101, 102, 105, 120, 32, 47, 97, 10, 104, 101, 97, 100, 32, 107, 32, 118, 32, 119, 10, 116, 111, 32, 98, 10, 100, 101, 108, 97, 121, 32, 49, 48, 32, 51, 10, 115, 97, 109, 112, 108, 101, 32, 49, 48, 48, 10, 101, 110, 100, 10]
def k13s : List UInt8 := [114, 117, 108, 101, 32, 53, 10, 116, 111, 32, 98, 10, 114, 117, 108, 101, 10]
theorem k13_chk (g : Nat) : chkC cfR k13f [(k13a g).sem] = 0 := by
  show chkC cfR k13f [(k13a 0).sem] = 0
  decide +kernel
theorem k13_text (g : Nat) : confN k13f [(k13a g).sem] = k13t := by
  show confN k13f [(k13a 0).sem] = k13t
  decide +kernel
theorem k13_bad : readC k13s = (([], []), 3, 3) := by decide +kernel
end Go.Proofs.YtingjembjpckcaaGreatDoor
namespace Go.Proofs.YtingjembjpckcaaGreatDoor
set_option linter.unusedVariables false
set_option linter.unusedSimpArgs false
open Go.RowKit Go.Joins

theorem k13_rv (w : World) (g gp : Nat) (h : Bk w g 40 #[.int .i64 5, .slice (some ⟨gp, 0, none⟩) 2 2, .string (bs [98]), .int .i64 0, .int .i64 0, .int .i64 10, .int .i64 3, .int .i64 0, .string (bs []), .int .i64 100]) (hp : Bk w gp 37 #[.int .i64 4, .string (bs []), .string (bs [47, 97]), .int .i64 5, .string (bs [107]), .string (bs [118, 32, 119])]) : RV w (.slice (some ⟨g, 0, none⟩) 1 1) [k13a gp] := by
  refine ⟨some ⟨g, 0, none⟩, 1, rfl, (GX.one (x := k13a gp) (enc := encR) (k := 10) h rfl).imp (fun b hb => by rw [hb]; exact Bk.lt h), fun u hu => ?_, by simp, by simp, by simp⟩
  have e : u = k13a gp := by simpa using hu
  subst e
  refine ⟨some ⟨gp, 0, none⟩, 2, rfl, fun k hk => ?_, by simp, by simp [k13a], by simp [k13a]⟩
  match k, hk with
  | 0, _ => exact ⟨gp, 0, rfl, Bk.lt hp, Bk.cell hp 0, Bk.cell hp 1, Bk.cell hp 2⟩
  | 1, _ => exact ⟨gp, 0, rfl, Bk.lt hp, Bk.cell hp 3, Bk.cell hp 4, Bk.cell hp 5⟩
theorem k13_ok (g : Nat) : ∀ u ∈ [k13a g], okRs u.sem := fun u hu => by
  have e : u = k13a g := by simpa using hu
  subst e
  exact ⟨by simp [smallP, k13a, Ru.sem], by simp [k13a, Ru.sem], by simp [k13a, Ru.sem], by simp [k13a, Ru.sem]⟩
set_option maxRecDepth 100000 in
set_option maxHeartbeats 8000000 in
theorem known13_any (w : World) (E : EnvC w) : Calls Tryz.prog 6 #[] w fun e w' => e = .returned (.bool true) ∧ Below w.heap.size w w' := by
  have hnot := enot
  have c0 : (ByteArray.mk #[]) = bs [] := rfl
  have c1 : (ByteArray.mk #[47, 97]) = bs [47, 97] := rfl
  have c2 : (ByteArray.mk #[107]) = bs [107] := rfl
  have c3 : (ByteArray.mk #[118, 32, 119]) = bs [118, 32, 119] := rfl
  have c4 : (ByteArray.mk #[98]) = bs [98] := rfl
  have c5 : (ByteArray.mk #[37, 80, 65, 84, 72, 37, 32, 120]) = bs k13f := rfl
  have c6 : (ByteArray.mk #[114, 117, 108, 101, 32, 53, 10, 116, 111, 32, 98, 10, 114, 117, 108, 101, 10]) = bs k13s := rfl
  have c7 : (ByteArray.mk #[102, 111, 114, 109, 97, 116, 32, 37, 80, 65, 84, 72, 37, 32, 120, 10, 114, 117, 108, 101, 32, 53, 10, 112, 114, 101, 102, 105, 120, 32, 47, 97, 10, 104, 101, 97, 100, 32, 107, 32, 118, 32, 119, 10, 116, 111, 32, 98, 10, 100, 101, 108, 97, 121, 32, 49, 48, 32, 51, 10, 115, 97, 109, 112, 108, 101, 32, 49, 48, 48, 10, 101, 110, 100, 10]) = bs k13t := rfl
  have c8 : (ByteArray.mk ([102, 111, 114, 109, 97, 116, 32, 37, 80, 65, 84, 72, 37, 32, 120, 10, 114, 117, 108, 101, 32, 53, 10, 112, 114, 101, 102, 105, 120, 32, 47, 97, 10, 104, 101, 97, 100].append [32, 107, 32, 118, 32, 119, 10, 116, 111, 32, 98, 10, 100, 101, 108, 97, 121, 32, 49, 48, 32, 51, 10, 115, 97, 109, 112, 108, 101, 32, 49, 48, 48, 10, 101, 110, 100, 10]).toArray) = bs k13t := rfl
  have hb0 := enew w (.cells #[.int .i64 4, .string (bs []), .string (bs [47, 97]), .int .i64 5, .string (bs [107]), .string (bs [118, 32, 119])] 37)
  have hp0 := Bk.new w 37 #[.int .i64 4, .string (bs []), .string (bs [47, 97]), .int .i64 5, .string (bs [107]), .string (bs [118, 32, 119])]
  have hb1 := enew (w.alloc (.cells #[.int .i64 4, .string (bs []), .string (bs [47, 97]), .int .i64 5, .string (bs [107]), .string (bs [118, 32, 119])] 37)) (.cells #[.int .i64 5, .slice (some ⟨w.heap.size, 0, none⟩) 2 2, .string (bs [98]), .int .i64 0, .int .i64 0, .int .i64 10, .int .i64 3, .int .i64 0, .string (bs []), .int .i64 100] 40)
  have hk1 := Bk.new (w.alloc (.cells #[.int .i64 4, .string (bs []), .string (bs [47, 97]), .int .i64 5, .string (bs [107]), .string (bs [118, 32, 119])] 37)) 40 #[.int .i64 5, .slice (some ⟨w.heap.size, 0, none⟩) 2 2, .string (bs [98]), .int .i64 0, .int .i64 0, .int .i64 10, .int .i64 3, .int .i64 0, .string (bs []), .int .i64 100]
  rw [World.size_alloc] at hk1
  generalize hv0 : (w.alloc (.cells #[.int .i64 4, .string (bs []), .string (bs [47, 97]), .int .i64 5, .string (bs [107]), .string (bs [118, 32, 119])] 37)).alloc (.cells #[.int .i64 5, .slice (some ⟨w.heap.size, 0, none⟩) 2 2, .string (bs [98]), .int .i64 0, .int .i64 0, .int .i64 10, .int .i64 3, .int .i64 0, .string (bs []), .int .i64 100] 40) = v0 at *
  have hp1 := hp0.up hb1
  have hv := k13_rv v0 _ _ hk1 hp1
  have hB := hid (estep hb0 hb1)
  have hs0 : v0.heap.size = w.heap.size + 1 + 1 := by rw [← hv0]; simp
  have hbc := enew v0 (.cells #[.slice (some ⟨w.heap.size + 1, 0, none⟩) 1 1, .string (bs k13f)] 24)
  have hkc := BF.new v0 (.slice (some ⟨w.heap.size + 1, 0, none⟩) 1 1) k13f
  rw [hs0] at hkc
  have HV0 := hid (hv.up hbc)
  have HB0 := hid (estep hB.out hbc)
  have HE0 := hid (E.up HB0.out)
  clear hb0 hp0 hb1 hk1 hp1 hv hbc hs0 E
  subst hv0
  have lf : k13f.length = 8 := by decide
  have lt : k13t.length = 75 := by decide
  have ls : k13s.length = 17 := by decide
  go_enter Tryz.func6, Tryz.ntmps6
  go_upto_region 2 with (fail)
  generalize ((w.alloc (.cells #[.int .i64 4, .string (bs []), .string (bs [47, 97]), .int .i64 5, .string (bs [107]), .string (bs [118, 32, 119])] 37)).alloc (.cells #[.int .i64 5, .slice (some ⟨w.heap.size, 0, none⟩) 2 2, .string (bs [98]), .int .i64 0, .int .i64 0, .int .i64 10, .int .i64 3, .int .i64 0, .string (bs []), .int .i64 100] 40)).alloc (.cells #[.slice (some ⟨w.heap.size + 1, 0, none⟩) 1 1, .string (bs k13f)] 24) = v1 at *
  have HKC := hid hkc
  obtain ⟨q0, q1⟩ := hkc.cells
  have HW := hid (cwrite_any (t := k13t) (z := 0) _ k13f [k13a w.heap.size] v1 HE0.out HV0.out (k13_ok _) (by omega) (hid (by show wrC k13f [(k13a w.heap.size).sem] = _; rw [wrC, if_pos (k13_chk _), k13_text])))
  have HR1 := hid (fun (w2 : World) (e : EnvC w2) => read_any (X := ((k13f, [(k13a 0).sem]), 0, 0)) k13t w2 e (by omega) (hid (by
    have h := readC_back (k13_chk 0) (by rw [k13_text]; omega)
    rw [k13_text] at h
    exact h)))
  have HR2 := hid (fun (w2 : World) (e : EnvC w2) => read_any (X := (([], []), 3, 3)) k13s w2 e (by omega) (hid k13_bad))
  have HCK := hid (fun (w2 : World) (h : Below v1.heap.size v1 w2) => ccheck_any (z := 0) _ k13f [k13a w.heap.size] w2 (HV0.out.up h) (k13_ok _) (by omega) (hid (k13_chk _)))
  clear hkc lf lt ls
  generalize k13t = tt at *
  generalize k13s = ts at *
  go_wp2_with fail
  refine HW.out.mono ?_
  rintro e w1 ⟨rfl, hb1⟩
  have HB1 := hid hb1
  clear q0 q1 hb1 HW
  go_wp2_with fail
  refine (HR1.out _ (HE0.out.up HB1.out)).mono ?_
  rintro e w2 ⟨⟨y1, V1, rfl, hrv1, hvm1, -⟩, hb2⟩
  obtain ⟨A1, cc1, rfl, -⟩ := id hrv1
  simp only at hvm1
  have hbt := enew w2 (.cells #[.slice A1 V1.length cc1, .string (bs k13f)] 24)
  have hk2 := BF.new w2 (.slice A1 V1.length cc1) k13f
  have H2 := hid (And.intro (hrv1.up hbt) (And.intro hvm1 (estep HB1.out (estep hb2 hbt))))
  generalize V1.length = n1 at *
  clear hrv1 hvm1 hb2 hbt HR1
  go_upto_region 5 with (fail)
  generalize w2.alloc (.cells #[.slice A1 n1 cc1, .string (bs k13f)] 24) = v2 at *
  have HK2 := hid hk2
  clear hk2
  go_wp2_with fail
  refine (HR2.out _ (HE0.out.up H2.out.2.2)).mono ?_
  rintro e w3 ⟨⟨y2, V2, rfl, hrv2, hvm2, -⟩, hb3⟩
  obtain ⟨A2, cc2, rfl, -⟩ := id hrv2
  simp only at hvm2
  have hbt := enew w3 (.cells #[.slice A2 V2.length cc2, .string (bs [])] 24)
  have hb4 := estep hb3 hbt
  generalize V2.length = n2 at *
  clear hrv2 hvm2 hbt HR2 hb3
  go_upto_region 6 with (fail)
  generalize w3.alloc (.cells #[.slice A2 n2 cc2, .string (bs [])] 24) = v3 at *
  have HB4 := hid (estep H2.out.2.2 hb4)
  obtain ⟨k0, k1⟩ := (HK2.out.up hb4).cells
  obtain ⟨q0, q1⟩ := (HKC.out.up HB4.out).cells
  have HS := hid (rcsame_any k13f _ _ V1 [k13a w.heap.size] v3 H2.out.2.1 (H2.out.1.up hb4) (HV0.out.up HB4.out) (by
    have := congrArg List.length H2.out.2.1
    simp at this
    omega))
  clear hb4
  go_wp2_with fail
  refine HS.out.mono ?_
  rintro e w5 ⟨rfl, hb5⟩
  have HB5 := hid (estep HB4.out hb5)
  clear k0 k1 q0 q1 hb5
  obtain ⟨q0, q1⟩ := (HKC.out.up HB5.out).cells
  go_wp2_with fail
  refine (HCK.out _ HB5.out).mono ?_
  rintro e w6 ⟨rfl, hb6⟩
  have HB6 := hid (estep HB0.out (estep HB5.out hb6))
  go_wp2_with fail
  go_returns
  exact ⟨rfl, HB6.out⟩
end Go.Proofs.YtingjembjpckcaaGreatDoor
namespace Go.Proofs.YtingjembjpckcaaGreatDoor
set_option linter.unusedVariables false
set_option linter.unusedSimpArgs false
open Go.RowKit Go.Joins

set_option maxRecDepth 100000 in
set_option maxHeartbeats 8000000 in
theorem confWrites_walk (y : Value) (f : List UInt8) (U : List Ru) (m : ∀ u ∈ U, okRs u.sem) (hf : f.length ≤ 140737488351232) (w : World) (E : EnvC w) (hy : RV w y U) :
    Calls Tryz.prog 3 #[.agg #[y, .string (bs f)]] w fun e w' => e = .returned (.bool true) ∧ Below w.heap.size w w' := by
  have hnot := enot
  have hb0 := enew w (.cells #[y, .string (bs f)] 24)
  have hk0 := BF.new w y f
  have H0 := hid (And.intro (hy.up hb0) (And.intro (E.up hb0) hb0))
  obtain ⟨zf, hzf⟩ : ∃ z, c13fewC f (U.map Ru.sem) = z := ⟨_, rfl⟩
  obtain ⟨t, z, hz⟩ : ∃ t z, wrC f (U.map Ru.sem) = (t, z) := ⟨_, _, rfl⟩
  obtain ⟨zk, hzk⟩ : ∃ z, chkC cfR f (U.map Ru.sem) = z := ⟨_, rfl⟩
  have HF := hid (fun w2 (h1 : RV w2 y U) => c13cfew_any y f U w2 h1 m hf (hid hzf))
  have HW := hid (fun w2 (e : EnvC w2) (h1 : RV w2 y U) => cwrite_any y f U w2 e h1 m hf (hid hz))
  have HRW := hid (fun w2 (h1 : RV w2 y U) => rcwrite_any y f U w2 h1 m hf (hid hz))
  have HK := hid (fun w2 (h1 : RV w2 y U) => ccheck_any y f U w2 h1 m hf (hid hzk))
  have HRK := hid (fun w2 (h1 : RV w2 y U) => rccheck_any y f U w2 h1 m hf (hid hzk))
  clear hzf hz hzk hy m hf hb0 E
  go_enter Tryz.func3, Tryz.ntmps3
  go_upto_region 1 with (fail)
  generalize w.alloc (.cells #[y, .string (bs f)] 24) = v0 at *
  have HC0 := hid hk0
  obtain ⟨k0, k1⟩ := hk0.cells
  clear hk0
  go_wp2_with fail
  refine (HF.out _ H0.out.1).mono ?_
  rintro e w1 ⟨rfl, hb1⟩
  clear k0 k1
  have H1 := hid (And.intro (H0.out.1.up hb1) (And.intro (H0.out.2.1.up hb1) hb1))
  clear hb1
  cases zf
  · go_wp2_with fail
    refine (known13_any _ H1.out.2.1).mono ?_
    rintro e w2 ⟨rfl, hb2⟩
    go_wp2_with fail
    go_returns
    exact ⟨rfl, estep H0.out.2.2 (estep H1.out.2.2 hb2)⟩
  obtain ⟨k0, k1⟩ := (HC0.out.up H1.out.2.2).cells
  go_wp2_with fail
  refine (HW.out _ H1.out.2.1 H1.out.1).mono ?_
  rintro e w2 ⟨rfl, hb2⟩
  clear k0 k1
  have H2 := hid (And.intro (H1.out.1.up hb2) (And.intro (H1.out.2.1.up hb2) (estep H1.out.2.2 hb2)))
  clear hb2
  obtain ⟨k0, k1⟩ := (HC0.out.up H2.out.2.2).cells
  go_wp2_with fail
  refine (HRW.out _ H2.out.1).mono ?_
  rintro e w3 ⟨rfl, hb3⟩
  clear k0 k1
  have H3 := hid (And.intro (H2.out.1.up hb3) (And.intro (H2.out.2.1.up hb3) (estep H2.out.2.2 hb3)))
  clear hb3
  obtain ⟨k0, k1⟩ := (HC0.out.up H3.out.2.2).cells
  have HK4 := hid (fun (w5 : World) (hb : Below w3.heap.size w3 w5) => HK.out w5 (H3.out.1.up hb))
  have HRK4 := hid (fun (w5 : World) (hb : Below w3.heap.size w3 w5) => HRK.out w5 (H3.out.1.up hb))
  have HKN := hid (fun (w5 : World) (hb : Below w3.heap.size w3 w5) => known13_any w5 (H3.out.2.1.up hb))
  go_upto_region 5 with (fail)
  have K0 := BW.cell k0
  have K1 := BW.cell k1
  clear k0 k1
  refine wp_region_bw (by kernel_rfl) (by kernel_rfl) ?_
  repeat (go_big_quiet_step ((first
    | (go_at_call 9; exact calls_bw (HK4.out _ (BW.h _)))
    | (go_at_call 10; exact calls_bw (HRK4.out _ (BW.h _)))
    | (go_at_call 6; exact calls_bw (HKN.out _ (BW.h _))))))
  refine wpQuiet_nil ?_
  rintro _ ⟨pq, rfl⟩
  clear K0 K1
  have HB9 := hid (estep H0.out.2.2 (estep H3.out.2.2 pq.h))
  go_wp2_with fail
  go_returns
  exact ⟨rfl, HB9.out⟩
end Go.Proofs.YtingjembjpckcaaGreatDoor
