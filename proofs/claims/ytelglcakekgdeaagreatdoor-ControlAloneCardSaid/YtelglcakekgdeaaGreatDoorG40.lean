/- Texts put together: Yr Yb Yc Yd Ye Yf. -/
import Derived.Test.YtelglcakekgdeaaGreatDoorG39
import Derived.Test.YtelglcakekgdeaaGreatDoorG27
import Derived.Test.YtelglcakekgdeaaGreatDoorG32
import Derived.Deep.RegionHeld3
namespace Go.Proofs.YtelglcakekgdeaaGreatDoor
set_option linter.unusedVariables false
set_option linter.unusedSimpArgs false
open Go.RowKit Go.Joins

theorem rn_of {w : World} {B : Nat} {A : Option Addr} {n c : Nat} {U : List Ru} (hg : GB encR 10 72 w B (.slice A n c) U) (hp : ∀ u ∈ U, GB encP 3 83 w B (.slice u.xa u.xn u.xc) u.ps) : RN w (fun b => B ≤ b ∧ b < w.heap.size) (.slice A n c) U := by
  obtain ⟨A', c', e, h1, h2, h3, h4⟩ := GB.reads encR_len hg
  refine ⟨A', c', e, h1, fun u hu => ?_, h2, h3, by unfold maxLen at h4; omega⟩
  obtain ⟨A2, c2, e2, k1, k2, k3, k4⟩ := GB.reads encP_len (hp u hu)
  exact ⟨A2, c2, e2, k1.px, k2, k3, by unfold maxLen at k4; omega⟩
/-- What Read returns, in new blocks. -/
def ReadN (B : Nat) (w' : World) (X : Cf × Nat × Int) (e : Ending) : Prop := ∃ y V, e = .returned (.tuple #[.agg #[y, .string (bs X.1.1)], .int .i64 X.2.1, .int .i64 X.2.2]) ∧ RN w' (fun b => B ≤ b ∧ b < w'.heap.size) y V ∧ V.map Ru.sem = X.1.2 ∧ ∀ u ∈ V, okRs u.sem
theorem ReadN.no (B : Nat) (w' : World) (n : Nat) (z : Int) : ReadN B w' (([], []), n, z) (.returned (.tuple #[.agg #[.slice none 0 0, .string (bs [])], .int .i64 n, .int .i64 z])) := ⟨_, [], rfl, rn_no w' _, rfl, fun u hu => (by cases hu)⟩
set_option maxRecDepth 100000 in
set_option maxHeartbeats 8000000 in
theorem read_in (text : List UInt8) (w : World) (E : EnvC w) (hl : text.length ≤ 140737488351232) {X : Cf × Nat × Int} (H : Hid (readC text = X)) :
    Calls Tryz.prog 23 #[.string (bs text)] w fun e w' => ReadN w.heap.size w' X e ∧ Below w.heap.size w w' := by
  have hnot := enot
  have c0 : (ByteArray.mk #[]) = bs [] := rfl
  have hb0 := enew w (.cells #[.slice none 0 0, .string (bs [])] 41)
  have hk0 := BF.new w (.slice none 0 0) []
  have HB0 := hid hb0
  have HK0 := hid hk0
  have HE0 := hid (E.up hb0)
  have hsz0 : w.heap.size < (w.alloc (.cells #[.slice none 0 0, .string (bs [])] 41)).heap.size := by simp
  have HSZ0 := hid hsz0
  clear hb0 hk0 E hsz0
  go_enter Tryz.func23, Tryz.ntmps23
  go_upto_region 1 with (fail)
  generalize hv0 : w.alloc (.cells #[.slice none 0 0, .string (bs [])] 41) = v0 at *
  have hg0 : v0.heap.size = w.heap.size + 1 := by rw [← hv0]; simp
  clear hv0
  by_cases hlen : 4096 < text.length
  · have HX := hid (show X = (([], []), 0, 6) by rw [← H.out, readC, if_pos hlen])
    have hd : decide ((4096 : Int) < (text.length : Int)) = true := decide_eq_true (by omega)
    obtain ⟨q0, q1⟩ := HK0.out.cells
    have f0 := Bk.frozen HK0.out 0
    have f1 := Bk.frozen HK0.out 1
    have HA := hid (HK0.out.set2 (.slice none 0 0) []).cells
    have HB1 := hid ((HB0.out.setCell (p := ⟨w.heap.size, 0, none⟩) (Nat.le_refl _) (.slice none 0 0)).setCell (p := ⟨w.heap.size, 1, none⟩) (Nat.le_refl _) (.string (bs [])))
    clear hlen
    go_wp2_with fail
    (try simp only [Exit.inBlock, Exit.then])
    refine bodyPost_ret (v := .tuple #[.agg #[.slice none 0 0, .string (bs [])], .int .i64 0, .int .i64 6]) (by simp [results, Tryz.results23, go_sem, HA.out.1, HA.out.2]; try rfl) rfl ?_
    rw [HX.out]
    exact ⟨ReadN.no _ _ 0 6, HB1.out⟩
  have hd : decide ((4096 : Int) < (text.length : Int)) = false := decide_eq_false (by omega)
  obtain ⟨L, hL⟩ : ∃ L, linesP (text.length + 1) text 0 (-1) [] [] = L := ⟨_, rfl⟩
  have HX := hid (show X = outC L by rw [← H.out, readC_out hlen, hL])
  have hb1 := enew v0 (.cells #[.string (bs text), .int .i64 0, .int .i64 (-1), .slice none 0 0, .string (bs [])] 75)
  have hr1 : RB (v0.alloc (.cells #[.string (bs text), .int .i64 0, .int .i64 (-1), .slice none 0 0, .string (bs [])] 75)) v0.heap.size text 0 (-1) (.slice none 0 0) [] := Bk.new _ _ _
  have hri : RI (v0.alloc (.cells #[.string (bs text), .int .i64 0, .int .i64 (-1), .slice none 0 0, .string (bs [])] 75)) v0.heap.size v0.heap.size text 0 (-1) [] [] := ⟨Nat.le_refl _, none, 0, 0, v0.heap.size, hr1, GB.nil _ _, Nat.le_refl _, hb1.size, fun u hu => (by cases hu), fun u hu => (by cases hu)⟩
  have HLN := hid (lines_any v0.heap.size v0.heap.size text v0 _ HE0.out rfl hb1 hb1.size hri (by omega) (hid hL))
  have HSM := hid (fun (g : List UInt8 × List Rs) (n : Nat) (h : L = (some g, n)) => linesP_small _ _ _ _ _ _ 4096 g n (hL.trans h) (by omega) (by simp) (by simp))
  rw [hg0] at HLN
  clear hb1 hr1 hri hL H
  go_wp2_with fail
  refine HLN.out.mono ?_
  rintro e w2 ⟨rfl, hlr, hb2⟩
  have HLR := hid hlr
  have HB2 := hid (HB0.out.trans (hb2.mono (by omega)))
  have HK2 := hid (Bk.below HK0.out hb2 (by omega))
  clear hlr hb2 HLN
  obtain ⟨Lo, n⟩ := L
  cases Lo with
  | none =>
    have HX2 := hid (show X = (([], []), n, 3) from HX.out)
    obtain ⟨rest, last, f, U, -, A5, n5, c5, bL5, hk5, -, -⟩ := HLR.out
    obtain ⟨r0, r1, r2, r3, r4⟩ := RB.cells hk5
    obtain ⟨q0, q1⟩ := BF.cells HK2.out
    have f0 := Bk.frozen HK2.out 0
    have f1 := Bk.frozen HK2.out 1
    have HA := hid (BF.cells (BF.set2 HK2.out (.slice none 0 0) []))
    have HB3 := hid ((HB2.out.setCell (p := ⟨w.heap.size, 0, none⟩) (Nat.le_refl _) (.slice none 0 0)).setCell (p := ⟨w.heap.size, 1, none⟩) (Nat.le_refl _) (.string (bs [])))
    clear hk5
    go_upto_region 5 with (fail)
    go_region
    all_goals
      go_wp2_with fail
      (try simp only [Exit.inBlock, Exit.then])
      refine bodyPost_ret (v := .tuple #[.agg #[.slice none 0 0, .string (bs [])], .int .i64 n, .int .i64 3]) (by simp [results, Tryz.results23, go_sem, HA.out.1, HA.out.2]; try rfl) rfl ?_
      rw [HX2.out]
      exact ⟨ReadN.no _ _ n 3, by first | exact HB3.out.drew | exact HB3.out⟩
  | some g =>
    obtain ⟨gf, gU⟩ := g
    obtain ⟨rest, num, last, U, hri, hU⟩ := HLR.out
    obtain ⟨hsm1, hsm2⟩ := HSM.out (gf, gU) n rfl
    simp only at hri hU hsm1 hsm2
    obtain ⟨hBB, A, nn, c, bL, hk5, hg5, hru⟩ := hri
    have hall := hru.all
    have hok := ok_of (M := 4096) (by omega) hall (by rw [hU]; exact hsm2)
    have hrv := rv_of hg5 hall
    obtain ⟨zc, hzc⟩ : ∃ z, chkC cfR gf gU = z := ⟨_, rfl⟩
    have HX1 := hid (show X = if zc ≠ 0 then (([], []), 0, zc) else ((gf, gU), 0, 0) by rw [HX.out, ← hzc, outC])
    have HCK := hid (ccheck_any (z := zc) (.slice A nn c) gf U w2 hrv hok (by omega) (hid (by rw [hU]; exact hzc)))
    obtain ⟨r0, r1, r2, r3, r4⟩ := RB.cells hk5
    have HALL := hid (And.intro hg5 (And.intro hall (And.intro hok hU)))
    have HK5 := hid hk5
    clear hk5 hg5 hru hall hok hrv hU hzc hsm2
    go_wp2_with fail
    refine HCK.out.mono ?_
    rintro e w3 ⟨rfl, hb3⟩
    have HK3 := hid (BF.up HK2.out hb3)
    have HB3 := hid (estep HB2.out hb3)
    have HR3 := hid (RB.up HK5.out hb3)
    have HA3 := hid (And.intro (HALL.out.1.below hb3) (fun u hu => (HALL.out.2.1 u hu).below hb3))
    clear hb3 r0 r1 r2 r3 r4 HCK
    obtain ⟨r0, r1, r2, r3, r4⟩ := RB.cells HR3.out
    obtain ⟨q0, q1⟩ := BF.cells HK3.out
    have f0 := Bk.frozen HK3.out 0
    have f1 := Bk.frozen HK3.out 1
    by_cases hz : zc = 0
    · subst hz
      have HX2 := hid (show X = ((gf, gU), 0, 0) by rw [HX1.out, if_neg (by simp)])
      have HA := hid (BF.cells (BF.set2 HK3.out (.slice A nn c) gf))
      have HB4 := hid ((HB3.out.setCell (p := ⟨w.heap.size, 0, none⟩) (Nat.le_refl _) (.slice A nn c)).setCell (p := ⟨w.heap.size, 1, none⟩) (Nat.le_refl _) (.string (bs gf)))
      have HV := hid ((rn_of (HA3.out.1.setF HK3.out (by decide) (.slice A nn c) gf) (fun u hu => (HA3.out.2 u hu).setF HK3.out (by decide) (.slice A nn c) gf)))
      go_wp2_with fail
      (try simp only [Exit.inBlock, Exit.then])
      refine bodyPost_ret (v := .tuple #[.agg #[.slice A nn c, .string (bs gf)], .int .i64 0, .int .i64 0]) (by simp [results, Tryz.results23, go_sem, HA.out.1, HA.out.2]; try rfl) rfl ?_
      rw [HX2.out]
      exact ⟨⟨_, U, rfl, RN.imp HV.out fun b hb => ⟨by have := hb.1; omega, hb.2⟩, HALL.out.2.2.2, HALL.out.2.2.1⟩, HB4.out⟩
    · have HX2 := hid (show X = (([], []), 0, zc) by rw [HX1.out, if_pos hz])
      have hd1 : decide (zc = 0) = false := decide_eq_false hz
      have hd2 : (zc != 0) = true := by simpa using hz
      have hd3 : (!decide (zc = 0)) = true := by rw [hd1]; rfl
      have HA := hid (BF.cells (BF.set2 HK3.out (.slice none 0 0) []))
      have HB4 := hid ((HB3.out.setCell (p := ⟨w.heap.size, 0, none⟩) (Nat.le_refl _) (.slice none 0 0)).setCell (p := ⟨w.heap.size, 1, none⟩) (Nat.le_refl _) (.string (bs [])))
      go_wp2_with fail
      (try simp only [Exit.inBlock, Exit.then])
      refine bodyPost_ret (v := .tuple #[.agg #[.slice none 0 0, .string (bs [])], .int .i64 0, .int .i64 zc]) (by simp [results, Tryz.results23, go_sem, HA.out.1, HA.out.2]; try rfl) rfl ?_
      rw [HX2.out]
      exact ⟨ReadN.no _ _ 0 zc, HB4.out⟩
end Go.Proofs.YtelglcakekgdeaaGreatDoor
namespace Go.Proofs.YtelglcakekgdeaaGreatDoor
set_option linter.unusedVariables false
set_option linter.unusedSimpArgs false
open Go.RowKit Go.Joins

theorem fmt_len {p : Rs → Int} {f : List UInt8} {U : List Rs} (h : chkC p f U = 0) : f.length ≤ 140737488351232 := by
  obtain ⟨h1, -, -⟩ := chkC_ok h
  rw [fmtOK, Bool.and_eq_true] at h1
  have := of_decide_eq_true h1.1
  omega
def noC : Cf := ([], [])
/-- What a text may be published as, where n are there. -/
def pubR (l : List (List UInt8)) (n : Nat) (text : List UInt8) : Int × Cf :=
  if (readC text).2.2 ≠ 0 then ((readC text).2.2, noC) else if chkC (chkR · l) (readC text).1.1 (readC text).1.2 ≠ 0 then (chkC (chkR · l) (readC text).1.1 (readC text).1.2, noC) else if n = 16 then (8, noC) else (0, (readC text).1)
def CRd (B : Nat) (w' : World) (z : Int) (c : Cf) (e : Ending) : Prop := ∃ A V k, e = .returned (.tuple #[.agg #[.slice A V.length k, .string (bs c.1)], .int .i64 z]) ∧ RN w' (fun b => B ≤ b ∧ b < w'.heap.size) (.slice A V.length k) V ∧ V.map Ru.sem = c.2 ∧ ∀ u ∈ V, okRs u.sem
theorem CRd.no (B : Nat) (w' : World) (z : Int) : CRd B w' z noC (.returned (.tuple #[.agg #[.slice none 0 0, .string (bs [])], .int .i64 z])) := ⟨none, [], 0, rfl, rn_no w' _, rfl, fun u hu => (by cases hu)⟩
theorem rn_set2 {w : World} {N : Nat → Prop} {y : Value} {V : List Ru} (h : RN w N y V) (g : Nat) (hg : ∀ b, N b → b ≠ g) (a b : Value) : RN ((w.setCell ⟨g, 0, none⟩ a).setCell ⟨g, 1, none⟩ b) N y V :=
  h.same fun k hk => by rw [Below.heap_setCell _ _ _ k (hg k hk), Below.heap_setCell _ _ _ k (hg k hk)]
theorem below_two {B : Nat} {w w' : World} (h : Below B w w') (g : Nat) (hg : B ≤ g) (a b : Value) : Below B w ((w'.setCell ⟨g, 0, none⟩ a).setCell ⟨g, 1, none⟩ b) := (h.setCell hg _).setCell hg _
set_option maxRecDepth 100000 in
set_option maxHeartbeats 16000000 in
theorem cread_any (M : Nat → Prop) (g : Nat) (l : List (List UInt8)) (C : List Cf) (rf : Nat) (text : List UInt8) (w : World) (E : EnvC w) (h : PlH M w g l C rf) (hl : text.length ≤ 140737488351232) {z : Int} {c : Cf} (H : Hid (pubR l C.length text = (z, c))) :
    Calls Tryz.prog 15 #[.pointer (some ⟨g, 0, none⟩), .string (bs text)] w fun e w' => CRd w.heap.size w' z c e ∧ Below w.heap.size w w' := by
  have hnot := enot
  have c0 : (ByteArray.mk #[]) = bs [] := rfl
  have hgl := h.lt
  have hb0 := enew w (.cells #[.slice none 0 0, .string (bs [])] 41)
  have hk0 := BF.new w (.slice none 0 0) []
  have HH0 := hid (h.up hb0)
  have HK0 := hid hk0
  have HB0 := hid hb0
  have hwl : w.heap.size ≤ w.heap.size := Nat.le_refl _
  have hsz0 : w.heap.size < (w.alloc (.cells #[.slice none 0 0, .string (bs [])] 41)).heap.size := by simp
  have HSZ := hid hsz0
  obtain ⟨⟨⟨f, U⟩, n, zr⟩, hX⟩ : ∃ X, readC text = X := ⟨_, rfl⟩
  have HF : Hid (zr = 0 → f.length ≤ 140737488351232) := hid (fun hz => by
    subst hz
    exact fmt_len (readC_ok hX).2)
  have HRD := hid (read_in text _ (E.up hb0) hl (hid hX))
  obtain ⟨zc, hzc⟩ : ∃ z, chkC (chkR · l) f U = z := ⟨_, rfl⟩
  have HP := hid (show (z, c) = if zr ≠ 0 then (zr, noC) else if zc ≠ 0 then (zc, noC) else if C.length = 16 then (8, noC) else (0, (f, U)) by rw [← H.out, pubR, hX, ← hzc])
  have HZC := hid hzc
  have hcl := h.2.2.1.1
  clear h hb0 hk0 E hsz0 hX hzc H hl
  go_enter Tryz.func15, Tryz.ntmps15
  go_upto_region 1 with (fail)
  generalize w.alloc (.cells #[.slice none 0 0, .string (bs [])] 41) = v0 at *
  go_wp2_with fail
  refine HRD.out.mono ?_
  rintro e w1 ⟨⟨y, V, rfl, hrn, hsm, hok⟩, hb1⟩
  obtain ⟨A, k, rfl, -⟩ := id hrn
  simp only at hsm
  have hba := enew w1 (.cells #[.slice A V.length k, .string (bs f)] 41)
  have hka := BF.new w1 (.slice A V.length k) f
  obtain ⟨tg, htg⟩ : ∃ tg, tg = w1.heap.size := ⟨_, rfl⟩
  rw [← htg] at hka
  have hb2 := estep hb1 hba
  have HH2 := hid (HH0.out.up hb2)
  have HK2 := hid (HK0.out.up hb2)
  have HB2 := hid (estep HB0.out hb2)
  have HT2 := hid hka
  have HV2 := hid (And.intro ((RN.same hrn fun b hb => hba.block b hb.2).imp (M := fun b => w.heap.size < b ∧ b < (w1.alloc (.cells #[.slice A V.length k, .string (bs f)] 41)).heap.size) fun b hb => ⟨by have := hb.1; have := HSZ.out; omega, Nat.lt_of_lt_of_le hb.2 hba.size⟩) (And.intro hsm hok))
  have HTG : Hid (w.heap.size ≠ tg) := hid (by have := hb1.size; have := HSZ.out; omega)
  clear hrn hsm hok hb1 hba hka hb2 HH0 HK0 HB0 HRD
  go_upto_region 2 with (fail)
  rw [← htg]
  clear htg
  generalize w1.alloc (.cells #[.slice A V.length k, .string (bs f)] 41) = v2 at *
  generalize hVn : V.length = vn at *
  have HVN := hid hVn
  clear hVn
  obtain ⟨q0, q1⟩ := BF.cells HK2.out
  have f0 := Bk.frozen HK2.out 0
  have f1 := Bk.frozen HK2.out 1
  by_cases hzr : zr = 0
  rotate_left
  · have hd1 : decide (zr = 0) = false := decide_eq_false hzr
    have hd2 : (zr != 0) = true := by simpa using hzr
    have hd3 : (!decide (zr = 0)) = true := by rw [hd1]; rfl
    have HX2 := hid (show (z, c) = (zr, noC) by rw [HP.out, if_pos hzr])
    obtain ⟨e1, e2⟩ := Prod.mk.inj HX2.out
    subst e1 e2
    have HA := hid (BF.cells (BF.set2 HK2.out (.slice none 0 0) []))
    have HB4 := hid (below_two HB2.out w.heap.size hwl (.slice none 0 0) (.string (bs [])))
    clear hzr HP HX2
    go_wp2_with fail
    (try simp only [Exit.inBlock, Exit.then])
    refine bodyPost_ret (v := .tuple #[.agg #[.slice none 0 0, .string (bs [])], .int .i64 z]) (by simp [results, Tryz.results15, go_sem, HA.out.1, HA.out.2]; try rfl) rfl ?_
    exact ⟨CRd.no _ _ _, HB4.out⟩
  subst hzr
  have HP2 := hid (show (z, c) = if zc ≠ 0 then (zc, noC) else if C.length = 16 then (8, noC) else (0, (f, U)) by rw [HP.out, if_neg (by simp)])
  obtain ⟨hM0, hC0, hc0, ny, F, k0, k1, k2⟩ := id HH2.out
  have hf := HF.out rfl
  have HCK := hid (fun (p : BW v2) => tcheck_any (.slice A vn k) f V ny l p.w (RV.up (RN.rv HV2.out.1 fun b hb => hb.2) (BW.h p)) HV2.out.2.2 hf (tx_up k1.tx (BW.h p)) (z := zc) (hid (by rw [HV2.out.2.1]; exact HZC.out)))
  obtain ⟨t0, t1⟩ := BF.cells HT2.out
  have T0 := BW.cell t0
  have T1 := BW.cell t1
  have N0 := BW.cell k0.c0
  clear HP t0 t1 q0 q1 f0 f1 k0 k1 k2 hM0 hC0 hc0 hf
  go_upto_region 4 with (fail)
  refine wp_region_bw (by kernel_rfl) (by kernel_rfl) ?_
  repeat (go_big_quiet_step ((go_at_call 24; with_reducible exact calls_bw (HCK.out _))))
  refine wpQuiet_nil ?_
  rintro _ ⟨pq, rfl⟩
  have HK3 := hid (BF.up HK2.out pq.h)
  have HB3 := hid (estep HB2.out pq.h)
  have HT3 := hid (BF.up HT2.out pq.h)
  have HH3 := hid (HH2.out.up pq.h)
  have HV3 := hid (And.intro ((RN.same HV2.out.1 fun b hb => pq.h.block b hb.2).imp (M := fun b => w.heap.size < b ∧ b < pq.w.heap.size) fun b hb => ⟨hb.1, Nat.lt_of_lt_of_le hb.2 pq.h.size⟩) HV2.out.2)
  clear T0 T1 N0 HCK HK2 HB2 HT2 HH2 HV2
  generalize pq.w = v3 at *
  obtain ⟨q0, q1⟩ := BF.cells HK3.out
  have f0 := Bk.frozen HK3.out 0
  have f1 := Bk.frozen HK3.out 1
  by_cases hzr : zc = 0
  rotate_left
  · have hd1 : decide (zc = 0) = false := decide_eq_false hzr
    have hd2 : (zc != 0) = true := by simpa using hzr
    have hd3 : (!decide (zc = 0)) = true := by rw [hd1]; rfl
    have HX2 := hid (show (z, c) = (zc, noC) by rw [HP2.out, if_pos hzr])
    obtain ⟨e1, e2⟩ := Prod.mk.inj HX2.out
    subst e1 e2
    have HA := hid (BF.cells (BF.set2 HK3.out (.slice none 0 0) []))
    have HB4 := hid (below_two HB3.out w.heap.size hwl (.slice none 0 0) (.string (bs [])))
    clear hzr HP2 HX2
    go_wp2_with fail
    (try simp only [Exit.inBlock, Exit.then])
    refine bodyPost_ret (v := .tuple #[.agg #[.slice none 0 0, .string (bs [])], .int .i64 z]) (by simp [results, Tryz.results15, go_sem, HA.out.1, HA.out.2]; try rfl) rfl ?_
    exact ⟨CRd.no _ _ _, HB4.out⟩
  subst hzr
  have HP3 := hid (show (z, c) = if C.length = 16 then (8, noC) else (0, (f, U)) by rw [HP2.out, if_neg (by simp)])
  have HVS := hid (cversions_any g (C.length : Int) v3 HH3.out.cells.1 (by omega) (by omega))
  clear HP2 HZC
  go_wp2_with fail
  refine HVS.out.mono ?_
  rintro e v4 ⟨rfl, hb4⟩
  have HK4 := hid (BF.up HK3.out hb4)
  have HB4 := hid (estep HB3.out hb4)
  have HT4 := hid (BF.up HT3.out hb4)
  have HV4 := hid (And.intro ((RN.same HV3.out.1 fun b hb => hb4.block b hb.2).imp (M := fun b => w.heap.size < b ∧ b < v4.heap.size) fun b hb => ⟨hb.1, Nat.lt_of_lt_of_le hb.2 hb4.size⟩) HV3.out.2)
  clear hb4 HK3 HB3 HT3 HH3 HV3 HVS q0 q1 f0 f1
  obtain ⟨q0, q1⟩ := BF.cells HK4.out
  have f0 := Bk.frozen HK4.out 0
  have f1 := Bk.frozen HK4.out 1
  by_cases h16 : C.length = 16
  · have hd : decide ((C.length : Int) = 16) = true := decide_eq_true (by omega)
    have hd2 : ((C.length : Int) == 16) = true := by simp; omega
    have hd3 : decide (C.length = 16) = true := decide_eq_true h16
    have hd4 : (C.length == 16) = true := by simpa using h16
    have HX2 := hid (show (z, c) = (8, noC) by rw [HP3.out, if_pos h16])
    obtain ⟨e1, e2⟩ := Prod.mk.inj HX2.out
    subst e1 e2
    have HA := hid (BF.cells (BF.set2 HK4.out (.slice none 0 0) []))
    have HB5 := hid (below_two HB4.out w.heap.size hwl (.slice none 0 0) (.string (bs [])))
    clear h16 HP3 HX2
    generalize C.length = cn at *
    go_wp2_with fail
    (try simp only [Exit.inBlock, Exit.then])
    refine bodyPost_ret (v := .tuple #[.agg #[.slice none 0 0, .string (bs [])], .int .i64 8]) (by simp [results, Tryz.results15, go_sem, HA.out.1, HA.out.2]; try rfl) rfl ?_
    exact ⟨CRd.no _ _ _, HB5.out⟩
  · have hd : decide ((C.length : Int) = 16) = false := decide_eq_false (by omega)
    have hd2 : ((C.length : Int) == 16) = false := by simp; omega
    have hd3 : decide (C.length = 16) = false := decide_eq_false h16
    have hd4 : (C.length == 16) = false := by simpa using h16
    have HX2 := hid (show (z, c) = (0, (f, U)) by rw [HP3.out, if_neg h16])
    obtain ⟨e1, e2⟩ := Prod.mk.inj HX2.out
    subst e1 e2
    obtain ⟨t0, t1⟩ := BF.cells HT4.out
    have HA := hid (BF.cells (BF.set2 HK4.out (.slice A vn k) f))
    have HB5 := hid (below_two HB4.out w.heap.size hwl (.slice A vn k) (.string (bs f)))
    have HR5 := hid (rn_set2 HV4.out.1 w.heap.size (fun b hb => by have := hb.1; omega) (.slice A vn k) (.string (bs f)))
    clear h16 HP3 HX2
    generalize C.length = cn at *
    go_wp2_with fail
    (try simp only [Exit.inBlock, Exit.then])
    refine bodyPost_ret (v := .tuple #[.agg #[.slice A vn k, .string (bs f)], .int .i64 0]) (by simp [results, Tryz.results15, go_sem, HA.out.1, HA.out.2]; try rfl) rfl ?_
    refine ⟨⟨A, V, k, by rw [HVN.out], ?_, HV4.out.2.1, HV4.out.2.2⟩, HB5.out⟩
    rw [HVN.out]
    refine RN.imp HR5.out fun b hb => ⟨Nat.le_of_lt hb.1, ?_⟩
    rw [World.size_setCell, World.size_setCell]
    exact hb.2
end Go.Proofs.YtelglcakekgdeaaGreatDoor
namespace Go.Proofs.YtelglcakekgdeaaGreatDoor
set_option linter.unusedVariables false
set_option linter.unusedSimpArgs false
open Go.RowKit Go.Joins

theorem PlH.sete {M : Nat → Prop} {w : World} {g : Nat} {l : List (List UInt8)} {C : List Cf} {rf : Nat} (h : PlH M w g l C rf) (hc : rf + 1 ≤ 1000000) : PlH M (w.setCell ⟨g, 34, none⟩ (.int .i64 ((rf + 1 : Nat) : Int))) g l C (rf + 1) := by
  obtain ⟨h0, h1, h2, ny, F, k0, k1, k2⟩ := h
  have ho : Onl g w (w.setCell ⟨g, 34, none⟩ (.int .i64 ((rf + 1 : Nat) : Int))) := (Onl.refl _ _).set _ _
  refine ⟨h0, h1, ⟨h2.1, hc⟩, ny, F, k0.sete _, k1.only ho h0, fun k c hc => ?_⟩
  obtain ⟨e, V, a, b⟩ := k2 k c hc
  exact ⟨e, V, a.only ho h0, b⟩
theorem nadd_one (a : Addr) (x : Nat) (w : World) (h : w.cell? a = some (.int .i64 (x : Int))) (hz : w.frozen? a = false) (hx : x + 1 ≤ 1099511627776) :
    Calls Tryz.prog 16 #[.pointer (some a), .int .i64 1] w fun e w' => e = .returned (.tuple #[]) ∧ w' = w.setCell a (.int .i64 ((x + 1 : Nat) : Int)) := nadd_any a x 1 w h hz hx
set_option maxRecDepth 100000 in
set_option maxHeartbeats 16000000 in
theorem publish_no (M : Nat → Prop) (g : Nat) (l : List (List UInt8)) (C : List Cf) (rf : Nat) (text : List UInt8) (w : World) (E : EnvC w) (h : PlH M w g l C rf) (hc : rf + 1 ≤ 1000000) (hl : text.length ≤ 140737488351232) {z : Int} {c : Cf} (hz : z ≠ 0) (H : Hid (pubR l C.length text = (z, c))) :
    Calls Tryz.prog 7 #[.pointer (some ⟨g, 0, none⟩), .string (bs text)] w fun e w' => e = .returned (.tuple #[.int .i64 0, .int .i64 z]) ∧ PlH M w' g l C (rf + 1) ∧ Onl g w w' := by
  have HRD := hid (cread_any M g l C rf text w E h hl H)
  have HH := hid h
  have HX := hid hc
  have hz1 : (z != 0) = true := by simpa using hz
  have hz2 : decide (z = 0) = false := decide_eq_false hz
  have hz3 : (!decide (z = 0)) = true := by rw [hz2]; rfl
  clear E h hc hl H hz
  go_enter Tryz.func7, Tryz.ntmps7
  go_wp2_with fail
  refine HRD.out.mono ?_
  rintro e w1 ⟨⟨A, V, k, rfl, -, -, -⟩, hb1⟩
  have hba := enew w1 (.cells #[.slice A V.length k, .string (bs c.1)] 41)
  have hb2 := estep hb1 hba
  have HH2 := hid (HH.out.up hb2)
  have HB2 := hid hb2
  clear hb1 hba hb2 HRD HH
  generalize V.length = vn at *
  go_upto_region 4 with (fail)
  generalize w1.alloc (.cells #[.slice A vn k, .string (bs c.1)] 41) = w2 at *
  have HA := hid (nadd_one ⟨g, 34, none⟩ rf w2 HH2.out.cells.2.1 (HH2.out.cells.2.2 34) (by have := HX.out; omega))
  go_wp2_with fail
  refine HA.out.mono ?_
  rintro e w3 ⟨rfl, rfl⟩
  go_wp2_with fail
  go_returns
  exact ⟨rfl, HH2.out.sete HX.out, (Onl.of_below HB2.out (Nat.le_refl _)).set _ _⟩
theorem keepC2 {w2 w' : World} {b : Nat} {y : Value} {f : List UInt8} (k : BF w2 b y f) (hz : Below w2.heap.size w2 w') : w'.cell? ⟨b, 0, none⟩ = some y ∧ w'.cell? ⟨b, 1, none⟩ = some (.string (bs f)) := (k.up hz).cells
theorem keepC3 {w2 w' : World} {b g i j : Nat} {y u u' : Value} {f : List UInt8} (k : BF w2 b y f) (hn : b ≠ g) (hz : Below w2.heap.size w2 w') : ((w'.setCell ⟨g, i, none⟩ u).setCell ⟨g, j, none⟩ u').cell? ⟨b, 0, none⟩ = some y ∧ ((w'.setCell ⟨g, i, none⟩ u).setCell ⟨g, j, none⟩ u').cell? ⟨b, 1, none⟩ = some (.string (bs f)) := by
  have hx : ∀ (x : World) (i q : Nat) (u : Value), (x.setCell ⟨g, i, none⟩ u).cell? ⟨b, q, none⟩ = x.cell? ⟨b, q, none⟩ := fun x i q u => World.cell?_setCell_other x ⟨g, i, none⟩ ⟨b, q, none⟩ u (by intro e; injection e with e1; exact hn e1.symm)
  obtain ⟨a, b⟩ := (k.up hz).cells
  exact ⟨by rw [hx, hx]; exact a, by rw [hx, hx]; exact b⟩
set_option maxRecDepth 100000 in
set_option maxHeartbeats 16000000 in
theorem publish_ok (M : Nat → Prop) (g : Nat) (l : List (List UInt8)) (C : List Cf) (rf : Nat) (text : List UInt8) (w : World) (E : EnvC w) (h : PlH M w g l C rf) (hM : ∀ b, w.heap.size ≤ b → M b) (hl : text.length ≤ 140737488351232) {c : Cf} (hcl : C.length < 16) (hok : okC l c) (H : Hid (pubR l C.length text = (0, c))) :
    Calls Tryz.prog 7 #[.pointer (some ⟨g, 0, none⟩), .string (bs text)] w fun e w' => e = .returned (.tuple #[.int .i64 ((C.length : Int) + 1), .int .i64 0]) ∧ PlH M w' g l (C ++ [c]) rf ∧ Onl g w w' := by
  have HRD := hid (cread_any M g l C rf text w E h hl H)
  have HH := hid h
  have HOK := hid hok
  have HMM := hid hM
  have hgl := h.lt
  clear E h hl H hok hM
  obtain ⟨cf, cU⟩ := c
  obtain ⟨n, hn⟩ : ∃ n, C.length = n := ⟨_, rfl⟩
  have HN := hid hn
  rw [hn] at hcl ⊢
  clear hn
  go_enter Tryz.func7, Tryz.ntmps7
  go_wp2_with fail
  refine HRD.out.mono ?_
  rintro e w1 ⟨⟨A, V, k, rfl, hrn, hsm, -⟩, hb1⟩
  have hba := enew w1 (.cells #[.slice A V.length k, .string (bs cf)] 41)
  have hka := BF.new w1 (.slice A V.length k) cf
  obtain ⟨tg, htg⟩ : ∃ tg, tg = w1.heap.size := ⟨_, rfl⟩
  rw [← htg] at hka
  have hb2 := estep hb1 hba
  have HH2 := hid (HH.out.up hb2)
  have HB2 := hid hb2
  have HT2 := hid hka
  have HV2 : Hid (RM (w1.alloc (.cells #[.slice A V.length k, .string (bs cf)] 41)) M (.slice A V.length k) V) := hid ((RN.same hrn fun b hb => hba.block b hb.2).imp fun b hb => ⟨Nat.lt_of_lt_of_le hb.2 hba.size, HMM.out b hb.1⟩)
  have HSM := hid hsm
  have hne : tg ≠ g := by have := hb1.size; omega
  clear hrn hsm hb1 hba hka hb2 HRD HH
  go_upto_region 4 with (fail)
  rw [← htg]
  clear htg
  generalize w1.alloc (.cells #[.slice A V.length k, .string (bs cf)] 41) = w2 at *
  generalize hVn : V.length = vn at *
  obtain ⟨hM0, hC0, hc0, ny, F, k0, k1, k2⟩ := id HH2.out
  have HK0 : Hid (BPl w2 g ny F (n : Int) (rf : Int)) := hid (by rw [← HN.out]; exact k0)
  have HK1 := hid k1
  have HK2 := hid k2
  have HMg := hid hM0
  clear k0 k1 k2 hM0 hC0 hc0
  have HVS : Hid (∀ w3, Below w2.heap.size w2 w3 → Calls Tryz.prog 11 #[.pointer (some ⟨g, 0, none⟩)] w3 fun e w' => e = .returned (.int .i64 (n : Int)) ∧ Below w3.heap.size w3 w') := hid fun w3 hb => cversions_any g (n : Int) w3 (HK0.out.up hb).cv (by omega) (by omega)
  go_upto_region 7 with (fail)
  have ht2 := HT2.out
  obtain ⟨t0, t1⟩ := ht2.cells
  have hz : Below w2.heap.size w2 w2.drew := (Below.refl _ _).drew
  have hn0 : (0 : Int) ≤ (n : Int) := by omega
  have hn16 : (n : Int) < 16 := by omega
  go_region_held3 (fun w' => w'.cell? ⟨tg, 0, none⟩ = some (.slice A vn k) ∧ w'.cell? ⟨tg, 1, none⟩ = some (.string (bs cf))) (first | (with_reducible exact keepC2 ht2 hz) | (with_reducible exact keepC3 ht2 hne hz)) (first
    | (go_at_call 11
       ((with_reducible refine (HVS.out _ hz).mono ?_); rintro e w3 ⟨rfl, hy3⟩)
       have hz := hz.trans (hy3.mono hz.size)
       have hk3 := HK0.out.up hz
       have a0 := hk3.cr hcl
       have a1 := hk3.cf hcl
       have z0 := hk3.free (1 + n * 2)
       have z1 := hk3.free (1 + n * 2 + 1)))
  have hk5 := hk3.setc hcl (.slice A vn k) cf
  have ho5 : Onl g w2 ((w3.setCell ⟨g, 1 + n * 2, none⟩ (.slice A vn k)).setCell ⟨g, 1 + n * 2 + 1, none⟩ (.string (bs cf))) := ((Onl.of_below hz (Nat.le_refl _)).set _ _).set _ _
  have HK5 := hid hk5
  have HO5 := hid ho5
  clear hk5 ho5 a0 a1 z0 z1 hk3 hz hy3 t0 t1 ht2 HVS HK0
  generalize (w3.setCell ⟨g, 1 + n * 2, none⟩ (.slice A vn k)).setCell ⟨g, 1 + n * 2 + 1, none⟩ (.string (bs cf)) = w5 at *
  have HAD := hid (aadd_any ⟨g, 33, none⟩ (n : Int) 1 w5 HK5.out.cv (HK5.out.free 33) (by omega) (by omega))
  go_wp2_with fail
  refine HAD.out.mono ?_
  rintro e w6 ⟨rfl, rfl⟩
  go_wp2_with fail
  go_returns
  have ho6 := HO5.out.set 33 (.int .i64 ((n : Int) + 1))
  have hlen : (C ++ [(cf, cU)]).length = n + 1 := by rw [List.length_append, HN.out]; rfl
  refine ⟨rfl, ⟨HMg.out, fun c hc => ?_, ⟨by omega, HH2.out.2.2.1.2⟩, ny, updF F n (.slice A vn k, cf), ?_, HK1.out.only ho6 HMg.out, fun j c hc => ?_⟩, (Onl.of_below HB2.out (Nat.le_refl _)).trans ho6⟩
  · rcases List.mem_append.1 hc with hc | hc
    · exact HH2.out.2.1 c hc
    · obtain rfl : c = (cf, cU) := by simpa using hc
      exact HOK.out
  · rw [hlen]
    exact HK5.out.setv _
  · by_cases hj : j < n
    · rw [List.getElem?_append_left (by rw [HN.out]; exact hj)] at hc
      obtain ⟨e1, V1, e2, e3⟩ := HK2.out j c hc
      unfold updF
      rw [if_neg (by omega)]
      exact ⟨e1, V1, e2.only ho6 HMg.out, e3⟩
    · have hj2 : j < n + 1 := by rw [← hlen]; exact (List.getElem?_eq_some_iff.1 hc).1
      obtain rfl : j = n := by omega
      rw [List.getElem?_append_right (by rw [HN.out]; exact Nat.le_refl _), HN.out, Nat.sub_self] at hc
      obtain rfl : (cf, cU) = c := by simpa using hc
      unfold updF
      rw [if_pos rfl]
      exact ⟨rfl, V, HV2.out.only ho6 HMg.out, HSM.out⟩
end Go.Proofs.YtelglcakekgdeaaGreatDoor
namespace Go.Proofs.YtelglcakekgdeaaGreatDoor
set_option linter.unusedVariables false
set_option linter.unusedSimpArgs false
open Go.RowKit Go.Joins

theorem BT.drew {w : World} {g : Nat} {v : Int} {y : Value} {f : List UInt8} (k : BT w g v y f) : BT w.drew g v y f := k
/-- What At answers of a version that is there. -/
def AtR (w' : World) (M : Nat → Prop) (v : Int) (c : Cf) (e : Ending) : Prop := ∃ A V q, e = .returned (.tuple #[.agg #[.int .i64 v, .slice A V.length q, .string (bs c.1)], .bool true]) ∧ RM w' M (.slice A V.length q) V ∧ V.map Ru.sem = ordB rkS c.2
theorem keepA {v w' : World} {g : Nat} {y : Value} {f : List UInt8} {ny : Value} {i : Nat} (e0 : v.cell? ⟨g, i, none⟩ = some y) (e1 : v.cell? ⟨g, i + 1, none⟩ = some (.string (bs f))) (e2 : v.cell? ⟨g, 0, none⟩ = some ny) (hz : Below v.heap.size v w') : w'.cell? ⟨g, i, none⟩ = some y ∧ w'.cell? ⟨g, i + 1, none⟩ = some (.string (bs f)) ∧ w'.cell? ⟨g, 0, none⟩ = some ny ∧ Below v.heap.size v w' :=
  ⟨(hz.cell (lt_of_cell e0)).trans e0, (hz.cell (lt_of_cell e1)).trans e1, (hz.cell (lt_of_cell e2)).trans e2, hz⟩
theorem finT {v w4 : World} {M N : Nat → Prop} {y : Value} {V : List Ru} (hz : Below v.heap.size v w4) (hr : RN w4 N y V) (hN : ∀ b, N b → b < w4.heap.size ∧ M b) (u : Int) (f : List UInt8) : BT (w4.alloc (.cells #[.int .i64 u, y, .string (bs f)] 32)) w4.heap.size u y f ∧ RM (w4.alloc (.cells #[.int .i64 u, y, .string (bs f)] 32)) M y V ∧ v.heap.size ≤ w4.heap.size ∧ Below v.heap.size v (w4.alloc (.cells #[.int .i64 u, y, .string (bs f)] 32)) := by
  have hb := enew w4 (.cells #[.int .i64 u, y, .string (bs f)] 32)
  exact ⟨BT.new _ _ _ _, RM.up (w := w4) (RN.imp hr hN) hb, hz.size, hz.alloc hz.size _⟩
theorem finU {v w4 : World} {M N : Nat → Prop} {y y0 : Value} {V : List Ru} {g : Nat} {u0 : Int} {f0 : List UInt8} (hz : Below v.heap.size v w4) (hr : RN w4 N y V) (hN : ∀ b, N b → b < w4.heap.size ∧ M b) (k : BT w4 g u0 y0 f0) (hg : v.heap.size ≤ g) (hn : ∀ b, N b → b ≠ g) (u : Int) (f : List UInt8) : BT (((w4.setCell ⟨g, 0, none⟩ (.int .i64 u)).setCell ⟨g, 1, none⟩ y).setCell ⟨g, 2, none⟩ (.string (bs f))) g u y f ∧ RM (((w4.setCell ⟨g, 0, none⟩ (.int .i64 u)).setCell ⟨g, 1, none⟩ y).setCell ⟨g, 2, none⟩ (.string (bs f))) M y V ∧ v.heap.size ≤ g ∧ Below v.heap.size v (((w4.setCell ⟨g, 0, none⟩ (.int .i64 u)).setCell ⟨g, 1, none⟩ y).setCell ⟨g, 2, none⟩ (.string (bs f))) := by
  refine ⟨k.set3 _ _ _, RN.imp (rn_put3' hr g hn _ _ _) fun b hb => ?_, hg, below_set3 hz g hg _ _ _⟩
  refine ⟨?_, (hN b hb).2⟩
  rw [World.size_setCell, World.size_setCell, World.size_setCell]
  exact (hN b hb).1
theorem Onl.set3 (g : Nat) (w : World) (a0 a1 a2 : Value) : Onl g w (((w.setCell ⟨g, 0, none⟩ a0).setCell ⟨g, 1, none⟩ a1).setCell ⟨g, 2, none⟩ a2) := (((Onl.refl g w).set _ _).set _ _).set _ _
set_option maxRecDepth 100000 in
set_option maxHeartbeats 16000000 in
theorem at_in (M : Nat → Prop) (g : Nat) (l : List (List UInt8)) (C : List Cf) (rf : Nat) (w : World) (h : PlH M w g l C rf) (hM : ∀ b, w.heap.size ≤ b → M b) (v : Int) (k : Nat) (c : Cf) (hv : v = (k : Int) + 1) (hc : C[k]? = some c) :
    Calls Tryz.prog 8 #[.pointer (some ⟨g, 0, none⟩), .int .i64 v] w fun e w' => AtR w' M v c e ∧ Below w.heap.size w w' := by
  have hnot := enot
  have c0 : (ByteArray.mk #[]) = bs [] := rfl
  have hkC := (List.getElem?_eq_some_iff.1 hc).1
  obtain ⟨cf, cU⟩ := c
  have hC16 := h.2.2.1.1
  obtain ⟨n, hn⟩ : ∃ n, C.length = n := ⟨_, rfl⟩
  rw [hn] at hkC hC16
  have d1 : decide (v < 1) = false := decide_eq_false (by omega)
  have d2 : decide ((n : Int) < v) = false := decide_eq_false (by omega)
  have hsub : IntKind.i64.wrap (v - 1) = (k : Int) := by rw [IntWalk.i64_in _ (by omega)]; omega
  have hbv : badV v = false := by rw [badV, decide_eq_false (by omega), decide_eq_false (by omega)]; rfl
  obtain ⟨ho1, ho2, ho3⟩ := h.2.1 (cf, cU) (List.mem_of_getElem? hc)
  have hgl := h.lt
  have hb0 := enew w (.cells #[.int .i64 0, .slice none 0 0, .string (bs [])] 32)
  have hr0 := BT.new w 0 (.slice none 0 0) []
  obtain ⟨M1, hM1⟩ : ∃ M1 : Nat → Prop, M1 = fun b => M b ∧ b ≠ w.heap.size := ⟨_, rfl⟩
  have h' : PlH M1 w g l C rf := h.imp (by rw [hM1]; exact fun h2 => h.1 h2.1) (by rw [hM1]; exact fun b hb hm => ⟨hm, by omega⟩)
  obtain ⟨hM0, -, -, ny, F, k0, k1, k2⟩ := h'.up hb0
  rw [hn] at k0
  obtain ⟨fe, V, rm, sm⟩ := k2 k (cf, cU) hc
  obtain ⟨A, q, ey, -⟩ := id rm
  have a0 := k0.cr (show k < 16 by omega)
  have a1 := k0.cf (show k < 16 by omega)
  rw [ey] at a0 rm
  rw [fe] at a1
  simp only at a1 sm
  have HK0 := hid k0
  have HK1 := hid k1
  have HRM := hid rm
  have HSM := hid sm
  have HMM : Hid (∀ b, w.heap.size < b → M1 b) := hid (by rw [hM1]; exact fun b hb => ⟨hM b (by omega), by omega⟩)
  have HMX : Hid ((∀ b, M1 b → M b) ∧ ¬ M1 w.heap.size) := hid (by rw [hM1]; exact ⟨fun b hb => hb.1, fun hb => hb.2 rfl⟩)
  have HR0 := hid hr0
  have HB0 := hid hb0
  have HA0 := hid (And.intro a0 a1)
  have hcp : compT v cf (V.map Ru.sem) l = (0, (v, cf, ordB rkS cU)) := by
    rw [sm, compT, if_neg (by rw [hbv]; simp), if_neg (by have : chkC (chkR · l) cf cU = 0 := ho1; rw [this]; simp)]
  have HCP := hid (fun (w2 : World) (N : Nat → Prop) (h1 : RN w2 N (.slice A V.length q) V) (h2 : ∀ b, N b → b < w2.heap.size) (h3 : TX w2 (· < w2.heap.size) ny l) => tcompile_in N (.slice A V.length q) cf V v ny l w2 h1 h2 (fun u hu => ho3 u.sem (by have : u.sem ∈ V.map Ru.sem := List.mem_map.2 ⟨u, hu, rfl⟩; rw [sm] at this; exact this)) ho2 h3 (hid hcp))
  have hrs : w.heap.size < (w.alloc (.cells #[.int .i64 0, .slice none 0 0, .string (bs [])] 32)).heap.size := by simp
  have HRS := hid hrs
  clear hv h h' hM1 hM hc hn hbv ho1 ho2 ho3 hb0 hr0 k0 k1 k2 fe rm sm ey a0 a1 hcp hM0 hrs
  go_enter Tryz.func8, Tryz.ntmps8
  go_upto_region 1 with (fail)
  generalize w.alloc (.cells #[.int .i64 0, .slice none 0 0, .string (bs [])] 32) = v0 at *
  go_wp2_with fail
  refine (cversions_any g (n : Int) v0 HK0.out.cv (by omega) (by omega)).mono ?_
  rintro e v1 ⟨rfl, hb1⟩
  have HK := hid (HK0.out.up hb1)
  have HN1 := hid (HK1.out.up hb1)
  have HM1 := hid (HRM.out.up hb1)
  have HR1 := hid (HR0.out.up hb1)
  have HB1 := hid (estep HB0.out hb1)
  have a0 := (hb1.cell (lt_of_cell HA0.out.1)).trans HA0.out.1
  have a1 := (hb1.cell (lt_of_cell HA0.out.2)).trans HA0.out.2
  have a2 := HK.out.c0
  have hrs1 : Hid (w.heap.size < v1.heap.size) := hid (by have := HRS.out; have := hb1.size; omega)
  clear hb1 HK0 HK1 HRM HR0 HB0 HA0 HRS
  generalize hVn : V.length = vn at *
  have HVN := hid hVn
  clear hVn
  have HNW : Hid (∀ (w2 w3 : World), v1.heap.size ≤ w2.heap.size → w2.heap.size ≤ w3.heap.size → ∀ b, ((w2.heap.size ≤ b ∧ b < w3.heap.size) ∨ In M1 v1 b) → b < w3.heap.size ∧ M1 b) := hid fun w2 w3 h1 h2 b hb => by
    have := hrs1.out
    rcases hb with hb | hb
    · exact ⟨hb.2, HMM.out b (by omega)⟩
    · exact ⟨by have := hb.1; omega, hb.2⟩
  have HNE : Hid (∀ (w2 w3 : World), v1.heap.size < w2.heap.size → ∀ b, ((w2.heap.size ≤ b ∧ b < w3.heap.size) ∨ In M1 v1 b) → b ≠ v1.heap.size) := hid fun w2 w3 h1 b hb => by
    rcases hb with hb | hb
    · omega
    · have := hb.1; omega
  have HC1 : Hid (∀ w2, Below v1.heap.size v1 w2 → Calls Tryz.prog 18 #[.agg #[.slice A vn q, .string (bs cf)], .int .i64 v, ny] w2 fun e w' => (∃ t, e = .returned (.tuple #[t, .int .i64 0]) ∧ TNN w' (fun b => (w2.heap.size ≤ b ∧ b < w'.heap.size) ∨ In M1 v1 b) t (v, cf, ordB rkS cU)) ∧ Below w2.heap.size w2 w') := hid fun w2 hb => HCP.out w2 (In M1 v1) (RN.same HM1.out fun b hb2 => hb.block b hb2.1) (fun b hb2 => Nat.lt_of_lt_of_le hb2.1 hb.size) (HN1.out.up hb).tx
  have hk0 : (0 : Int) ≤ (k : Int) := by omega
  have hk16 : (k : Int) < 16 := by omega
  clear HCP HK
  go_upto_region 3 with (fail)
  go_cut [6, 7] from 17 to 32 (fun s6 s7 wx => ∃ (tg : Nat) (A4 : Option Addr) (V4 : List Ru) (q4 : Nat), s6 = .pointer (some ⟨tg, 0, none⟩) ∧ s7 = .int .i64 0 ∧ Hid (V4.map Ru.sem = ordB rkS cU) ∧ Hid (BT wx tg v (.slice A4 V4.length q4) cf ∧ RM wx M1 (.slice A4 V4.length q4) V4 ∧ v1.heap.size ≤ tg ∧ Below v1.heap.size v1 wx))
  case first =>
    have hz : Below v1.heap.size v1 v1.drew := (Below.refl _ _).drew
    have hza : Below v1.heap.size v1 (v1.alloc (.cells #[.int .i64 0, .slice none 0 0, .string (bs [])] 32)).drew := (enew _ _).drew
    have hwl : v1.heap.size ≤ v1.heap.size := Nat.le_refl _
    go_region_held3 (fun w' => w'.cell? ⟨g, 1 + k * 2, none⟩ = some (.slice A vn q) ∧ w'.cell? ⟨g, 1 + k * 2 + 1, none⟩ = some (.string (bs cf)) ∧ w'.cell? ⟨g, 0, none⟩ = some ny ∧ Below v1.heap.size v1 w') (first | (with_reducible exact keepA a0 a1 a2 hz) | (with_reducible exact keepA a0 a1 a2 hza) | (with_reducible exact keepA a0 a1 a2 (hz.alloc hz.size _)) | (with_reducible exact keepA a0 a1 a2 (below_set3 hz v1.heap.size hwl _ _ _))) (first
      | (go_at_call 18
         first
           | ((with_reducible refine (HC1.out _ hz).mono ?_); rintro e w4 ⟨⟨t4, rfl, hTN⟩, hy4⟩; obtain ⟨y4, V4, ht4, hr4, hs4⟩ := hTN; obtain ⟨A4, q4, rfl, -⟩ := id hr4; simp only at ht4; subst ht4; have hN4 := HNW.out _ _ hz.size hy4.size; have hz := hz.trans (hy4.mono hz.size))
           | ((with_reducible refine (HC1.out _ hza).mono ?_); rintro e w4 ⟨⟨t4, rfl, hTN⟩, hy4⟩; obtain ⟨y4, V4, ht4, hr4, hs4⟩ := hTN; obtain ⟨A4, q4, rfl, -⟩ := id hr4; simp only at ht4; subst ht4; have hN4 := HNW.out _ _ hza.size hy4.size; have hM4 := HNE.out (v1.alloc (.cells #[.int .i64 0, .slice none 0 0, .string (bs [])] 32)).drew w4 (by simp); have hz := hza.trans (hy4.mono hza.size); have ky := (BT.new v1 0 (.slice none 0 0) []).drew.up hy4; obtain ⟨y0, y1, y2⟩ := BT.cells ky; obtain ⟨f0, f1, f2⟩ := BT.froz ky)))
    all_goals
      go_wp2_with fail
      go_meet
      first
        | with_reducible exact ⟨_, _, _, _, rfl, rfl, hid hs4, hid (finT hz hr4 hN4 _ _)⟩
        | with_reducible exact ⟨_, _, _, _, rfl, rfl, hid hs4, hid (finU hz hr4 hN4 ky hwl hM4 _ _)⟩
  case rest =>
    obtain ⟨tg, A4, V4, q4, rfl, rfl, HS4, HC⟩ := hcut
    obtain ⟨v5, rfl⟩ : ∃ v5, v5 = wc := ⟨_, rfl⟩
    obtain ⟨t0, t1, t2⟩ := BT.cells HC.out.1
    have HR5 := hid (HR1.out.up HC.out.2.2.2)
    have hne : w.heap.size ≠ tg := by have := hrs1.out; have := HC.out.2.2.1; omega
    obtain ⟨r0, r1, r2⟩ := BT.cells HR5.out
    obtain ⟨f0, f1, f2⟩ := BT.froz HR5.out
    have HA := hid (BT.cells (BT.set3 HR5.out v (.slice A4 V4.length q4) cf))
    have HM5 := hid (HC.out.2.1.only (Onl.set3 w.heap.size v5 (.int .i64 v) (.slice A4 V4.length q4) (.string (bs cf))) (g := w.heap.size) HMX.out.2)
    have HB5 := hid (below_set3 (estep HB1.out HC.out.2.2.2) w.heap.size (Nat.le_refl _) (.int .i64 v) (.slice A4 V4.length q4) (.string (bs cf)))
    clear HC1 HNW HNE HMM a0 a1 a2
    generalize hn4 : V4.length = n4 at *
    go_wp2_with fail
    (try simp only [Exit.inBlock, Exit.then])
    refine bodyPost_ret (v := .tuple #[.agg #[.int .i64 v, .slice A4 n4 q4, .string (bs cf)], .bool true]) (by simp [results, Tryz.results8, go_sem, HA.out.1, HA.out.2.1, HA.out.2.2]; try rfl) rfl ?_
    refine ⟨⟨A4, V4, q4, by rw [hn4], ?_, HS4.out⟩, HB5.out⟩
    rw [hn4]
    exact RM.imp HM5.out fun b _ hb => HMX.out.1 b hb
end Go.Proofs.YtelglcakekgdeaaGreatDoor
namespace Go.Proofs.YtelglcakekgdeaaGreatDoor
set_option linter.unusedVariables false
set_option linter.unusedSimpArgs false
open Go.RowKit Go.Joins

set_option maxRecDepth 100000 in
set_option maxHeartbeats 4000000 in
theorem at_out (M : Nat → Prop) (g : Nat) (l : List (List UInt8)) (C : List Cf) (rf : Nat) (w : World) (h : PlH M w g l C rf) (v : Int) (n : Nat) (hn : C.length = n) (h1 : 1 ≤ v) (h2 : (n : Int) < v) :
    Calls Tryz.prog 8 #[.pointer (some ⟨g, 0, none⟩), .int .i64 v] w fun e w' => e = .returned (.tuple #[.agg #[.int .i64 0, .slice none 0 0, .string (bs [])], .bool false]) ∧ Below w.heap.size w w' := by
  have hnot := enot
  have c0 : (ByteArray.mk #[]) = bs [] := rfl
  have d1 : decide (v < 1) = false := decide_eq_false (by omega)
  have d2 : decide ((n : Int) < v) = true := decide_eq_true h2
  have hb0 := enew w (.cells #[.int .i64 0, .slice none 0 0, .string (bs [])] 32)
  have hr0 := BT.new w 0 (.slice none 0 0) []
  have hV : (w.alloc (.cells #[.int .i64 0, .slice none 0 0, .string (bs [])] 32)).cell? ⟨g, 33, none⟩ = some (.int .i64 (n : Int)) := by rw [← hn]; exact (h.up hb0).cells.1
  have h16 : n ≤ 16 := by rw [← hn]; exact h.2.2.1.1
  have HV := hid (cversions_any g (n : Int) _ hV (by omega) (by omega))
  have HB0 := hid hb0
  have HR0 := hid hr0
  clear h hn h1 h2 hb0 hr0 hV h16
  go_enter Tryz.func8, Tryz.ntmps8
  go_upto_region 1 with (fail)
  generalize w.alloc (.cells #[.int .i64 0, .slice none 0 0, .string (bs [])] 32) = v0 at *
  go_wp2_with fail
  refine HV.out.mono ?_
  rintro e v1 ⟨rfl, hb1⟩
  have HR1 := hid (HR0.out.up hb1)
  have HB1 := hid (estep HB0.out hb1)
  clear hb1 HV HR0 HB0
  obtain ⟨t0, t1, t2⟩ := HR1.out.cells
  obtain ⟨f0, f1, f2⟩ := HR1.out.froz
  have HA := hid (HR1.out.set3 0 (.slice none 0 0) []).cells
  have HB2 := hid (below_set3 HB1.out w.heap.size (Nat.le_refl _) (.int .i64 0) (.slice none 0 0) (.string (bs [])))
  go_wp2_with fail
  (try simp only [Exit.inBlock, Exit.then])
  refine bodyPost_ret (v := .tuple #[.agg #[.int .i64 0, .slice none 0 0, .string (bs [])], .bool false]) (by simp [results, Tryz.results8, go_sem, HA.out.1, HA.out.2.1, HA.out.2.2]; try rfl) rfl ?_
  exact ⟨rfl, HB2.out⟩
set_option maxRecDepth 100000 in
theorem cversions_nil (w : World) :
    Calls Tryz.prog 11 #[.pointer none] w fun e w' => e = .returned (.int .i64 0) ∧ Below w.heap.size w w' := by
  go_enter Tryz.func11, Tryz.ntmps11
  go_wp2_with fail
  go_returns
  exact ⟨rfl, Below.refl _ _⟩
set_option maxRecDepth 100000 in
theorem crefused_nil (w : World) :
    Calls Tryz.prog 12 #[.pointer none] w fun e w' => e = .returned (.int .i64 0) ∧ Below w.heap.size w w' := by
  go_enter Tryz.func12, Tryz.ntmps12
  go_wp2_with fail
  go_returns
  exact ⟨rfl, Below.refl _ _⟩
set_option maxRecDepth 100000 in
theorem publish_nil (s : Value) (w : World) :
    Calls Tryz.prog 7 #[.pointer none, s] w fun e w' => e = .returned (.tuple #[.int .i64 0, .int .i64 1]) ∧ Below w.heap.size w w' := by
  go_enter Tryz.func7, Tryz.ntmps7
  go_wp2_with fail
  go_returns
  exact ⟨rfl, Below.refl _ _⟩
set_option maxRecDepth 100000 in
set_option maxHeartbeats 4000000 in
theorem at_nil (w : World) :
    Calls Tryz.prog 8 #[.pointer none, .int .i64 1] w fun e w' => e = .returned (.tuple #[.agg #[.int .i64 0, .slice none 0 0, .string (bs [])], .bool false]) ∧ Below w.heap.size w w' := by
  have hnot := enot
  have c0 : (ByteArray.mk #[]) = bs [] := rfl
  have HB0 := hid (enew w (.cells #[.int .i64 0, .slice none 0 0, .string (bs [])] 32))
  have HR0 := hid (BT.new w 0 (.slice none 0 0) [])
  go_enter Tryz.func8, Tryz.ntmps8
  go_upto_region 1 with (fail)
  generalize w.alloc (.cells #[.int .i64 0, .slice none 0 0, .string (bs [])] 32) = v0 at *
  go_wp2_with fail
  refine (cversions_nil _).mono ?_
  rintro e v1 ⟨rfl, hb1⟩
  have HR1 := hid (HR0.out.up hb1)
  have HB1 := hid (estep HB0.out hb1)
  clear hb1 HR0 HB0
  obtain ⟨t0, t1, t2⟩ := HR1.out.cells
  obtain ⟨f0, f1, f2⟩ := HR1.out.froz
  have HA := hid (HR1.out.set3 0 (.slice none 0 0) []).cells
  have HB2 := hid (below_set3 HB1.out w.heap.size (Nat.le_refl _) (.int .i64 0) (.slice none 0 0) (.string (bs [])))
  go_wp2_with fail
  (try simp only [Exit.inBlock, Exit.then])
  refine bodyPost_ret (v := .tuple #[.agg #[.int .i64 0, .slice none 0 0, .string (bs [])], .bool false]) (by simp [results, Tryz.results8, go_sem, HA.out.1, HA.out.2.1, HA.out.2.2]; try rfl) rfl ?_
  exact ⟨rfl, HB2.out⟩
set_option maxRecDepth 100000 in
set_option maxHeartbeats 4000000 in
theorem nothing18_any (w : World) : Calls Tryz.prog 13 #[] w fun e w' => e = .returned (.bool true) ∧ Below w.heap.size w w' := by
  have hnot := enot
  have c0 : (ByteArray.mk #[]) = bs [] := rfl
  go_enter Tryz.func13, Tryz.ntmps13
  go_wp2_with fail
  refine (publish_nil _ _).mono ?_
  rintro e w1 ⟨rfl, hb1⟩
  have H1 := hid hb1
  clear hb1
  go_wp2_with fail
  refine (at_nil _).mono ?_
  rintro e w2 ⟨rfl, hb2⟩
  have hba := enew w2 (.cells #[.int .i64 0, .slice none 0 0, .string (bs [])] 32)
  have ht := BT.new w2 0 (.slice none 0 0) []
  have H2 := hid (estep (estep H1.out hb2) hba)
  clear hb2 hba
  go_upto_region 4 with (fail)
  generalize w2.alloc (.cells #[.int .i64 0, .slice none 0 0, .string (bs [])] 32) = v2 at *
  obtain ⟨t0, t1, t2⟩ := ht.cells
  go_wp2_with fail
  refine (rtsame_tv 0 [] _ _ [] [] v2 rfl (rv_none v2) (rv_none v2) (by simp)).mono ?_
  rintro e w3 ⟨rfl, hb3⟩
  have H3 := hid (estep H2.out hb3)
  clear hb3 t0 t1 t2 ht
  go_wp2_with fail
  refine (cversions_nil _).mono ?_
  rintro e w4 ⟨rfl, hb4⟩
  have H4 := hid (estep H3.out hb4)
  clear hb4
  go_wp2_with fail
  refine (crefused_nil _).mono ?_
  rintro e w5 ⟨rfl, hb5⟩
  have H5 := hid (estep H4.out hb5)
  clear hb5
  go_wp2_with fail
  go_returns
  exact ⟨rfl, H5.out⟩
def k18a : List UInt8 := [114, 117, 108, 101, 32, 49, 10, 116, 111, 32, 97, 10, 101, 110, 100, 10]
def k18b : List UInt8 := [114, 117, 108, 101, 32, 49, 10, 116, 111, 32, 98, 10, 101, 110, 100, 10]
def k18c : Cf := ([], [⟨1, [], [97], 0, 0, 0, 0, 0, [], 0⟩])
theorem k18_1 : pubR [[97]] ([] : List Cf).length k18a = (0, k18c) := by decide +kernel
theorem k18_2 : pubR [[97]] ([k18c] : List Cf).length k18b = (7, noC) := by decide +kernel
theorem k18_3 : pubR [[97]] ([k18c] : List Cf).length [120] = (3, noC) := by decide +kernel
theorem k18_ok : okC [[97]] k18c := by
  refine ⟨by decide +kernel, by simp [k18c], fun r hr => ?_⟩
  have e : r = ⟨1, [], [97], 0, 0, 0, 0, 0, [], 0⟩ := by simpa [k18c] using hr
  subst e
  exact ⟨by simp [smallP], by simp, by simp, by simp⟩
theorem k18_ord : ordB rkS k18c.2 = k18c.2 := by decide +kernel
end Go.Proofs.YtelglcakekgdeaaGreatDoor
namespace Go.Proofs.YtelglcakekgdeaaGreatDoor
set_option linter.unusedVariables false
set_option linter.unusedSimpArgs false
open Go.RowKit Go.Joins

set_option maxRecDepth 100000 in
set_option maxHeartbeats 16000000 in
theorem known18_any (w : World) (E : EnvC w) : Calls Tryz.prog 5 #[] w fun e w' => e = .returned (.bool true) ∧ Below w.heap.size w w' := by
  have hnot := enot
  have c0 : (ByteArray.mk #[]) = bs [] := rfl
  have c1 : (ByteArray.mk #[97]) = bs [97] := rfl
  have c2 : (ByteArray.mk #[114, 117, 108, 101, 32, 49, 10, 116, 111, 32, 97, 10, 101, 110, 100, 10]) = bs k18a := rfl
  have c3 : (ByteArray.mk #[114, 117, 108, 101, 32, 49, 10, 116, 111, 32, 98, 10, 101, 110, 100, 10]) = bs k18b := rfl
  have c4 : (ByteArray.mk #[120]) = bs [120] := rfl
  have hb0 := enew w (.cells #[.string (bs [97])] 9)
  have htx := tx_one w 9 [97] (by simp)
  have HB0 := hid hb0
  have HNW := hid (cnew_any18 _ [[97]] _ htx (by simp))
  have HE := hid E
  clear hb0 htx E
  go_enter Tryz.func5, Tryz.ntmps5
  go_wp2_with fail
  refine HNW.out.mono ?_
  rintro e w1 ⟨g, rfl, hg, hH, hb1⟩
  generalize hM : (fun b => (w.alloc (.cells #[.string (bs [97])] 9)).heap.size ≤ b ∧ b ≠ g) = M at hH
  have HMI : Hid (∀ b, w1.heap.size ≤ b → M b) := hid fun b hb => by
    rw [← hM]
    have h1 := hb1.size
    have h2 := hH.lt
    exact ⟨by omega, by omega⟩
  have HB1 := hid (estep HB0.out hb1)
  have HGL := hid (show w.heap.size ≤ g by have := hg; simp at this; omega)
  have HE1 := hid (HE.out.up HB1.out)
  have HP1 := hid (publish_ok M g [[97]] [] 0 k18a w1 HE1.out hH HMI.out (by simp [k18a]) (c := k18c) (by simp) k18_ok (hid k18_1))
  clear hM HNW HB0 hb1 hg hH
  go_wp2_with fail
  refine HP1.out.mono ?_
  rintro e w2 ⟨rfl, hH2, ho2⟩
  have HB2 := hid (Onl.below HB1.out ho2 HGL.out HB1.out.size)
  have HP2 := hid (publish_no M g [[97]] [k18c] 0 k18b w2 (HE.out.up HB2.out) hH2 (by omega) (by simp [k18b]) (z := 7) (c := noC) (by decide) (hid k18_2))
  have HS2 := hid ho2.size
  clear HP1 hH2 ho2
  go_wp2_with fail
  refine HP2.out.mono ?_
  rintro e w3 ⟨rfl, hH3, ho3⟩
  have HB3 := hid (Onl.below HB2.out ho3 HGL.out HB2.out.size)
  have HP3 := hid (publish_no M g [[97]] [k18c] (0 + 1) [120] w3 (HE.out.up HB3.out) hH3 (by omega) (by simp) (z := 3) (c := noC) (by decide) (hid k18_3))
  have HS3 := hid ho3.size
  clear HP2 hH3 ho3
  go_wp2_with fail
  refine HP3.out.mono ?_
  rintro e w4 ⟨rfl, hH4, ho4⟩
  have HB4 := hid (Onl.below HB3.out ho4 HGL.out HB3.out.size)
  have HH4 := hid hH4
  have HM4 : Hid (∀ b, w4.heap.size ≤ b → M b) := hid fun b hb => HMI.out b (by have := HS2.out; have := HS3.out; have := ho4.size; omega)
  clear HP3 hH4 ho4 HB1 HB2 HB3 HE1 HS2 HS3 HMI
  have HA1 := hid (at_in M g [[97]] [k18c] (0 + 1 + 1) w4 HH4.out HM4.out 1 0 k18c (by rfl) rfl)
  go_wp2_with fail
  refine HA1.out.mono ?_
  rintro e w5 ⟨⟨A, V, q, rfl, -, hs5⟩, hb5⟩
  have hV : V.length = 1 := by
    have := congrArg List.length (hs5.trans k18_ord)
    rw [List.length_map] at this
    exact this
  rw [hV]
  have hba := enew w5 (.cells #[.int .i64 1, .slice A 1 q, .string (bs k18c.1)] 32)
  have ht5 := BT.new w5 1 (.slice A 1 q) k18c.1
  have hb6 := estep hb5 hba
  have HH6 := hid (HH4.out.up hb6)
  have HB6 := hid hb6
  have HT6 := hid ht5
  clear hs5 hV hb5 hba ht5 HA1 hb6
  go_upto_region 8 with (fail)
  generalize w5.alloc (.cells #[.int .i64 1, .slice A 1 q, .string (bs k18c.1)] 32) = w6 at *
  generalize w5.heap.size = tg at *
  have HA2 := hid (at_out M g [[97]] [k18c] (0 + 1 + 1) w6 HH6.out 2 1 rfl (by omega) (by omega))
  go_wp2_with fail
  refine HA2.out.mono ?_
  rintro e w7 ⟨rfl, hb7⟩
  have hba := enew w7 (.cells #[.int .i64 0, .slice none 0 0, .string (bs [])] 32)
  have hb8 := estep hb7 hba
  have HH8 := hid (HH6.out.up hb8)
  have HB8 := hid (estep HB6.out hb8)
  have HT8 := hid (HT6.out.up hb8)
  clear hb7 hba hb8 HA2 HH6 HT6 HB6
  go_upto_region 9 with (fail)
  generalize w7.alloc (.cells #[.int .i64 0, .slice none 0 0, .string (bs [])] 32) = w8 at *
  obtain ⟨t0, t1, t2⟩ := HT8.out.cells
  have HV8 : Hid (∀ w2, Below w8.heap.size w8 w2 → Calls Tryz.prog 11 #[.pointer (some ⟨g, 0, none⟩)] w2 fun e w' => e = .returned (.int .i64 1) ∧ Below w2.heap.size w2 w') := hid fun w2 hb => cversions_any g 1 w2 (HH8.out.up hb).cells.1 (by omega) (by omega)
  have HR8 : Hid (∀ w2, Below w8.heap.size w8 w2 → Calls Tryz.prog 12 #[.pointer (some ⟨g, 0, none⟩)] w2 fun e w' => e = .returned (.int .i64 2) ∧ Below w2.heap.size w2 w') := hid fun w2 hb => crefused_any g 2 w2 (HH8.out.up hb).cells.2.1 (by omega) (by omega)
  go_wp2_with fail
  refine (HV8.out _ (Below.refl _ _)).mono ?_
  rintro e w9 ⟨rfl, hb9⟩
  have HB9 := hid hb9
  clear hb9 t0 t1 t2
  go_wp2_with fail
  refine (HR8.out _ HB9.out).mono ?_
  rintro e wa ⟨rfl, hba⟩
  have HBA := hid (estep HB9.out hba)
  clear hba
  go_wp2_with fail
  refine (nothing18_any _).mono ?_
  rintro e wb ⟨rfl, hbb⟩
  go_wp2_with fail
  go_returns
  exact ⟨rfl, estep HB4.out (estep HB8.out (estep HBA.out hbb))⟩
end Go.Proofs.YtelglcakekgdeaaGreatDoor
