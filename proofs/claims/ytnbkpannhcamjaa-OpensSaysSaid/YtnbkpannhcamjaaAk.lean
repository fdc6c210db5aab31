/- opens: Finish of the definition; Finish, whole, both. -/
import Derived.Test.YtnbkpannhcamjaaAj
namespace Go.Proofs.Ytnbkpannhcamjaa
set_option linter.unusedVariables false
set_option linter.unusedSimpArgs false
open Go.RowKit Go.Joins

set_option maxRecDepth 100000 in
set_option maxHeartbeats 16000000 in
theorem rfinish_ok (v : Value) (L : List Opn) (no st kd now : Int) (w : World) (h : OV w v L) (hl : L.length ≤ 1000000) (k : Nat) (o : Opn) (hu : L[k]? = some o) (hI : opI L no = (k : Int)) :
    Calls Try.prog 10 #[v, .int .i64 no, .int .i64 st, .int .i64 kd, .int .i64 now] w fun e w' => FinR w (L.take k ++ L.drop (k + 1), opEnd o.2 st kd now, 0) e w' := by
  have t0 := SpV.new w #[.int .u64 0, .int .u64 0, .int .u64 0, .int .u64 0, .string (ByteArray.mk #[]), .int .i64 0, .int .i64 0, .int .i64 0, .bool false, .int .i64 0, .int .i64 0]
  have HOp := hid (h.up t0.bel)
  have HOw := hid h
  have HC := hid (fun (w2 : World) (h2 : OV w2 v L) => opat_any v L no w2 h2 hl (hid hI))
  have HL := hid hl
  have HUk := hid hu
  obtain ⟨m, s⟩ := o
  obtain ⟨mx, hmx⟩ : ∃ mx, max now s.start = mx := ⟨_, rfl⟩
  have hk : k < L.length := (List.getElem?_eq_some_iff.1 hu).1
  obtain ⟨n, hnn⟩ : ∃ n, L.length = n := ⟨_, rfl⟩
  have hk0 : ¬ ((k : Int) < 0) := by omega
  have hkd : decide ((k : Int) < 0) = false := decide_eq_false hk0
  have hk1 : (0 : Int) ≤ (k : Int) := by omega
  have hkn : (k : Int) < (n : Int) := by omega
  have HNl := hid hnn
  have HM := hid hmx
  clear hI h hl hu hmx hnn hk
  go_enter Try.func10, Try.ntmps10
  go_upto_region 1 with (fail)
  generalize w.alloc (.cells #[.int .u64 0, .int .u64 0, .int .u64 0, .int .u64 0, .string (ByteArray.mk #[]), .int .i64 0, .int .i64 0, .int .i64 0, .bool false, .int .i64 0, .int .i64 0] 27) = v0 at *
  go_wp2_with fail
  refine (HC.out _ HOp.out).mono ?_
  rintro e w1 ⟨rfl, hb1⟩
  have t1 := hid (t0.up hb1)
  have HO1 := hid (HOp.out.up hb1)
  obtain ⟨A, c, hv, hgx, hc1, hc2, hc3⟩ := HO1.out
  rw [HNl.out] at hv hc1
  subst hv
  obtain ⟨bb, pp, rfl, -, q0, q1, q2, q3, q4, q5, q6, q7, q8, q9, q10, q11⟩ := op_cells hgx HUk.out
  have HG := hid hgx
  have hbx := enew w1 (.cells #[.int .u64 (s.hi : Int), .int .u64 (s.lo : Int), .int .u64 (s.id : Int), .int .u64 (s.up : Int), .string (bs s.name), .int .i64 s.status, .int .i64 s.seq, .int .i64 s.kids, .bool s.shade, .int .i64 s.start, .int .i64 s.fin] 27)
  have t2 := hid (SpV.more (cs := #[.int .u64 (s.hi : Int), .int .u64 (s.lo : Int), .int .u64 (s.id : Int), .int .u64 (s.up : Int), .string (bs s.name), .int .i64 s.status, .int .i64 s.seq, .int .i64 s.kids, .bool s.shade, .int .i64 s.start, .int .i64 s.fin]) t1.out.bel t1.out.low)
  have r2 := hid (t1.out.up hbx)
  have HGX := hid (fun (w' : World) (hb : Below w.heap.size w w') => (HOw.out.up hb))
  have hlt := t1.out.blk.lt
  have HGL := hid (Nat.ne_of_lt hlt)
  clear hb1 t0 hgx q0 hc3 hlt t1 HO1 HOp HOw HC HG hbx
  go_upto_region 5 with (fail)
  generalize w1.alloc (.cells #[.int .u64 (s.hi : Int), .int .u64 (s.lo : Int), .int .u64 (s.id : Int), .int .u64 (s.up : Int), .string (bs s.name), .int .i64 s.status, .int .i64 s.seq, .int .i64 s.kids, .bool s.shade, .int .i64 s.start, .int .i64 s.fin] 27) = w2 at *
  generalize w1.heap.size = g1 at *
  generalize hg0e : w.heap.size = g0 at *
  have HG0 := hid hg0e
  clear hg0e
  clear q1 q2 q3 q4 q5 q6 q7 q8 q9 q10 q11
  have y5 : w2.frozen? ⟨g1, 5, none⟩ = false := (t2.out.c 5).2
  have y7 : w2.frozen? ⟨g1, 7, none⟩ = false := (t2.out.c 7).2
  have y10 : w2.frozen? ⟨g1, 10, none⟩ = false := (t2.out.c 10).2
  have z5 : w2.cell? ⟨g1, 5, none⟩ = some (.int .i64 s.status) := (t2.out.c 5).1
  have z7 : w2.cell? ⟨g1, 7, none⟩ = some (.int .i64 s.kids) := (t2.out.c 7).1
  have z9 : w2.cell? ⟨g1, 9, none⟩ = some (.int .i64 s.start) := (t2.out.c 9).1
  have z10 : w2.cell? ⟨g1, 10, none⟩ = some (.int .i64 s.fin) := (t2.out.c 10).1
  go_upto_region 8 with (fail)
  have hmx : (if now < s.start then s.start else now) = mx := by rw [← HM.out]; omega
  simp only [hmx]
  have t3 : SpV g0 w (((w2.setCell ⟨g1, 5, none⟩ (.int .i64 st)).setCell ⟨g1, 7, none⟩ (.int .i64 kd)).setCell ⟨g1, 10, none⟩ (.int .i64 mx)) g1 #[.int .u64 (s.hi : Int), .int .u64 (s.lo : Int), .int .u64 (s.id : Int), .int .u64 (s.up : Int), .string (bs s.name), .int .i64 st, .int .i64 s.seq, .int .i64 kd, .bool s.shade, .int .i64 s.start, .int .i64 mx] := ((t2.out.put 5 (.int .i64 st)).put 7 (.int .i64 kd)).put 10 (.int .i64 mx)
  have r3 := ((t2.out.put 5 (.int .i64 st)).put 7 (.int .i64 kd)).other (((t2.out.put 5 (.int .i64 st)).other (t2.out.other r2.out HGL.out 5 (.int .i64 st)) HGL.out 7 (.int .i64 kd))) HGL.out 10 (.int .i64 mx)
  clear y5 y7 y10 z5 z7 z9 z10 t2 r2 hmx
  generalize ((w2.setCell ⟨g1, 5, none⟩ (.int .i64 st)).setCell ⟨g1, 7, none⟩ (.int .i64 kd)).setCell ⟨g1, 10, none⟩ (.int .i64 mx) = w3 at *
  have z0 : w3.cell? ⟨g1, 0, none⟩ = some (.int .u64 (s.hi : Int)) := (t3.c 0).1
  have z1 : w3.cell? ⟨g1, 1, none⟩ = some (.int .u64 (s.lo : Int)) := (t3.c 1).1
  have z2 : w3.cell? ⟨g1, 2, none⟩ = some (.int .u64 (s.id : Int)) := (t3.c 2).1
  have z3 : w3.cell? ⟨g1, 3, none⟩ = some (.int .u64 (s.up : Int)) := (t3.c 3).1
  have z4 : w3.cell? ⟨g1, 4, none⟩ = some (.string (bs s.name)) := (t3.c 4).1
  have z5 : w3.cell? ⟨g1, 5, none⟩ = some (.int .i64 st) := (t3.c 5).1
  have z6 : w3.cell? ⟨g1, 6, none⟩ = some (.int .i64 s.seq) := (t3.c 6).1
  have z7 : w3.cell? ⟨g1, 7, none⟩ = some (.int .i64 kd) := (t3.c 7).1
  have z8 : w3.cell? ⟨g1, 8, none⟩ = some (.bool s.shade) := (t3.c 8).1
  have z9 : w3.cell? ⟨g1, 9, none⟩ = some (.int .i64 s.start) := (t3.c 9).1
  have z10 : w3.cell? ⟨g1, 10, none⟩ = some (.int .i64 mx) := (t3.c 10).1
  have hkc : (k : Int) ≤ (c : Int) := by omega
  have hk2 : (k : Int) ≤ (n : Int) := by omega
  have hk3 : wrap64 ((k : Int) + 1) = (k : Int) + 1 := by have := HL.out; have := HNl.out; unfold wrap64; omega
  have hk4 : IntKind.i64.wrap ((k : Int) + 1) = (k : Int) + 1 := by rw [IntKind.wrap_i64]; have := HL.out; have := HNl.out; omega
  have hk5 : (k : Int) + 1 ≤ (n : Int) := by omega
  have hk6 : (0 : Int) ≤ (k : Int) + 1 := by omega
  have hnc : (n : Int) ≤ (c : Int) := by omega
  have HGv := hid (show GX encO 12 w3 (· < w3.heap.size) (some ⟨bb, pp, none⟩) L by
    obtain ⟨A, c', hv, hgx, -⟩ := HGX.out _ t3.bel
    injection hv with e1
    rw [e1]
    exact hgx)
  clear HGX
  have hlk : (L.take k).length = k := by have := HNl.out; rw [List.length_take]; omega
  have hld : (L.drop (k + 1)).length = n - (k + 1) := by have := HNl.out; rw [List.length_drop, this]
  have HK1 := hid hlk
  have HK2 := hid hld
  have HKL := hid (show k + (n - (k + 1)) ≤ 1000000 by have := HL.out; have := HNl.out; omega)
  have HTK := hid (HGv.out.take k)
  have HDR := hid (op_drop (c := c) (k := k) HGv.out (by have := HNl.out; omega))
  clear hlk hld z0 z1 z2 z3 z4 z5 z6 z7 z8 z9 z10
  go_upto_region 9 with (fail)
  go_wp2_with (at_builtin; refine wpList_append_gx (W0 := w3) rowO rfl _ _ rfl w3.heap.size (.slice none 0 0) [] (L.take k) (some ⟨bb, pp, none⟩) c (· < w3.heap.size) rfl (GB.nil _ _) (by rw [HK1.out]; rfl) HTK.out (fun h => by cases h) (by have := HK1.out; have := HKL.out; simp only [List.length_nil]; omega) (Below.refl _ _) (Nat.le_refl _) ?_)
  intro v4 w4 hF4 hb4 hg4
  have HF4 := hid (And.intro hF4 hb4)
  have HDR4 := hid (HDR.out.up hb4)
  have hs4 := hb4.size
  clear hF4 hb4 hg4 HDR HTK
  by_cases hck : c = k + 1
  · rw [if_pos hck] at HDR4
    go_wp2_with (at_builtin; refine wpList_append_gx (W0 := w3) rowO rfl _ _ rfl w3.heap.size v4 (L.take k) (L.drop (k + 1)) _ _ (· < w4.heap.size) rfl (by first | exact HF4.out.1 | (have := HF4.out.1; rwa [List.nil_append] at this)) (by rw [HK2.out]; rfl) HDR4.out (fun h => by cases h) (by have := HK1.out; have := HK2.out; have := HKL.out; omega) HF4.out.2 (Nat.le_refl _) ?_)
    intro v5 w5 hF5 hb5 hg5
    have HF := hid hF5
    have hz : Below w3.heap.size w3 w5 := hb5
    have t5 := t3.up hz
    have r5 := r3.up hz
    clear hF5 hb5 hg5
    have z0 : w5.cell? ⟨g1, 0, none⟩ = some (.int .u64 (s.hi : Int)) := (t5.c 0).1
    have a0 : w5.cell? ⟨g0, 0, none⟩ = some (.int .u64 0) := (r5.c 0).1
    have b0 : w5.frozen? ⟨g0, 0, none⟩ = false := (r5.c 0).2
    have z1 : w5.cell? ⟨g1, 1, none⟩ = some (.int .u64 (s.lo : Int)) := (t5.c 1).1
    have a1 : w5.cell? ⟨g0, 1, none⟩ = some (.int .u64 0) := (r5.c 1).1
    have b1 : w5.frozen? ⟨g0, 1, none⟩ = false := (r5.c 1).2
    have z2 : w5.cell? ⟨g1, 2, none⟩ = some (.int .u64 (s.id : Int)) := (t5.c 2).1
    have a2 : w5.cell? ⟨g0, 2, none⟩ = some (.int .u64 0) := (r5.c 2).1
    have b2 : w5.frozen? ⟨g0, 2, none⟩ = false := (r5.c 2).2
    have z3 : w5.cell? ⟨g1, 3, none⟩ = some (.int .u64 (s.up : Int)) := (t5.c 3).1
    have a3 : w5.cell? ⟨g0, 3, none⟩ = some (.int .u64 0) := (r5.c 3).1
    have b3 : w5.frozen? ⟨g0, 3, none⟩ = false := (r5.c 3).2
    have z4 : w5.cell? ⟨g1, 4, none⟩ = some (.string (bs s.name)) := (t5.c 4).1
    have a4 : w5.cell? ⟨g0, 4, none⟩ = some (.string (ByteArray.mk #[])) := (r5.c 4).1
    have b4 : w5.frozen? ⟨g0, 4, none⟩ = false := (r5.c 4).2
    have z5 : w5.cell? ⟨g1, 5, none⟩ = some (.int .i64 st) := (t5.c 5).1
    have a5 : w5.cell? ⟨g0, 5, none⟩ = some (.int .i64 0) := (r5.c 5).1
    have b5 : w5.frozen? ⟨g0, 5, none⟩ = false := (r5.c 5).2
    have z6 : w5.cell? ⟨g1, 6, none⟩ = some (.int .i64 s.seq) := (t5.c 6).1
    have a6 : w5.cell? ⟨g0, 6, none⟩ = some (.int .i64 0) := (r5.c 6).1
    have b6 : w5.frozen? ⟨g0, 6, none⟩ = false := (r5.c 6).2
    have z7 : w5.cell? ⟨g1, 7, none⟩ = some (.int .i64 kd) := (t5.c 7).1
    have a7 : w5.cell? ⟨g0, 7, none⟩ = some (.int .i64 0) := (r5.c 7).1
    have b7 : w5.frozen? ⟨g0, 7, none⟩ = false := (r5.c 7).2
    have z8 : w5.cell? ⟨g1, 8, none⟩ = some (.bool s.shade) := (t5.c 8).1
    have a8 : w5.cell? ⟨g0, 8, none⟩ = some (.bool false) := (r5.c 8).1
    have b8 : w5.frozen? ⟨g0, 8, none⟩ = false := (r5.c 8).2
    have z9 : w5.cell? ⟨g1, 9, none⟩ = some (.int .i64 s.start) := (t5.c 9).1
    have a9 : w5.cell? ⟨g0, 9, none⟩ = some (.int .i64 0) := (r5.c 9).1
    have b9 : w5.frozen? ⟨g0, 9, none⟩ = false := (r5.c 9).2
    have z10 : w5.cell? ⟨g1, 10, none⟩ = some (.int .i64 mx) := (t5.c 10).1
    have a10 : w5.cell? ⟨g0, 10, none⟩ = some (.int .i64 0) := (r5.c 10).1
    have b10 : w5.frozen? ⟨g0, 10, none⟩ = false := (r5.c 10).2
    go_upto_region 11 with (fail)
    have hzd : Below w5.heap.size w5 w5.drew := (Below.refl _ _).drew
    go_region_held3 (fun w' => w'.cell? ⟨g1, 0, none⟩ = some (.int .u64 (s.hi : Int)) ∧ w'.cell? ⟨g1, 1, none⟩ = some (.int .u64 (s.lo : Int)) ∧ w'.cell? ⟨g1, 2, none⟩ = some (.int .u64 (s.id : Int)) ∧ w'.cell? ⟨g1, 3, none⟩ = some (.int .u64 (s.up : Int)) ∧ w'.cell? ⟨g1, 4, none⟩ = some (.string (bs s.name)) ∧ w'.cell? ⟨g1, 5, none⟩ = some (.int .i64 st) ∧ w'.cell? ⟨g1, 6, none⟩ = some (.int .i64 s.seq) ∧ w'.cell? ⟨g1, 7, none⟩ = some (.int .i64 kd) ∧ w'.cell? ⟨g1, 8, none⟩ = some (.bool s.shade) ∧ w'.cell? ⟨g1, 9, none⟩ = some (.int .i64 s.start) ∧ w'.cell? ⟨g1, 10, none⟩ = some (.int .i64 mx) ∧ Below g0 w w') (first | (with_reducible exact keepF1 t5 hzd) | (with_reducible exact keepF3d t5 r5 HGL.out.symm (Below.refl _ _))) (fail)
    all_goals
      have r6 := (r5.fill rfl (.int .u64 (s.hi : Int)) (.int .u64 (s.lo : Int)) (.int .u64 (s.id : Int)) (.int .u64 (s.up : Int)) (.string (bs s.name)) (.int .i64 st) (.int .i64 s.seq) (.int .i64 kd) (.bool s.shade) (.int .i64 s.start) (.int .i64 mx)).drew
      have HG6 := GB.below (gb_fill HF.out (show g0 < w3.heap.size from r3.blk.lt) (.int .u64 (s.hi : Int)) (.int .u64 (s.lo : Int)) (.int .u64 (s.id : Int)) (.int .u64 (s.up : Int)) (.string (bs s.name)) (.int .i64 st) (.int .i64 s.seq) (.int .i64 kd) (.bool s.shade) (.int .i64 s.start) (.int .i64 mx)) (Below.drew (Below.refl _ _))
      have HR := hid (And.intro r6 HG6)
      clear a0 b0 z0 a1 b1 z1 a2 b2 z2 a3 b3 z3 a4 b4 z4 a5 b5 z5 a6 b6 z6 a7 b7 z7 a8 b8 z8 a9 b9 z9 a10 b10 z10
      clear r6 HG6 HF
      generalize (((((((((((w5.setCell ⟨g0, 0, none⟩ (.int .u64 (s.hi : Int))).setCell ⟨g0, 1, none⟩ (.int .u64 (s.lo : Int))).setCell ⟨g0, 2, none⟩ (.int .u64 (s.id : Int))).setCell ⟨g0, 3, none⟩ (.int .u64 (s.up : Int))).setCell ⟨g0, 4, none⟩ (.string (bs s.name))).setCell ⟨g0, 5, none⟩ (.int .i64 st)).setCell ⟨g0, 6, none⟩ (.int .i64 s.seq)).setCell ⟨g0, 7, none⟩ (.int .i64 kd)).setCell ⟨g0, 8, none⟩ (.bool s.shade)).setCell ⟨g0, 9, none⟩ (.int .i64 s.start)).setCell ⟨g0, 10, none⟩ (.int .i64 mx)).drew = w6 at *
      have c0 : w6.cell? ⟨g0, 0, none⟩ = some (.int .u64 (s.hi : Int)) := (HR.out.1.c 0).1
      have c1 : w6.cell? ⟨g0, 1, none⟩ = some (.int .u64 (s.lo : Int)) := (HR.out.1.c 1).1
      have c2 : w6.cell? ⟨g0, 2, none⟩ = some (.int .u64 (s.id : Int)) := (HR.out.1.c 2).1
      have c3 : w6.cell? ⟨g0, 3, none⟩ = some (.int .u64 (s.up : Int)) := (HR.out.1.c 3).1
      have c4 : w6.cell? ⟨g0, 4, none⟩ = some (.string (bs s.name)) := (HR.out.1.c 4).1
      have c5 : w6.cell? ⟨g0, 5, none⟩ = some (.int .i64 st) := (HR.out.1.c 5).1
      have c6 : w6.cell? ⟨g0, 6, none⟩ = some (.int .i64 s.seq) := (HR.out.1.c 6).1
      have c7 : w6.cell? ⟨g0, 7, none⟩ = some (.int .i64 kd) := (HR.out.1.c 7).1
      have c8 : w6.cell? ⟨g0, 8, none⟩ = some (.bool s.shade) := (HR.out.1.c 8).1
      have c9 : w6.cell? ⟨g0, 9, none⟩ = some (.int .i64 s.start) := (HR.out.1.c 9).1
      have c10 : w6.cell? ⟨g0, 10, none⟩ = some (.int .i64 mx) := (HR.out.1.c 10).1
      (try simp only [Exit.inBlock, Exit.then])
      go_wp2_with fail
      refine bodyPost_ret (v := .tuple #[v5, .agg #[.int .u64 (s.hi : Int), .int .u64 (s.lo : Int), .int .u64 (s.id : Int), .int .u64 (s.up : Int), .string (bs s.name), .int .i64 st, .int .i64 s.seq, .int .i64 kd, .bool s.shade, .int .i64 s.start, .int .i64 mx], .int .i64 0]) (by simp [results, Try.results10, go_sem, c0, c1, c2, c3, c4, c5, c6, c7, c8, c9, c10]; try rfl) rfl ?_
      refine ⟨_, ?_, OV.of_gb HR.out.2, by rw [HG0.out]; exact HR.out.1.bel⟩
      simp only [opEnd, HM.out]
  · rw [if_neg hck] at HDR4
    go_wp2_with (at_builtin; refine wpList_append_gx (W0 := w3) rowO rfl _ _ rfl w3.heap.size v4 (L.take k) (L.drop (k + 1)) _ _ (· < w4.heap.size) rfl (by first | exact HF4.out.1 | (have := HF4.out.1; rwa [List.nil_append] at this)) (by rw [HK2.out]; rfl) HDR4.out (fun h => by cases h) (by have := HK1.out; have := HK2.out; have := HKL.out; omega) HF4.out.2 (Nat.le_refl _) ?_)
    intro v5 w5 hF5 hb5 hg5
    have HF := hid hF5
    have hz : Below w3.heap.size w3 w5 := hb5
    have t5 := t3.up hz
    have r5 := r3.up hz
    clear hF5 hb5 hg5
    have z0 : w5.cell? ⟨g1, 0, none⟩ = some (.int .u64 (s.hi : Int)) := (t5.c 0).1
    have a0 : w5.cell? ⟨g0, 0, none⟩ = some (.int .u64 0) := (r5.c 0).1
    have b0 : w5.frozen? ⟨g0, 0, none⟩ = false := (r5.c 0).2
    have z1 : w5.cell? ⟨g1, 1, none⟩ = some (.int .u64 (s.lo : Int)) := (t5.c 1).1
    have a1 : w5.cell? ⟨g0, 1, none⟩ = some (.int .u64 0) := (r5.c 1).1
    have b1 : w5.frozen? ⟨g0, 1, none⟩ = false := (r5.c 1).2
    have z2 : w5.cell? ⟨g1, 2, none⟩ = some (.int .u64 (s.id : Int)) := (t5.c 2).1
    have a2 : w5.cell? ⟨g0, 2, none⟩ = some (.int .u64 0) := (r5.c 2).1
    have b2 : w5.frozen? ⟨g0, 2, none⟩ = false := (r5.c 2).2
    have z3 : w5.cell? ⟨g1, 3, none⟩ = some (.int .u64 (s.up : Int)) := (t5.c 3).1
    have a3 : w5.cell? ⟨g0, 3, none⟩ = some (.int .u64 0) := (r5.c 3).1
    have b3 : w5.frozen? ⟨g0, 3, none⟩ = false := (r5.c 3).2
    have z4 : w5.cell? ⟨g1, 4, none⟩ = some (.string (bs s.name)) := (t5.c 4).1
    have a4 : w5.cell? ⟨g0, 4, none⟩ = some (.string (ByteArray.mk #[])) := (r5.c 4).1
    have b4 : w5.frozen? ⟨g0, 4, none⟩ = false := (r5.c 4).2
    have z5 : w5.cell? ⟨g1, 5, none⟩ = some (.int .i64 st) := (t5.c 5).1
    have a5 : w5.cell? ⟨g0, 5, none⟩ = some (.int .i64 0) := (r5.c 5).1
    have b5 : w5.frozen? ⟨g0, 5, none⟩ = false := (r5.c 5).2
    have z6 : w5.cell? ⟨g1, 6, none⟩ = some (.int .i64 s.seq) := (t5.c 6).1
    have a6 : w5.cell? ⟨g0, 6, none⟩ = some (.int .i64 0) := (r5.c 6).1
    have b6 : w5.frozen? ⟨g0, 6, none⟩ = false := (r5.c 6).2
    have z7 : w5.cell? ⟨g1, 7, none⟩ = some (.int .i64 kd) := (t5.c 7).1
    have a7 : w5.cell? ⟨g0, 7, none⟩ = some (.int .i64 0) := (r5.c 7).1
    have b7 : w5.frozen? ⟨g0, 7, none⟩ = false := (r5.c 7).2
    have z8 : w5.cell? ⟨g1, 8, none⟩ = some (.bool s.shade) := (t5.c 8).1
    have a8 : w5.cell? ⟨g0, 8, none⟩ = some (.bool false) := (r5.c 8).1
    have b8 : w5.frozen? ⟨g0, 8, none⟩ = false := (r5.c 8).2
    have z9 : w5.cell? ⟨g1, 9, none⟩ = some (.int .i64 s.start) := (t5.c 9).1
    have a9 : w5.cell? ⟨g0, 9, none⟩ = some (.int .i64 0) := (r5.c 9).1
    have b9 : w5.frozen? ⟨g0, 9, none⟩ = false := (r5.c 9).2
    have z10 : w5.cell? ⟨g1, 10, none⟩ = some (.int .i64 mx) := (t5.c 10).1
    have a10 : w5.cell? ⟨g0, 10, none⟩ = some (.int .i64 0) := (r5.c 10).1
    have b10 : w5.frozen? ⟨g0, 10, none⟩ = false := (r5.c 10).2
    go_upto_region 11 with (fail)
    have hzd : Below w5.heap.size w5 w5.drew := (Below.refl _ _).drew
    go_region_held3 (fun w' => w'.cell? ⟨g1, 0, none⟩ = some (.int .u64 (s.hi : Int)) ∧ w'.cell? ⟨g1, 1, none⟩ = some (.int .u64 (s.lo : Int)) ∧ w'.cell? ⟨g1, 2, none⟩ = some (.int .u64 (s.id : Int)) ∧ w'.cell? ⟨g1, 3, none⟩ = some (.int .u64 (s.up : Int)) ∧ w'.cell? ⟨g1, 4, none⟩ = some (.string (bs s.name)) ∧ w'.cell? ⟨g1, 5, none⟩ = some (.int .i64 st) ∧ w'.cell? ⟨g1, 6, none⟩ = some (.int .i64 s.seq) ∧ w'.cell? ⟨g1, 7, none⟩ = some (.int .i64 kd) ∧ w'.cell? ⟨g1, 8, none⟩ = some (.bool s.shade) ∧ w'.cell? ⟨g1, 9, none⟩ = some (.int .i64 s.start) ∧ w'.cell? ⟨g1, 10, none⟩ = some (.int .i64 mx) ∧ Below g0 w w') (first | (with_reducible exact keepF1 t5 hzd) | (with_reducible exact keepF3d t5 r5 HGL.out.symm (Below.refl _ _))) (fail)
    all_goals
      have r6 := (r5.fill rfl (.int .u64 (s.hi : Int)) (.int .u64 (s.lo : Int)) (.int .u64 (s.id : Int)) (.int .u64 (s.up : Int)) (.string (bs s.name)) (.int .i64 st) (.int .i64 s.seq) (.int .i64 kd) (.bool s.shade) (.int .i64 s.start) (.int .i64 mx)).drew
      have HG6 := GB.below (gb_fill HF.out (show g0 < w3.heap.size from r3.blk.lt) (.int .u64 (s.hi : Int)) (.int .u64 (s.lo : Int)) (.int .u64 (s.id : Int)) (.int .u64 (s.up : Int)) (.string (bs s.name)) (.int .i64 st) (.int .i64 s.seq) (.int .i64 kd) (.bool s.shade) (.int .i64 s.start) (.int .i64 mx)) (Below.drew (Below.refl _ _))
      have HR := hid (And.intro r6 HG6)
      clear a0 b0 z0 a1 b1 z1 a2 b2 z2 a3 b3 z3 a4 b4 z4 a5 b5 z5 a6 b6 z6 a7 b7 z7 a8 b8 z8 a9 b9 z9 a10 b10 z10
      clear r6 HG6 HF
      generalize (((((((((((w5.setCell ⟨g0, 0, none⟩ (.int .u64 (s.hi : Int))).setCell ⟨g0, 1, none⟩ (.int .u64 (s.lo : Int))).setCell ⟨g0, 2, none⟩ (.int .u64 (s.id : Int))).setCell ⟨g0, 3, none⟩ (.int .u64 (s.up : Int))).setCell ⟨g0, 4, none⟩ (.string (bs s.name))).setCell ⟨g0, 5, none⟩ (.int .i64 st)).setCell ⟨g0, 6, none⟩ (.int .i64 s.seq)).setCell ⟨g0, 7, none⟩ (.int .i64 kd)).setCell ⟨g0, 8, none⟩ (.bool s.shade)).setCell ⟨g0, 9, none⟩ (.int .i64 s.start)).setCell ⟨g0, 10, none⟩ (.int .i64 mx)).drew = w6 at *
      have c0 : w6.cell? ⟨g0, 0, none⟩ = some (.int .u64 (s.hi : Int)) := (HR.out.1.c 0).1
      have c1 : w6.cell? ⟨g0, 1, none⟩ = some (.int .u64 (s.lo : Int)) := (HR.out.1.c 1).1
      have c2 : w6.cell? ⟨g0, 2, none⟩ = some (.int .u64 (s.id : Int)) := (HR.out.1.c 2).1
      have c3 : w6.cell? ⟨g0, 3, none⟩ = some (.int .u64 (s.up : Int)) := (HR.out.1.c 3).1
      have c4 : w6.cell? ⟨g0, 4, none⟩ = some (.string (bs s.name)) := (HR.out.1.c 4).1
      have c5 : w6.cell? ⟨g0, 5, none⟩ = some (.int .i64 st) := (HR.out.1.c 5).1
      have c6 : w6.cell? ⟨g0, 6, none⟩ = some (.int .i64 s.seq) := (HR.out.1.c 6).1
      have c7 : w6.cell? ⟨g0, 7, none⟩ = some (.int .i64 kd) := (HR.out.1.c 7).1
      have c8 : w6.cell? ⟨g0, 8, none⟩ = some (.bool s.shade) := (HR.out.1.c 8).1
      have c9 : w6.cell? ⟨g0, 9, none⟩ = some (.int .i64 s.start) := (HR.out.1.c 9).1
      have c10 : w6.cell? ⟨g0, 10, none⟩ = some (.int .i64 mx) := (HR.out.1.c 10).1
      (try simp only [Exit.inBlock, Exit.then])
      go_wp2_with fail
      refine bodyPost_ret (v := .tuple #[v5, .agg #[.int .u64 (s.hi : Int), .int .u64 (s.lo : Int), .int .u64 (s.id : Int), .int .u64 (s.up : Int), .string (bs s.name), .int .i64 st, .int .i64 s.seq, .int .i64 kd, .bool s.shade, .int .i64 s.start, .int .i64 mx], .int .i64 0]) (by simp [results, Try.results10, go_sem, c0, c1, c2, c3, c4, c5, c6, c7, c8, c9, c10]; try rfl) rfl ?_
      refine ⟨_, ?_, OV.of_gb HR.out.2, by rw [HG0.out]; exact HR.out.1.bel⟩
      simp only [opEnd, HM.out]
end Go.Proofs.Ytnbkpannhcamjaa
