/- opens: the law OpensBack. -/
import Derived.Test.YtnbkpannhcamjaaAl
namespace Go.Proofs.Ytnbkpannhcamjaa
set_option linter.unusedVariables false
set_option linter.unusedSimpArgs false
open Go.RowKit Go.Joins

/-- A row of twelve cells stands in no block of eleven. -/
theorem OV.setSp {w : World} {v : Value} {L : List Opn} {g : Nat} {t : TypeId} {cs : Array Value} (h : OV w v L) (k : Bk w g t cs) (hs : cs.size ≤ 11) (i : Nat) (u : Value) : OV (w.setCell ⟨g, i, none⟩ u) v L := by
  obtain ⟨A, c, rfl, h1, h2, h3, h4⟩ := h
  refine ⟨A, c, rfl, fun j hj => ?_, h2, h3, h4⟩
  obtain ⟨b, o, e, hb, hc⟩ := h1 j hj
  have hne : b ≠ g := fun he => by
    subst he
    have h11 := hc 11 (by omega)
    rw [Bk.cell k, Array.getElem?_eq_none (by omega)] at h11
    cases h11
  refine ⟨b, o, e, by simpa using hb, fun q hq => ?_⟩
  rw [World.cell?_of_block (a := ⟨b, o + (j * 12 + q), none⟩) (Below.heap_setCell w ⟨g, i, none⟩ u b hne)]
  exact hc q hq
set_option maxRecDepth 100000 in
set_option maxHeartbeats 16000000 in
theorem opensBack_walk (v : Value) (L : List Opn) (no : Int) (s : Sp) (w : World) (h : OV w v L) :
    Calls Try.prog 4 #[v, .int .i64 no, .agg #[.int .u64 (s.hi : Int), .int .u64 (s.lo : Int), .int .u64 (s.id : Int), .int .u64 (s.up : Int), .string (bs s.name), .int .i64 s.status, .int .i64 s.seq, .int .i64 s.kids, .bool s.shade, .int .i64 s.start, .int .i64 s.fin]] w fun e w' => e = .returned (.bool true) ∧ Below w.heap.size w w' := by
  have hg := ops_guard
  have HBel := hid (Below.refl w.heap.size w)
  have O_l := hid h
  obtain ⟨n, hn⟩ : ∃ n, L.length = n := ⟨_, rfl⟩
  have HNl := hid hn
  clear h
  have hb_v0 := enew w (.cells #[.int .u64 (s.hi : Int), .int .u64 (s.lo : Int), .int .u64 (s.id : Int), .int .u64 (s.up : Int), .string (bs s.name), .int .i64 s.status, .int .i64 s.seq, .int .i64 s.kids, .bool s.shade, .int .i64 s.start, .int .i64 s.fin] 27)
  have O_l := hid (O_l.out.up hb_v0)
  have HBel := hid (estep HBel.out hb_v0)
  have T_s : Hid (Bk (w.alloc (.cells #[.int .u64 (s.hi : Int), .int .u64 (s.lo : Int), .int .u64 (s.id : Int), .int .u64 (s.up : Int), .string (bs s.name), .int .i64 s.status, .int .i64 s.seq, .int .i64 s.kids, .bool s.shade, .int .i64 s.start, .int .i64 s.fin] 27)) w.heap.size 27 #[.int .u64 (s.hi : Int), .int .u64 (s.lo : Int), .int .u64 (s.id : Int), .int .u64 (s.up : Int), .string (bs s.name), .int .i64 s.status, .int .i64 s.seq, .int .i64 s.kids, .bool s.shade, .int .i64 s.start, .int .i64 s.fin]) := hid (Bk.new _ _ _)
  generalize hv0 : w.alloc (.cells #[.int .u64 (s.hi : Int), .int .u64 (s.lo : Int), .int .u64 (s.id : Int), .int .u64 (s.up : Int), .string (bs s.name), .int .i64 s.status, .int .i64 s.seq, .int .i64 s.kids, .bool s.shade, .int .i64 s.start, .int .i64 s.fin] 27) = v0 at *
  obtain ⟨A, c, hv, -, -, -, -⟩ := O_l.out
  rw [hn] at hv
  have HV := hid hv
  clear hv
  obtain ⟨M1, z1, hM1⟩ : ∃ M z, opStart L no s = (M, z) := ⟨_, _, rfl⟩
  obtain ⟨mx, hmx⟩ : ∃ mx, max s.fin s.start = mx := ⟨_, rfl⟩
  have HM1 := hid hM1
  have HMX := hid hmx
  have HL1 := hid (opStart_len hM1)
  have he2 : ∀ w : World, (binOp .eql 27 (.agg #[.int .u64 (s.hi : Int), .int .u64 (s.lo : Int), .int .u64 (s.id : Int), .int .u64 (s.up : Int), .string (bs s.name), .int .i64 s.status, .int .i64 s.seq, .int .i64 s.kids, .bool s.shade, .int .i64 s.start, .int .i64 mx]) (.agg #[.int .u64 (s.hi : Int), .int .u64 (s.lo : Int), .int .u64 (s.id : Int), .int .u64 (s.up : Int), .string (bs s.name), .int .i64 s.status, .int .i64 s.seq, .int .i64 s.kids, .bool s.shade, .int .i64 s.start, .int .i64 mx])).run Try.prog w = .ok (.bool true) w := fun w => ops_eql w ⟨s.hi, s.lo, s.id, s.up, s.name, s.status, s.seq, s.kids, s.shade, s.start, mx⟩
  clear hM1 hmx
  go_enter Try.func4, Try.ntmps4
  go_upto_region 1 with (fail)
  (try rw [hv0])
  clear hv0
  rw [HV.out]
  by_cases hbig : 300 < n
  · have hd : decide ((300 : Int) < (n : Int)) = true := decide_eq_true (by omega)
    clear hn
    go_wp2_with fail
    refine (known24_any _).mono ?_
    rintro e w9 ⟨rfl, hb9⟩
    have HBel := hid (estep HBel.out hb9)
    go_wp2_with fail
    go_returns
    exact ⟨rfl, HBel.out⟩
  have hd : decide ((300 : Int) < (n : Int)) = false := decide_eq_false (by omega)
  have hd' : ¬ ((300 : Int) < (n : Int)) := by omega
  have hl0 : L.length ≤ 300 := by omega
  have HL := hid hl0
  clear hn hbig hl0
  go_upto_region 3 with (fail)
  have f_s0 : v0.cell? ⟨w.heap.size, 0, none⟩ = some (.int .u64 (s.hi : Int)) := Bk.cell T_s.out 0
  have f_s1 : v0.cell? ⟨w.heap.size, 1, none⟩ = some (.int .u64 (s.lo : Int)) := Bk.cell T_s.out 1
  have f_s2 : v0.cell? ⟨w.heap.size, 2, none⟩ = some (.int .u64 (s.id : Int)) := Bk.cell T_s.out 2
  have f_s3 : v0.cell? ⟨w.heap.size, 3, none⟩ = some (.int .u64 (s.up : Int)) := Bk.cell T_s.out 3
  have f_s4 : v0.cell? ⟨w.heap.size, 4, none⟩ = some (.string (bs s.name)) := Bk.cell T_s.out 4
  have f_s5 : v0.cell? ⟨w.heap.size, 5, none⟩ = some (.int .i64 s.status) := Bk.cell T_s.out 5
  have f_s6 : v0.cell? ⟨w.heap.size, 6, none⟩ = some (.int .i64 s.seq) := Bk.cell T_s.out 6
  have f_s7 : v0.cell? ⟨w.heap.size, 7, none⟩ = some (.int .i64 s.kids) := Bk.cell T_s.out 7
  have f_s8 : v0.cell? ⟨w.heap.size, 8, none⟩ = some (.bool s.shade) := Bk.cell T_s.out 8
  have f_s9 : v0.cell? ⟨w.heap.size, 9, none⟩ = some (.int .i64 s.start) := Bk.cell T_s.out 9
  have f_s10 : v0.cell? ⟨w.heap.size, 10, none⟩ = some (.int .i64 s.fin) := Bk.cell T_s.out 10
  go_wp2_with fail
  clear f_s0 f_s1 f_s2 f_s3 f_s4 f_s5 f_s6 f_s7 f_s8 f_s9 f_s10
  rw [← HV.out]
  refine (start_any _ _ _ s _ O_l.out (by have := HL.out; omega) HM1).mono ?_
  rintro e w1 ⟨y1, rfl, hy1, hb1⟩
  have T_s := hid (T_s.out.up hb1)
  have O_l := hid (O_l.out.up hb1)
  have HBel := hid (estep HBel.out hb1)
  have O_a := hid hy1
  clear hy1 hb1
  by_cases hz : z1 = 0
  rotate_left
  · have hzn : (z1 != 0) = true := by simpa using hz
    have hM0 : M1 = [] := by
      have := opStart_err (l := L) (no := no) (s := s) (by rw [HM1.out]; exact hz)
      rw [HM1.out] at this
      exact this
    subst hM0
    obtain ⟨A1, c1, hv1, -, -, -, -⟩ := O_a.out
    have HV1 := hid hv1
    clear hz hv1
    go_upto_region 5 with (fail)
    simp only [HV1.out, List.length_nil]
    go_wp2_with fail
    refine (known24_any _).mono ?_
    rintro e w9 ⟨rfl, hb9⟩
    have HBel := hid (estep HBel.out hb9)
    go_wp2_with fail
    go_returns
    exact ⟨rfl, HBel.out⟩
  subst hz
  obtain ⟨hf1, -, hf3, hf4⟩ := opBack HM1.out s.status s.kids s.fin
  have hf2 : ∀ st kd now, opFin M1 no st kd now = (L, opEnd s st kd now, 0) := fun st kd now => (opBack HM1.out st kd now).2.1
  have hf5 : opFin L no 0 0 0 = ([], sp0, 9) := (opBack HM1.out 0 0 0).2.2.2
  have H1 := hid hf1
  have H3 := hid hf3
  have H5 := hid hf5
  have H2 := hid (show opFin M1 no s.status s.kids s.fin = (L, ⟨s.hi, s.lo, s.id, s.up, s.name, s.status, s.seq, s.kids, s.shade, s.start, mx⟩, 0) by rw [hf2]; unfold opEnd; rw [HMX.out])
  clear hf1 hf2 hf3 hf4 hf5
  have HC2 := hid (fun (y : Value) (w2 : World) (h2 : OV w2 y M1) => (show Calls Try.prog 9 #[y, .int .i64 no, .int .i64 s.status, .int .i64 s.kids, .int .i64 s.fin] w2 fun e w' => ∃ y, e = .returned (.tuple #[y, .agg #[.int .u64 (s.hi : Int), .int .u64 (s.lo : Int), .int .u64 (s.id : Int), .int .u64 (s.up : Int), .string (bs s.name), .int .i64 s.status, .int .i64 s.seq, .int .i64 s.kids, .bool s.shade, .int .i64 s.start, .int .i64 mx], .int .i64 0]) ∧ OV w' y L ∧ Below w2.heap.size w2 w' from finish_any y M1 no s.status s.kids s.fin w2 h2 (by have := HL.out; have := HL1.out; omega) H2))
  have HC3 := hid (fun (y : Value) (w2 : World) (h2 : OV w2 y L) => (show Calls Try.prog 11 #[y, .int .i64 no] w2 fun e w' => e = .returned (.tuple #[.agg #[.int .u64 0, .int .u64 0, .int .u64 0, .int .u64 0, .string (ByteArray.mk #[]), .int .i64 0, .int .i64 0, .int .i64 0, .bool false, .int .i64 0, .int .i64 0], .bool false]) ∧ Below w2.heap.size w2 w' from opfind_any y L no w2 h2 (by have := HL.out; omega) H3))
  have HC5 := hid (fun (y : Value) (w2 : World) (h2 : OV w2 y L) => (show Calls Try.prog 9 #[y, .int .i64 no, .int .i64 0, .int .i64 0, .int .i64 0] w2 fun e w' => ∃ y, e = .returned (.tuple #[y, .agg #[.int .u64 0, .int .u64 0, .int .u64 0, .int .u64 0, .string (ByteArray.mk #[]), .int .i64 0, .int .i64 0, .int .i64 0, .bool false, .int .i64 0, .int .i64 0], .int .i64 9]) ∧ OV w' y [] ∧ Below w2.heap.size w2 w' from finish_any y L no 0 0 0 w2 h2 (by have := HL.out; omega) H5))
  clear H2 H3 H5
  go_upto_region 6 with (fail)
  go_wp2_with fail
  refine (opfind_any _ _ _ _ O_a.out (by have := HL.out; have := HL1.out; omega) H1).mono ?_
  rintro e w2 ⟨rfl, hb2⟩
  have T_s := hid (T_s.out.up hb2)
  have O_l := hid (O_l.out.up hb2)
  have O_a := hid (O_a.out.up hb2)
  have HBel := hid (estep HBel.out hb2)
  clear hb2
  have N_x := hid (Nat.ne_of_gt T_s.out.lt)
  have hb_v2 := enew w2 (.cells #[.int .u64 (s.hi : Int), .int .u64 (s.lo : Int), .int .u64 (s.id : Int), .int .u64 (s.up : Int), .string (bs s.name), .int .i64 s.status, .int .i64 s.seq, .int .i64 s.kids, .bool s.shade, .int .i64 s.start, .int .i64 s.fin] 27)
  have T_s := hid (T_s.out.up hb_v2)
  have O_l := hid (O_l.out.up hb_v2)
  have O_a := hid (O_a.out.up hb_v2)
  have HBel := hid (estep HBel.out hb_v2)
  have T_x : Hid (Bk (w2.alloc (.cells #[.int .u64 (s.hi : Int), .int .u64 (s.lo : Int), .int .u64 (s.id : Int), .int .u64 (s.up : Int), .string (bs s.name), .int .i64 s.status, .int .i64 s.seq, .int .i64 s.kids, .bool s.shade, .int .i64 s.start, .int .i64 s.fin] 27)) w2.heap.size 27 #[.int .u64 (s.hi : Int), .int .u64 (s.lo : Int), .int .u64 (s.id : Int), .int .u64 (s.up : Int), .string (bs s.name), .int .i64 s.status, .int .i64 s.seq, .int .i64 s.kids, .bool s.shade, .int .i64 s.start, .int .i64 s.fin]) := hid (Bk.new _ _ _)
  go_upto_region 7 with (fail)
  generalize w2.alloc (.cells #[.int .u64 (s.hi : Int), .int .u64 (s.lo : Int), .int .u64 (s.id : Int), .int .u64 (s.up : Int), .string (bs s.name), .int .i64 s.status, .int .i64 s.seq, .int .i64 s.kids, .bool s.shade, .int .i64 s.start, .int .i64 s.fin] 27) = v2 at *
  have f_s0 : v2.cell? ⟨w.heap.size, 0, none⟩ = some (.int .u64 (s.hi : Int)) := Bk.cell T_s.out 0
  have f_s1 : v2.cell? ⟨w.heap.size, 1, none⟩ = some (.int .u64 (s.lo : Int)) := Bk.cell T_s.out 1
  have f_s2 : v2.cell? ⟨w.heap.size, 2, none⟩ = some (.int .u64 (s.id : Int)) := Bk.cell T_s.out 2
  have f_s3 : v2.cell? ⟨w.heap.size, 3, none⟩ = some (.int .u64 (s.up : Int)) := Bk.cell T_s.out 3
  have f_s4 : v2.cell? ⟨w.heap.size, 4, none⟩ = some (.string (bs s.name)) := Bk.cell T_s.out 4
  have f_s5 : v2.cell? ⟨w.heap.size, 5, none⟩ = some (.int .i64 s.status) := Bk.cell T_s.out 5
  have f_s6 : v2.cell? ⟨w.heap.size, 6, none⟩ = some (.int .i64 s.seq) := Bk.cell T_s.out 6
  have f_s7 : v2.cell? ⟨w.heap.size, 7, none⟩ = some (.int .i64 s.kids) := Bk.cell T_s.out 7
  have f_s8 : v2.cell? ⟨w.heap.size, 8, none⟩ = some (.bool s.shade) := Bk.cell T_s.out 8
  have f_s9 : v2.cell? ⟨w.heap.size, 9, none⟩ = some (.int .i64 s.start) := Bk.cell T_s.out 9
  have f_s10 : v2.cell? ⟨w.heap.size, 10, none⟩ = some (.int .i64 s.fin) := Bk.cell T_s.out 10
  go_wp2_with fail
  clear f_s0 f_s1 f_s2 f_s3 f_s4 f_s5 f_s6 f_s7 f_s8 f_s9 f_s10
  refine (HC2.out _ _ O_a.out).mono ?_
  rintro e w3 ⟨y3, rfl, hy3, hb3⟩
  have T_s := hid (T_s.out.up hb3)
  have T_x := hid (T_x.out.up hb3)
  have O_l := hid (O_l.out.up hb3)
  have O_a := hid (O_a.out.up hb3)
  have HBel := hid (estep HBel.out hb3)
  have O_b := hid hy3
  clear hy3 hb3
  have N_y := hid (Nat.ne_of_gt T_s.out.lt)
  have hb_v3 := enew w3 (.cells #[.int .u64 (s.hi : Int), .int .u64 (s.lo : Int), .int .u64 (s.id : Int), .int .u64 (s.up : Int), .string (bs s.name), .int .i64 s.status, .int .i64 s.seq, .int .i64 s.kids, .bool s.shade, .int .i64 s.start, .int .i64 mx] 27)
  have T_s := hid (T_s.out.up hb_v3)
  have T_x := hid (T_x.out.up hb_v3)
  have O_l := hid (O_l.out.up hb_v3)
  have O_a := hid (O_a.out.up hb_v3)
  have O_b := hid (O_b.out.up hb_v3)
  have HBel := hid (estep HBel.out hb_v3)
  have T_y : Hid (Bk (w3.alloc (.cells #[.int .u64 (s.hi : Int), .int .u64 (s.lo : Int), .int .u64 (s.id : Int), .int .u64 (s.up : Int), .string (bs s.name), .int .i64 s.status, .int .i64 s.seq, .int .i64 s.kids, .bool s.shade, .int .i64 s.start, .int .i64 mx] 27)) w3.heap.size 27 #[.int .u64 (s.hi : Int), .int .u64 (s.lo : Int), .int .u64 (s.id : Int), .int .u64 (s.up : Int), .string (bs s.name), .int .i64 s.status, .int .i64 s.seq, .int .i64 s.kids, .bool s.shade, .int .i64 s.start, .int .i64 mx]) := hid (Bk.new _ _ _)
  go_upto_region 8 with (fail)
  generalize w3.alloc (.cells #[.int .u64 (s.hi : Int), .int .u64 (s.lo : Int), .int .u64 (s.id : Int), .int .u64 (s.up : Int), .string (bs s.name), .int .i64 s.status, .int .i64 s.seq, .int .i64 s.kids, .bool s.shade, .int .i64 s.start, .int .i64 mx] 27) = v3 at *
  go_wp2_with fail
  refine (HC3.out _ _ O_b.out).mono ?_
  rintro e w4 ⟨rfl, hb4⟩
  have T_s := hid (T_s.out.up hb4)
  have T_x := hid (T_x.out.up hb4)
  have T_y := hid (T_y.out.up hb4)
  have O_l := hid (O_l.out.up hb4)
  have O_a := hid (O_a.out.up hb4)
  have O_b := hid (O_b.out.up hb4)
  have HBel := hid (estep HBel.out hb4)
  clear hb4
  have hb_v4 := enew w4 (.cells #[.int .u64 0, .int .u64 0, .int .u64 0, .int .u64 0, .string (ByteArray.mk #[]), .int .i64 0, .int .i64 0, .int .i64 0, .bool false, .int .i64 0, .int .i64 0] 27)
  have T_s := hid (T_s.out.up hb_v4)
  have T_x := hid (T_x.out.up hb_v4)
  have T_y := hid (T_y.out.up hb_v4)
  have O_l := hid (O_l.out.up hb_v4)
  have O_a := hid (O_a.out.up hb_v4)
  have O_b := hid (O_b.out.up hb_v4)
  have HBel := hid (estep HBel.out hb_v4)
  have T_p : Hid (Bk (w4.alloc (.cells #[.int .u64 0, .int .u64 0, .int .u64 0, .int .u64 0, .string (ByteArray.mk #[]), .int .i64 0, .int .i64 0, .int .i64 0, .bool false, .int .i64 0, .int .i64 0] 27)) w4.heap.size 27 #[.int .u64 0, .int .u64 0, .int .u64 0, .int .u64 0, .string (ByteArray.mk #[]), .int .i64 0, .int .i64 0, .int .i64 0, .bool false, .int .i64 0, .int .i64 0]) := hid (Bk.new _ _ _)
  go_upto_region 9 with (fail)
  generalize w4.alloc (.cells #[.int .u64 0, .int .u64 0, .int .u64 0, .int .u64 0, .string (ByteArray.mk #[]), .int .i64 0, .int .i64 0, .int .i64 0, .bool false, .int .i64 0, .int .i64 0] 27) = v4 at *
  go_wp2_with fail
  refine (HC5.out _ _ O_b.out).mono ?_
  rintro e w5 ⟨y5, rfl, hy5, hb5⟩
  have T_s := hid (T_s.out.up hb5)
  have T_x := hid (T_x.out.up hb5)
  have T_y := hid (T_y.out.up hb5)
  have T_p := hid (T_p.out.up hb5)
  have O_l := hid (O_l.out.up hb5)
  have O_a := hid (O_a.out.up hb5)
  have O_b := hid (O_b.out.up hb5)
  have HBel := hid (estep HBel.out hb5)
  clear hy5 hb5
  have hb_v5 := enew w5 (.cells #[.int .u64 0, .int .u64 0, .int .u64 0, .int .u64 0, .string (ByteArray.mk #[]), .int .i64 0, .int .i64 0, .int .i64 0, .bool false, .int .i64 0, .int .i64 0] 27)
  have T_s := hid (T_s.out.up hb_v5)
  have T_x := hid (T_x.out.up hb_v5)
  have T_y := hid (T_y.out.up hb_v5)
  have T_p := hid (T_p.out.up hb_v5)
  have O_l := hid (O_l.out.up hb_v5)
  have O_a := hid (O_a.out.up hb_v5)
  have O_b := hid (O_b.out.up hb_v5)
  have HBel := hid (estep HBel.out hb_v5)
  have T_q : Hid (Bk (w5.alloc (.cells #[.int .u64 0, .int .u64 0, .int .u64 0, .int .u64 0, .string (ByteArray.mk #[]), .int .i64 0, .int .i64 0, .int .i64 0, .bool false, .int .i64 0, .int .i64 0] 27)) w5.heap.size 27 #[.int .u64 0, .int .u64 0, .int .u64 0, .int .u64 0, .string (ByteArray.mk #[]), .int .i64 0, .int .i64 0, .int .i64 0, .bool false, .int .i64 0, .int .i64 0]) := hid (Bk.new _ _ _)
  go_upto_region 10 with (fail)
  generalize w5.alloc (.cells #[.int .u64 0, .int .u64 0, .int .u64 0, .int .u64 0, .string (ByteArray.mk #[]), .int .i64 0, .int .i64 0, .int .i64 0, .bool false, .int .i64 0, .int .i64 0] 27) = v5 at *
  have f_s0 : v5.cell? ⟨w.heap.size, 0, none⟩ = some (.int .u64 (s.hi : Int)) := Bk.cell T_s.out 0
  have f_s1 : v5.cell? ⟨w.heap.size, 1, none⟩ = some (.int .u64 (s.lo : Int)) := Bk.cell T_s.out 1
  have f_s2 : v5.cell? ⟨w.heap.size, 2, none⟩ = some (.int .u64 (s.id : Int)) := Bk.cell T_s.out 2
  have f_s3 : v5.cell? ⟨w.heap.size, 3, none⟩ = some (.int .u64 (s.up : Int)) := Bk.cell T_s.out 3
  have f_s4 : v5.cell? ⟨w.heap.size, 4, none⟩ = some (.string (bs s.name)) := Bk.cell T_s.out 4
  have f_s5 : v5.cell? ⟨w.heap.size, 5, none⟩ = some (.int .i64 s.status) := Bk.cell T_s.out 5
  have f_s6 : v5.cell? ⟨w.heap.size, 6, none⟩ = some (.int .i64 s.seq) := Bk.cell T_s.out 6
  have f_s7 : v5.cell? ⟨w.heap.size, 7, none⟩ = some (.int .i64 s.kids) := Bk.cell T_s.out 7
  have f_s8 : v5.cell? ⟨w.heap.size, 8, none⟩ = some (.bool s.shade) := Bk.cell T_s.out 8
  have f_s9 : v5.cell? ⟨w.heap.size, 9, none⟩ = some (.int .i64 s.start) := Bk.cell T_s.out 9
  have f_s10 : v5.cell? ⟨w.heap.size, 10, none⟩ = some (.int .i64 s.fin) := Bk.cell T_s.out 10
  have fz : v5.frozen? ⟨w.heap.size, 10, none⟩ = false := Bk.frozen T_s.out 10
  go_upto_region 11 with (fail)
  have hmx2 : (if s.start < s.fin then s.fin else s.start) = mx := by rw [← HMX.out]; omega
  simp only [hmx2]
  clear fz hmx2
  clear f_s0 f_s1 f_s2 f_s3 f_s4 f_s5 f_s6 f_s7 f_s8 f_s9 f_s10
  have T_s2 : Hid (Bk (v5.setCell ⟨w.heap.size, 10, none⟩ (.int .i64 mx)) w.heap.size 27 #[.int .u64 (s.hi : Int), .int .u64 (s.lo : Int), .int .u64 (s.id : Int), .int .u64 (s.up : Int), .string (bs s.name), .int .i64 s.status, .int .i64 s.seq, .int .i64 s.kids, .bool s.shade, .int .i64 s.start, .int .i64 mx]) := hid (Bk.set_ T_s.out 10 (.int .i64 mx))
  have T_x2 : Hid (Bk (v5.setCell ⟨w.heap.size, 10, none⟩ (.int .i64 mx)) w2.heap.size 27 #[.int .u64 (s.hi : Int), .int .u64 (s.lo : Int), .int .u64 (s.id : Int), .int .u64 (s.up : Int), .string (bs s.name), .int .i64 s.status, .int .i64 s.seq, .int .i64 s.kids, .bool s.shade, .int .i64 s.start, .int .i64 s.fin]) := hid ((Below.heap_setCell v5 ⟨w.heap.size, 10, none⟩ (.int .i64 mx) w2.heap.size N_x.out).trans T_x.out)
  have T_y2 : Hid (Bk (v5.setCell ⟨w.heap.size, 10, none⟩ (.int .i64 mx)) w3.heap.size 27 #[.int .u64 (s.hi : Int), .int .u64 (s.lo : Int), .int .u64 (s.id : Int), .int .u64 (s.up : Int), .string (bs s.name), .int .i64 s.status, .int .i64 s.seq, .int .i64 s.kids, .bool s.shade, .int .i64 s.start, .int .i64 mx]) := hid ((Below.heap_setCell v5 ⟨w.heap.size, 10, none⟩ (.int .i64 mx) w3.heap.size N_y.out).trans T_y.out)
  have O_l2 := hid (O_l.out.setSp T_s.out (by simp) 10 (.int .i64 mx))
  have O_b2 := hid (O_b.out.setSp T_s.out (by simp) 10 (.int .i64 mx))
  have HBel2 := hid (HBel.out.setCell (p := ⟨w.heap.size, 10, none⟩) (Nat.le_refl _) (.int .i64 mx))
  clear T_s T_x T_y T_p T_q O_l O_a O_b HBel
  generalize v5.setCell ⟨w.heap.size, 10, none⟩ (.int .i64 mx) = v6 at *
  have f_s20 : v6.cell? ⟨w.heap.size, 0, none⟩ = some (.int .u64 (s.hi : Int)) := Bk.cell T_s2.out 0
  have f_s21 : v6.cell? ⟨w.heap.size, 1, none⟩ = some (.int .u64 (s.lo : Int)) := Bk.cell T_s2.out 1
  have f_s22 : v6.cell? ⟨w.heap.size, 2, none⟩ = some (.int .u64 (s.id : Int)) := Bk.cell T_s2.out 2
  have f_s23 : v6.cell? ⟨w.heap.size, 3, none⟩ = some (.int .u64 (s.up : Int)) := Bk.cell T_s2.out 3
  have f_s24 : v6.cell? ⟨w.heap.size, 4, none⟩ = some (.string (bs s.name)) := Bk.cell T_s2.out 4
  have f_s25 : v6.cell? ⟨w.heap.size, 5, none⟩ = some (.int .i64 s.status) := Bk.cell T_s2.out 5
  have f_s26 : v6.cell? ⟨w.heap.size, 6, none⟩ = some (.int .i64 s.seq) := Bk.cell T_s2.out 6
  have f_s27 : v6.cell? ⟨w.heap.size, 7, none⟩ = some (.int .i64 s.kids) := Bk.cell T_s2.out 7
  have f_s28 : v6.cell? ⟨w.heap.size, 8, none⟩ = some (.bool s.shade) := Bk.cell T_s2.out 8
  have f_s29 : v6.cell? ⟨w.heap.size, 9, none⟩ = some (.int .i64 s.start) := Bk.cell T_s2.out 9
  have f_s210 : v6.cell? ⟨w.heap.size, 10, none⟩ = some (.int .i64 mx) := Bk.cell T_s2.out 10
  have f_x20 : v6.cell? ⟨w2.heap.size, 0, none⟩ = some (.int .u64 (s.hi : Int)) := Bk.cell T_x2.out 0
  have f_x21 : v6.cell? ⟨w2.heap.size, 1, none⟩ = some (.int .u64 (s.lo : Int)) := Bk.cell T_x2.out 1
  have f_x22 : v6.cell? ⟨w2.heap.size, 2, none⟩ = some (.int .u64 (s.id : Int)) := Bk.cell T_x2.out 2
  have f_x23 : v6.cell? ⟨w2.heap.size, 3, none⟩ = some (.int .u64 (s.up : Int)) := Bk.cell T_x2.out 3
  have f_x24 : v6.cell? ⟨w2.heap.size, 4, none⟩ = some (.string (bs s.name)) := Bk.cell T_x2.out 4
  have f_x25 : v6.cell? ⟨w2.heap.size, 5, none⟩ = some (.int .i64 s.status) := Bk.cell T_x2.out 5
  have f_x26 : v6.cell? ⟨w2.heap.size, 6, none⟩ = some (.int .i64 s.seq) := Bk.cell T_x2.out 6
  have f_x27 : v6.cell? ⟨w2.heap.size, 7, none⟩ = some (.int .i64 s.kids) := Bk.cell T_x2.out 7
  have f_x28 : v6.cell? ⟨w2.heap.size, 8, none⟩ = some (.bool s.shade) := Bk.cell T_x2.out 8
  have f_x29 : v6.cell? ⟨w2.heap.size, 9, none⟩ = some (.int .i64 s.start) := Bk.cell T_x2.out 9
  have f_x210 : v6.cell? ⟨w2.heap.size, 10, none⟩ = some (.int .i64 s.fin) := Bk.cell T_x2.out 10
  have f_y20 : v6.cell? ⟨w3.heap.size, 0, none⟩ = some (.int .u64 (s.hi : Int)) := Bk.cell T_y2.out 0
  have f_y21 : v6.cell? ⟨w3.heap.size, 1, none⟩ = some (.int .u64 (s.lo : Int)) := Bk.cell T_y2.out 1
  have f_y22 : v6.cell? ⟨w3.heap.size, 2, none⟩ = some (.int .u64 (s.id : Int)) := Bk.cell T_y2.out 2
  have f_y23 : v6.cell? ⟨w3.heap.size, 3, none⟩ = some (.int .u64 (s.up : Int)) := Bk.cell T_y2.out 3
  have f_y24 : v6.cell? ⟨w3.heap.size, 4, none⟩ = some (.string (bs s.name)) := Bk.cell T_y2.out 4
  have f_y25 : v6.cell? ⟨w3.heap.size, 5, none⟩ = some (.int .i64 s.status) := Bk.cell T_y2.out 5
  have f_y26 : v6.cell? ⟨w3.heap.size, 6, none⟩ = some (.int .i64 s.seq) := Bk.cell T_y2.out 6
  have f_y27 : v6.cell? ⟨w3.heap.size, 7, none⟩ = some (.int .i64 s.kids) := Bk.cell T_y2.out 7
  have f_y28 : v6.cell? ⟨w3.heap.size, 8, none⟩ = some (.bool s.shade) := Bk.cell T_y2.out 8
  have f_y29 : v6.cell? ⟨w3.heap.size, 9, none⟩ = some (.int .i64 s.start) := Bk.cell T_y2.out 9
  have f_y210 : v6.cell? ⟨w3.heap.size, 10, none⟩ = some (.int .i64 mx) := Bk.cell T_y2.out 10
  go_wp2_with fail
  refine (opsame_any _ _ _ _ O_b2.out O_l2.out (by have := HL.out; omega)).mono ?_
  rintro e w7 ⟨rfl, hb7⟩
  have HBel3 := hid (estep HBel2.out hb7)
  clear hb7
  clear f_s20 f_s21 f_s22 f_s23 f_s24 f_s25 f_s26 f_s27 f_s28 f_s29 f_s210 f_x20 f_x21 f_x22 f_x23 f_x24 f_x25 f_x26 f_x27 f_x28 f_x29 f_x210 f_y20 f_y21 f_y22 f_y23 f_y24 f_y25 f_y26 f_y27 f_y28 f_y29 f_y210
  go_wp2_with fail
  refine (known24_any _).mono ?_
  rintro e w9 ⟨rfl, hb9⟩
  have HBel := hid (estep HBel3.out hb9)
  go_wp2_with fail
  go_returns
  exact ⟨rfl, HBel.out⟩
end Go.Proofs.Ytnbkpannhcamjaa
