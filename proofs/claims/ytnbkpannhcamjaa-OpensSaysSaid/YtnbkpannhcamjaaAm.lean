/- opens: the law OpensSays. -/
import Derived.Test.YtnbkpannhcamjaaAl
namespace Go.Proofs.Ytnbkpannhcamjaa
set_option linter.unusedVariables false
set_option linter.unusedSimpArgs false
open Go.RowKit Go.Joins

set_option maxRecDepth 100000 in
set_option maxHeartbeats 16000000 in
theorem opensSays_walk (v : Value) (L : List Opn) (no : Int) (s : Sp) (x0 x1 x2 : Int) (w : World) (h : OV w v L) :
    Calls Try.prog 3 #[v, .int .i64 no, .agg #[.int .u64 (s.hi : Int), .int .u64 (s.lo : Int), .int .u64 (s.id : Int), .int .u64 (s.up : Int), .string (bs s.name), .int .i64 s.status, .int .i64 s.seq, .int .i64 s.kids, .bool s.shade, .int .i64 s.start, .int .i64 s.fin], .agg #[.int .i64 x0, .int .i64 x1, .int .i64 x2]] w fun e w' => e = .returned (.bool true) ∧ Below w.heap.size w w' := by
  have hg := ops_guard
  have HBel := hid (Below.refl w.heap.size w)
  have O_l := hid h
  obtain ⟨n, hn⟩ : ∃ n, L.length = n := ⟨_, rfl⟩
  have HNl := hid hn
  clear h
  have hb_v0 := enew w (.cells #[.int .u64 (s.hi : Int), .int .u64 (s.lo : Int), .int .u64 (s.id : Int), .int .u64 (s.up : Int), .string (bs s.name), .int .i64 s.status, .int .i64 s.seq, .int .i64 s.kids, .bool s.shade, .int .i64 s.start, .int .i64 s.fin] 27)
  have O_l := hid (O_l.out.up hb_v0)
  have HBel := hid (estep HBel.out hb_v0)
  have T_s : Hid (Bk (w.alloc (.cells #[.int .u64 (s.hi : Int), .int .u64 (s.lo : Int), .int .u64 (s.id : Int), .int .u64 (s.up : Int), .string (bs s.name), .int .i64 s.status, .int .i64 s.seq, .int .i64 s.kids, .bool s.shade, .int .i64 s.start, .int .i64 s.fin] 27)) w.heap.size 27 #[.int .u64 (s.hi : Int), .int .u64 (s.lo : Int), .int .u64 (s.id : Int), .int .u64 (s.up : Int), .string (bs s.name), .int .i64 s.status, .int .i64 s.seq, .int .i64 s.kids, .bool s.shade, .int .i64 s.start, .int .i64 s.fin]) := hid (Bk.new _ _ _)
  generalize hv0 : w.alloc (.cells #[.int .u64 (s.hi : Int), .int .u64 (s.lo : Int), .int .u64 (s.id : Int), .int .u64 (s.up : Int), .string (bs s.name), .int .i64 s.status, .int .i64 s.seq, .int .i64 s.kids, .bool s.shade, .int .i64 s.start, .int .i64 s.fin] 27) = v0 at *
  have hb_v1 := enew v0 (.cells #[.int .i64 x0, .int .i64 x1, .int .i64 x2] 28)
  have T_s := hid (T_s.out.up hb_v1)
  have O_l := hid (O_l.out.up hb_v1)
  have HBel := hid (estep HBel.out hb_v1)
  have T_x : Hid (Bk (v0.alloc (.cells #[.int .i64 x0, .int .i64 x1, .int .i64 x2] 28)) v0.heap.size 28 #[.int .i64 x0, .int .i64 x1, .int .i64 x2]) := hid (Bk.new _ _ _)
  generalize hv1 : v0.alloc (.cells #[.int .i64 x0, .int .i64 x1, .int .i64 x2] 28) = v1 at *
  obtain ⟨A, c, hv, -, -, -, -⟩ := O_l.out
  rw [hn] at hv
  have HV := hid hv
  clear hv
  obtain ⟨M1, z1, hM1⟩ : ∃ M z, opStart L no s = (M, z) := ⟨_, _, rfl⟩
  obtain ⟨M2, u2, z2, hM2⟩ : ∃ M u z, opFin L no x0 x1 x2 = (M, u, z) := ⟨_, _, _, rfl⟩
  obtain ⟨u3, b3, hM3⟩ : ∃ u b, opFind L no = (u, b) := ⟨_, _, rfl⟩
  have HM1 := hid hM1
  have HM2 := hid hM2
  have HM3 := hid hM3
  have HL1 := hid (opStart_len hM1)
  have HL2 := hid (opFin_len hM2)
  have he := ops_eql
  clear hM1 hM2 hM3
  go_enter Try.func3, Try.ntmps3
  go_upto_region 1 with (fail)
  (try rw [hv0]); (try rw [hv1])
  clear hv0 hv1
  rw [HV.out]
  by_cases hbig : 300 < n
  · have hd : decide ((300 : Int) < (n : Int)) = true := decide_eq_true (by omega)
    clear hn
    go_wp2_with fail
    refine (known24_any _).mono ?_
    rintro e w9 ⟨rfl, hb9⟩
    have HBel := hid (estep HBel.out hb9)
    go_wp2_with fail
    go_returns
    exact ⟨rfl, HBel.out⟩
  have hd : decide ((300 : Int) < (n : Int)) = false := decide_eq_false (by omega)
  have hd' : ¬ ((300 : Int) < (n : Int)) := by omega
  have hl0 : L.length ≤ 300 := by omega
  have HL := hid hl0
  clear hn hbig hl0
  go_upto_region 3 with (fail)
  have f_s0 : v1.cell? ⟨w.heap.size, 0, none⟩ = some (.int .u64 (s.hi : Int)) := Bk.cell T_s.out 0
  have f_s1 : v1.cell? ⟨w.heap.size, 1, none⟩ = some (.int .u64 (s.lo : Int)) := Bk.cell T_s.out 1
  have f_s2 : v1.cell? ⟨w.heap.size, 2, none⟩ = some (.int .u64 (s.id : Int)) := Bk.cell T_s.out 2
  have f_s3 : v1.cell? ⟨w.heap.size, 3, none⟩ = some (.int .u64 (s.up : Int)) := Bk.cell T_s.out 3
  have f_s4 : v1.cell? ⟨w.heap.size, 4, none⟩ = some (.string (bs s.name)) := Bk.cell T_s.out 4
  have f_s5 : v1.cell? ⟨w.heap.size, 5, none⟩ = some (.int .i64 s.status) := Bk.cell T_s.out 5
  have f_s6 : v1.cell? ⟨w.heap.size, 6, none⟩ = some (.int .i64 s.seq) := Bk.cell T_s.out 6
  have f_s7 : v1.cell? ⟨w.heap.size, 7, none⟩ = some (.int .i64 s.kids) := Bk.cell T_s.out 7
  have f_s8 : v1.cell? ⟨w.heap.size, 8, none⟩ = some (.bool s.shade) := Bk.cell T_s.out 8
  have f_s9 : v1.cell? ⟨w.heap.size, 9, none⟩ = some (.int .i64 s.start) := Bk.cell T_s.out 9
  have f_s10 : v1.cell? ⟨w.heap.size, 10, none⟩ = some (.int .i64 s.fin) := Bk.cell T_s.out 10
  go_wp2_with fail
  clear f_s0 f_s1 f_s2 f_s3 f_s4 f_s5 f_s6 f_s7 f_s8 f_s9 f_s10
  rw [← HV.out]
  refine (start_any _ _ _ s _ O_l.out (by have := HL.out; omega) HM1).mono ?_
  rintro e w1 ⟨y1, rfl, hy1, hb1⟩
  have T_s := hid (T_s.out.up hb1)
  have T_x := hid (T_x.out.up hb1)
  have O_l := hid (O_l.out.up hb1)
  have HBel := hid (estep HBel.out hb1)
  have O_a := hid hy1
  clear hy1 hb1
  go_upto_region 4 with (fail)
  have f_s0 : w1.cell? ⟨w.heap.size, 0, none⟩ = some (.int .u64 (s.hi : Int)) := Bk.cell T_s.out 0
  have f_s1 : w1.cell? ⟨w.heap.size, 1, none⟩ = some (.int .u64 (s.lo : Int)) := Bk.cell T_s.out 1
  have f_s2 : w1.cell? ⟨w.heap.size, 2, none⟩ = some (.int .u64 (s.id : Int)) := Bk.cell T_s.out 2
  have f_s3 : w1.cell? ⟨w.heap.size, 3, none⟩ = some (.int .u64 (s.up : Int)) := Bk.cell T_s.out 3
  have f_s4 : w1.cell? ⟨w.heap.size, 4, none⟩ = some (.string (bs s.name)) := Bk.cell T_s.out 4
  have f_s5 : w1.cell? ⟨w.heap.size, 5, none⟩ = some (.int .i64 s.status) := Bk.cell T_s.out 5
  have f_s6 : w1.cell? ⟨w.heap.size, 6, none⟩ = some (.int .i64 s.seq) := Bk.cell T_s.out 6
  have f_s7 : w1.cell? ⟨w.heap.size, 7, none⟩ = some (.int .i64 s.kids) := Bk.cell T_s.out 7
  have f_s8 : w1.cell? ⟨w.heap.size, 8, none⟩ = some (.bool s.shade) := Bk.cell T_s.out 8
  have f_s9 : w1.cell? ⟨w.heap.size, 9, none⟩ = some (.int .i64 s.start) := Bk.cell T_s.out 9
  have f_s10 : w1.cell? ⟨w.heap.size, 10, none⟩ = some (.int .i64 s.fin) := Bk.cell T_s.out 10
  go_wp2_with fail
  clear f_s0 f_s1 f_s2 f_s3 f_s4 f_s5 f_s6 f_s7 f_s8 f_s9 f_s10
  refine (rstart_any _ _ _ s _ O_l.out (by have := HL.out; omega) HM1).mono ?_
  rintro e w2 ⟨y2, rfl, hy2, hb2⟩
  have T_s := hid (T_s.out.up hb2)
  have T_x := hid (T_x.out.up hb2)
  have O_l := hid (O_l.out.up hb2)
  have O_a := hid (O_a.out.up hb2)
  have HBel := hid (estep HBel.out hb2)
  have O_b := hid hy2
  clear hy2 hb2
  go_upto_region 5 with (fail)
  have f_x0 : w2.cell? ⟨v0.heap.size, 0, none⟩ = some (.int .i64 x0) := Bk.cell T_x.out 0
  have f_x1 : w2.cell? ⟨v0.heap.size, 1, none⟩ = some (.int .i64 x1) := Bk.cell T_x.out 1
  have f_x2 : w2.cell? ⟨v0.heap.size, 2, none⟩ = some (.int .i64 x2) := Bk.cell T_x.out 2
  go_wp2_with fail
  clear f_x0 f_x1 f_x2
  refine (finish_any _ _ _ _ _ _ _ O_l.out (by have := HL.out; omega) HM2).mono ?_
  rintro e w3 ⟨y3, rfl, hy3, hb3⟩
  have T_s := hid (T_s.out.up hb3)
  have T_x := hid (T_x.out.up hb3)
  have O_l := hid (O_l.out.up hb3)
  have O_a := hid (O_a.out.up hb3)
  have O_b := hid (O_b.out.up hb3)
  have HBel := hid (estep HBel.out hb3)
  have O_c := hid hy3
  clear hy3 hb3
  have hb_v3 := enew w3 (.cells #[.int .u64 (u2.hi : Int), .int .u64 (u2.lo : Int), .int .u64 (u2.id : Int), .int .u64 (u2.up : Int), .string (bs u2.name), .int .i64 u2.status, .int .i64 u2.seq, .int .i64 u2.kids, .bool u2.shade, .int .i64 u2.start, .int .i64 u2.fin] 27)
  have T_s := hid (T_s.out.up hb_v3)
  have T_x := hid (T_x.out.up hb_v3)
  have O_l := hid (O_l.out.up hb_v3)
  have O_a := hid (O_a.out.up hb_v3)
  have O_b := hid (O_b.out.up hb_v3)
  have O_c := hid (O_c.out.up hb_v3)
  have HBel := hid (estep HBel.out hb_v3)
  have T_u : Hid (Bk (w3.alloc (.cells #[.int .u64 (u2.hi : Int), .int .u64 (u2.lo : Int), .int .u64 (u2.id : Int), .int .u64 (u2.up : Int), .string (bs u2.name), .int .i64 u2.status, .int .i64 u2.seq, .int .i64 u2.kids, .bool u2.shade, .int .i64 u2.start, .int .i64 u2.fin] 27)) w3.heap.size 27 #[.int .u64 (u2.hi : Int), .int .u64 (u2.lo : Int), .int .u64 (u2.id : Int), .int .u64 (u2.up : Int), .string (bs u2.name), .int .i64 u2.status, .int .i64 u2.seq, .int .i64 u2.kids, .bool u2.shade, .int .i64 u2.start, .int .i64 u2.fin]) := hid (Bk.new _ _ _)
  go_upto_region 6 with (fail)
  generalize w3.alloc (.cells #[.int .u64 (u2.hi : Int), .int .u64 (u2.lo : Int), .int .u64 (u2.id : Int), .int .u64 (u2.up : Int), .string (bs u2.name), .int .i64 u2.status, .int .i64 u2.seq, .int .i64 u2.kids, .bool u2.shade, .int .i64 u2.start, .int .i64 u2.fin] 27) = v3 at *
  have f_x0 : v3.cell? ⟨v0.heap.size, 0, none⟩ = some (.int .i64 x0) := Bk.cell T_x.out 0
  have f_x1 : v3.cell? ⟨v0.heap.size, 1, none⟩ = some (.int .i64 x1) := Bk.cell T_x.out 1
  have f_x2 : v3.cell? ⟨v0.heap.size, 2, none⟩ = some (.int .i64 x2) := Bk.cell T_x.out 2
  go_wp2_with fail
  clear f_x0 f_x1 f_x2
  refine (rfinish_any _ _ _ _ _ _ _ O_l.out (by have := HL.out; omega) HM2).mono ?_
  rintro e w4 ⟨y4, rfl, hy4, hb4⟩
  have T_s := hid (T_s.out.up hb4)
  have T_x := hid (T_x.out.up hb4)
  have T_u := hid (T_u.out.up hb4)
  have O_l := hid (O_l.out.up hb4)
  have O_a := hid (O_a.out.up hb4)
  have O_b := hid (O_b.out.up hb4)
  have O_c := hid (O_c.out.up hb4)
  have HBel := hid (estep HBel.out hb4)
  have O_d := hid hy4
  clear hy4 hb4
  have hb_v4 := enew w4 (.cells #[.int .u64 (u2.hi : Int), .int .u64 (u2.lo : Int), .int .u64 (u2.id : Int), .int .u64 (u2.up : Int), .string (bs u2.name), .int .i64 u2.status, .int .i64 u2.seq, .int .i64 u2.kids, .bool u2.shade, .int .i64 u2.start, .int .i64 u2.fin] 27)
  have T_s := hid (T_s.out.up hb_v4)
  have T_x := hid (T_x.out.up hb_v4)
  have T_u := hid (T_u.out.up hb_v4)
  have O_l := hid (O_l.out.up hb_v4)
  have O_a := hid (O_a.out.up hb_v4)
  have O_b := hid (O_b.out.up hb_v4)
  have O_c := hid (O_c.out.up hb_v4)
  have O_d := hid (O_d.out.up hb_v4)
  have HBel := hid (estep HBel.out hb_v4)
  have T_v : Hid (Bk (w4.alloc (.cells #[.int .u64 (u2.hi : Int), .int .u64 (u2.lo : Int), .int .u64 (u2.id : Int), .int .u64 (u2.up : Int), .string (bs u2.name), .int .i64 u2.status, .int .i64 u2.seq, .int .i64 u2.kids, .bool u2.shade, .int .i64 u2.start, .int .i64 u2.fin] 27)) w4.heap.size 27 #[.int .u64 (u2.hi : Int), .int .u64 (u2.lo : Int), .int .u64 (u2.id : Int), .int .u64 (u2.up : Int), .string (bs u2.name), .int .i64 u2.status, .int .i64 u2.seq, .int .i64 u2.kids, .bool u2.shade, .int .i64 u2.start, .int .i64 u2.fin]) := hid (Bk.new _ _ _)
  go_upto_region 7 with (fail)
  generalize w4.alloc (.cells #[.int .u64 (u2.hi : Int), .int .u64 (u2.lo : Int), .int .u64 (u2.id : Int), .int .u64 (u2.up : Int), .string (bs u2.name), .int .i64 u2.status, .int .i64 u2.seq, .int .i64 u2.kids, .bool u2.shade, .int .i64 u2.start, .int .i64 u2.fin] 27) = v4 at *
  go_wp2_with fail
  refine (opfind_any _ _ _ _ O_l.out (by have := HL.out; omega) HM3).mono ?_
  rintro e w5 ⟨rfl, hb5⟩
  have T_s := hid (T_s.out.up hb5)
  have T_x := hid (T_x.out.up hb5)
  have T_u := hid (T_u.out.up hb5)
  have T_v := hid (T_v.out.up hb5)
  have O_l := hid (O_l.out.up hb5)
  have O_a := hid (O_a.out.up hb5)
  have O_b := hid (O_b.out.up hb5)
  have O_c := hid (O_c.out.up hb5)
  have O_d := hid (O_d.out.up hb5)
  have HBel := hid (estep HBel.out hb5)
  clear hb5
  have hb_v5 := enew w5 (.cells #[.int .u64 (u3.hi : Int), .int .u64 (u3.lo : Int), .int .u64 (u3.id : Int), .int .u64 (u3.up : Int), .string (bs u3.name), .int .i64 u3.status, .int .i64 u3.seq, .int .i64 u3.kids, .bool u3.shade, .int .i64 u3.start, .int .i64 u3.fin] 27)
  have T_s := hid (T_s.out.up hb_v5)
  have T_x := hid (T_x.out.up hb_v5)
  have T_u := hid (T_u.out.up hb_v5)
  have T_v := hid (T_v.out.up hb_v5)
  have O_l := hid (O_l.out.up hb_v5)
  have O_a := hid (O_a.out.up hb_v5)
  have O_b := hid (O_b.out.up hb_v5)
  have O_c := hid (O_c.out.up hb_v5)
  have O_d := hid (O_d.out.up hb_v5)
  have HBel := hid (estep HBel.out hb_v5)
  have T_p : Hid (Bk (w5.alloc (.cells #[.int .u64 (u3.hi : Int), .int .u64 (u3.lo : Int), .int .u64 (u3.id : Int), .int .u64 (u3.up : Int), .string (bs u3.name), .int .i64 u3.status, .int .i64 u3.seq, .int .i64 u3.kids, .bool u3.shade, .int .i64 u3.start, .int .i64 u3.fin] 27)) w5.heap.size 27 #[.int .u64 (u3.hi : Int), .int .u64 (u3.lo : Int), .int .u64 (u3.id : Int), .int .u64 (u3.up : Int), .string (bs u3.name), .int .i64 u3.status, .int .i64 u3.seq, .int .i64 u3.kids, .bool u3.shade, .int .i64 u3.start, .int .i64 u3.fin]) := hid (Bk.new _ _ _)
  go_upto_region 8 with (fail)
  generalize w5.alloc (.cells #[.int .u64 (u3.hi : Int), .int .u64 (u3.lo : Int), .int .u64 (u3.id : Int), .int .u64 (u3.up : Int), .string (bs u3.name), .int .i64 u3.status, .int .i64 u3.seq, .int .i64 u3.kids, .bool u3.shade, .int .i64 u3.start, .int .i64 u3.fin] 27) = v5 at *
  go_wp2_with fail
  refine (ropfind_any _ _ _ _ O_l.out (by have := HL.out; omega) HM3).mono ?_
  rintro e w6 ⟨rfl, hb6⟩
  have T_s := hid (T_s.out.up hb6)
  have T_x := hid (T_x.out.up hb6)
  have T_u := hid (T_u.out.up hb6)
  have T_v := hid (T_v.out.up hb6)
  have T_p := hid (T_p.out.up hb6)
  have O_l := hid (O_l.out.up hb6)
  have O_a := hid (O_a.out.up hb6)
  have O_b := hid (O_b.out.up hb6)
  have O_c := hid (O_c.out.up hb6)
  have O_d := hid (O_d.out.up hb6)
  have HBel := hid (estep HBel.out hb6)
  clear hb6
  have hb_v6 := enew w6 (.cells #[.int .u64 (u3.hi : Int), .int .u64 (u3.lo : Int), .int .u64 (u3.id : Int), .int .u64 (u3.up : Int), .string (bs u3.name), .int .i64 u3.status, .int .i64 u3.seq, .int .i64 u3.kids, .bool u3.shade, .int .i64 u3.start, .int .i64 u3.fin] 27)
  have T_s := hid (T_s.out.up hb_v6)
  have T_x := hid (T_x.out.up hb_v6)
  have T_u := hid (T_u.out.up hb_v6)
  have T_v := hid (T_v.out.up hb_v6)
  have T_p := hid (T_p.out.up hb_v6)
  have O_l := hid (O_l.out.up hb_v6)
  have O_a := hid (O_a.out.up hb_v6)
  have O_b := hid (O_b.out.up hb_v6)
  have O_c := hid (O_c.out.up hb_v6)
  have O_d := hid (O_d.out.up hb_v6)
  have HBel := hid (estep HBel.out hb_v6)
  have T_r : Hid (Bk (w6.alloc (.cells #[.int .u64 (u3.hi : Int), .int .u64 (u3.lo : Int), .int .u64 (u3.id : Int), .int .u64 (u3.up : Int), .string (bs u3.name), .int .i64 u3.status, .int .i64 u3.seq, .int .i64 u3.kids, .bool u3.shade, .int .i64 u3.start, .int .i64 u3.fin] 27)) w6.heap.size 27 #[.int .u64 (u3.hi : Int), .int .u64 (u3.lo : Int), .int .u64 (u3.id : Int), .int .u64 (u3.up : Int), .string (bs u3.name), .int .i64 u3.status, .int .i64 u3.seq, .int .i64 u3.kids, .bool u3.shade, .int .i64 u3.start, .int .i64 u3.fin]) := hid (Bk.new _ _ _)
  go_upto_region 9 with (fail)
  generalize w6.alloc (.cells #[.int .u64 (u3.hi : Int), .int .u64 (u3.lo : Int), .int .u64 (u3.id : Int), .int .u64 (u3.up : Int), .string (bs u3.name), .int .i64 u3.status, .int .i64 u3.seq, .int .i64 u3.kids, .bool u3.shade, .int .i64 u3.start, .int .i64 u3.fin] 27) = v6 at *
  go_wp2_with fail
  refine (opsame_any _ _ _ _ O_a.out O_b.out (by have := HL.out; have := HL1.out; omega)).mono ?_
  rintro e w7 ⟨rfl, hb7⟩
  have T_s := hid (T_s.out.up hb7)
  have T_x := hid (T_x.out.up hb7)
  have T_u := hid (T_u.out.up hb7)
  have T_v := hid (T_v.out.up hb7)
  have T_p := hid (T_p.out.up hb7)
  have T_r := hid (T_r.out.up hb7)
  have O_l := hid (O_l.out.up hb7)
  have O_a := hid (O_a.out.up hb7)
  have O_b := hid (O_b.out.up hb7)
  have O_c := hid (O_c.out.up hb7)
  have O_d := hid (O_d.out.up hb7)
  have HBel := hid (estep HBel.out hb7)
  clear hb7
  go_wp2_with fail
  refine (opsame_any _ _ _ _ O_c.out O_d.out (by have := HL.out; have := HL2.out; omega)).mono ?_
  rintro e w8 ⟨rfl, hb8⟩
  have T_s := hid (T_s.out.up hb8)
  have T_x := hid (T_x.out.up hb8)
  have T_u := hid (T_u.out.up hb8)
  have T_v := hid (T_v.out.up hb8)
  have T_p := hid (T_p.out.up hb8)
  have T_r := hid (T_r.out.up hb8)
  have O_l := hid (O_l.out.up hb8)
  have O_a := hid (O_a.out.up hb8)
  have O_b := hid (O_b.out.up hb8)
  have O_c := hid (O_c.out.up hb8)
  have O_d := hid (O_d.out.up hb8)
  have HBel := hid (estep HBel.out hb8)
  clear hb8
  have f_u0 : w8.cell? ⟨w3.heap.size, 0, none⟩ = some (.int .u64 (u2.hi : Int)) := Bk.cell T_u.out 0
  have f_u1 : w8.cell? ⟨w3.heap.size, 1, none⟩ = some (.int .u64 (u2.lo : Int)) := Bk.cell T_u.out 1
  have f_u2 : w8.cell? ⟨w3.heap.size, 2, none⟩ = some (.int .u64 (u2.id : Int)) := Bk.cell T_u.out 2
  have f_u3 : w8.cell? ⟨w3.heap.size, 3, none⟩ = some (.int .u64 (u2.up : Int)) := Bk.cell T_u.out 3
  have f_u4 : w8.cell? ⟨w3.heap.size, 4, none⟩ = some (.string (bs u2.name)) := Bk.cell T_u.out 4
  have f_u5 : w8.cell? ⟨w3.heap.size, 5, none⟩ = some (.int .i64 u2.status) := Bk.cell T_u.out 5
  have f_u6 : w8.cell? ⟨w3.heap.size, 6, none⟩ = some (.int .i64 u2.seq) := Bk.cell T_u.out 6
  have f_u7 : w8.cell? ⟨w3.heap.size, 7, none⟩ = some (.int .i64 u2.kids) := Bk.cell T_u.out 7
  have f_u8 : w8.cell? ⟨w3.heap.size, 8, none⟩ = some (.bool u2.shade) := Bk.cell T_u.out 8
  have f_u9 : w8.cell? ⟨w3.heap.size, 9, none⟩ = some (.int .i64 u2.start) := Bk.cell T_u.out 9
  have f_u10 : w8.cell? ⟨w3.heap.size, 10, none⟩ = some (.int .i64 u2.fin) := Bk.cell T_u.out 10
  have f_v0 : w8.cell? ⟨w4.heap.size, 0, none⟩ = some (.int .u64 (u2.hi : Int)) := Bk.cell T_v.out 0
  have f_v1 : w8.cell? ⟨w4.heap.size, 1, none⟩ = some (.int .u64 (u2.lo : Int)) := Bk.cell T_v.out 1
  have f_v2 : w8.cell? ⟨w4.heap.size, 2, none⟩ = some (.int .u64 (u2.id : Int)) := Bk.cell T_v.out 2
  have f_v3 : w8.cell? ⟨w4.heap.size, 3, none⟩ = some (.int .u64 (u2.up : Int)) := Bk.cell T_v.out 3
  have f_v4 : w8.cell? ⟨w4.heap.size, 4, none⟩ = some (.string (bs u2.name)) := Bk.cell T_v.out 4
  have f_v5 : w8.cell? ⟨w4.heap.size, 5, none⟩ = some (.int .i64 u2.status) := Bk.cell T_v.out 5
  have f_v6 : w8.cell? ⟨w4.heap.size, 6, none⟩ = some (.int .i64 u2.seq) := Bk.cell T_v.out 6
  have f_v7 : w8.cell? ⟨w4.heap.size, 7, none⟩ = some (.int .i64 u2.kids) := Bk.cell T_v.out 7
  have f_v8 : w8.cell? ⟨w4.heap.size, 8, none⟩ = some (.bool u2.shade) := Bk.cell T_v.out 8
  have f_v9 : w8.cell? ⟨w4.heap.size, 9, none⟩ = some (.int .i64 u2.start) := Bk.cell T_v.out 9
  have f_v10 : w8.cell? ⟨w4.heap.size, 10, none⟩ = some (.int .i64 u2.fin) := Bk.cell T_v.out 10
  have f_p0 : w8.cell? ⟨w5.heap.size, 0, none⟩ = some (.int .u64 (u3.hi : Int)) := Bk.cell T_p.out 0
  have f_p1 : w8.cell? ⟨w5.heap.size, 1, none⟩ = some (.int .u64 (u3.lo : Int)) := Bk.cell T_p.out 1
  have f_p2 : w8.cell? ⟨w5.heap.size, 2, none⟩ = some (.int .u64 (u3.id : Int)) := Bk.cell T_p.out 2
  have f_p3 : w8.cell? ⟨w5.heap.size, 3, none⟩ = some (.int .u64 (u3.up : Int)) := Bk.cell T_p.out 3
  have f_p4 : w8.cell? ⟨w5.heap.size, 4, none⟩ = some (.string (bs u3.name)) := Bk.cell T_p.out 4
  have f_p5 : w8.cell? ⟨w5.heap.size, 5, none⟩ = some (.int .i64 u3.status) := Bk.cell T_p.out 5
  have f_p6 : w8.cell? ⟨w5.heap.size, 6, none⟩ = some (.int .i64 u3.seq) := Bk.cell T_p.out 6
  have f_p7 : w8.cell? ⟨w5.heap.size, 7, none⟩ = some (.int .i64 u3.kids) := Bk.cell T_p.out 7
  have f_p8 : w8.cell? ⟨w5.heap.size, 8, none⟩ = some (.bool u3.shade) := Bk.cell T_p.out 8
  have f_p9 : w8.cell? ⟨w5.heap.size, 9, none⟩ = some (.int .i64 u3.start) := Bk.cell T_p.out 9
  have f_p10 : w8.cell? ⟨w5.heap.size, 10, none⟩ = some (.int .i64 u3.fin) := Bk.cell T_p.out 10
  have f_r0 : w8.cell? ⟨w6.heap.size, 0, none⟩ = some (.int .u64 (u3.hi : Int)) := Bk.cell T_r.out 0
  have f_r1 : w8.cell? ⟨w6.heap.size, 1, none⟩ = some (.int .u64 (u3.lo : Int)) := Bk.cell T_r.out 1
  have f_r2 : w8.cell? ⟨w6.heap.size, 2, none⟩ = some (.int .u64 (u3.id : Int)) := Bk.cell T_r.out 2
  have f_r3 : w8.cell? ⟨w6.heap.size, 3, none⟩ = some (.int .u64 (u3.up : Int)) := Bk.cell T_r.out 3
  have f_r4 : w8.cell? ⟨w6.heap.size, 4, none⟩ = some (.string (bs u3.name)) := Bk.cell T_r.out 4
  have f_r5 : w8.cell? ⟨w6.heap.size, 5, none⟩ = some (.int .i64 u3.status) := Bk.cell T_r.out 5
  have f_r6 : w8.cell? ⟨w6.heap.size, 6, none⟩ = some (.int .i64 u3.seq) := Bk.cell T_r.out 6
  have f_r7 : w8.cell? ⟨w6.heap.size, 7, none⟩ = some (.int .i64 u3.kids) := Bk.cell T_r.out 7
  have f_r8 : w8.cell? ⟨w6.heap.size, 8, none⟩ = some (.bool u3.shade) := Bk.cell T_r.out 8
  have f_r9 : w8.cell? ⟨w6.heap.size, 9, none⟩ = some (.int .i64 u3.start) := Bk.cell T_r.out 9
  have f_r10 : w8.cell? ⟨w6.heap.size, 10, none⟩ = some (.int .i64 u3.fin) := Bk.cell T_r.out 10
  go_wp2_with fail
  refine (known24_any _).mono ?_
  rintro e w9 ⟨rfl, hb9⟩
  have HBel := hid (estep HBel.out hb9)
  go_wp2_with fail
  go_returns
  exact ⟨rfl, HBel.out⟩
end Go.Proofs.Ytnbkpannhcamjaa
