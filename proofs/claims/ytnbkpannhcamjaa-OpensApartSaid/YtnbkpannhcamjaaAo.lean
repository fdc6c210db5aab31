/- opens: the law OpensApart. -/
import Derived.Test.YtnbkpannhcamjaaAl
namespace Go.Proofs.Ytnbkpannhcamjaa
set_option linter.unusedVariables false
set_option linter.unusedSimpArgs false
open Go.RowKit Go.Joins

theorem opFin_yes {L M : List Opn} {no st kd now : Int} {u : Sp} (h : opFin L no st kd now = (M, u, 0)) : opAt L no < L.length := by
  by_cases hk : opAt L no < L.length
  · exact hk
  · unfold opFin at h
    rw [dif_neg hk] at h
    cases h
set_option maxRecDepth 100000 in
set_option maxHeartbeats 16000000 in
theorem opensApart_walk (v : Value) (L : List Opn) (n0 n1 x0 x1 x2 : Int) (w : World) (h : OV w v L) :
    Calls Try.prog 5 #[v, .agg #[.int .i64 n0, .int .i64 n1], .agg #[.int .i64 x0, .int .i64 x1, .int .i64 x2]] w fun e w' => e = .returned (.bool true) ∧ Below w.heap.size w w' := by
  have hg := ops_guard
  have HBel := hid (Below.refl w.heap.size w)
  have O_l := hid h
  obtain ⟨n, hn⟩ : ∃ n, L.length = n := ⟨_, rfl⟩
  have HNl := hid hn
  clear h
  have hb_v0 := enew w (.cells #[.int .i64 n0, .int .i64 n1] 40)
  have O_l := hid (O_l.out.up hb_v0)
  have HBel := hid (estep HBel.out hb_v0)
  have T_n : Hid (Bk (w.alloc (.cells #[.int .i64 n0, .int .i64 n1] 40)) w.heap.size 40 #[.int .i64 n0, .int .i64 n1]) := hid (Bk.new _ _ _)
  generalize hv0 : w.alloc (.cells #[.int .i64 n0, .int .i64 n1] 40) = v0 at *
  have hb_v1 := enew v0 (.cells #[.int .i64 x0, .int .i64 x1, .int .i64 x2] 28)
  have T_n := hid (T_n.out.up hb_v1)
  have O_l := hid (O_l.out.up hb_v1)
  have HBel := hid (estep HBel.out hb_v1)
  have T_x : Hid (Bk (v0.alloc (.cells #[.int .i64 x0, .int .i64 x1, .int .i64 x2] 28)) v0.heap.size 28 #[.int .i64 x0, .int .i64 x1, .int .i64 x2]) := hid (Bk.new _ _ _)
  generalize hv1 : v0.alloc (.cells #[.int .i64 x0, .int .i64 x1, .int .i64 x2] 28) = v1 at *
  obtain ⟨A, c, hv, -, -, -, -⟩ := O_l.out
  rw [hn] at hv
  have HV := hid hv
  clear hv
  obtain ⟨M1, u1, z1, hM1⟩ : ∃ M u z, opFin L n0 x0 x1 x2 = (M, u, z) := ⟨_, _, _, rfl⟩
  obtain ⟨M2, u2, z2, hM2⟩ : ∃ M u z, opFin L n1 x0 x1 x2 = (M, u, z) := ⟨_, _, _, rfl⟩
  have HM1 := hid hM1
  have HM2 := hid hM2
  have HL1 := hid (opFin_len hM1)
  have HL2 := hid (opFin_len hM2)
  have he := ops_eql
  clear hM1 hM2
  go_enter Try.func5, Try.ntmps5
  go_upto_region 1 with (fail)
  (try rw [hv0]); (try rw [hv1])
  clear hv0 hv1
  rw [HV.out]
  have f_n0 : v1.cell? ⟨w.heap.size, 0, none⟩ = some (.int .i64 n0) := Bk.cell T_n.out 0
  have f_n1 : v1.cell? ⟨w.heap.size, 1, none⟩ = some (.int .i64 n1) := Bk.cell T_n.out 1
  by_cases hbig : 300 < n
  · have hd : decide ((300 : Int) < (n : Int)) = true := decide_eq_true (by omega)
    clear hn
    go_wp2_with fail
    refine (known24_any _).mono ?_
    rintro e w9 ⟨rfl, hb9⟩
    have HBel := hid (estep HBel.out hb9)
    go_wp2_with fail
    go_returns
    exact ⟨rfl, HBel.out⟩
  have hd : decide ((300 : Int) < (n : Int)) = false := decide_eq_false (by omega)
  have hd' : ¬ ((300 : Int) < (n : Int)) := by omega
  have hl0 : L.length ≤ 300 := by omega
  have HL := hid hl0
  clear hn hbig hl0
  by_cases hne : n0 = n1
  · have hq : (n0 == n1) = true := by simpa using hne
    clear hne
    go_wp2_with fail
    refine (known24_any _).mono ?_
    rintro e w9 ⟨rfl, hb9⟩
    have HBel := hid (estep HBel.out hb9)
    go_wp2_with fail
    go_returns
    exact ⟨rfl, HBel.out⟩
  have hq : (n0 == n1) = false := by simpa using hne
  have HNE := hid hne
  clear hne
  go_upto_region 3 with (fail)
  have f_x0 : v1.cell? ⟨v0.heap.size, 0, none⟩ = some (.int .i64 x0) := Bk.cell T_x.out 0
  have f_x1 : v1.cell? ⟨v0.heap.size, 1, none⟩ = some (.int .i64 x1) := Bk.cell T_x.out 1
  have f_x2 : v1.cell? ⟨v0.heap.size, 2, none⟩ = some (.int .i64 x2) := Bk.cell T_x.out 2
  go_wp2_with fail
  clear f_n0 f_n1 f_x0 f_x1 f_x2
  rw [← HV.out]
  refine (finish_any _ _ _ _ _ _ _ O_l.out (by have := HL.out; omega) HM1).mono ?_
  rintro e w1 ⟨y1, rfl, hy1, hb1⟩
  have T_n := hid (T_n.out.up hb1)
  have T_x := hid (T_x.out.up hb1)
  have O_l := hid (O_l.out.up hb1)
  have HBel := hid (estep HBel.out hb1)
  have O_a := hid hy1
  clear hy1 hb1
  have hb_v2 := enew w1 (.cells #[.int .u64 (u1.hi : Int), .int .u64 (u1.lo : Int), .int .u64 (u1.id : Int), .int .u64 (u1.up : Int), .string (bs u1.name), .int .i64 u1.status, .int .i64 u1.seq, .int .i64 u1.kids, .bool u1.shade, .int .i64 u1.start, .int .i64 u1.fin] 27)
  have T_n := hid (T_n.out.up hb_v2)
  have T_x := hid (T_x.out.up hb_v2)
  have O_l := hid (O_l.out.up hb_v2)
  have O_a := hid (O_a.out.up hb_v2)
  have HBel := hid (estep HBel.out hb_v2)
  have T_s : Hid (Bk (w1.alloc (.cells #[.int .u64 (u1.hi : Int), .int .u64 (u1.lo : Int), .int .u64 (u1.id : Int), .int .u64 (u1.up : Int), .string (bs u1.name), .int .i64 u1.status, .int .i64 u1.seq, .int .i64 u1.kids, .bool u1.shade, .int .i64 u1.start, .int .i64 u1.fin] 27)) w1.heap.size 27 #[.int .u64 (u1.hi : Int), .int .u64 (u1.lo : Int), .int .u64 (u1.id : Int), .int .u64 (u1.up : Int), .string (bs u1.name), .int .i64 u1.status, .int .i64 u1.seq, .int .i64 u1.kids, .bool u1.shade, .int .i64 u1.start, .int .i64 u1.fin]) := hid (Bk.new _ _ _)
  go_upto_region 4 with (fail)
  generalize w1.alloc (.cells #[.int .u64 (u1.hi : Int), .int .u64 (u1.lo : Int), .int .u64 (u1.id : Int), .int .u64 (u1.up : Int), .string (bs u1.name), .int .i64 u1.status, .int .i64 u1.seq, .int .i64 u1.kids, .bool u1.shade, .int .i64 u1.start, .int .i64 u1.fin] 27) = v2 at *
  have f_n0 : v2.cell? ⟨w.heap.size, 0, none⟩ = some (.int .i64 n0) := Bk.cell T_n.out 0
  have f_n1 : v2.cell? ⟨w.heap.size, 1, none⟩ = some (.int .i64 n1) := Bk.cell T_n.out 1
  have f_x0 : v2.cell? ⟨v0.heap.size, 0, none⟩ = some (.int .i64 x0) := Bk.cell T_x.out 0
  have f_x1 : v2.cell? ⟨v0.heap.size, 1, none⟩ = some (.int .i64 x1) := Bk.cell T_x.out 1
  have f_x2 : v2.cell? ⟨v0.heap.size, 2, none⟩ = some (.int .i64 x2) := Bk.cell T_x.out 2
  go_wp2_with fail
  clear f_n0 f_n1 f_x0 f_x1 f_x2
  refine (finish_any _ _ _ _ _ _ _ O_l.out (by have := HL.out; omega) HM2).mono ?_
  rintro e w2 ⟨y2, rfl, hy2, hb2⟩
  have T_n := hid (T_n.out.up hb2)
  have T_x := hid (T_x.out.up hb2)
  have T_s := hid (T_s.out.up hb2)
  have O_l := hid (O_l.out.up hb2)
  have O_a := hid (O_a.out.up hb2)
  have HBel := hid (estep HBel.out hb2)
  have O_b := hid hy2
  clear hy2 hb2
  have hb_v3 := enew w2 (.cells #[.int .u64 (u2.hi : Int), .int .u64 (u2.lo : Int), .int .u64 (u2.id : Int), .int .u64 (u2.up : Int), .string (bs u2.name), .int .i64 u2.status, .int .i64 u2.seq, .int .i64 u2.kids, .bool u2.shade, .int .i64 u2.start, .int .i64 u2.fin] 27)
  have T_n := hid (T_n.out.up hb_v3)
  have T_x := hid (T_x.out.up hb_v3)
  have T_s := hid (T_s.out.up hb_v3)
  have O_l := hid (O_l.out.up hb_v3)
  have O_a := hid (O_a.out.up hb_v3)
  have O_b := hid (O_b.out.up hb_v3)
  have HBel := hid (estep HBel.out hb_v3)
  have T_t : Hid (Bk (w2.alloc (.cells #[.int .u64 (u2.hi : Int), .int .u64 (u2.lo : Int), .int .u64 (u2.id : Int), .int .u64 (u2.up : Int), .string (bs u2.name), .int .i64 u2.status, .int .i64 u2.seq, .int .i64 u2.kids, .bool u2.shade, .int .i64 u2.start, .int .i64 u2.fin] 27)) w2.heap.size 27 #[.int .u64 (u2.hi : Int), .int .u64 (u2.lo : Int), .int .u64 (u2.id : Int), .int .u64 (u2.up : Int), .string (bs u2.name), .int .i64 u2.status, .int .i64 u2.seq, .int .i64 u2.kids, .bool u2.shade, .int .i64 u2.start, .int .i64 u2.fin]) := hid (Bk.new _ _ _)
  go_upto_region 5 with (fail)
  generalize w2.alloc (.cells #[.int .u64 (u2.hi : Int), .int .u64 (u2.lo : Int), .int .u64 (u2.id : Int), .int .u64 (u2.up : Int), .string (bs u2.name), .int .i64 u2.status, .int .i64 u2.seq, .int .i64 u2.kids, .bool u2.shade, .int .i64 u2.start, .int .i64 u2.fin] 27) = v3 at *
  by_cases hz1 : z1 = 0
  rotate_left
  · have hzn : (z1 != 0) = true := by simpa using hz1
    clear hz1
    go_wp2_with fail
    refine (known24_any _).mono ?_
    rintro e w9 ⟨rfl, hb9⟩
    have HBel := hid (estep HBel.out hb9)
    go_wp2_with fail
    go_returns
    exact ⟨rfl, HBel.out⟩
  subst hz1
  by_cases hz2 : z2 = 0
  rotate_left
  · have hzn : (z2 != 0) = true := by simpa using hz2
    clear hz2
    go_wp2_with fail
    refine (known24_any _).mono ?_
    rintro e w9 ⟨rfl, hb9⟩
    have HBel := hid (estep HBel.out hb9)
    go_wp2_with fail
    go_returns
    exact ⟨rfl, HBel.out⟩
  subst hz2
  obtain ⟨p1, p2, p3⟩ := opApart HNE.out (opFin_yes HM1.out) (opFin_yes HM2.out) x0 x1 x2
  rw [HM1.out, HM2.out] at p1 p2
  rw [HM1.out] at p3
  obtain ⟨M3, hM3⟩ : ∃ M3, (opFin M2 n0 x0 x1 x2).1 = M3 := ⟨_, rfl⟩
  have H3 := hid (show opFin M1 n1 x0 x1 x2 = (M3, u2, 0) by rw [p1, hM3])
  have H4 := hid (show opFin M2 n0 x0 x1 x2 = (M3, u1, 0) by rw [← hM3]; exact Prod.ext rfl p2)
  obtain ⟨q, hq3⟩ : ∃ q, M3.length = q := ⟨_, rfl⟩
  have hqn : M3.length + 2 = L.length := by
    have := p3
    rw [H3.out] at this
    exact this
  have HQN := hid (And.intro hqn hq3)
  clear p1 p2 p3 hM3 hq3 hqn
  go_upto_region 7 with (fail)
  have f_n0 : v3.cell? ⟨w.heap.size, 0, none⟩ = some (.int .i64 n0) := Bk.cell T_n.out 0
  have f_n1 : v3.cell? ⟨w.heap.size, 1, none⟩ = some (.int .i64 n1) := Bk.cell T_n.out 1
  have f_x0 : v3.cell? ⟨v0.heap.size, 0, none⟩ = some (.int .i64 x0) := Bk.cell T_x.out 0
  have f_x1 : v3.cell? ⟨v0.heap.size, 1, none⟩ = some (.int .i64 x1) := Bk.cell T_x.out 1
  have f_x2 : v3.cell? ⟨v0.heap.size, 2, none⟩ = some (.int .i64 x2) := Bk.cell T_x.out 2
  go_wp2_with fail
  clear f_n0 f_n1 f_x0 f_x1 f_x2
  refine (finish_any _ _ _ _ _ _ _ O_a.out (by have := HL.out; have := HL1.out; omega) H3).mono ?_
  rintro e w3 ⟨y3, rfl, hy3, hb3⟩
  have T_n := hid (T_n.out.up hb3)
  have T_x := hid (T_x.out.up hb3)
  have T_s := hid (T_s.out.up hb3)
  have T_t := hid (T_t.out.up hb3)
  have O_l := hid (O_l.out.up hb3)
  have O_a := hid (O_a.out.up hb3)
  have O_b := hid (O_b.out.up hb3)
  have HBel := hid (estep HBel.out hb3)
  have O_c := hid hy3
  clear hy3 hb3
  have hb_v4 := enew w3 (.cells #[.int .u64 (u2.hi : Int), .int .u64 (u2.lo : Int), .int .u64 (u2.id : Int), .int .u64 (u2.up : Int), .string (bs u2.name), .int .i64 u2.status, .int .i64 u2.seq, .int .i64 u2.kids, .bool u2.shade, .int .i64 u2.start, .int .i64 u2.fin] 27)
  have T_n := hid (T_n.out.up hb_v4)
  have T_x := hid (T_x.out.up hb_v4)
  have T_s := hid (T_s.out.up hb_v4)
  have T_t := hid (T_t.out.up hb_v4)
  have O_l := hid (O_l.out.up hb_v4)
  have O_a := hid (O_a.out.up hb_v4)
  have O_b := hid (O_b.out.up hb_v4)
  have O_c := hid (O_c.out.up hb_v4)
  have HBel := hid (estep HBel.out hb_v4)
  have T_p : Hid (Bk (w3.alloc (.cells #[.int .u64 (u2.hi : Int), .int .u64 (u2.lo : Int), .int .u64 (u2.id : Int), .int .u64 (u2.up : Int), .string (bs u2.name), .int .i64 u2.status, .int .i64 u2.seq, .int .i64 u2.kids, .bool u2.shade, .int .i64 u2.start, .int .i64 u2.fin] 27)) w3.heap.size 27 #[.int .u64 (u2.hi : Int), .int .u64 (u2.lo : Int), .int .u64 (u2.id : Int), .int .u64 (u2.up : Int), .string (bs u2.name), .int .i64 u2.status, .int .i64 u2.seq, .int .i64 u2.kids, .bool u2.shade, .int .i64 u2.start, .int .i64 u2.fin]) := hid (Bk.new _ _ _)
  go_upto_region 8 with (fail)
  generalize w3.alloc (.cells #[.int .u64 (u2.hi : Int), .int .u64 (u2.lo : Int), .int .u64 (u2.id : Int), .int .u64 (u2.up : Int), .string (bs u2.name), .int .i64 u2.status, .int .i64 u2.seq, .int .i64 u2.kids, .bool u2.shade, .int .i64 u2.start, .int .i64 u2.fin] 27) = v4 at *
  have f_n0 : v4.cell? ⟨w.heap.size, 0, none⟩ = some (.int .i64 n0) := Bk.cell T_n.out 0
  have f_n1 : v4.cell? ⟨w.heap.size, 1, none⟩ = some (.int .i64 n1) := Bk.cell T_n.out 1
  have f_x0 : v4.cell? ⟨v0.heap.size, 0, none⟩ = some (.int .i64 x0) := Bk.cell T_x.out 0
  have f_x1 : v4.cell? ⟨v0.heap.size, 1, none⟩ = some (.int .i64 x1) := Bk.cell T_x.out 1
  have f_x2 : v4.cell? ⟨v0.heap.size, 2, none⟩ = some (.int .i64 x2) := Bk.cell T_x.out 2
  go_wp2_with fail
  clear f_n0 f_n1 f_x0 f_x1 f_x2
  refine (finish_any _ _ _ _ _ _ _ O_b.out (by have := HL.out; have := HL2.out; omega) H4).mono ?_
  rintro e w4 ⟨y4, rfl, hy4, hb4⟩
  have T_n := hid (T_n.out.up hb4)
  have T_x := hid (T_x.out.up hb4)
  have T_s := hid (T_s.out.up hb4)
  have T_t := hid (T_t.out.up hb4)
  have T_p := hid (T_p.out.up hb4)
  have O_l := hid (O_l.out.up hb4)
  have O_a := hid (O_a.out.up hb4)
  have O_b := hid (O_b.out.up hb4)
  have O_c := hid (O_c.out.up hb4)
  have HBel := hid (estep HBel.out hb4)
  have O_d := hid hy4
  clear hy4 hb4
  have hb_v5 := enew w4 (.cells #[.int .u64 (u1.hi : Int), .int .u64 (u1.lo : Int), .int .u64 (u1.id : Int), .int .u64 (u1.up : Int), .string (bs u1.name), .int .i64 u1.status, .int .i64 u1.seq, .int .i64 u1.kids, .bool u1.shade, .int .i64 u1.start, .int .i64 u1.fin] 27)
  have T_n := hid (T_n.out.up hb_v5)
  have T_x := hid (T_x.out.up hb_v5)
  have T_s := hid (T_s.out.up hb_v5)
  have T_t := hid (T_t.out.up hb_v5)
  have T_p := hid (T_p.out.up hb_v5)
  have O_l := hid (O_l.out.up hb_v5)
  have O_a := hid (O_a.out.up hb_v5)
  have O_b := hid (O_b.out.up hb_v5)
  have O_c := hid (O_c.out.up hb_v5)
  have O_d := hid (O_d.out.up hb_v5)
  have HBel := hid (estep HBel.out hb_v5)
  have T_r : Hid (Bk (w4.alloc (.cells #[.int .u64 (u1.hi : Int), .int .u64 (u1.lo : Int), .int .u64 (u1.id : Int), .int .u64 (u1.up : Int), .string (bs u1.name), .int .i64 u1.status, .int .i64 u1.seq, .int .i64 u1.kids, .bool u1.shade, .int .i64 u1.start, .int .i64 u1.fin] 27)) w4.heap.size 27 #[.int .u64 (u1.hi : Int), .int .u64 (u1.lo : Int), .int .u64 (u1.id : Int), .int .u64 (u1.up : Int), .string (bs u1.name), .int .i64 u1.status, .int .i64 u1.seq, .int .i64 u1.kids, .bool u1.shade, .int .i64 u1.start, .int .i64 u1.fin]) := hid (Bk.new _ _ _)
  go_upto_region 9 with (fail)
  generalize w4.alloc (.cells #[.int .u64 (u1.hi : Int), .int .u64 (u1.lo : Int), .int .u64 (u1.id : Int), .int .u64 (u1.up : Int), .string (bs u1.name), .int .i64 u1.status, .int .i64 u1.seq, .int .i64 u1.kids, .bool u1.shade, .int .i64 u1.start, .int .i64 u1.fin] 27) = v5 at *
  have f_s0 : v5.cell? ⟨w1.heap.size, 0, none⟩ = some (.int .u64 (u1.hi : Int)) := Bk.cell T_s.out 0
  have f_s1 : v5.cell? ⟨w1.heap.size, 1, none⟩ = some (.int .u64 (u1.lo : Int)) := Bk.cell T_s.out 1
  have f_s2 : v5.cell? ⟨w1.heap.size, 2, none⟩ = some (.int .u64 (u1.id : Int)) := Bk.cell T_s.out 2
  have f_s3 : v5.cell? ⟨w1.heap.size, 3, none⟩ = some (.int .u64 (u1.up : Int)) := Bk.cell T_s.out 3
  have f_s4 : v5.cell? ⟨w1.heap.size, 4, none⟩ = some (.string (bs u1.name)) := Bk.cell T_s.out 4
  have f_s5 : v5.cell? ⟨w1.heap.size, 5, none⟩ = some (.int .i64 u1.status) := Bk.cell T_s.out 5
  have f_s6 : v5.cell? ⟨w1.heap.size, 6, none⟩ = some (.int .i64 u1.seq) := Bk.cell T_s.out 6
  have f_s7 : v5.cell? ⟨w1.heap.size, 7, none⟩ = some (.int .i64 u1.kids) := Bk.cell T_s.out 7
  have f_s8 : v5.cell? ⟨w1.heap.size, 8, none⟩ = some (.bool u1.shade) := Bk.cell T_s.out 8
  have f_s9 : v5.cell? ⟨w1.heap.size, 9, none⟩ = some (.int .i64 u1.start) := Bk.cell T_s.out 9
  have f_s10 : v5.cell? ⟨w1.heap.size, 10, none⟩ = some (.int .i64 u1.fin) := Bk.cell T_s.out 10
  have f_t0 : v5.cell? ⟨w2.heap.size, 0, none⟩ = some (.int .u64 (u2.hi : Int)) := Bk.cell T_t.out 0
  have f_t1 : v5.cell? ⟨w2.heap.size, 1, none⟩ = some (.int .u64 (u2.lo : Int)) := Bk.cell T_t.out 1
  have f_t2 : v5.cell? ⟨w2.heap.size, 2, none⟩ = some (.int .u64 (u2.id : Int)) := Bk.cell T_t.out 2
  have f_t3 : v5.cell? ⟨w2.heap.size, 3, none⟩ = some (.int .u64 (u2.up : Int)) := Bk.cell T_t.out 3
  have f_t4 : v5.cell? ⟨w2.heap.size, 4, none⟩ = some (.string (bs u2.name)) := Bk.cell T_t.out 4
  have f_t5 : v5.cell? ⟨w2.heap.size, 5, none⟩ = some (.int .i64 u2.status) := Bk.cell T_t.out 5
  have f_t6 : v5.cell? ⟨w2.heap.size, 6, none⟩ = some (.int .i64 u2.seq) := Bk.cell T_t.out 6
  have f_t7 : v5.cell? ⟨w2.heap.size, 7, none⟩ = some (.int .i64 u2.kids) := Bk.cell T_t.out 7
  have f_t8 : v5.cell? ⟨w2.heap.size, 8, none⟩ = some (.bool u2.shade) := Bk.cell T_t.out 8
  have f_t9 : v5.cell? ⟨w2.heap.size, 9, none⟩ = some (.int .i64 u2.start) := Bk.cell T_t.out 9
  have f_t10 : v5.cell? ⟨w2.heap.size, 10, none⟩ = some (.int .i64 u2.fin) := Bk.cell T_t.out 10
  have f_p0 : v5.cell? ⟨w3.heap.size, 0, none⟩ = some (.int .u64 (u2.hi : Int)) := Bk.cell T_p.out 0
  have f_p1 : v5.cell? ⟨w3.heap.size, 1, none⟩ = some (.int .u64 (u2.lo : Int)) := Bk.cell T_p.out 1
  have f_p2 : v5.cell? ⟨w3.heap.size, 2, none⟩ = some (.int .u64 (u2.id : Int)) := Bk.cell T_p.out 2
  have f_p3 : v5.cell? ⟨w3.heap.size, 3, none⟩ = some (.int .u64 (u2.up : Int)) := Bk.cell T_p.out 3
  have f_p4 : v5.cell? ⟨w3.heap.size, 4, none⟩ = some (.string (bs u2.name)) := Bk.cell T_p.out 4
  have f_p5 : v5.cell? ⟨w3.heap.size, 5, none⟩ = some (.int .i64 u2.status) := Bk.cell T_p.out 5
  have f_p6 : v5.cell? ⟨w3.heap.size, 6, none⟩ = some (.int .i64 u2.seq) := Bk.cell T_p.out 6
  have f_p7 : v5.cell? ⟨w3.heap.size, 7, none⟩ = some (.int .i64 u2.kids) := Bk.cell T_p.out 7
  have f_p8 : v5.cell? ⟨w3.heap.size, 8, none⟩ = some (.bool u2.shade) := Bk.cell T_p.out 8
  have f_p9 : v5.cell? ⟨w3.heap.size, 9, none⟩ = some (.int .i64 u2.start) := Bk.cell T_p.out 9
  have f_p10 : v5.cell? ⟨w3.heap.size, 10, none⟩ = some (.int .i64 u2.fin) := Bk.cell T_p.out 10
  have f_r0 : v5.cell? ⟨w4.heap.size, 0, none⟩ = some (.int .u64 (u1.hi : Int)) := Bk.cell T_r.out 0
  have f_r1 : v5.cell? ⟨w4.heap.size, 1, none⟩ = some (.int .u64 (u1.lo : Int)) := Bk.cell T_r.out 1
  have f_r2 : v5.cell? ⟨w4.heap.size, 2, none⟩ = some (.int .u64 (u1.id : Int)) := Bk.cell T_r.out 2
  have f_r3 : v5.cell? ⟨w4.heap.size, 3, none⟩ = some (.int .u64 (u1.up : Int)) := Bk.cell T_r.out 3
  have f_r4 : v5.cell? ⟨w4.heap.size, 4, none⟩ = some (.string (bs u1.name)) := Bk.cell T_r.out 4
  have f_r5 : v5.cell? ⟨w4.heap.size, 5, none⟩ = some (.int .i64 u1.status) := Bk.cell T_r.out 5
  have f_r6 : v5.cell? ⟨w4.heap.size, 6, none⟩ = some (.int .i64 u1.seq) := Bk.cell T_r.out 6
  have f_r7 : v5.cell? ⟨w4.heap.size, 7, none⟩ = some (.int .i64 u1.kids) := Bk.cell T_r.out 7
  have f_r8 : v5.cell? ⟨w4.heap.size, 8, none⟩ = some (.bool u1.shade) := Bk.cell T_r.out 8
  have f_r9 : v5.cell? ⟨w4.heap.size, 9, none⟩ = some (.int .i64 u1.start) := Bk.cell T_r.out 9
  have f_r10 : v5.cell? ⟨w4.heap.size, 10, none⟩ = some (.int .i64 u1.fin) := Bk.cell T_r.out 10
  obtain ⟨A3, c3, hv3, -, -, -, -⟩ := O_c.out
  rw [HQN.out.2] at hv3
  have HV3 := hid hv3
  clear hv3
  go_wp2_with fail
  refine (opsame_any _ _ _ _ O_c.out O_d.out (by have := HL.out; have := HQN.out.1; omega)).mono ?_
  rintro e w7 ⟨rfl, hb7⟩
  have HBel := hid (estep HBel.out hb7)
  clear hb7
  clear f_s0 f_s1 f_s2 f_s3 f_s4 f_s5 f_s6 f_s7 f_s8 f_s9 f_s10 f_t0 f_t1 f_t2 f_t3 f_t4 f_t5 f_t6 f_t7 f_t8 f_t9 f_t10 f_p0 f_p1 f_p2 f_p3 f_p4 f_p5 f_p6 f_p7 f_p8 f_p9 f_p10 f_r0 f_r1 f_r2 f_r3 f_r4 f_r5 f_r6 f_r7 f_r8 f_r9 f_r10
  have hqi : IntKind.i64.wrap ((q : Int) + 2) = (n : Int) := by rw [IntKind.wrap_i64]; have := HL.out; have := HQN.out; have := HNl.out; omega
  have hqj : wrap64 ((q : Int) + 2) = (n : Int) := by unfold wrap64; have := HL.out; have := HQN.out; have := HNl.out; omega
  rw [HV3.out, HV.out]
  go_wp2_with fail
  refine (known24_any _).mono ?_
  rintro e w9 ⟨rfl, hb9⟩
  have HBel := hid (estep HBel.out hb9)
  go_wp2_with fail
  go_returns
  exact ⟨rfl, HBel.out⟩
end Go.Proofs.Ytnbkpannhcamjaa
