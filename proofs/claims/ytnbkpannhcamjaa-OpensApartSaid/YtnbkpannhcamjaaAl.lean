/- opens: Finish, whole; the law's known. -/
import Derived.Test.YtnbkpannhcamjaaAk
namespace Go.Proofs.Ytnbkpannhcamjaa
set_option linter.unusedVariables false
set_option linter.unusedSimpArgs false
open Go.RowKit Go.Joins

theorem finish_any (v : Value) (L : List Opn) (no st kd now : Int) (w : World) (h : OV w v L) (hl : L.length ≤ 1000000) {M : List Opn} {u : Sp} {z : Int} (H : Hid (opFin L no st kd now = (M, u, z))) :
    Calls Try.prog 9 #[v, .int .i64 no, .int .i64 st, .int .i64 kd, .int .i64 now] w fun e w' => ∃ y, e = .returned (.tuple #[y, .agg #[.int .u64 (u.hi : Int), .int .u64 (u.lo : Int), .int .u64 (u.id : Int), .int .u64 (u.up : Int), .string (bs u.name), .int .i64 u.status, .int .i64 u.seq, .int .i64 u.kids, .bool u.shade, .int .i64 u.start, .int .i64 u.fin], .int .i64 z]) ∧ OV w' y M ∧ Below w.heap.size w w' := by
  rcases op_case L no with ⟨k, o, hu, hk, hI, -, hf, -⟩ | ⟨hI, -, hf, -⟩
  · have h2 := (hf st kd now).symm.trans H.out
    simp only [Prod.mk.injEq] at h2
    obtain ⟨rfl, rfl, rfl⟩ := h2
    exact finish_ok v L no st kd now w h hl k o hu hI
  · have h2 := (hf st kd now).symm.trans H.out
    simp only [Prod.mk.injEq] at h2
    obtain ⟨rfl, rfl, rfl⟩ := h2
    exact finish_no v L no st kd now w h hl hI
theorem rfinish_any (v : Value) (L : List Opn) (no st kd now : Int) (w : World) (h : OV w v L) (hl : L.length ≤ 1000000) {M : List Opn} {u : Sp} {z : Int} (H : Hid (opFin L no st kd now = (M, u, z))) :
    Calls Try.prog 10 #[v, .int .i64 no, .int .i64 st, .int .i64 kd, .int .i64 now] w fun e w' => ∃ y, e = .returned (.tuple #[y, .agg #[.int .u64 (u.hi : Int), .int .u64 (u.lo : Int), .int .u64 (u.id : Int), .int .u64 (u.up : Int), .string (bs u.name), .int .i64 u.status, .int .i64 u.seq, .int .i64 u.kids, .bool u.shade, .int .i64 u.start, .int .i64 u.fin], .int .i64 z]) ∧ OV w' y M ∧ Below w.heap.size w w' := by
  rcases op_case L no with ⟨k, o, hu, hk, hI, -, hf, -⟩ | ⟨hI, -, hf, -⟩
  · have h2 := (hf st kd now).symm.trans H.out
    simp only [Prod.mk.injEq] at h2
    obtain ⟨rfl, rfl, rfl⟩ := h2
    exact rfinish_ok v L no st kd now w h hl k o hu hI
  · have h2 := (hf st kd now).symm.trans H.out
    simp only [Prod.mk.injEq] at h2
    obtain ⟨rfl, rfl, rfl⟩ := h2
    exact rfinish_no v L no st kd now w h hl hI
theorem opFin_len {L M : List Opn} {no st kd now : Int} {u : Sp} {z : Int} (h : opFin L no st kd now = (M, u, z)) : M.length ≤ L.length := by
  have := congrArg Prod.fst h
  simp only at this
  rw [← this]
  unfold opFin
  split
  · exact List.length_eraseIdx_le _ _
  · simp
theorem opStart_len {L M : List Opn} {no : Int} {s : Sp} {z : Int} (h : opStart L no s = (M, z)) : M.length ≤ L.length + 1 := by
  have := congrArg Prod.fst h
  simp only at this
  rw [← this]
  unfold opStart
  split
  · simp
  · split <;> simp
def k24 : Sp := ⟨0, 0, 5, 0, [], 0, 0, 0, false, 3, 0⟩
def k24e : Sp := ⟨0, 0, 5, 0, [], 200, 0, 2, false, 3, 9⟩
theorem k24_eq (w : World) : (binOp .eql 27 (.agg #[.int .u64 0, .int .u64 0, .int .u64 5, .int .u64 0, .string (ByteArray.mk #[]), .int .i64 0, .int .i64 0, .int .i64 0, .bool false, .int .i64 3, .int .i64 0]) (.agg #[.int .u64 0, .int .u64 0, .int .u64 5, .int .u64 0, .string (ByteArray.mk #[]), .int .i64 0, .int .i64 0, .int .i64 0, .bool false, .int .i64 3, .int .i64 0])).run Try.prog w = .ok (.bool true) w := ops_eql w k24
theorem k24_eqe (w : World) : (binOp .eql 27 (.agg #[.int .u64 0, .int .u64 0, .int .u64 5, .int .u64 0, .string (ByteArray.mk #[]), .int .i64 200, .int .i64 0, .int .i64 2, .bool false, .int .i64 3, .int .i64 9]) (.agg #[.int .u64 0, .int .u64 0, .int .u64 5, .int .u64 0, .string (ByteArray.mk #[]), .int .i64 200, .int .i64 0, .int .i64 2, .bool false, .int .i64 3, .int .i64 9])).run Try.prog w = .ok (.bool true) w := ops_eql w k24e
theorem k24_s1 (w : World) : Calls Try.prog 7 #[.slice none 0 0, .int .i64 7, .agg #[.int .u64 0, .int .u64 0, .int .u64 5, .int .u64 0, .string (ByteArray.mk #[]), .int .i64 0, .int .i64 0, .int .i64 0, .bool false, .int .i64 3, .int .i64 0]] w fun e w' => ∃ y, e = .returned (.tuple #[y, .int .i64 0]) ∧ OV w' y [(7, k24)] ∧ Below w.heap.size w w' := start_any (.slice none 0 0) [] 7 k24 w (OV.nil w) (by simp) (hid rfl)
theorem k24_s2 (y : Value) (w : World) (h : OV w y [(7, k24)]) : Calls Try.prog 7 #[y, .int .i64 7, .agg #[.int .u64 0, .int .u64 0, .int .u64 5, .int .u64 0, .string (ByteArray.mk #[]), .int .i64 0, .int .i64 0, .int .i64 0, .bool false, .int .i64 3, .int .i64 0]] w fun e w' => ∃ y, e = .returned (.tuple #[y, .int .i64 10]) ∧ OV w' y [] ∧ Below w.heap.size w w' := start_any y [(7, k24)] 7 k24 w h (by simp) (r := ([], 10)) (hid (by rfl))
theorem k24_f (y : Value) (w : World) (h : OV w y [(7, k24)]) : Calls Try.prog 11 #[y, .int .i64 7] w fun e w' => e = .returned (.tuple #[.agg #[.int .u64 0, .int .u64 0, .int .u64 5, .int .u64 0, .string (ByteArray.mk #[]), .int .i64 0, .int .i64 0, .int .i64 0, .bool false, .int .i64 3, .int .i64 0], .bool true]) ∧ Below w.heap.size w w' := opfind_any y [(7, k24)] 7 w h (by simp) (s := k24) (hid (by rfl))
theorem k24_e1 (y : Value) (w : World) (h : OV w y [(7, k24)]) : Calls Try.prog 9 #[y, .int .i64 7, .int .i64 200, .int .i64 2, .int .i64 9] w fun e w' => ∃ y, e = .returned (.tuple #[y, .agg #[.int .u64 0, .int .u64 0, .int .u64 5, .int .u64 0, .string (ByteArray.mk #[]), .int .i64 200, .int .i64 0, .int .i64 2, .bool false, .int .i64 3, .int .i64 9], .int .i64 0]) ∧ OV w' y [] ∧ Below w.heap.size w w' := finish_any y [(7, k24)] 7 200 2 9 w h (by simp) (u := k24e) (hid (by rfl))
theorem k24_e2 (y : Value) (w : World) (h : OV w y [(7, k24)]) : Calls Try.prog 9 #[y, .int .i64 8, .int .i64 200, .int .i64 2, .int .i64 9] w fun e w' => ∃ y, e = .returned (.tuple #[y, .agg #[.int .u64 0, .int .u64 0, .int .u64 0, .int .u64 0, .string (ByteArray.mk #[]), .int .i64 0, .int .i64 0, .int .i64 0, .bool false, .int .i64 0, .int .i64 0], .int .i64 9]) ∧ OV w' y [] ∧ Below w.heap.size w w' := finish_any y [(7, k24)] 8 200 2 9 w h (by simp) (u := sp0) (hid (by rfl))
set_option maxRecDepth 100000 in
set_option maxHeartbeats 8000000 in
theorem known24_any (w : World) : Calls Try.prog 6 #[] w fun e w' => e = .returned (.bool true) ∧ Below w.heap.size w w' := by
  have hg := ops_guard
  have he := k24_eq
  have he2 := k24_eqe
  have HBel := hid (Below.refl w.heap.size w)
  go_enter Try.func6, Try.ntmps6
  have hb_v0 := enew w (.cells #[.int .u64 0, .int .u64 0, .int .u64 5, .int .u64 0, .string (ByteArray.mk #[]), .int .i64 0, .int .i64 0, .int .i64 0, .bool false, .int .i64 3, .int .i64 0] 27)
  have HBel := hid (estep HBel.out hb_v0)
  have T_s : Hid (Bk (w.alloc (.cells #[.int .u64 0, .int .u64 0, .int .u64 5, .int .u64 0, .string (ByteArray.mk #[]), .int .i64 0, .int .i64 0, .int .i64 0, .bool false, .int .i64 3, .int .i64 0] 27)) w.heap.size 27 #[.int .u64 0, .int .u64 0, .int .u64 5, .int .u64 0, .string (ByteArray.mk #[]), .int .i64 0, .int .i64 0, .int .i64 0, .bool false, .int .i64 3, .int .i64 0]) := hid (Bk.new _ _ _)
  go_upto_region 2 with (fail)
  generalize w.alloc (.cells #[.int .u64 0, .int .u64 0, .int .u64 5, .int .u64 0, .string (ByteArray.mk #[]), .int .i64 0, .int .i64 0, .int .i64 0, .bool false, .int .i64 3, .int .i64 0] 27) = v0 at *
  have f_s0 : v0.cell? ⟨w.heap.size, 0, none⟩ = some (.int .u64 0) := Bk.cell T_s.out 0
  have f_s1 : v0.cell? ⟨w.heap.size, 1, none⟩ = some (.int .u64 0) := Bk.cell T_s.out 1
  have f_s2 : v0.cell? ⟨w.heap.size, 2, none⟩ = some (.int .u64 5) := Bk.cell T_s.out 2
  have f_s3 : v0.cell? ⟨w.heap.size, 3, none⟩ = some (.int .u64 0) := Bk.cell T_s.out 3
  have f_s4 : v0.cell? ⟨w.heap.size, 4, none⟩ = some (.string (ByteArray.mk #[])) := Bk.cell T_s.out 4
  have f_s5 : v0.cell? ⟨w.heap.size, 5, none⟩ = some (.int .i64 0) := Bk.cell T_s.out 5
  have f_s6 : v0.cell? ⟨w.heap.size, 6, none⟩ = some (.int .i64 0) := Bk.cell T_s.out 6
  have f_s7 : v0.cell? ⟨w.heap.size, 7, none⟩ = some (.int .i64 0) := Bk.cell T_s.out 7
  have f_s8 : v0.cell? ⟨w.heap.size, 8, none⟩ = some (.bool false) := Bk.cell T_s.out 8
  have f_s9 : v0.cell? ⟨w.heap.size, 9, none⟩ = some (.int .i64 3) := Bk.cell T_s.out 9
  have f_s10 : v0.cell? ⟨w.heap.size, 10, none⟩ = some (.int .i64 0) := Bk.cell T_s.out 10
  go_wp2_with fail
  clear f_s0 f_s1 f_s2 f_s3 f_s4 f_s5 f_s6 f_s7 f_s8 f_s9 f_s10
  refine (k24_s1 _).mono ?_
  rintro e w1 ⟨y1, rfl, hy1, hb1⟩
  have T_s := hid (T_s.out.up hb1)
  have HBel := hid (estep HBel.out hb1)
  have O_l := hid hy1
  clear hy1 hb1
  go_upto_region 3 with (fail)
  have f_s0 : w1.cell? ⟨w.heap.size, 0, none⟩ = some (.int .u64 0) := Bk.cell T_s.out 0
  have f_s1 : w1.cell? ⟨w.heap.size, 1, none⟩ = some (.int .u64 0) := Bk.cell T_s.out 1
  have f_s2 : w1.cell? ⟨w.heap.size, 2, none⟩ = some (.int .u64 5) := Bk.cell T_s.out 2
  have f_s3 : w1.cell? ⟨w.heap.size, 3, none⟩ = some (.int .u64 0) := Bk.cell T_s.out 3
  have f_s4 : w1.cell? ⟨w.heap.size, 4, none⟩ = some (.string (ByteArray.mk #[])) := Bk.cell T_s.out 4
  have f_s5 : w1.cell? ⟨w.heap.size, 5, none⟩ = some (.int .i64 0) := Bk.cell T_s.out 5
  have f_s6 : w1.cell? ⟨w.heap.size, 6, none⟩ = some (.int .i64 0) := Bk.cell T_s.out 6
  have f_s7 : w1.cell? ⟨w.heap.size, 7, none⟩ = some (.int .i64 0) := Bk.cell T_s.out 7
  have f_s8 : w1.cell? ⟨w.heap.size, 8, none⟩ = some (.bool false) := Bk.cell T_s.out 8
  have f_s9 : w1.cell? ⟨w.heap.size, 9, none⟩ = some (.int .i64 3) := Bk.cell T_s.out 9
  have f_s10 : w1.cell? ⟨w.heap.size, 10, none⟩ = some (.int .i64 0) := Bk.cell T_s.out 10
  go_wp2_with fail
  clear f_s0 f_s1 f_s2 f_s3 f_s4 f_s5 f_s6 f_s7 f_s8 f_s9 f_s10
  refine (k24_s2 _ _ O_l.out).mono ?_
  rintro e w2 ⟨y2, rfl, hy2, hb2⟩
  have T_s := hid (T_s.out.up hb2)
  have O_l := hid (O_l.out.up hb2)
  have HBel := hid (estep HBel.out hb2)
  clear hy2 hb2
  go_upto_region 4 with (fail)
  go_wp2_with fail
  refine (k24_f _ _ O_l.out).mono ?_
  rintro e w3 ⟨rfl, hb3⟩
  have T_s := hid (T_s.out.up hb3)
  have O_l := hid (O_l.out.up hb3)
  have HBel := hid (estep HBel.out hb3)
  have hb_v3 := enew w3 (.cells #[.int .u64 0, .int .u64 0, .int .u64 5, .int .u64 0, .string (ByteArray.mk #[]), .int .i64 0, .int .i64 0, .int .i64 0, .bool false, .int .i64 3, .int .i64 0] 27)
  have T_s := hid (T_s.out.up hb_v3)
  have O_l := hid (O_l.out.up hb_v3)
  have HBel := hid (estep HBel.out hb_v3)
  have T_x : Hid (Bk (w3.alloc (.cells #[.int .u64 0, .int .u64 0, .int .u64 5, .int .u64 0, .string (ByteArray.mk #[]), .int .i64 0, .int .i64 0, .int .i64 0, .bool false, .int .i64 3, .int .i64 0] 27)) w3.heap.size 27 #[.int .u64 0, .int .u64 0, .int .u64 5, .int .u64 0, .string (ByteArray.mk #[]), .int .i64 0, .int .i64 0, .int .i64 0, .bool false, .int .i64 3, .int .i64 0]) := hid (Bk.new _ _ _)
  clear hb3
  go_upto_region 5 with (fail)
  generalize w3.alloc (.cells #[.int .u64 0, .int .u64 0, .int .u64 5, .int .u64 0, .string (ByteArray.mk #[]), .int .i64 0, .int .i64 0, .int .i64 0, .bool false, .int .i64 3, .int .i64 0] 27) = v3 at *
  go_wp2_with fail
  refine (k24_e1 _ _ O_l.out).mono ?_
  rintro e w4 ⟨y4, rfl, hy4, hb4⟩
  have T_s := hid (T_s.out.up hb4)
  have T_x := hid (T_x.out.up hb4)
  have O_l := hid (O_l.out.up hb4)
  have HBel := hid (estep HBel.out hb4)
  have O_m := hid hy4
  clear hy4 hb4
  have hb_v4 := enew w4 (.cells #[.int .u64 0, .int .u64 0, .int .u64 5, .int .u64 0, .string (ByteArray.mk #[]), .int .i64 200, .int .i64 0, .int .i64 2, .bool false, .int .i64 3, .int .i64 9] 27)
  have T_s := hid (T_s.out.up hb_v4)
  have T_x := hid (T_x.out.up hb_v4)
  have O_l := hid (O_l.out.up hb_v4)
  have O_m := hid (O_m.out.up hb_v4)
  have HBel := hid (estep HBel.out hb_v4)
  have T_y : Hid (Bk (w4.alloc (.cells #[.int .u64 0, .int .u64 0, .int .u64 5, .int .u64 0, .string (ByteArray.mk #[]), .int .i64 200, .int .i64 0, .int .i64 2, .bool false, .int .i64 3, .int .i64 9] 27)) w4.heap.size 27 #[.int .u64 0, .int .u64 0, .int .u64 5, .int .u64 0, .string (ByteArray.mk #[]), .int .i64 200, .int .i64 0, .int .i64 2, .bool false, .int .i64 3, .int .i64 9]) := hid (Bk.new _ _ _)
  go_upto_region 6 with (fail)
  generalize w4.alloc (.cells #[.int .u64 0, .int .u64 0, .int .u64 5, .int .u64 0, .string (ByteArray.mk #[]), .int .i64 200, .int .i64 0, .int .i64 2, .bool false, .int .i64 3, .int .i64 9] 27) = v4 at *
  go_wp2_with fail
  refine (k24_e2 _ _ O_l.out).mono ?_
  rintro e w5 ⟨y5, rfl, hy5, hb5⟩
  have T_s := hid (T_s.out.up hb5)
  have T_x := hid (T_x.out.up hb5)
  have T_y := hid (T_y.out.up hb5)
  have O_l := hid (O_l.out.up hb5)
  have O_m := hid (O_m.out.up hb5)
  have HBel := hid (estep HBel.out hb5)
  have hb_v5 := enew w5 (.cells #[.int .u64 0, .int .u64 0, .int .u64 0, .int .u64 0, .string (ByteArray.mk #[]), .int .i64 0, .int .i64 0, .int .i64 0, .bool false, .int .i64 0, .int .i64 0] 27)
  have T_s := hid (T_s.out.up hb_v5)
  have T_x := hid (T_x.out.up hb_v5)
  have T_y := hid (T_y.out.up hb_v5)
  have O_l := hid (O_l.out.up hb_v5)
  have O_m := hid (O_m.out.up hb_v5)
  have HBel := hid (estep HBel.out hb_v5)
  have T_z : Hid (Bk (w5.alloc (.cells #[.int .u64 0, .int .u64 0, .int .u64 0, .int .u64 0, .string (ByteArray.mk #[]), .int .i64 0, .int .i64 0, .int .i64 0, .bool false, .int .i64 0, .int .i64 0] 27)) w5.heap.size 27 #[.int .u64 0, .int .u64 0, .int .u64 0, .int .u64 0, .string (ByteArray.mk #[]), .int .i64 0, .int .i64 0, .int .i64 0, .bool false, .int .i64 0, .int .i64 0]) := hid (Bk.new _ _ _)
  clear hy5 hb5
  go_upto_region 7 with (fail)
  generalize w5.alloc (.cells #[.int .u64 0, .int .u64 0, .int .u64 0, .int .u64 0, .string (ByteArray.mk #[]), .int .i64 0, .int .i64 0, .int .i64 0, .bool false, .int .i64 0, .int .i64 0] 27) = v5 at *
  obtain ⟨A, c, rfl, -, -, -, -⟩ := O_m.out
  have f_s0 : v5.cell? ⟨w.heap.size, 0, none⟩ = some (.int .u64 0) := Bk.cell T_s.out 0
  have f_s1 : v5.cell? ⟨w.heap.size, 1, none⟩ = some (.int .u64 0) := Bk.cell T_s.out 1
  have f_s2 : v5.cell? ⟨w.heap.size, 2, none⟩ = some (.int .u64 5) := Bk.cell T_s.out 2
  have f_s3 : v5.cell? ⟨w.heap.size, 3, none⟩ = some (.int .u64 0) := Bk.cell T_s.out 3
  have f_s4 : v5.cell? ⟨w.heap.size, 4, none⟩ = some (.string (ByteArray.mk #[])) := Bk.cell T_s.out 4
  have f_s5 : v5.cell? ⟨w.heap.size, 5, none⟩ = some (.int .i64 0) := Bk.cell T_s.out 5
  have f_s6 : v5.cell? ⟨w.heap.size, 6, none⟩ = some (.int .i64 0) := Bk.cell T_s.out 6
  have f_s7 : v5.cell? ⟨w.heap.size, 7, none⟩ = some (.int .i64 0) := Bk.cell T_s.out 7
  have f_s8 : v5.cell? ⟨w.heap.size, 8, none⟩ = some (.bool false) := Bk.cell T_s.out 8
  have f_s9 : v5.cell? ⟨w.heap.size, 9, none⟩ = some (.int .i64 3) := Bk.cell T_s.out 9
  have f_s10 : v5.cell? ⟨w.heap.size, 10, none⟩ = some (.int .i64 0) := Bk.cell T_s.out 10
  have f_x0 : v5.cell? ⟨w3.heap.size, 0, none⟩ = some (.int .u64 0) := Bk.cell T_x.out 0
  have f_x1 : v5.cell? ⟨w3.heap.size, 1, none⟩ = some (.int .u64 0) := Bk.cell T_x.out 1
  have f_x2 : v5.cell? ⟨w3.heap.size, 2, none⟩ = some (.int .u64 5) := Bk.cell T_x.out 2
  have f_x3 : v5.cell? ⟨w3.heap.size, 3, none⟩ = some (.int .u64 0) := Bk.cell T_x.out 3
  have f_x4 : v5.cell? ⟨w3.heap.size, 4, none⟩ = some (.string (ByteArray.mk #[])) := Bk.cell T_x.out 4
  have f_x5 : v5.cell? ⟨w3.heap.size, 5, none⟩ = some (.int .i64 0) := Bk.cell T_x.out 5
  have f_x6 : v5.cell? ⟨w3.heap.size, 6, none⟩ = some (.int .i64 0) := Bk.cell T_x.out 6
  have f_x7 : v5.cell? ⟨w3.heap.size, 7, none⟩ = some (.int .i64 0) := Bk.cell T_x.out 7
  have f_x8 : v5.cell? ⟨w3.heap.size, 8, none⟩ = some (.bool false) := Bk.cell T_x.out 8
  have f_x9 : v5.cell? ⟨w3.heap.size, 9, none⟩ = some (.int .i64 3) := Bk.cell T_x.out 9
  have f_x10 : v5.cell? ⟨w3.heap.size, 10, none⟩ = some (.int .i64 0) := Bk.cell T_x.out 10
  have f_y0 : v5.cell? ⟨w4.heap.size, 0, none⟩ = some (.int .u64 0) := Bk.cell T_y.out 0
  have f_y1 : v5.cell? ⟨w4.heap.size, 1, none⟩ = some (.int .u64 0) := Bk.cell T_y.out 1
  have f_y2 : v5.cell? ⟨w4.heap.size, 2, none⟩ = some (.int .u64 5) := Bk.cell T_y.out 2
  have f_y3 : v5.cell? ⟨w4.heap.size, 3, none⟩ = some (.int .u64 0) := Bk.cell T_y.out 3
  have f_y4 : v5.cell? ⟨w4.heap.size, 4, none⟩ = some (.string (ByteArray.mk #[])) := Bk.cell T_y.out 4
  have f_y5 : v5.cell? ⟨w4.heap.size, 5, none⟩ = some (.int .i64 200) := Bk.cell T_y.out 5
  have f_y6 : v5.cell? ⟨w4.heap.size, 6, none⟩ = some (.int .i64 0) := Bk.cell T_y.out 6
  have f_y7 : v5.cell? ⟨w4.heap.size, 7, none⟩ = some (.int .i64 2) := Bk.cell T_y.out 7
  have f_y8 : v5.cell? ⟨w4.heap.size, 8, none⟩ = some (.bool false) := Bk.cell T_y.out 8
  have f_y9 : v5.cell? ⟨w4.heap.size, 9, none⟩ = some (.int .i64 3) := Bk.cell T_y.out 9
  have f_y10 : v5.cell? ⟨w4.heap.size, 10, none⟩ = some (.int .i64 9) := Bk.cell T_y.out 10
  go_wp2_with fail
  go_returns
  exact ⟨rfl, HBel.out⟩
end Go.Proofs.Ytnbkpannhcamjaa
