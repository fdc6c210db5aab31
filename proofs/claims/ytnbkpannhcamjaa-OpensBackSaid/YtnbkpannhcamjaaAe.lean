/- opens: a variable that holds a span; Find, both. -/
import Derived.Test.YtnbkpannhcamjaaAd
namespace Go.Proofs.Ytnbkpannhcamjaa
set_option linter.unusedVariables false
set_option linter.unusedSimpArgs false
open Go.RowKit Go.Joins

/-- What the list has under a number. -/
theorem op_case (L : List Opn) (no : Int) : (∃ (k : Nat) (o : Opn), L[k]? = some o ∧ k < L.length ∧ opI L no = (k : Int) ∧ opFind L no = (o.2, true) ∧ (∀ st kd now, opFin L no st kd now = (L.take k ++ L.drop (k + 1), opEnd o.2 st kd now, 0)) ∧ ∀ s, opStart L no s = ([], 10)) ∨
    (opI L no = -1 ∧ opFind L no = (sp0, false) ∧ (∀ st kd now, opFin L no st kd now = ([], sp0, 9)) ∧ ∀ s, opStart L no s = if 256 ≤ L.length then ([], 8) else (L ++ [(no, s)], 0)) := by
  by_cases h : opAt L no < L.length
  · refine Or.inl ⟨opAt L no, L[opAt L no], List.getElem?_eq_getElem h, h, ?_, ?_, fun st kd now => ?_, fun s => ?_⟩
    · rw [opI, if_pos h]
    · rw [opFind, dif_pos h]
    · rw [opFin, dif_pos h, List.eraseIdx_eq_take_drop_succ]
    · rw [opStart, if_pos h]
  · refine Or.inr ⟨?_, ?_, fun st kd now => ?_, fun s => ?_⟩
    · rw [opI, if_neg h]
    · rw [opFind, dif_neg h]
    · rw [opFin, dif_neg h]
    · rw [opStart, if_neg h]
/-- A variable of the call's own that holds a span. -/
structure SpV (B : Nat) (w0 w : World) (g : Nat) (cs : Array Value) : Prop where
  blk : Bk w g 27 cs
  bel : Below B w0 w
  far : B ≤ g
  low : B ≤ w.heap.size
section
variable {B : Nat} {w0 w w' : World} {g g2 : Nat} {cs cs2 : Array Value}
theorem SpV.c (h : SpV B w0 w g cs) (i : Nat) : w.cell? ⟨g, i, none⟩ = cs[i]? ∧ w.frozen? ⟨g, i, none⟩ = false := ⟨Bk.cell h.blk i, Bk.frozen h.blk i⟩
theorem SpV.put (h : SpV B w0 w g cs) (i : Nat) (u : Value) : SpV B w0 (w.setCell ⟨g, i, none⟩ u) g (cs.setIfInBounds i u) := ⟨Bk.set_ h.blk i u, h.bel.setCell h.far u, h.far, by have := h.low; simpa using this⟩
theorem SpV.other (h : SpV B w0 w g cs) (h2 : SpV B w0 w g2 cs2) (hn : g2 ≠ g) (i : Nat) (u : Value) : SpV B w0 (w.setCell ⟨g, i, none⟩ u) g2 cs2 := ⟨(Below.heap_setCell w ⟨g, i, none⟩ u g2 hn).trans h2.blk, h2.bel.setCell h.far u, h2.far, by have := h.low; simpa using this⟩
theorem SpV.up (h : SpV B w0 w g cs) (hb : Below w.heap.size w w') : SpV B w0 w' g cs := ⟨h.blk.up hb, h.bel.trans (hb.mono h.low), h.far, Nat.le_trans h.low hb.size⟩
theorem SpV.drew (h : SpV B w0 w g cs) : SpV B w0 w.drew g cs := ⟨h.blk, h.bel.drew, h.far, h.low⟩
theorem SpV.new (w : World) (cs : Array Value) : SpV w.heap.size w (w.alloc (.cells cs 27)) w.heap.size cs := ⟨Bk.new _ _ _, enew w _, Nat.le_refl _, by simp⟩
theorem SpV.more (h : Below B w0 w) (hB : B ≤ w.heap.size) (cs : Array Value) : SpV B w0 (w.alloc (.cells cs 27)) w.heap.size cs := ⟨Bk.new _ _ _, h.alloc hB _, hB, by simp; omega⟩
theorem SpV.fill (h : SpV B w0 w g cs) (hs : cs.size = 11) (x0 x1 x2 x3 x4 x5 x6 x7 x8 x9 x10 : Value) :
    SpV B w0 (((((((((((w.setCell ⟨g, 0, none⟩ x0).setCell ⟨g, 1, none⟩ x1).setCell ⟨g, 2, none⟩ x2).setCell ⟨g, 3, none⟩ x3).setCell ⟨g, 4, none⟩ x4).setCell ⟨g, 5, none⟩ x5).setCell ⟨g, 6, none⟩ x6).setCell ⟨g, 7, none⟩ x7).setCell ⟨g, 8, none⟩ x8).setCell ⟨g, 9, none⟩ x9).setCell ⟨g, 10, none⟩ x10) g #[x0, x1, x2, x3, x4, x5, x6, x7, x8, x9, x10] := by
  obtain ⟨l⟩ := cs
  match l, hs with
  | [y0, y1, y2, y3, y4, y5, y6, y7, y8, y9, y10], _ =>
    have h0 : SpV B w0 (w.setCell ⟨g, 0, none⟩ x0) g #[x0, y1, y2, y3, y4, y5, y6, y7, y8, y9, y10] := h.put 0 x0
    have h1 : SpV B w0 ((w.setCell ⟨g, 0, none⟩ x0).setCell ⟨g, 1, none⟩ x1) g #[x0, x1, y2, y3, y4, y5, y6, y7, y8, y9, y10] := h0.put 1 x1
    have h2 : SpV B w0 (((w.setCell ⟨g, 0, none⟩ x0).setCell ⟨g, 1, none⟩ x1).setCell ⟨g, 2, none⟩ x2) g #[x0, x1, x2, y3, y4, y5, y6, y7, y8, y9, y10] := h1.put 2 x2
    have h3 : SpV B w0 ((((w.setCell ⟨g, 0, none⟩ x0).setCell ⟨g, 1, none⟩ x1).setCell ⟨g, 2, none⟩ x2).setCell ⟨g, 3, none⟩ x3) g #[x0, x1, x2, x3, y4, y5, y6, y7, y8, y9, y10] := h2.put 3 x3
    have h4 : SpV B w0 (((((w.setCell ⟨g, 0, none⟩ x0).setCell ⟨g, 1, none⟩ x1).setCell ⟨g, 2, none⟩ x2).setCell ⟨g, 3, none⟩ x3).setCell ⟨g, 4, none⟩ x4) g #[x0, x1, x2, x3, x4, y5, y6, y7, y8, y9, y10] := h3.put 4 x4
    have h5 : SpV B w0 ((((((w.setCell ⟨g, 0, none⟩ x0).setCell ⟨g, 1, none⟩ x1).setCell ⟨g, 2, none⟩ x2).setCell ⟨g, 3, none⟩ x3).setCell ⟨g, 4, none⟩ x4).setCell ⟨g, 5, none⟩ x5) g #[x0, x1, x2, x3, x4, x5, y6, y7, y8, y9, y10] := h4.put 5 x5
    have h6 : SpV B w0 (((((((w.setCell ⟨g, 0, none⟩ x0).setCell ⟨g, 1, none⟩ x1).setCell ⟨g, 2, none⟩ x2).setCell ⟨g, 3, none⟩ x3).setCell ⟨g, 4, none⟩ x4).setCell ⟨g, 5, none⟩ x5).setCell ⟨g, 6, none⟩ x6) g #[x0, x1, x2, x3, x4, x5, x6, y7, y8, y9, y10] := h5.put 6 x6
    have h7 : SpV B w0 ((((((((w.setCell ⟨g, 0, none⟩ x0).setCell ⟨g, 1, none⟩ x1).setCell ⟨g, 2, none⟩ x2).setCell ⟨g, 3, none⟩ x3).setCell ⟨g, 4, none⟩ x4).setCell ⟨g, 5, none⟩ x5).setCell ⟨g, 6, none⟩ x6).setCell ⟨g, 7, none⟩ x7) g #[x0, x1, x2, x3, x4, x5, x6, x7, y8, y9, y10] := h6.put 7 x7
    have h8 : SpV B w0 (((((((((w.setCell ⟨g, 0, none⟩ x0).setCell ⟨g, 1, none⟩ x1).setCell ⟨g, 2, none⟩ x2).setCell ⟨g, 3, none⟩ x3).setCell ⟨g, 4, none⟩ x4).setCell ⟨g, 5, none⟩ x5).setCell ⟨g, 6, none⟩ x6).setCell ⟨g, 7, none⟩ x7).setCell ⟨g, 8, none⟩ x8) g #[x0, x1, x2, x3, x4, x5, x6, x7, x8, y9, y10] := h7.put 8 x8
    have h9 : SpV B w0 ((((((((((w.setCell ⟨g, 0, none⟩ x0).setCell ⟨g, 1, none⟩ x1).setCell ⟨g, 2, none⟩ x2).setCell ⟨g, 3, none⟩ x3).setCell ⟨g, 4, none⟩ x4).setCell ⟨g, 5, none⟩ x5).setCell ⟨g, 6, none⟩ x6).setCell ⟨g, 7, none⟩ x7).setCell ⟨g, 8, none⟩ x8).setCell ⟨g, 9, none⟩ x9) g #[x0, x1, x2, x3, x4, x5, x6, x7, x8, x9, y10] := h8.put 9 x9
    have h10 : SpV B w0 (((((((((((w.setCell ⟨g, 0, none⟩ x0).setCell ⟨g, 1, none⟩ x1).setCell ⟨g, 2, none⟩ x2).setCell ⟨g, 3, none⟩ x3).setCell ⟨g, 4, none⟩ x4).setCell ⟨g, 5, none⟩ x5).setCell ⟨g, 6, none⟩ x6).setCell ⟨g, 7, none⟩ x7).setCell ⟨g, 8, none⟩ x8).setCell ⟨g, 9, none⟩ x9).setCell ⟨g, 10, none⟩ x10) g #[x0, x1, x2, x3, x4, x5, x6, x7, x8, x9, x10] := h9.put 10 x10
    exact h10
end
theorem spv_arr (s : Sp) : (spv s).toArray = #[.int .u64 (s.hi : Int), .int .u64 (s.lo : Int), .int .u64 (s.id : Int), .int .u64 (s.up : Int), .string (bs s.name), .int .i64 s.status, .int .i64 s.seq, .int .i64 s.kids, .bool s.shade, .int .i64 s.start, .int .i64 s.fin] := rfl
set_option maxRecDepth 100000 in
set_option maxHeartbeats 8000000 in
theorem opfind_any (v : Value) (L : List Opn) (no : Int) (w : World) (h : OV w v L) (hl : L.length ≤ 1000000) {s : Sp} {b : Bool} (H : Hid (opFind L no = (s, b))) :
    Calls Try.prog 11 #[v, .int .i64 no] w fun e w' => e = .returned (.tuple #[.agg #[.int .u64 (s.hi : Int), .int .u64 (s.lo : Int), .int .u64 (s.id : Int), .int .u64 (s.up : Int), .string (bs s.name), .int .i64 s.status, .int .i64 s.seq, .int .i64 s.kids, .bool s.shade, .int .i64 s.start, .int .i64 s.fin], .bool b]) ∧ Below w.heap.size w w' := by
  have t0 := SpV.new w #[.int .u64 0, .int .u64 0, .int .u64 0, .int .u64 0, .string (ByteArray.mk #[]), .int .i64 0, .int .i64 0, .int .i64 0, .bool false, .int .i64 0, .int .i64 0]
  have HOp := hid (h.up t0.bel)
  rcases op_case L no with ⟨k, o, hu, hk, hI, hf, -, -⟩ | ⟨hI, hf, -, -⟩
  · have hf2 := hf.symm.trans H.out
    simp only [Prod.mk.injEq] at hf2
    obtain ⟨rfl, rfl⟩ := hf2
    have HC := hid (fun (w2 : World) (h2 : OV w2 v L) => place_any v L no w2 h2 hl (hid hI))
    have HUk := hid hu
    have hk0 : ¬ ((k : Int) < 0) := by omega
    have hkd : decide ((k : Int) < 0) = false := decide_eq_false hk0
    have hk1 : (0 : Int) ≤ (k : Int) := by omega
    obtain ⟨n, hnn⟩ : ∃ n, L.length = n := ⟨_, rfl⟩
    have hkn : (k : Int) < (n : Int) := by omega
    have HNl := hid hnn
    clear hu hf hI h H hnn hk hl
    go_enter Try.func11, Try.ntmps11
    go_upto_region 1 with (fail)
    generalize w.alloc (.cells #[.int .u64 0, .int .u64 0, .int .u64 0, .int .u64 0, .string (ByteArray.mk #[]), .int .i64 0, .int .i64 0, .int .i64 0, .bool false, .int .i64 0, .int .i64 0] 27) = v0 at *
    go_wp2_with fail
    refine (HC.out _ HOp.out).mono ?_
    rintro e w1 ⟨rfl, hb1⟩
    have t1 := hid (t0.up hb1)
    obtain ⟨A, c, hv, hgx, -, -, -⟩ := HOp.out.up hb1
    rw [HNl.out] at hv
    subst hv
    obtain ⟨bb, pp, rfl, -, q0, q1, q2, q3, q4, q5, q6, q7, q8, q9, q10, q11⟩ := op_cells hgx HUk.out
    have z0 : w1.cell? ⟨w.heap.size, 0, none⟩ = some (.int .u64 0) := (t1.out.c 0).1
    have y0 : w1.frozen? ⟨w.heap.size, 0, none⟩ = false := (t1.out.c 0).2
    have z1 : w1.cell? ⟨w.heap.size, 1, none⟩ = some (.int .u64 0) := (t1.out.c 1).1
    have y1 : w1.frozen? ⟨w.heap.size, 1, none⟩ = false := (t1.out.c 1).2
    have z2 : w1.cell? ⟨w.heap.size, 2, none⟩ = some (.int .u64 0) := (t1.out.c 2).1
    have y2 : w1.frozen? ⟨w.heap.size, 2, none⟩ = false := (t1.out.c 2).2
    have z3 : w1.cell? ⟨w.heap.size, 3, none⟩ = some (.int .u64 0) := (t1.out.c 3).1
    have y3 : w1.frozen? ⟨w.heap.size, 3, none⟩ = false := (t1.out.c 3).2
    have z4 : w1.cell? ⟨w.heap.size, 4, none⟩ = some (.string (ByteArray.mk #[])) := (t1.out.c 4).1
    have y4 : w1.frozen? ⟨w.heap.size, 4, none⟩ = false := (t1.out.c 4).2
    have z5 : w1.cell? ⟨w.heap.size, 5, none⟩ = some (.int .i64 0) := (t1.out.c 5).1
    have y5 : w1.frozen? ⟨w.heap.size, 5, none⟩ = false := (t1.out.c 5).2
    have z6 : w1.cell? ⟨w.heap.size, 6, none⟩ = some (.int .i64 0) := (t1.out.c 6).1
    have y6 : w1.frozen? ⟨w.heap.size, 6, none⟩ = false := (t1.out.c 6).2
    have z7 : w1.cell? ⟨w.heap.size, 7, none⟩ = some (.int .i64 0) := (t1.out.c 7).1
    have y7 : w1.frozen? ⟨w.heap.size, 7, none⟩ = false := (t1.out.c 7).2
    have z8 : w1.cell? ⟨w.heap.size, 8, none⟩ = some (.bool false) := (t1.out.c 8).1
    have y8 : w1.frozen? ⟨w.heap.size, 8, none⟩ = false := (t1.out.c 8).2
    have z9 : w1.cell? ⟨w.heap.size, 9, none⟩ = some (.int .i64 0) := (t1.out.c 9).1
    have y9 : w1.frozen? ⟨w.heap.size, 9, none⟩ = false := (t1.out.c 9).2
    have z10 : w1.cell? ⟨w.heap.size, 10, none⟩ = some (.int .i64 0) := (t1.out.c 10).1
    have y10 : w1.frozen? ⟨w.heap.size, 10, none⟩ = false := (t1.out.c 10).2
    clear hb1 t0 hgx q0
    go_wp2_with fail
    have t2 := hid (t1.out.fill rfl (.int .u64 (o.2.hi : Int)) (.int .u64 (o.2.lo : Int)) (.int .u64 (o.2.id : Int)) (.int .u64 (o.2.up : Int)) (.string (bs o.2.name)) (.int .i64 o.2.status) (.int .i64 o.2.seq) (.int .i64 o.2.kids) (.bool o.2.shade) (.int .i64 o.2.start) (.int .i64 o.2.fin))
    clear q1 z0 y0 q2 z1 y1 q3 z2 y2 q4 z3 y3 q5 z4 y4 q6 z5 y5 q7 z6 y6 q8 z7 y7 q9 z8 y8 q10 z9 y9 q11 z10 y10 t1
    generalize ((((((((((w1.setCell ⟨w.heap.size, 0, none⟩ (.int .u64 (o.2.hi : Int))).setCell ⟨w.heap.size, 1, none⟩ (.int .u64 (o.2.lo : Int))).setCell ⟨w.heap.size, 2, none⟩ (.int .u64 (o.2.id : Int))).setCell ⟨w.heap.size, 3, none⟩ (.int .u64 (o.2.up : Int))).setCell ⟨w.heap.size, 4, none⟩ (.string (bs o.2.name))).setCell ⟨w.heap.size, 5, none⟩ (.int .i64 o.2.status)).setCell ⟨w.heap.size, 6, none⟩ (.int .i64 o.2.seq)).setCell ⟨w.heap.size, 7, none⟩ (.int .i64 o.2.kids)).setCell ⟨w.heap.size, 8, none⟩ (.bool o.2.shade)).setCell ⟨w.heap.size, 9, none⟩ (.int .i64 o.2.start)).setCell ⟨w.heap.size, 10, none⟩ (.int .i64 o.2.fin) = w3 at *
    have c0 : w3.cell? ⟨w.heap.size, 0, none⟩ = some (.int .u64 (o.2.hi : Int)) := (t2.out.c 0).1
    have c1 : w3.cell? ⟨w.heap.size, 1, none⟩ = some (.int .u64 (o.2.lo : Int)) := (t2.out.c 1).1
    have c2 : w3.cell? ⟨w.heap.size, 2, none⟩ = some (.int .u64 (o.2.id : Int)) := (t2.out.c 2).1
    have c3 : w3.cell? ⟨w.heap.size, 3, none⟩ = some (.int .u64 (o.2.up : Int)) := (t2.out.c 3).1
    have c4 : w3.cell? ⟨w.heap.size, 4, none⟩ = some (.string (bs o.2.name)) := (t2.out.c 4).1
    have c5 : w3.cell? ⟨w.heap.size, 5, none⟩ = some (.int .i64 o.2.status) := (t2.out.c 5).1
    have c6 : w3.cell? ⟨w.heap.size, 6, none⟩ = some (.int .i64 o.2.seq) := (t2.out.c 6).1
    have c7 : w3.cell? ⟨w.heap.size, 7, none⟩ = some (.int .i64 o.2.kids) := (t2.out.c 7).1
    have c8 : w3.cell? ⟨w.heap.size, 8, none⟩ = some (.bool o.2.shade) := (t2.out.c 8).1
    have c9 : w3.cell? ⟨w.heap.size, 9, none⟩ = some (.int .i64 o.2.start) := (t2.out.c 9).1
    have c10 : w3.cell? ⟨w.heap.size, 10, none⟩ = some (.int .i64 o.2.fin) := (t2.out.c 10).1
    (try simp only [Exit.inBlock, Exit.then])
    refine bodyPost_ret (v := .tuple #[.agg #[.int .u64 (o.2.hi : Int), .int .u64 (o.2.lo : Int), .int .u64 (o.2.id : Int), .int .u64 (o.2.up : Int), .string (bs o.2.name), .int .i64 o.2.status, .int .i64 o.2.seq, .int .i64 o.2.kids, .bool o.2.shade, .int .i64 o.2.start, .int .i64 o.2.fin], .bool true]) (by simp [results, Try.results11, go_sem, c0, c1, c2, c3, c4, c5, c6, c7, c8, c9, c10]; try rfl) rfl ?_
    exact ⟨rfl, t2.out.bel⟩
  · have hf2 := hf.symm.trans H.out
    simp only [Prod.mk.injEq] at hf2
    obtain ⟨rfl, rfl⟩ := hf2
    have HC := hid (fun (w2 : World) (h2 : OV w2 v L) => place_any v L no w2 h2 hl (hid hI))
    clear hf hI h H hl
    go_enter Try.func11, Try.ntmps11
    go_upto_region 1 with (fail)
    generalize w.alloc (.cells #[.int .u64 0, .int .u64 0, .int .u64 0, .int .u64 0, .string (ByteArray.mk #[]), .int .i64 0, .int .i64 0, .int .i64 0, .bool false, .int .i64 0, .int .i64 0] 27) = v0 at *
    go_wp2_with fail
    refine (HC.out _ HOp.out).mono ?_
    rintro e w1 ⟨rfl, hb1⟩
    have t1 := hid (t0.up hb1)
    have z0 : w1.cell? ⟨w.heap.size, 0, none⟩ = some (.int .u64 0) := (t1.out.c 0).1
    have y0 : w1.frozen? ⟨w.heap.size, 0, none⟩ = false := (t1.out.c 0).2
    have z1 : w1.cell? ⟨w.heap.size, 1, none⟩ = some (.int .u64 0) := (t1.out.c 1).1
    have y1 : w1.frozen? ⟨w.heap.size, 1, none⟩ = false := (t1.out.c 1).2
    have z2 : w1.cell? ⟨w.heap.size, 2, none⟩ = some (.int .u64 0) := (t1.out.c 2).1
    have y2 : w1.frozen? ⟨w.heap.size, 2, none⟩ = false := (t1.out.c 2).2
    have z3 : w1.cell? ⟨w.heap.size, 3, none⟩ = some (.int .u64 0) := (t1.out.c 3).1
    have y3 : w1.frozen? ⟨w.heap.size, 3, none⟩ = false := (t1.out.c 3).2
    have z4 : w1.cell? ⟨w.heap.size, 4, none⟩ = some (.string (ByteArray.mk #[])) := (t1.out.c 4).1
    have y4 : w1.frozen? ⟨w.heap.size, 4, none⟩ = false := (t1.out.c 4).2
    have z5 : w1.cell? ⟨w.heap.size, 5, none⟩ = some (.int .i64 0) := (t1.out.c 5).1
    have y5 : w1.frozen? ⟨w.heap.size, 5, none⟩ = false := (t1.out.c 5).2
    have z6 : w1.cell? ⟨w.heap.size, 6, none⟩ = some (.int .i64 0) := (t1.out.c 6).1
    have y6 : w1.frozen? ⟨w.heap.size, 6, none⟩ = false := (t1.out.c 6).2
    have z7 : w1.cell? ⟨w.heap.size, 7, none⟩ = some (.int .i64 0) := (t1.out.c 7).1
    have y7 : w1.frozen? ⟨w.heap.size, 7, none⟩ = false := (t1.out.c 7).2
    have z8 : w1.cell? ⟨w.heap.size, 8, none⟩ = some (.bool false) := (t1.out.c 8).1
    have y8 : w1.frozen? ⟨w.heap.size, 8, none⟩ = false := (t1.out.c 8).2
    have z9 : w1.cell? ⟨w.heap.size, 9, none⟩ = some (.int .i64 0) := (t1.out.c 9).1
    have y9 : w1.frozen? ⟨w.heap.size, 9, none⟩ = false := (t1.out.c 9).2
    have z10 : w1.cell? ⟨w.heap.size, 10, none⟩ = some (.int .i64 0) := (t1.out.c 10).1
    have y10 : w1.frozen? ⟨w.heap.size, 10, none⟩ = false := (t1.out.c 10).2
    clear hb1 t0
    go_wp2_with fail
    have t2 := hid (t1.out.fill rfl (.int .u64 0) (.int .u64 0) (.int .u64 0) (.int .u64 0) (.string (ByteArray.mk #[])) (.int .i64 0) (.int .i64 0) (.int .i64 0) (.bool false) (.int .i64 0) (.int .i64 0))
    clear z0 y0 z1 y1 z2 y2 z3 y3 z4 y4 z5 y5 z6 y6 z7 y7 z8 y8 z9 y9 z10 y10 t1
    generalize ((((((((((w1.setCell ⟨w.heap.size, 0, none⟩ (.int .u64 0)).setCell ⟨w.heap.size, 1, none⟩ (.int .u64 0)).setCell ⟨w.heap.size, 2, none⟩ (.int .u64 0)).setCell ⟨w.heap.size, 3, none⟩ (.int .u64 0)).setCell ⟨w.heap.size, 4, none⟩ (.string (ByteArray.mk #[]))).setCell ⟨w.heap.size, 5, none⟩ (.int .i64 0)).setCell ⟨w.heap.size, 6, none⟩ (.int .i64 0)).setCell ⟨w.heap.size, 7, none⟩ (.int .i64 0)).setCell ⟨w.heap.size, 8, none⟩ (.bool false)).setCell ⟨w.heap.size, 9, none⟩ (.int .i64 0)).setCell ⟨w.heap.size, 10, none⟩ (.int .i64 0) = w3 at *
    have c0 : w3.cell? ⟨w.heap.size, 0, none⟩ = some (.int .u64 0) := (t2.out.c 0).1
    have c1 : w3.cell? ⟨w.heap.size, 1, none⟩ = some (.int .u64 0) := (t2.out.c 1).1
    have c2 : w3.cell? ⟨w.heap.size, 2, none⟩ = some (.int .u64 0) := (t2.out.c 2).1
    have c3 : w3.cell? ⟨w.heap.size, 3, none⟩ = some (.int .u64 0) := (t2.out.c 3).1
    have c4 : w3.cell? ⟨w.heap.size, 4, none⟩ = some (.string (ByteArray.mk #[])) := (t2.out.c 4).1
    have c5 : w3.cell? ⟨w.heap.size, 5, none⟩ = some (.int .i64 0) := (t2.out.c 5).1
    have c6 : w3.cell? ⟨w.heap.size, 6, none⟩ = some (.int .i64 0) := (t2.out.c 6).1
    have c7 : w3.cell? ⟨w.heap.size, 7, none⟩ = some (.int .i64 0) := (t2.out.c 7).1
    have c8 : w3.cell? ⟨w.heap.size, 8, none⟩ = some (.bool false) := (t2.out.c 8).1
    have c9 : w3.cell? ⟨w.heap.size, 9, none⟩ = some (.int .i64 0) := (t2.out.c 9).1
    have c10 : w3.cell? ⟨w.heap.size, 10, none⟩ = some (.int .i64 0) := (t2.out.c 10).1
    (try simp only [Exit.inBlock, Exit.then])
    refine bodyPost_ret (v := .tuple #[.agg #[.int .u64 (sp0.hi : Int), .int .u64 (sp0.lo : Int), .int .u64 (sp0.id : Int), .int .u64 (sp0.up : Int), .string (bs sp0.name), .int .i64 sp0.status, .int .i64 sp0.seq, .int .i64 sp0.kids, .bool sp0.shade, .int .i64 sp0.start, .int .i64 sp0.fin], .bool false]) (by simp [results, Try.results11, go_sem, c0, c1, c2, c3, c4, c5, c6, c7, c8, c9, c10, sp0, bs]; try rfl) rfl ?_
    exact ⟨rfl, t2.out.bel⟩
set_option maxRecDepth 100000 in
set_option maxHeartbeats 8000000 in
theorem ropfind_any (v : Value) (L : List Opn) (no : Int) (w : World) (h : OV w v L) (hl : L.length ≤ 1000000) {s : Sp} {b : Bool} (H : Hid (opFind L no = (s, b))) :
    Calls Try.prog 12 #[v, .int .i64 no] w fun e w' => e = .returned (.tuple #[.agg #[.int .u64 (s.hi : Int), .int .u64 (s.lo : Int), .int .u64 (s.id : Int), .int .u64 (s.up : Int), .string (bs s.name), .int .i64 s.status, .int .i64 s.seq, .int .i64 s.kids, .bool s.shade, .int .i64 s.start, .int .i64 s.fin], .bool b]) ∧ Below w.heap.size w w' := by
  have t0 := SpV.new w #[.int .u64 0, .int .u64 0, .int .u64 0, .int .u64 0, .string (ByteArray.mk #[]), .int .i64 0, .int .i64 0, .int .i64 0, .bool false, .int .i64 0, .int .i64 0]
  have HOp := hid (h.up t0.bel)
  rcases op_case L no with ⟨k, o, hu, hk, hI, hf, -, -⟩ | ⟨hI, hf, -, -⟩
  · have hf2 := hf.symm.trans H.out
    simp only [Prod.mk.injEq] at hf2
    obtain ⟨rfl, rfl⟩ := hf2
    have HC := hid (fun (w2 : World) (h2 : OV w2 v L) => opat_any v L no w2 h2 hl (hid hI))
    have HUk := hid hu
    have hk0 : ¬ ((k : Int) < 0) := by omega
    have hkd : decide ((k : Int) < 0) = false := decide_eq_false hk0
    have hk1 : (0 : Int) ≤ (k : Int) := by omega
    obtain ⟨n, hnn⟩ : ∃ n, L.length = n := ⟨_, rfl⟩
    have hkn : (k : Int) < (n : Int) := by omega
    have HNl := hid hnn
    clear hu hf hI h H hnn hk hl
    go_enter Try.func12, Try.ntmps12
    go_upto_region 1 with (fail)
    generalize w.alloc (.cells #[.int .u64 0, .int .u64 0, .int .u64 0, .int .u64 0, .string (ByteArray.mk #[]), .int .i64 0, .int .i64 0, .int .i64 0, .bool false, .int .i64 0, .int .i64 0] 27) = v0 at *
    go_wp2_with fail
    refine (HC.out _ HOp.out).mono ?_
    rintro e w1 ⟨rfl, hb1⟩
    have t1 := hid (t0.up hb1)
    obtain ⟨A, c, hv, hgx, -, -, -⟩ := HOp.out.up hb1
    rw [HNl.out] at hv
    subst hv
    obtain ⟨bb, pp, rfl, -, q0, q1, q2, q3, q4, q5, q6, q7, q8, q9, q10, q11⟩ := op_cells hgx HUk.out
    have z0 : w1.cell? ⟨w.heap.size, 0, none⟩ = some (.int .u64 0) := (t1.out.c 0).1
    have y0 : w1.frozen? ⟨w.heap.size, 0, none⟩ = false := (t1.out.c 0).2
    have z1 : w1.cell? ⟨w.heap.size, 1, none⟩ = some (.int .u64 0) := (t1.out.c 1).1
    have y1 : w1.frozen? ⟨w.heap.size, 1, none⟩ = false := (t1.out.c 1).2
    have z2 : w1.cell? ⟨w.heap.size, 2, none⟩ = some (.int .u64 0) := (t1.out.c 2).1
    have y2 : w1.frozen? ⟨w.heap.size, 2, none⟩ = false := (t1.out.c 2).2
    have z3 : w1.cell? ⟨w.heap.size, 3, none⟩ = some (.int .u64 0) := (t1.out.c 3).1
    have y3 : w1.frozen? ⟨w.heap.size, 3, none⟩ = false := (t1.out.c 3).2
    have z4 : w1.cell? ⟨w.heap.size, 4, none⟩ = some (.string (ByteArray.mk #[])) := (t1.out.c 4).1
    have y4 : w1.frozen? ⟨w.heap.size, 4, none⟩ = false := (t1.out.c 4).2
    have z5 : w1.cell? ⟨w.heap.size, 5, none⟩ = some (.int .i64 0) := (t1.out.c 5).1
    have y5 : w1.frozen? ⟨w.heap.size, 5, none⟩ = false := (t1.out.c 5).2
    have z6 : w1.cell? ⟨w.heap.size, 6, none⟩ = some (.int .i64 0) := (t1.out.c 6).1
    have y6 : w1.frozen? ⟨w.heap.size, 6, none⟩ = false := (t1.out.c 6).2
    have z7 : w1.cell? ⟨w.heap.size, 7, none⟩ = some (.int .i64 0) := (t1.out.c 7).1
    have y7 : w1.frozen? ⟨w.heap.size, 7, none⟩ = false := (t1.out.c 7).2
    have z8 : w1.cell? ⟨w.heap.size, 8, none⟩ = some (.bool false) := (t1.out.c 8).1
    have y8 : w1.frozen? ⟨w.heap.size, 8, none⟩ = false := (t1.out.c 8).2
    have z9 : w1.cell? ⟨w.heap.size, 9, none⟩ = some (.int .i64 0) := (t1.out.c 9).1
    have y9 : w1.frozen? ⟨w.heap.size, 9, none⟩ = false := (t1.out.c 9).2
    have z10 : w1.cell? ⟨w.heap.size, 10, none⟩ = some (.int .i64 0) := (t1.out.c 10).1
    have y10 : w1.frozen? ⟨w.heap.size, 10, none⟩ = false := (t1.out.c 10).2
    clear hb1 t0 hgx q0
    go_wp2_with fail
    have t2 := hid (t1.out.fill rfl (.int .u64 (o.2.hi : Int)) (.int .u64 (o.2.lo : Int)) (.int .u64 (o.2.id : Int)) (.int .u64 (o.2.up : Int)) (.string (bs o.2.name)) (.int .i64 o.2.status) (.int .i64 o.2.seq) (.int .i64 o.2.kids) (.bool o.2.shade) (.int .i64 o.2.start) (.int .i64 o.2.fin))
    clear q1 z0 y0 q2 z1 y1 q3 z2 y2 q4 z3 y3 q5 z4 y4 q6 z5 y5 q7 z6 y6 q8 z7 y7 q9 z8 y8 q10 z9 y9 q11 z10 y10 t1
    generalize ((((((((((w1.setCell ⟨w.heap.size, 0, none⟩ (.int .u64 (o.2.hi : Int))).setCell ⟨w.heap.size, 1, none⟩ (.int .u64 (o.2.lo : Int))).setCell ⟨w.heap.size, 2, none⟩ (.int .u64 (o.2.id : Int))).setCell ⟨w.heap.size, 3, none⟩ (.int .u64 (o.2.up : Int))).setCell ⟨w.heap.size, 4, none⟩ (.string (bs o.2.name))).setCell ⟨w.heap.size, 5, none⟩ (.int .i64 o.2.status)).setCell ⟨w.heap.size, 6, none⟩ (.int .i64 o.2.seq)).setCell ⟨w.heap.size, 7, none⟩ (.int .i64 o.2.kids)).setCell ⟨w.heap.size, 8, none⟩ (.bool o.2.shade)).setCell ⟨w.heap.size, 9, none⟩ (.int .i64 o.2.start)).setCell ⟨w.heap.size, 10, none⟩ (.int .i64 o.2.fin) = w3 at *
    have c0 : w3.cell? ⟨w.heap.size, 0, none⟩ = some (.int .u64 (o.2.hi : Int)) := (t2.out.c 0).1
    have c1 : w3.cell? ⟨w.heap.size, 1, none⟩ = some (.int .u64 (o.2.lo : Int)) := (t2.out.c 1).1
    have c2 : w3.cell? ⟨w.heap.size, 2, none⟩ = some (.int .u64 (o.2.id : Int)) := (t2.out.c 2).1
    have c3 : w3.cell? ⟨w.heap.size, 3, none⟩ = some (.int .u64 (o.2.up : Int)) := (t2.out.c 3).1
    have c4 : w3.cell? ⟨w.heap.size, 4, none⟩ = some (.string (bs o.2.name)) := (t2.out.c 4).1
    have c5 : w3.cell? ⟨w.heap.size, 5, none⟩ = some (.int .i64 o.2.status) := (t2.out.c 5).1
    have c6 : w3.cell? ⟨w.heap.size, 6, none⟩ = some (.int .i64 o.2.seq) := (t2.out.c 6).1
    have c7 : w3.cell? ⟨w.heap.size, 7, none⟩ = some (.int .i64 o.2.kids) := (t2.out.c 7).1
    have c8 : w3.cell? ⟨w.heap.size, 8, none⟩ = some (.bool o.2.shade) := (t2.out.c 8).1
    have c9 : w3.cell? ⟨w.heap.size, 9, none⟩ = some (.int .i64 o.2.start) := (t2.out.c 9).1
    have c10 : w3.cell? ⟨w.heap.size, 10, none⟩ = some (.int .i64 o.2.fin) := (t2.out.c 10).1
    (try simp only [Exit.inBlock, Exit.then])
    refine bodyPost_ret (v := .tuple #[.agg #[.int .u64 (o.2.hi : Int), .int .u64 (o.2.lo : Int), .int .u64 (o.2.id : Int), .int .u64 (o.2.up : Int), .string (bs o.2.name), .int .i64 o.2.status, .int .i64 o.2.seq, .int .i64 o.2.kids, .bool o.2.shade, .int .i64 o.2.start, .int .i64 o.2.fin], .bool true]) (by simp [results, Try.results12, go_sem, c0, c1, c2, c3, c4, c5, c6, c7, c8, c9, c10]; try rfl) rfl ?_
    exact ⟨rfl, t2.out.bel⟩
  · have hf2 := hf.symm.trans H.out
    simp only [Prod.mk.injEq] at hf2
    obtain ⟨rfl, rfl⟩ := hf2
    have HC := hid (fun (w2 : World) (h2 : OV w2 v L) => opat_any v L no w2 h2 hl (hid hI))
    clear hf hI h H hl
    go_enter Try.func12, Try.ntmps12
    go_upto_region 1 with (fail)
    generalize w.alloc (.cells #[.int .u64 0, .int .u64 0, .int .u64 0, .int .u64 0, .string (ByteArray.mk #[]), .int .i64 0, .int .i64 0, .int .i64 0, .bool false, .int .i64 0, .int .i64 0] 27) = v0 at *
    go_wp2_with fail
    refine (HC.out _ HOp.out).mono ?_
    rintro e w1 ⟨rfl, hb1⟩
    have t1 := hid (t0.up hb1)
    have z0 : w1.cell? ⟨w.heap.size, 0, none⟩ = some (.int .u64 0) := (t1.out.c 0).1
    have y0 : w1.frozen? ⟨w.heap.size, 0, none⟩ = false := (t1.out.c 0).2
    have z1 : w1.cell? ⟨w.heap.size, 1, none⟩ = some (.int .u64 0) := (t1.out.c 1).1
    have y1 : w1.frozen? ⟨w.heap.size, 1, none⟩ = false := (t1.out.c 1).2
    have z2 : w1.cell? ⟨w.heap.size, 2, none⟩ = some (.int .u64 0) := (t1.out.c 2).1
    have y2 : w1.frozen? ⟨w.heap.size, 2, none⟩ = false := (t1.out.c 2).2
    have z3 : w1.cell? ⟨w.heap.size, 3, none⟩ = some (.int .u64 0) := (t1.out.c 3).1
    have y3 : w1.frozen? ⟨w.heap.size, 3, none⟩ = false := (t1.out.c 3).2
    have z4 : w1.cell? ⟨w.heap.size, 4, none⟩ = some (.string (ByteArray.mk #[])) := (t1.out.c 4).1
    have y4 : w1.frozen? ⟨w.heap.size, 4, none⟩ = false := (t1.out.c 4).2
    have z5 : w1.cell? ⟨w.heap.size, 5, none⟩ = some (.int .i64 0) := (t1.out.c 5).1
    have y5 : w1.frozen? ⟨w.heap.size, 5, none⟩ = false := (t1.out.c 5).2
    have z6 : w1.cell? ⟨w.heap.size, 6, none⟩ = some (.int .i64 0) := (t1.out.c 6).1
    have y6 : w1.frozen? ⟨w.heap.size, 6, none⟩ = false := (t1.out.c 6).2
    have z7 : w1.cell? ⟨w.heap.size, 7, none⟩ = some (.int .i64 0) := (t1.out.c 7).1
    have y7 : w1.frozen? ⟨w.heap.size, 7, none⟩ = false := (t1.out.c 7).2
    have z8 : w1.cell? ⟨w.heap.size, 8, none⟩ = some (.bool false) := (t1.out.c 8).1
    have y8 : w1.frozen? ⟨w.heap.size, 8, none⟩ = false := (t1.out.c 8).2
    have z9 : w1.cell? ⟨w.heap.size, 9, none⟩ = some (.int .i64 0) := (t1.out.c 9).1
    have y9 : w1.frozen? ⟨w.heap.size, 9, none⟩ = false := (t1.out.c 9).2
    have z10 : w1.cell? ⟨w.heap.size, 10, none⟩ = some (.int .i64 0) := (t1.out.c 10).1
    have y10 : w1.frozen? ⟨w.heap.size, 10, none⟩ = false := (t1.out.c 10).2
    clear hb1 t0
    go_wp2_with fail
    have t2 := hid (t1.out.fill rfl (.int .u64 0) (.int .u64 0) (.int .u64 0) (.int .u64 0) (.string (ByteArray.mk #[])) (.int .i64 0) (.int .i64 0) (.int .i64 0) (.bool false) (.int .i64 0) (.int .i64 0))
    clear z0 y0 z1 y1 z2 y2 z3 y3 z4 y4 z5 y5 z6 y6 z7 y7 z8 y8 z9 y9 z10 y10 t1
    generalize ((((((((((w1.setCell ⟨w.heap.size, 0, none⟩ (.int .u64 0)).setCell ⟨w.heap.size, 1, none⟩ (.int .u64 0)).setCell ⟨w.heap.size, 2, none⟩ (.int .u64 0)).setCell ⟨w.heap.size, 3, none⟩ (.int .u64 0)).setCell ⟨w.heap.size, 4, none⟩ (.string (ByteArray.mk #[]))).setCell ⟨w.heap.size, 5, none⟩ (.int .i64 0)).setCell ⟨w.heap.size, 6, none⟩ (.int .i64 0)).setCell ⟨w.heap.size, 7, none⟩ (.int .i64 0)).setCell ⟨w.heap.size, 8, none⟩ (.bool false)).setCell ⟨w.heap.size, 9, none⟩ (.int .i64 0)).setCell ⟨w.heap.size, 10, none⟩ (.int .i64 0) = w3 at *
    have c0 : w3.cell? ⟨w.heap.size, 0, none⟩ = some (.int .u64 0) := (t2.out.c 0).1
    have c1 : w3.cell? ⟨w.heap.size, 1, none⟩ = some (.int .u64 0) := (t2.out.c 1).1
    have c2 : w3.cell? ⟨w.heap.size, 2, none⟩ = some (.int .u64 0) := (t2.out.c 2).1
    have c3 : w3.cell? ⟨w.heap.size, 3, none⟩ = some (.int .u64 0) := (t2.out.c 3).1
    have c4 : w3.cell? ⟨w.heap.size, 4, none⟩ = some (.string (ByteArray.mk #[])) := (t2.out.c 4).1
    have c5 : w3.cell? ⟨w.heap.size, 5, none⟩ = some (.int .i64 0) := (t2.out.c 5).1
    have c6 : w3.cell? ⟨w.heap.size, 6, none⟩ = some (.int .i64 0) := (t2.out.c 6).1
    have c7 : w3.cell? ⟨w.heap.size, 7, none⟩ = some (.int .i64 0) := (t2.out.c 7).1
    have c8 : w3.cell? ⟨w.heap.size, 8, none⟩ = some (.bool false) := (t2.out.c 8).1
    have c9 : w3.cell? ⟨w.heap.size, 9, none⟩ = some (.int .i64 0) := (t2.out.c 9).1
    have c10 : w3.cell? ⟨w.heap.size, 10, none⟩ = some (.int .i64 0) := (t2.out.c 10).1
    (try simp only [Exit.inBlock, Exit.then])
    refine bodyPost_ret (v := .tuple #[.agg #[.int .u64 (sp0.hi : Int), .int .u64 (sp0.lo : Int), .int .u64 (sp0.id : Int), .int .u64 (sp0.up : Int), .string (bs sp0.name), .int .i64 sp0.status, .int .i64 sp0.seq, .int .i64 sp0.kids, .bool sp0.shade, .int .i64 sp0.start, .int .i64 sp0.fin], .bool false]) (by simp [results, Try.results12, go_sem, c0, c1, c2, c3, c4, c5, c6, c7, c8, c9, c10, sp0, bs]; try rfl) rfl ?_
    exact ⟨rfl, t2.out.bel⟩
end Go.Proofs.Ytnbkpannhcamjaa
