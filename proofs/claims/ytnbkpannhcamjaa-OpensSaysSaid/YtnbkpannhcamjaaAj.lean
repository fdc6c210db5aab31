/- opens: Finish, both. -/
import Derived.Test.YtnbkpannhcamjaaAi
import Derived.Deep.RegionHeld3
namespace Go.Proofs.Ytnbkpannhcamjaa
set_option linter.unusedVariables false
set_option linter.unusedSimpArgs false
open Go.RowKit Go.Joins

/-- What Finish answers. -/
def FinR (w : World) (r : List Opn × Sp × Int) (e : Ending) (w' : World) : Prop := ∃ y, e = .returned (.tuple #[y, .agg #[.int .u64 (r.2.1.hi : Int), .int .u64 (r.2.1.lo : Int), .int .u64 (r.2.1.id : Int), .int .u64 (r.2.1.up : Int), .string (bs r.2.1.name), .int .i64 r.2.1.status, .int .i64 r.2.1.seq, .int .i64 r.2.1.kids, .bool r.2.1.shade, .int .i64 r.2.1.start, .int .i64 r.2.1.fin], .int .i64 r.2.2]) ∧ OV w' y r.1 ∧ Below w.heap.size w w'

set_option maxRecDepth 100000 in
set_option maxHeartbeats 8000000 in
theorem finish_no (v : Value) (L : List Opn) (no st kd now : Int) (w : World) (h : OV w v L) (hl : L.length ≤ 1000000) (hI : opI L no = -1) :
    Calls Try.prog 9 #[v, .int .i64 no, .int .i64 st, .int .i64 kd, .int .i64 now] w fun e w' => FinR w ([], sp0, 9) e w' := by
  have t0 := SpV.new w #[.int .u64 0, .int .u64 0, .int .u64 0, .int .u64 0, .string (ByteArray.mk #[]), .int .i64 0, .int .i64 0, .int .i64 0, .bool false, .int .i64 0, .int .i64 0]
  have HOp := hid (h.up t0.bel)
  have HC := hid (fun (w2 : World) (h2 : OV w2 v L) => place_any v L no w2 h2 hl (hid hI))
  clear hI h hl
  go_enter Try.func9, Try.ntmps9
  go_upto_region 1 with (fail)
  generalize w.alloc (.cells #[.int .u64 0, .int .u64 0, .int .u64 0, .int .u64 0, .string (ByteArray.mk #[]), .int .i64 0, .int .i64 0, .int .i64 0, .bool false, .int .i64 0, .int .i64 0] 27) = v0 at *
  go_wp2_with fail
  refine (HC.out _ HOp.out).mono ?_
  rintro e w1 ⟨rfl, hb1⟩
  have t1 := hid (t0.up hb1)
  have z0 : w1.cell? ⟨w.heap.size, 0, none⟩ = some (.int .u64 0) := (t1.out.c 0).1
  have y0 : w1.frozen? ⟨w.heap.size, 0, none⟩ = false := (t1.out.c 0).2
  have z1 : w1.cell? ⟨w.heap.size, 1, none⟩ = some (.int .u64 0) := (t1.out.c 1).1
  have y1 : w1.frozen? ⟨w.heap.size, 1, none⟩ = false := (t1.out.c 1).2
  have z2 : w1.cell? ⟨w.heap.size, 2, none⟩ = some (.int .u64 0) := (t1.out.c 2).1
  have y2 : w1.frozen? ⟨w.heap.size, 2, none⟩ = false := (t1.out.c 2).2
  have z3 : w1.cell? ⟨w.heap.size, 3, none⟩ = some (.int .u64 0) := (t1.out.c 3).1
  have y3 : w1.frozen? ⟨w.heap.size, 3, none⟩ = false := (t1.out.c 3).2
  have z4 : w1.cell? ⟨w.heap.size, 4, none⟩ = some (.string (ByteArray.mk #[])) := (t1.out.c 4).1
  have y4 : w1.frozen? ⟨w.heap.size, 4, none⟩ = false := (t1.out.c 4).2
  have z5 : w1.cell? ⟨w.heap.size, 5, none⟩ = some (.int .i64 0) := (t1.out.c 5).1
  have y5 : w1.frozen? ⟨w.heap.size, 5, none⟩ = false := (t1.out.c 5).2
  have z6 : w1.cell? ⟨w.heap.size, 6, none⟩ = some (.int .i64 0) := (t1.out.c 6).1
  have y6 : w1.frozen? ⟨w.heap.size, 6, none⟩ = false := (t1.out.c 6).2
  have z7 : w1.cell? ⟨w.heap.size, 7, none⟩ = some (.int .i64 0) := (t1.out.c 7).1
  have y7 : w1.frozen? ⟨w.heap.size, 7, none⟩ = false := (t1.out.c 7).2
  have z8 : w1.cell? ⟨w.heap.size, 8, none⟩ = some (.bool false) := (t1.out.c 8).1
  have y8 : w1.frozen? ⟨w.heap.size, 8, none⟩ = false := (t1.out.c 8).2
  have z9 : w1.cell? ⟨w.heap.size, 9, none⟩ = some (.int .i64 0) := (t1.out.c 9).1
  have y9 : w1.frozen? ⟨w.heap.size, 9, none⟩ = false := (t1.out.c 9).2
  have z10 : w1.cell? ⟨w.heap.size, 10, none⟩ = some (.int .i64 0) := (t1.out.c 10).1
  have y10 : w1.frozen? ⟨w.heap.size, 10, none⟩ = false := (t1.out.c 10).2
  clear hb1 t0
  go_wp2_with fail
  have t2 := hid (t1.out.fill rfl (.int .u64 0) (.int .u64 0) (.int .u64 0) (.int .u64 0) (.string (ByteArray.mk #[])) (.int .i64 0) (.int .i64 0) (.int .i64 0) (.bool false) (.int .i64 0) (.int .i64 0))
  clear z0 y0 z1 y1 z2 y2 z3 y3 z4 y4 z5 y5 z6 y6 z7 y7 z8 y8 z9 y9 z10 y10 t1
  generalize ((((((((((w1.setCell ⟨w.heap.size, 0, none⟩ (.int .u64 0)).setCell ⟨w.heap.size, 1, none⟩ (.int .u64 0)).setCell ⟨w.heap.size, 2, none⟩ (.int .u64 0)).setCell ⟨w.heap.size, 3, none⟩ (.int .u64 0)).setCell ⟨w.heap.size, 4, none⟩ (.string (ByteArray.mk #[]))).setCell ⟨w.heap.size, 5, none⟩ (.int .i64 0)).setCell ⟨w.heap.size, 6, none⟩ (.int .i64 0)).setCell ⟨w.heap.size, 7, none⟩ (.int .i64 0)).setCell ⟨w.heap.size, 8, none⟩ (.bool false)).setCell ⟨w.heap.size, 9, none⟩ (.int .i64 0)).setCell ⟨w.heap.size, 10, none⟩ (.int .i64 0) = w3 at *
  have c0 : w3.cell? ⟨w.heap.size, 0, none⟩ = some (.int .u64 0) := (t2.out.c 0).1
  have c1 : w3.cell? ⟨w.heap.size, 1, none⟩ = some (.int .u64 0) := (t2.out.c 1).1
  have c2 : w3.cell? ⟨w.heap.size, 2, none⟩ = some (.int .u64 0) := (t2.out.c 2).1
  have c3 : w3.cell? ⟨w.heap.size, 3, none⟩ = some (.int .u64 0) := (t2.out.c 3).1
  have c4 : w3.cell? ⟨w.heap.size, 4, none⟩ = some (.string (ByteArray.mk #[])) := (t2.out.c 4).1
  have c5 : w3.cell? ⟨w.heap.size, 5, none⟩ = some (.int .i64 0) := (t2.out.c 5).1
  have c6 : w3.cell? ⟨w.heap.size, 6, none⟩ = some (.int .i64 0) := (t2.out.c 6).1
  have c7 : w3.cell? ⟨w.heap.size, 7, none⟩ = some (.int .i64 0) := (t2.out.c 7).1
  have c8 : w3.cell? ⟨w.heap.size, 8, none⟩ = some (.bool false) := (t2.out.c 8).1
  have c9 : w3.cell? ⟨w.heap.size, 9, none⟩ = some (.int .i64 0) := (t2.out.c 9).1
  have c10 : w3.cell? ⟨w.heap.size, 10, none⟩ = some (.int .i64 0) := (t2.out.c 10).1
  (try simp only [Exit.inBlock, Exit.then])
  refine bodyPost_ret (v := .tuple #[.slice none 0 0, .agg #[.int .u64 (sp0.hi : Int), .int .u64 (sp0.lo : Int), .int .u64 (sp0.id : Int), .int .u64 (sp0.up : Int), .string (bs sp0.name), .int .i64 sp0.status, .int .i64 sp0.seq, .int .i64 sp0.kids, .bool sp0.shade, .int .i64 sp0.start, .int .i64 sp0.fin], .int .i64 9]) (by simp [results, Try.results9, go_sem, c0, c1, c2, c3, c4, c5, c6, c7, c8, c9, c10, sp0, bs]; try rfl) rfl ?_
  exact ⟨_, rfl, OV.nil _, t2.out.bel⟩
set_option maxRecDepth 100000 in
set_option maxHeartbeats 8000000 in
theorem rfinish_no (v : Value) (L : List Opn) (no st kd now : Int) (w : World) (h : OV w v L) (hl : L.length ≤ 1000000) (hI : opI L no = -1) :
    Calls Try.prog 10 #[v, .int .i64 no, .int .i64 st, .int .i64 kd, .int .i64 now] w fun e w' => FinR w ([], sp0, 9) e w' := by
  have t0 := SpV.new w #[.int .u64 0, .int .u64 0, .int .u64 0, .int .u64 0, .string (ByteArray.mk #[]), .int .i64 0, .int .i64 0, .int .i64 0, .bool false, .int .i64 0, .int .i64 0]
  have HOp := hid (h.up t0.bel)
  have HC := hid (fun (w2 : World) (h2 : OV w2 v L) => opat_any v L no w2 h2 hl (hid hI))
  clear hI h hl
  go_enter Try.func10, Try.ntmps10
  go_upto_region 1 with (fail)
  generalize w.alloc (.cells #[.int .u64 0, .int .u64 0, .int .u64 0, .int .u64 0, .string (ByteArray.mk #[]), .int .i64 0, .int .i64 0, .int .i64 0, .bool false, .int .i64 0, .int .i64 0] 27) = v0 at *
  go_wp2_with fail
  refine (HC.out _ HOp.out).mono ?_
  rintro e w1 ⟨rfl, hb1⟩
  have t1 := hid (t0.up hb1)
  have z0 : w1.cell? ⟨w.heap.size, 0, none⟩ = some (.int .u64 0) := (t1.out.c 0).1
  have y0 : w1.frozen? ⟨w.heap.size, 0, none⟩ = false := (t1.out.c 0).2
  have z1 : w1.cell? ⟨w.heap.size, 1, none⟩ = some (.int .u64 0) := (t1.out.c 1).1
  have y1 : w1.frozen? ⟨w.heap.size, 1, none⟩ = false := (t1.out.c 1).2
  have z2 : w1.cell? ⟨w.heap.size, 2, none⟩ = some (.int .u64 0) := (t1.out.c 2).1
  have y2 : w1.frozen? ⟨w.heap.size, 2, none⟩ = false := (t1.out.c 2).2
  have z3 : w1.cell? ⟨w.heap.size, 3, none⟩ = some (.int .u64 0) := (t1.out.c 3).1
  have y3 : w1.frozen? ⟨w.heap.size, 3, none⟩ = false := (t1.out.c 3).2
  have z4 : w1.cell? ⟨w.heap.size, 4, none⟩ = some (.string (ByteArray.mk #[])) := (t1.out.c 4).1
  have y4 : w1.frozen? ⟨w.heap.size, 4, none⟩ = false := (t1.out.c 4).2
  have z5 : w1.cell? ⟨w.heap.size, 5, none⟩ = some (.int .i64 0) := (t1.out.c 5).1
  have y5 : w1.frozen? ⟨w.heap.size, 5, none⟩ = false := (t1.out.c 5).2
  have z6 : w1.cell? ⟨w.heap.size, 6, none⟩ = some (.int .i64 0) := (t1.out.c 6).1
  have y6 : w1.frozen? ⟨w.heap.size, 6, none⟩ = false := (t1.out.c 6).2
  have z7 : w1.cell? ⟨w.heap.size, 7, none⟩ = some (.int .i64 0) := (t1.out.c 7).1
  have y7 : w1.frozen? ⟨w.heap.size, 7, none⟩ = false := (t1.out.c 7).2
  have z8 : w1.cell? ⟨w.heap.size, 8, none⟩ = some (.bool false) := (t1.out.c 8).1
  have y8 : w1.frozen? ⟨w.heap.size, 8, none⟩ = false := (t1.out.c 8).2
  have z9 : w1.cell? ⟨w.heap.size, 9, none⟩ = some (.int .i64 0) := (t1.out.c 9).1
  have y9 : w1.frozen? ⟨w.heap.size, 9, none⟩ = false := (t1.out.c 9).2
  have z10 : w1.cell? ⟨w.heap.size, 10, none⟩ = some (.int .i64 0) := (t1.out.c 10).1
  have y10 : w1.frozen? ⟨w.heap.size, 10, none⟩ = false := (t1.out.c 10).2
  clear hb1 t0
  go_wp2_with fail
  have t2 := hid (t1.out.fill rfl (.int .u64 0) (.int .u64 0) (.int .u64 0) (.int .u64 0) (.string (ByteArray.mk #[])) (.int .i64 0) (.int .i64 0) (.int .i64 0) (.bool false) (.int .i64 0) (.int .i64 0))
  clear z0 y0 z1 y1 z2 y2 z3 y3 z4 y4 z5 y5 z6 y6 z7 y7 z8 y8 z9 y9 z10 y10 t1
  generalize ((((((((((w1.setCell ⟨w.heap.size, 0, none⟩ (.int .u64 0)).setCell ⟨w.heap.size, 1, none⟩ (.int .u64 0)).setCell ⟨w.heap.size, 2, none⟩ (.int .u64 0)).setCell ⟨w.heap.size, 3, none⟩ (.int .u64 0)).setCell ⟨w.heap.size, 4, none⟩ (.string (ByteArray.mk #[]))).setCell ⟨w.heap.size, 5, none⟩ (.int .i64 0)).setCell ⟨w.heap.size, 6, none⟩ (.int .i64 0)).setCell ⟨w.heap.size, 7, none⟩ (.int .i64 0)).setCell ⟨w.heap.size, 8, none⟩ (.bool false)).setCell ⟨w.heap.size, 9, none⟩ (.int .i64 0)).setCell ⟨w.heap.size, 10, none⟩ (.int .i64 0) = w3 at *
  have c0 : w3.cell? ⟨w.heap.size, 0, none⟩ = some (.int .u64 0) := (t2.out.c 0).1
  have c1 : w3.cell? ⟨w.heap.size, 1, none⟩ = some (.int .u64 0) := (t2.out.c 1).1
  have c2 : w3.cell? ⟨w.heap.size, 2, none⟩ = some (.int .u64 0) := (t2.out.c 2).1
  have c3 : w3.cell? ⟨w.heap.size, 3, none⟩ = some (.int .u64 0) := (t2.out.c 3).1
  have c4 : w3.cell? ⟨w.heap.size, 4, none⟩ = some (.string (ByteArray.mk #[])) := (t2.out.c 4).1
  have c5 : w3.cell? ⟨w.heap.size, 5, none⟩ = some (.int .i64 0) := (t2.out.c 5).1
  have c6 : w3.cell? ⟨w.heap.size, 6, none⟩ = some (.int .i64 0) := (t2.out.c 6).1
  have c7 : w3.cell? ⟨w.heap.size, 7, none⟩ = some (.int .i64 0) := (t2.out.c 7).1
  have c8 : w3.cell? ⟨w.heap.size, 8, none⟩ = some (.bool false) := (t2.out.c 8).1
  have c9 : w3.cell? ⟨w.heap.size, 9, none⟩ = some (.int .i64 0) := (t2.out.c 9).1
  have c10 : w3.cell? ⟨w.heap.size, 10, none⟩ = some (.int .i64 0) := (t2.out.c 10).1
  (try simp only [Exit.inBlock, Exit.then])
  refine bodyPost_ret (v := .tuple #[.slice none 0 0, .agg #[.int .u64 (sp0.hi : Int), .int .u64 (sp0.lo : Int), .int .u64 (sp0.id : Int), .int .u64 (sp0.up : Int), .string (bs sp0.name), .int .i64 sp0.status, .int .i64 sp0.seq, .int .i64 sp0.kids, .bool sp0.shade, .int .i64 sp0.start, .int .i64 sp0.fin], .int .i64 9]) (by simp [results, Try.results10, go_sem, c0, c1, c2, c3, c4, c5, c6, c7, c8, c9, c10, sp0, bs]; try rfl) rfl ?_
  exact ⟨_, rfl, OV.nil _, t2.out.bel⟩
theorem gb_put {α : Type} {enc : α → List Value} {k : Nat} {e : TypeId} {w : World} {base : Nat} {v : Value} {L : List α} (h : GB enc k e w base v L) {g : Nat} (hg : g < base) (i : Nat) (u : Value) : GB enc k e (w.setCell ⟨g, i, none⟩ u) base v L := ownsRow_setCell_other h (fun he => by have := (World.ownsRow.lt h g he).1; omega) u
theorem gb_fill {α : Type} {enc : α → List Value} {k : Nat} {e : TypeId} {w : World} {base : Nat} {v : Value} {L : List α} (h : GB enc k e w base v L) {g : Nat} (hg : g < base) (u0 u1 u2 u3 u4 u5 u6 u7 u8 u9 u10 : Value) : GB enc k e (((((((((((w.setCell ⟨g, 0, none⟩ u0).setCell ⟨g, 1, none⟩ u1).setCell ⟨g, 2, none⟩ u2).setCell ⟨g, 3, none⟩ u3).setCell ⟨g, 4, none⟩ u4).setCell ⟨g, 5, none⟩ u5).setCell ⟨g, 6, none⟩ u6).setCell ⟨g, 7, none⟩ u7).setCell ⟨g, 8, none⟩ u8).setCell ⟨g, 9, none⟩ u9).setCell ⟨g, 10, none⟩ u10) base v L := by
  have h0 := gb_put h hg 0 u0
  have h1 := gb_put h0 hg 1 u1
  have h2 := gb_put h1 hg 2 u2
  have h3 := gb_put h2 hg 3 u3
  have h4 := gb_put h3 hg 4 u4
  have h5 := gb_put h4 hg 5 u5
  have h6 := gb_put h5 hg 6 u6
  have h7 := gb_put h6 hg 7 u7
  have h8 := gb_put h7 hg 8 u8
  have h9 := gb_put h8 hg 9 u9
  have h10 := gb_put h9 hg 10 u10
  exact h10
theorem cat_bel {w3 w5 : World} {o : Obj} (h : Below (w3.alloc o).drew.heap.size (w3.alloc o).drew w5) : Below w3.heap.size w3 w5 := (enew w3 o).drew.trans (h.mono (enew w3 o).drew.size)
theorem op_drop {w : World} {bb pp c k : Nat} {L : List Opn} (h : GX encO 12 w (· < w.heap.size) (some ⟨bb, pp, none⟩) L) (hc : L.length ≤ c) : GX encO 12 w (· < w.heap.size) (if c = k + 1 then some ⟨bb, pp, none⟩ else some ⟨bb, pp + (k + 1) * 12, none⟩) (L.drop (k + 1)) := by
  split
  · have : L.drop (k + 1) = [] := List.drop_eq_nil_of_le (by omega)
    rw [this]
    exact GX.nil _ _ _
  · exact h.drop (k + 1)
theorem keepF1 {B : Nat} {w0 w w' : World} {g : Nat} {x0 x1 x2 x3 x4 x5 x6 x7 x8 x9 x10 : Value} (t : SpV B w0 w g #[x0, x1, x2, x3, x4, x5, x6, x7, x8, x9, x10]) (hz : Below w.heap.size w w') : w'.cell? ⟨g, 0, none⟩ = some (x0) ∧ w'.cell? ⟨g, 1, none⟩ = some (x1) ∧ w'.cell? ⟨g, 2, none⟩ = some (x2) ∧ w'.cell? ⟨g, 3, none⟩ = some (x3) ∧ w'.cell? ⟨g, 4, none⟩ = some (x4) ∧ w'.cell? ⟨g, 5, none⟩ = some (x5) ∧ w'.cell? ⟨g, 6, none⟩ = some (x6) ∧ w'.cell? ⟨g, 7, none⟩ = some (x7) ∧ w'.cell? ⟨g, 8, none⟩ = some (x8) ∧ w'.cell? ⟨g, 9, none⟩ = some (x9) ∧ w'.cell? ⟨g, 10, none⟩ = some (x10) ∧ Below B w0 w' :=
  ⟨((t.up hz).c 0).1, ((t.up hz).c 1).1, ((t.up hz).c 2).1, ((t.up hz).c 3).1, ((t.up hz).c 4).1, ((t.up hz).c 5).1, ((t.up hz).c 6).1, ((t.up hz).c 7).1, ((t.up hz).c 8).1, ((t.up hz).c 9).1, ((t.up hz).c 10).1, (t.up hz).bel⟩
theorem keepF3 {B : Nat} {w0 w w' : World} {g g2 : Nat} {x0 x1 x2 x3 x4 x5 x6 x7 x8 x9 x10 u0 u1 u2 u3 u4 u5 u6 u7 u8 u9 u10 : Value} {cs : Array Value} (t : SpV B w0 w g #[x0, x1, x2, x3, x4, x5, x6, x7, x8, x9, x10]) (r : SpV B w0 w g2 cs) (hn : g ≠ g2) (hz : Below w.heap.size w w') : (((((((((((w'.setCell ⟨g2, 0, none⟩ u0).setCell ⟨g2, 1, none⟩ u1).setCell ⟨g2, 2, none⟩ u2).setCell ⟨g2, 3, none⟩ u3).setCell ⟨g2, 4, none⟩ u4).setCell ⟨g2, 5, none⟩ u5).setCell ⟨g2, 6, none⟩ u6).setCell ⟨g2, 7, none⟩ u7).setCell ⟨g2, 8, none⟩ u8).setCell ⟨g2, 9, none⟩ u9).setCell ⟨g2, 10, none⟩ u10).cell? ⟨g, 0, none⟩ = some (x0) ∧ (((((((((((w'.setCell ⟨g2, 0, none⟩ u0).setCell ⟨g2, 1, none⟩ u1).setCell ⟨g2, 2, none⟩ u2).setCell ⟨g2, 3, none⟩ u3).setCell ⟨g2, 4, none⟩ u4).setCell ⟨g2, 5, none⟩ u5).setCell ⟨g2, 6, none⟩ u6).setCell ⟨g2, 7, none⟩ u7).setCell ⟨g2, 8, none⟩ u8).setCell ⟨g2, 9, none⟩ u9).setCell ⟨g2, 10, none⟩ u10).cell? ⟨g, 1, none⟩ = some (x1) ∧ (((((((((((w'.setCell ⟨g2, 0, none⟩ u0).setCell ⟨g2, 1, none⟩ u1).setCell ⟨g2, 2, none⟩ u2).setCell ⟨g2, 3, none⟩ u3).setCell ⟨g2, 4, none⟩ u4).setCell ⟨g2, 5, none⟩ u5).setCell ⟨g2, 6, none⟩ u6).setCell ⟨g2, 7, none⟩ u7).setCell ⟨g2, 8, none⟩ u8).setCell ⟨g2, 9, none⟩ u9).setCell ⟨g2, 10, none⟩ u10).cell? ⟨g, 2, none⟩ = some (x2) ∧ (((((((((((w'.setCell ⟨g2, 0, none⟩ u0).setCell ⟨g2, 1, none⟩ u1).setCell ⟨g2, 2, none⟩ u2).setCell ⟨g2, 3, none⟩ u3).setCell ⟨g2, 4, none⟩ u4).setCell ⟨g2, 5, none⟩ u5).setCell ⟨g2, 6, none⟩ u6).setCell ⟨g2, 7, none⟩ u7).setCell ⟨g2, 8, none⟩ u8).setCell ⟨g2, 9, none⟩ u9).setCell ⟨g2, 10, none⟩ u10).cell? ⟨g, 3, none⟩ = some (x3) ∧ (((((((((((w'.setCell ⟨g2, 0, none⟩ u0).setCell ⟨g2, 1, none⟩ u1).setCell ⟨g2, 2, none⟩ u2).setCell ⟨g2, 3, none⟩ u3).setCell ⟨g2, 4, none⟩ u4).setCell ⟨g2, 5, none⟩ u5).setCell ⟨g2, 6, none⟩ u6).setCell ⟨g2, 7, none⟩ u7).setCell ⟨g2, 8, none⟩ u8).setCell ⟨g2, 9, none⟩ u9).setCell ⟨g2, 10, none⟩ u10).cell? ⟨g, 4, none⟩ = some (x4) ∧ (((((((((((w'.setCell ⟨g2, 0, none⟩ u0).setCell ⟨g2, 1, none⟩ u1).setCell ⟨g2, 2, none⟩ u2).setCell ⟨g2, 3, none⟩ u3).setCell ⟨g2, 4, none⟩ u4).setCell ⟨g2, 5, none⟩ u5).setCell ⟨g2, 6, none⟩ u6).setCell ⟨g2, 7, none⟩ u7).setCell ⟨g2, 8, none⟩ u8).setCell ⟨g2, 9, none⟩ u9).setCell ⟨g2, 10, none⟩ u10).cell? ⟨g, 5, none⟩ = some (x5) ∧ (((((((((((w'.setCell ⟨g2, 0, none⟩ u0).setCell ⟨g2, 1, none⟩ u1).setCell ⟨g2, 2, none⟩ u2).setCell ⟨g2, 3, none⟩ u3).setCell ⟨g2, 4, none⟩ u4).setCell ⟨g2, 5, none⟩ u5).setCell ⟨g2, 6, none⟩ u6).setCell ⟨g2, 7, none⟩ u7).setCell ⟨g2, 8, none⟩ u8).setCell ⟨g2, 9, none⟩ u9).setCell ⟨g2, 10, none⟩ u10).cell? ⟨g, 6, none⟩ = some (x6) ∧ (((((((((((w'.setCell ⟨g2, 0, none⟩ u0).setCell ⟨g2, 1, none⟩ u1).setCell ⟨g2, 2, none⟩ u2).setCell ⟨g2, 3, none⟩ u3).setCell ⟨g2, 4, none⟩ u4).setCell ⟨g2, 5, none⟩ u5).setCell ⟨g2, 6, none⟩ u6).setCell ⟨g2, 7, none⟩ u7).setCell ⟨g2, 8, none⟩ u8).setCell ⟨g2, 9, none⟩ u9).setCell ⟨g2, 10, none⟩ u10).cell? ⟨g, 7, none⟩ = some (x7) ∧ (((((((((((w'.setCell ⟨g2, 0, none⟩ u0).setCell ⟨g2, 1, none⟩ u1).setCell ⟨g2, 2, none⟩ u2).setCell ⟨g2, 3, none⟩ u3).setCell ⟨g2, 4, none⟩ u4).setCell ⟨g2, 5, none⟩ u5).setCell ⟨g2, 6, none⟩ u6).setCell ⟨g2, 7, none⟩ u7).setCell ⟨g2, 8, none⟩ u8).setCell ⟨g2, 9, none⟩ u9).setCell ⟨g2, 10, none⟩ u10).cell? ⟨g, 8, none⟩ = some (x8) ∧ (((((((((((w'.setCell ⟨g2, 0, none⟩ u0).setCell ⟨g2, 1, none⟩ u1).setCell ⟨g2, 2, none⟩ u2).setCell ⟨g2, 3, none⟩ u3).setCell ⟨g2, 4, none⟩ u4).setCell ⟨g2, 5, none⟩ u5).setCell ⟨g2, 6, none⟩ u6).setCell ⟨g2, 7, none⟩ u7).setCell ⟨g2, 8, none⟩ u8).setCell ⟨g2, 9, none⟩ u9).setCell ⟨g2, 10, none⟩ u10).cell? ⟨g, 9, none⟩ = some (x9) ∧ (((((((((((w'.setCell ⟨g2, 0, none⟩ u0).setCell ⟨g2, 1, none⟩ u1).setCell ⟨g2, 2, none⟩ u2).setCell ⟨g2, 3, none⟩ u3).setCell ⟨g2, 4, none⟩ u4).setCell ⟨g2, 5, none⟩ u5).setCell ⟨g2, 6, none⟩ u6).setCell ⟨g2, 7, none⟩ u7).setCell ⟨g2, 8, none⟩ u8).setCell ⟨g2, 9, none⟩ u9).setCell ⟨g2, 10, none⟩ u10).cell? ⟨g, 10, none⟩ = some (x10) ∧ Below B w0 (((((((((((w'.setCell ⟨g2, 0, none⟩ u0).setCell ⟨g2, 1, none⟩ u1).setCell ⟨g2, 2, none⟩ u2).setCell ⟨g2, 3, none⟩ u3).setCell ⟨g2, 4, none⟩ u4).setCell ⟨g2, 5, none⟩ u5).setCell ⟨g2, 6, none⟩ u6).setCell ⟨g2, 7, none⟩ u7).setCell ⟨g2, 8, none⟩ u8).setCell ⟨g2, 9, none⟩ u9).setCell ⟨g2, 10, none⟩ u10) := by
  have r0 := r.up hz
  have t0 := t.up hz
  have t1 := r0.other t0 hn 0 u0
  have r1 := r0.put 0 u0
  have t2 := r1.other t1 hn 1 u1
  have r2 := r1.put 1 u1
  have t3 := r2.other t2 hn 2 u2
  have r3 := r2.put 2 u2
  have t4 := r3.other t3 hn 3 u3
  have r4 := r3.put 3 u3
  have t5 := r4.other t4 hn 4 u4
  have r5 := r4.put 4 u4
  have t6 := r5.other t5 hn 5 u5
  have r6 := r5.put 5 u5
  have t7 := r6.other t6 hn 6 u6
  have r7 := r6.put 6 u6
  have t8 := r7.other t7 hn 7 u7
  have r8 := r7.put 7 u7
  have t9 := r8.other t8 hn 8 u8
  have r9 := r8.put 8 u8
  have t10 := r9.other t9 hn 9 u9
  have r10 := r9.put 9 u9
  have t11 := r10.other t10 hn 10 u10
  have r11 := r10.put 10 u10
  exact ⟨(t11.c 0).1, (t11.c 1).1, (t11.c 2).1, (t11.c 3).1, (t11.c 4).1, (t11.c 5).1, (t11.c 6).1, (t11.c 7).1, (t11.c 8).1, (t11.c 9).1, (t11.c 10).1, t11.bel⟩
theorem keepF3d {B : Nat} {w0 w w' : World} {g g2 : Nat} {x0 x1 x2 x3 x4 x5 x6 x7 x8 x9 x10 u0 u1 u2 u3 u4 u5 u6 u7 u8 u9 u10 : Value} {cs : Array Value} (t : SpV B w0 w g #[x0, x1, x2, x3, x4, x5, x6, x7, x8, x9, x10]) (r : SpV B w0 w g2 cs) (hn : g ≠ g2) (hz : Below w.heap.size w w') : (((((((((((w'.setCell ⟨g2, 0, none⟩ u0).setCell ⟨g2, 1, none⟩ u1).setCell ⟨g2, 2, none⟩ u2).setCell ⟨g2, 3, none⟩ u3).setCell ⟨g2, 4, none⟩ u4).setCell ⟨g2, 5, none⟩ u5).setCell ⟨g2, 6, none⟩ u6).setCell ⟨g2, 7, none⟩ u7).setCell ⟨g2, 8, none⟩ u8).setCell ⟨g2, 9, none⟩ u9).setCell ⟨g2, 10, none⟩ u10).drew.cell? ⟨g, 0, none⟩ = some (x0) ∧ (((((((((((w'.setCell ⟨g2, 0, none⟩ u0).setCell ⟨g2, 1, none⟩ u1).setCell ⟨g2, 2, none⟩ u2).setCell ⟨g2, 3, none⟩ u3).setCell ⟨g2, 4, none⟩ u4).setCell ⟨g2, 5, none⟩ u5).setCell ⟨g2, 6, none⟩ u6).setCell ⟨g2, 7, none⟩ u7).setCell ⟨g2, 8, none⟩ u8).setCell ⟨g2, 9, none⟩ u9).setCell ⟨g2, 10, none⟩ u10).drew.cell? ⟨g, 1, none⟩ = some (x1) ∧ (((((((((((w'.setCell ⟨g2, 0, none⟩ u0).setCell ⟨g2, 1, none⟩ u1).setCell ⟨g2, 2, none⟩ u2).setCell ⟨g2, 3, none⟩ u3).setCell ⟨g2, 4, none⟩ u4).setCell ⟨g2, 5, none⟩ u5).setCell ⟨g2, 6, none⟩ u6).setCell ⟨g2, 7, none⟩ u7).setCell ⟨g2, 8, none⟩ u8).setCell ⟨g2, 9, none⟩ u9).setCell ⟨g2, 10, none⟩ u10).drew.cell? ⟨g, 2, none⟩ = some (x2) ∧ (((((((((((w'.setCell ⟨g2, 0, none⟩ u0).setCell ⟨g2, 1, none⟩ u1).setCell ⟨g2, 2, none⟩ u2).setCell ⟨g2, 3, none⟩ u3).setCell ⟨g2, 4, none⟩ u4).setCell ⟨g2, 5, none⟩ u5).setCell ⟨g2, 6, none⟩ u6).setCell ⟨g2, 7, none⟩ u7).setCell ⟨g2, 8, none⟩ u8).setCell ⟨g2, 9, none⟩ u9).setCell ⟨g2, 10, none⟩ u10).drew.cell? ⟨g, 3, none⟩ = some (x3) ∧ (((((((((((w'.setCell ⟨g2, 0, none⟩ u0).setCell ⟨g2, 1, none⟩ u1).setCell ⟨g2, 2, none⟩ u2).setCell ⟨g2, 3, none⟩ u3).setCell ⟨g2, 4, none⟩ u4).setCell ⟨g2, 5, none⟩ u5).setCell ⟨g2, 6, none⟩ u6).setCell ⟨g2, 7, none⟩ u7).setCell ⟨g2, 8, none⟩ u8).setCell ⟨g2, 9, none⟩ u9).setCell ⟨g2, 10, none⟩ u10).drew.cell? ⟨g, 4, none⟩ = some (x4) ∧ (((((((((((w'.setCell ⟨g2, 0, none⟩ u0).setCell ⟨g2, 1, none⟩ u1).setCell ⟨g2, 2, none⟩ u2).setCell ⟨g2, 3, none⟩ u3).setCell ⟨g2, 4, none⟩ u4).setCell ⟨g2, 5, none⟩ u5).setCell ⟨g2, 6, none⟩ u6).setCell ⟨g2, 7, none⟩ u7).setCell ⟨g2, 8, none⟩ u8).setCell ⟨g2, 9, none⟩ u9).setCell ⟨g2, 10, none⟩ u10).drew.cell? ⟨g, 5, none⟩ = some (x5) ∧ (((((((((((w'.setCell ⟨g2, 0, none⟩ u0).setCell ⟨g2, 1, none⟩ u1).setCell ⟨g2, 2, none⟩ u2).setCell ⟨g2, 3, none⟩ u3).setCell ⟨g2, 4, none⟩ u4).setCell ⟨g2, 5, none⟩ u5).setCell ⟨g2, 6, none⟩ u6).setCell ⟨g2, 7, none⟩ u7).setCell ⟨g2, 8, none⟩ u8).setCell ⟨g2, 9, none⟩ u9).setCell ⟨g2, 10, none⟩ u10).drew.cell? ⟨g, 6, none⟩ = some (x6) ∧ (((((((((((w'.setCell ⟨g2, 0, none⟩ u0).setCell ⟨g2, 1, none⟩ u1).setCell ⟨g2, 2, none⟩ u2).setCell ⟨g2, 3, none⟩ u3).setCell ⟨g2, 4, none⟩ u4).setCell ⟨g2, 5, none⟩ u5).setCell ⟨g2, 6, none⟩ u6).setCell ⟨g2, 7, none⟩ u7).setCell ⟨g2, 8, none⟩ u8).setCell ⟨g2, 9, none⟩ u9).setCell ⟨g2, 10, none⟩ u10).drew.cell? ⟨g, 7, none⟩ = some (x7) ∧ (((((((((((w'.setCell ⟨g2, 0, none⟩ u0).setCell ⟨g2, 1, none⟩ u1).setCell ⟨g2, 2, none⟩ u2).setCell ⟨g2, 3, none⟩ u3).setCell ⟨g2, 4, none⟩ u4).setCell ⟨g2, 5, none⟩ u5).setCell ⟨g2, 6, none⟩ u6).setCell ⟨g2, 7, none⟩ u7).setCell ⟨g2, 8, none⟩ u8).setCell ⟨g2, 9, none⟩ u9).setCell ⟨g2, 10, none⟩ u10).drew.cell? ⟨g, 8, none⟩ = some (x8) ∧ (((((((((((w'.setCell ⟨g2, 0, none⟩ u0).setCell ⟨g2, 1, none⟩ u1).setCell ⟨g2, 2, none⟩ u2).setCell ⟨g2, 3, none⟩ u3).setCell ⟨g2, 4, none⟩ u4).setCell ⟨g2, 5, none⟩ u5).setCell ⟨g2, 6, none⟩ u6).setCell ⟨g2, 7, none⟩ u7).setCell ⟨g2, 8, none⟩ u8).setCell ⟨g2, 9, none⟩ u9).setCell ⟨g2, 10, none⟩ u10).drew.cell? ⟨g, 9, none⟩ = some (x9) ∧ (((((((((((w'.setCell ⟨g2, 0, none⟩ u0).setCell ⟨g2, 1, none⟩ u1).setCell ⟨g2, 2, none⟩ u2).setCell ⟨g2, 3, none⟩ u3).setCell ⟨g2, 4, none⟩ u4).setCell ⟨g2, 5, none⟩ u5).setCell ⟨g2, 6, none⟩ u6).setCell ⟨g2, 7, none⟩ u7).setCell ⟨g2, 8, none⟩ u8).setCell ⟨g2, 9, none⟩ u9).setCell ⟨g2, 10, none⟩ u10).drew.cell? ⟨g, 10, none⟩ = some (x10) ∧ Below B w0 (((((((((((w'.setCell ⟨g2, 0, none⟩ u0).setCell ⟨g2, 1, none⟩ u1).setCell ⟨g2, 2, none⟩ u2).setCell ⟨g2, 3, none⟩ u3).setCell ⟨g2, 4, none⟩ u4).setCell ⟨g2, 5, none⟩ u5).setCell ⟨g2, 6, none⟩ u6).setCell ⟨g2, 7, none⟩ u7).setCell ⟨g2, 8, none⟩ u8).setCell ⟨g2, 9, none⟩ u9).setCell ⟨g2, 10, none⟩ u10).drew := by
  have r0 := r.up hz
  have t0 := t.up hz
  have t1 := r0.other t0 hn 0 u0
  have r1 := r0.put 0 u0
  have t2 := r1.other t1 hn 1 u1
  have r2 := r1.put 1 u1
  have t3 := r2.other t2 hn 2 u2
  have r3 := r2.put 2 u2
  have t4 := r3.other t3 hn 3 u3
  have r4 := r3.put 3 u3
  have t5 := r4.other t4 hn 4 u4
  have r5 := r4.put 4 u4
  have t6 := r5.other t5 hn 5 u5
  have r6 := r5.put 5 u5
  have t7 := r6.other t6 hn 6 u6
  have r7 := r6.put 6 u6
  have t8 := r7.other t7 hn 7 u7
  have r8 := r7.put 7 u7
  have t9 := r8.other t8 hn 8 u8
  have r9 := r8.put 8 u8
  have t10 := r9.other t9 hn 9 u9
  have r10 := r9.put 9 u9
  have t11 := r10.other t10 hn 10 u10
  have r11 := r10.put 10 u10
  have t12 := t11.drew
  exact ⟨(t12.c 0).1, (t12.c 1).1, (t12.c 2).1, (t12.c 3).1, (t12.c 4).1, (t12.c 5).1, (t12.c 6).1, (t12.c 7).1, (t12.c 8).1, (t12.c 9).1, (t12.c 10).1, t12.bel⟩
set_option maxRecDepth 100000 in
set_option maxHeartbeats 16000000 in
theorem finish_ok (v : Value) (L : List Opn) (no st kd now : Int) (w : World) (h : OV w v L) (hl : L.length ≤ 1000000) (k : Nat) (o : Opn) (hu : L[k]? = some o) (hI : opI L no = (k : Int)) :
    Calls Try.prog 9 #[v, .int .i64 no, .int .i64 st, .int .i64 kd, .int .i64 now] w fun e w' => FinR w (L.take k ++ L.drop (k + 1), opEnd o.2 st kd now, 0) e w' := by
  have t0 := SpV.new w #[.int .u64 0, .int .u64 0, .int .u64 0, .int .u64 0, .string (ByteArray.mk #[]), .int .i64 0, .int .i64 0, .int .i64 0, .bool false, .int .i64 0, .int .i64 0]
  have HOp := hid (h.up t0.bel)
  have HOw := hid h
  have HC := hid (fun (w2 : World) (h2 : OV w2 v L) => place_any v L no w2 h2 hl (hid hI))
  have HL := hid hl
  have HUk := hid hu
  obtain ⟨m, s⟩ := o
  obtain ⟨mx, hmx⟩ : ∃ mx, max now s.start = mx := ⟨_, rfl⟩
  have hk : k < L.length := (List.getElem?_eq_some_iff.1 hu).1
  obtain ⟨n, hnn⟩ : ∃ n, L.length = n := ⟨_, rfl⟩
  have hk0 : ¬ ((k : Int) < 0) := by omega
  have hkd : decide ((k : Int) < 0) = false := decide_eq_false hk0
  have hk1 : (0 : Int) ≤ (k : Int) := by omega
  have hkn : (k : Int) < (n : Int) := by omega
  have HNl := hid hnn
  have HM := hid hmx
  clear hI h hl hu hmx hnn hk
  go_enter Try.func9, Try.ntmps9
  go_upto_region 1 with (fail)
  generalize w.alloc (.cells #[.int .u64 0, .int .u64 0, .int .u64 0, .int .u64 0, .string (ByteArray.mk #[]), .int .i64 0, .int .i64 0, .int .i64 0, .bool false, .int .i64 0, .int .i64 0] 27) = v0 at *
  go_wp2_with fail
  refine (HC.out _ HOp.out).mono ?_
  rintro e w1 ⟨rfl, hb1⟩
  have t1 := hid (t0.up hb1)
  have HO1 := hid (HOp.out.up hb1)
  obtain ⟨A, c, hv, hgx, hc1, hc2, hc3⟩ := HO1.out
  rw [HNl.out] at hv hc1
  subst hv
  obtain ⟨bb, pp, rfl, -, q0, q1, q2, q3, q4, q5, q6, q7, q8, q9, q10, q11⟩ := op_cells hgx HUk.out
  have HG := hid hgx
  have hbx := enew w1 (.cells #[.int .u64 (s.hi : Int), .int .u64 (s.lo : Int), .int .u64 (s.id : Int), .int .u64 (s.up : Int), .string (bs s.name), .int .i64 s.status, .int .i64 s.seq, .int .i64 s.kids, .bool s.shade, .int .i64 s.start, .int .i64 s.fin] 27)
  have t2 := hid (SpV.more (cs := #[.int .u64 (s.hi : Int), .int .u64 (s.lo : Int), .int .u64 (s.id : Int), .int .u64 (s.up : Int), .string (bs s.name), .int .i64 s.status, .int .i64 s.seq, .int .i64 s.kids, .bool s.shade, .int .i64 s.start, .int .i64 s.fin]) t1.out.bel t1.out.low)
  have r2 := hid (t1.out.up hbx)
  have HGX := hid (fun (w' : World) (hb : Below w.heap.size w w') => (HOw.out.up hb))
  have hlt := t1.out.blk.lt
  have HGL := hid (Nat.ne_of_lt hlt)
  clear hb1 t0 hgx q0 hc3 hlt t1 HO1 HOp HOw HC HG hbx
  go_upto_region 5 with (fail)
  generalize w1.alloc (.cells #[.int .u64 (s.hi : Int), .int .u64 (s.lo : Int), .int .u64 (s.id : Int), .int .u64 (s.up : Int), .string (bs s.name), .int .i64 s.status, .int .i64 s.seq, .int .i64 s.kids, .bool s.shade, .int .i64 s.start, .int .i64 s.fin] 27) = w2 at *
  generalize w1.heap.size = g1 at *
  generalize hg0e : w.heap.size = g0 at *
  have HG0 := hid hg0e
  clear hg0e
  clear q1 q2 q3 q4 q5 q6 q7 q8 q9 q10 q11
  have y5 : w2.frozen? ⟨g1, 5, none⟩ = false := (t2.out.c 5).2
  have y7 : w2.frozen? ⟨g1, 7, none⟩ = false := (t2.out.c 7).2
  have y10 : w2.frozen? ⟨g1, 10, none⟩ = false := (t2.out.c 10).2
  have z5 : w2.cell? ⟨g1, 5, none⟩ = some (.int .i64 s.status) := (t2.out.c 5).1
  have z7 : w2.cell? ⟨g1, 7, none⟩ = some (.int .i64 s.kids) := (t2.out.c 7).1
  have z9 : w2.cell? ⟨g1, 9, none⟩ = some (.int .i64 s.start) := (t2.out.c 9).1
  have z10 : w2.cell? ⟨g1, 10, none⟩ = some (.int .i64 s.fin) := (t2.out.c 10).1
  go_upto_region 8 with (fail)
  have hmx : (if now < s.start then s.start else now) = mx := by rw [← HM.out]; omega
  simp only [hmx]
  have t3 : SpV g0 w (((w2.setCell ⟨g1, 5, none⟩ (.int .i64 st)).setCell ⟨g1, 7, none⟩ (.int .i64 kd)).setCell ⟨g1, 10, none⟩ (.int .i64 mx)) g1 #[.int .u64 (s.hi : Int), .int .u64 (s.lo : Int), .int .u64 (s.id : Int), .int .u64 (s.up : Int), .string (bs s.name), .int .i64 st, .int .i64 s.seq, .int .i64 kd, .bool s.shade, .int .i64 s.start, .int .i64 mx] := ((t2.out.put 5 (.int .i64 st)).put 7 (.int .i64 kd)).put 10 (.int .i64 mx)
  have r3 := ((t2.out.put 5 (.int .i64 st)).put 7 (.int .i64 kd)).other (((t2.out.put 5 (.int .i64 st)).other (t2.out.other r2.out HGL.out 5 (.int .i64 st)) HGL.out 7 (.int .i64 kd))) HGL.out 10 (.int .i64 mx)
  clear y5 y7 y10 z5 z7 z9 z10 t2 r2 hmx
  generalize ((w2.setCell ⟨g1, 5, none⟩ (.int .i64 st)).setCell ⟨g1, 7, none⟩ (.int .i64 kd)).setCell ⟨g1, 10, none⟩ (.int .i64 mx) = w3 at *
  have z0 : w3.cell? ⟨g1, 0, none⟩ = some (.int .u64 (s.hi : Int)) := (t3.c 0).1
  have z1 : w3.cell? ⟨g1, 1, none⟩ = some (.int .u64 (s.lo : Int)) := (t3.c 1).1
  have z2 : w3.cell? ⟨g1, 2, none⟩ = some (.int .u64 (s.id : Int)) := (t3.c 2).1
  have z3 : w3.cell? ⟨g1, 3, none⟩ = some (.int .u64 (s.up : Int)) := (t3.c 3).1
  have z4 : w3.cell? ⟨g1, 4, none⟩ = some (.string (bs s.name)) := (t3.c 4).1
  have z5 : w3.cell? ⟨g1, 5, none⟩ = some (.int .i64 st) := (t3.c 5).1
  have z6 : w3.cell? ⟨g1, 6, none⟩ = some (.int .i64 s.seq) := (t3.c 6).1
  have z7 : w3.cell? ⟨g1, 7, none⟩ = some (.int .i64 kd) := (t3.c 7).1
  have z8 : w3.cell? ⟨g1, 8, none⟩ = some (.bool s.shade) := (t3.c 8).1
  have z9 : w3.cell? ⟨g1, 9, none⟩ = some (.int .i64 s.start) := (t3.c 9).1
  have z10 : w3.cell? ⟨g1, 10, none⟩ = some (.int .i64 mx) := (t3.c 10).1
  have hkc : (k : Int) ≤ (c : Int) := by omega
  have hk2 : (k : Int) ≤ (n : Int) := by omega
  have hk3 : wrap64 ((k : Int) + 1) = (k : Int) + 1 := by have := HL.out; have := HNl.out; unfold wrap64; omega
  have hk4 : IntKind.i64.wrap ((k : Int) + 1) = (k : Int) + 1 := by rw [IntKind.wrap_i64]; have := HL.out; have := HNl.out; omega
  have hk5 : (k : Int) + 1 ≤ (n : Int) := by omega
  have hk6 : (0 : Int) ≤ (k : Int) + 1 := by omega
  have hnc : (n : Int) ≤ (c : Int) := by omega
  have HGv := hid (show GX encO 12 w3 (· < w3.heap.size) (some ⟨bb, pp, none⟩) L by
    obtain ⟨A, c', hv, hgx, -⟩ := HGX.out _ t3.bel
    injection hv with e1
    rw [e1]
    exact hgx)
  have HCat := hid (fun (w4 : World) (hb : Below w3.heap.size w3 w4) (hq : Bk w4 w3.heap.size 22 #[.slice (some ⟨bb, pp, none⟩) k c, .slice (if c = k + 1 then some ⟨bb, pp, none⟩ else some ⟨bb, pp + (k + 1) * 12, none⟩) (n - (k + 1)) (c - (k + 1))]) =>
    opcat_any w3.heap.size k (n - (k + 1)) c (c - (k + 1)) (some ⟨bb, pp, none⟩) (if c = k + 1 then some ⟨bb, pp, none⟩ else some ⟨bb, pp + (k + 1) * 12, none⟩) (L.take k) (L.drop (k + 1)) w4 hq ((HGv.out.up hb).take k) (fun h => by cases h) (by have := HNl.out; rw [List.length_take]; omega) (op_drop (HGv.out.up hb) (by have := HNl.out; omega)) (fun h => by split at h <;> cases h) (by have := HNl.out; rw [List.length_drop, this]) (by have := HL.out; have := HNl.out; omega))
  clear HGX
  have hzd : Below w3.heap.size w3 w3.drew := (Below.refl _ _).drew
  go_region_held3 (fun w' => w'.cell? ⟨g1, 0, none⟩ = some (.int .u64 (s.hi : Int)) ∧ w'.cell? ⟨g1, 1, none⟩ = some (.int .u64 (s.lo : Int)) ∧ w'.cell? ⟨g1, 2, none⟩ = some (.int .u64 (s.id : Int)) ∧ w'.cell? ⟨g1, 3, none⟩ = some (.int .u64 (s.up : Int)) ∧ w'.cell? ⟨g1, 4, none⟩ = some (.string (bs s.name)) ∧ w'.cell? ⟨g1, 5, none⟩ = some (.int .i64 st) ∧ w'.cell? ⟨g1, 6, none⟩ = some (.int .i64 s.seq) ∧ w'.cell? ⟨g1, 7, none⟩ = some (.int .i64 kd) ∧ w'.cell? ⟨g1, 8, none⟩ = some (.bool s.shade) ∧ w'.cell? ⟨g1, 9, none⟩ = some (.int .i64 s.start) ∧ w'.cell? ⟨g1, 10, none⟩ = some (.int .i64 mx) ∧ Below g0 w w') (first | (with_reducible exact keepF1 t3 ((enew w3 _).drew)) | (with_reducible exact keepF1 t3 (enew w3 _)) | (with_reducible exact keepF1 t3 hzd) | (with_reducible exact keepF1 t3 hz) | (with_reducible exact keepF3 t3 r3 HGL.out.symm hz)) (first
    | (go_at_call 16
       ((with_reducible refine (HCat.out _ ((enew w3 _).drew) (Bk.drew (Bk.new w3 _ _))).mono ?_); rintro e w5 ⟨y5, rfl, hy5, hb5⟩)
       generalize (if c = k + 1 then some (⟨bb, pp, none⟩ : Addr) else some ⟨bb, pp + (k + 1) * 12, none⟩) = A9
       have hz := cat_bel hb5
       have HF := hid (And.intro hy5 hz)
       clear hy5 hb5
       have a0 : w5.cell? ⟨g0, 0, none⟩ = some (.int .u64 0) := ((r3.up hz).c 0).1
       have b0 : w5.frozen? ⟨g0, 0, none⟩ = false := ((r3.up hz).c 0).2
       have a1 : w5.cell? ⟨g0, 1, none⟩ = some (.int .u64 0) := ((r3.up hz).c 1).1
       have b1 : w5.frozen? ⟨g0, 1, none⟩ = false := ((r3.up hz).c 1).2
       have a2 : w5.cell? ⟨g0, 2, none⟩ = some (.int .u64 0) := ((r3.up hz).c 2).1
       have b2 : w5.frozen? ⟨g0, 2, none⟩ = false := ((r3.up hz).c 2).2
       have a3 : w5.cell? ⟨g0, 3, none⟩ = some (.int .u64 0) := ((r3.up hz).c 3).1
       have b3 : w5.frozen? ⟨g0, 3, none⟩ = false := ((r3.up hz).c 3).2
       have a4 : w5.cell? ⟨g0, 4, none⟩ = some (.string (ByteArray.mk #[])) := ((r3.up hz).c 4).1
       have b4 : w5.frozen? ⟨g0, 4, none⟩ = false := ((r3.up hz).c 4).2
       have a5 : w5.cell? ⟨g0, 5, none⟩ = some (.int .i64 0) := ((r3.up hz).c 5).1
       have b5 : w5.frozen? ⟨g0, 5, none⟩ = false := ((r3.up hz).c 5).2
       have a6 : w5.cell? ⟨g0, 6, none⟩ = some (.int .i64 0) := ((r3.up hz).c 6).1
       have b6 : w5.frozen? ⟨g0, 6, none⟩ = false := ((r3.up hz).c 6).2
       have a7 : w5.cell? ⟨g0, 7, none⟩ = some (.int .i64 0) := ((r3.up hz).c 7).1
       have b7 : w5.frozen? ⟨g0, 7, none⟩ = false := ((r3.up hz).c 7).2
       have a8 : w5.cell? ⟨g0, 8, none⟩ = some (.bool false) := ((r3.up hz).c 8).1
       have b8 : w5.frozen? ⟨g0, 8, none⟩ = false := ((r3.up hz).c 8).2
       have a9 : w5.cell? ⟨g0, 9, none⟩ = some (.int .i64 0) := ((r3.up hz).c 9).1
       have b9 : w5.frozen? ⟨g0, 9, none⟩ = false := ((r3.up hz).c 9).2
       have a10 : w5.cell? ⟨g0, 10, none⟩ = some (.int .i64 0) := ((r3.up hz).c 10).1
       have b10 : w5.frozen? ⟨g0, 10, none⟩ = false := ((r3.up hz).c 10).2))
  all_goals
    have r5 := r3.up hz
    clear a0 b0 z0 a1 b1 z1 a2 b2 z2 a3 b3 z3 a4 b4 z4 a5 b5 z5 a6 b6 z6 a7 b7 z7 a8 b8 z8 a9 b9 z9 a10 b10 z10
    have r6 := r5.fill rfl (.int .u64 (s.hi : Int)) (.int .u64 (s.lo : Int)) (.int .u64 (s.id : Int)) (.int .u64 (s.up : Int)) (.string (bs s.name)) (.int .i64 st) (.int .i64 s.seq) (.int .i64 kd) (.bool s.shade) (.int .i64 s.start) (.int .i64 mx)
    have HG6 := gb_fill HF.out.1 (show g0 < (w3.alloc _).drew.heap.size from Nat.lt_of_lt_of_le r3.blk.lt (enew w3 _).drew.size) (.int .u64 (s.hi : Int)) (.int .u64 (s.lo : Int)) (.int .u64 (s.id : Int)) (.int .u64 (s.up : Int)) (.string (bs s.name)) (.int .i64 st) (.int .i64 s.seq) (.int .i64 kd) (.bool s.shade) (.int .i64 s.start) (.int .i64 mx)
    have HR := hid (And.intro r6 HG6)
    clear r5 r6 HG6 HF
    generalize ((((((((((w5.setCell ⟨g0, 0, none⟩ (.int .u64 (s.hi : Int))).setCell ⟨g0, 1, none⟩ (.int .u64 (s.lo : Int))).setCell ⟨g0, 2, none⟩ (.int .u64 (s.id : Int))).setCell ⟨g0, 3, none⟩ (.int .u64 (s.up : Int))).setCell ⟨g0, 4, none⟩ (.string (bs s.name))).setCell ⟨g0, 5, none⟩ (.int .i64 st)).setCell ⟨g0, 6, none⟩ (.int .i64 s.seq)).setCell ⟨g0, 7, none⟩ (.int .i64 kd)).setCell ⟨g0, 8, none⟩ (.bool s.shade)).setCell ⟨g0, 9, none⟩ (.int .i64 s.start)).setCell ⟨g0, 10, none⟩ (.int .i64 mx) = w6 at *
    have c0 : w6.cell? ⟨g0, 0, none⟩ = some (.int .u64 (s.hi : Int)) := (HR.out.1.c 0).1
    have c1 : w6.cell? ⟨g0, 1, none⟩ = some (.int .u64 (s.lo : Int)) := (HR.out.1.c 1).1
    have c2 : w6.cell? ⟨g0, 2, none⟩ = some (.int .u64 (s.id : Int)) := (HR.out.1.c 2).1
    have c3 : w6.cell? ⟨g0, 3, none⟩ = some (.int .u64 (s.up : Int)) := (HR.out.1.c 3).1
    have c4 : w6.cell? ⟨g0, 4, none⟩ = some (.string (bs s.name)) := (HR.out.1.c 4).1
    have c5 : w6.cell? ⟨g0, 5, none⟩ = some (.int .i64 st) := (HR.out.1.c 5).1
    have c6 : w6.cell? ⟨g0, 6, none⟩ = some (.int .i64 s.seq) := (HR.out.1.c 6).1
    have c7 : w6.cell? ⟨g0, 7, none⟩ = some (.int .i64 kd) := (HR.out.1.c 7).1
    have c8 : w6.cell? ⟨g0, 8, none⟩ = some (.bool s.shade) := (HR.out.1.c 8).1
    have c9 : w6.cell? ⟨g0, 9, none⟩ = some (.int .i64 s.start) := (HR.out.1.c 9).1
    have c10 : w6.cell? ⟨g0, 10, none⟩ = some (.int .i64 mx) := (HR.out.1.c 10).1
    (try simp only [Exit.inBlock, Exit.then])
    go_wp2_with fail
    refine bodyPost_ret (v := .tuple #[y5, .agg #[.int .u64 (s.hi : Int), .int .u64 (s.lo : Int), .int .u64 (s.id : Int), .int .u64 (s.up : Int), .string (bs s.name), .int .i64 st, .int .i64 s.seq, .int .i64 kd, .bool s.shade, .int .i64 s.start, .int .i64 mx], .int .i64 0]) (by simp [results, Try.results9, go_sem, c0, c1, c2, c3, c4, c5, c6, c7, c8, c9, c10]; try rfl) rfl ?_
    refine ⟨_, ?_, OV.of_gb HR.out.2, by rw [HG0.out]; exact HR.out.1.bel⟩
    simp only [opEnd, HM.out]
end Go.Proofs.Ytnbkpannhcamjaa
