/- Texts put together: Ar As Au At Av. -/
import Derived.Test.YtnbkpannhcamjaaGreatDoorG23
import Derived.Test.YtnbkpannhcamjaaGreatDoorG25
import Derived.Deep.RegionHeld3
namespace Go.Proofs.YtnbkpannhcamjaaGreatDoor
set_option linter.unusedVariables false
set_option linter.unusedSimpArgs false
open Go.RowKit Go.Joins

/-- A block of cells. -/
def Vk (w : World) (g : Nat) (t : TypeId) (cs : Array Value) : Prop := w.heap[g]? = some (.cells cs t (0, 0))
section
variable {w w' : World} {g : Nat} {t : TypeId} {cs : Array Value}
theorem Vk.lt (h : Vk w g t cs) : g < w.heap.size := by
  rcases Nat.lt_or_ge g w.heap.size with hlt | hge
  · exact hlt
  · unfold Vk at h; rw [Array.getElem?_eq_none hge] at h; cases h
theorem Vk.cell (h : Vk w g t cs) (i : Nat) : w.cell? ⟨g, i, none⟩ = cs[i]? := cell_of_row w g i cs t (0, 0) h
theorem Vk.frozen (h : Vk w g t cs) (i : Nat) : w.frozen? ⟨g, i, none⟩ = false := by
  unfold Vk at h
  simp [World.frozen?, h]
theorem Vk.new (w : World) (t : TypeId) (cs : Array Value) : Vk (w.alloc (.cells cs t)) w.heap.size t cs := heap_alloc_new w _
theorem Vk.set_ (h : Vk w g t cs) (i : Nat) (u : Value) : Vk (w.setCell ⟨g, i, none⟩ u) g t (cs.setIfInBounds i u) := by
  unfold Vk at h ⊢
  simp [World.setCell, Array.getElem?_modify, h]
theorem Vk.up (h : Vk w g t cs) (hb : Below w.heap.size w w') : Vk w' g t cs := (hb.block g h.lt).trans h
end
theorem ienew (w : World) (o : Obj) : Below w.heap.size w (w.alloc o) := (Below.refl _ _).alloc (Nat.le_refl _) _
theorem iestep {a b c : World} (h : Below a.heap.size a b) (k : Below b.heap.size b c) : Below a.heap.size a c := h.trans (k.mono h.size)
/-- A variable of the call's own that holds what a traceparent says. -/
structure PrV (B : Nat) (w0 w : World) (g : Nat) (cs : Array Value) : Prop where
  blk : Vk w g 27 cs
  bel : Below B w0 w
  far : B ≤ g
  low : B ≤ w.heap.size
section
variable {B : Nat} {w0 w w' : World} {g g2 : Nat} {cs cs2 : Array Value}
theorem PrV.c (h : PrV B w0 w g cs) (i : Nat) : w.cell? ⟨g, i, none⟩ = cs[i]? ∧ w.frozen? ⟨g, i, none⟩ = false := ⟨Vk.cell h.blk i, Vk.frozen h.blk i⟩
theorem PrV.put (h : PrV B w0 w g cs) (i : Nat) (u : Value) : PrV B w0 (w.setCell ⟨g, i, none⟩ u) g (cs.setIfInBounds i u) := ⟨Vk.set_ h.blk i u, h.bel.setCell h.far u, h.far, by have := h.low; simpa using this⟩
theorem PrV.up (h : PrV B w0 w g cs) (hb : Below w.heap.size w w') : PrV B w0 w' g cs := ⟨h.blk.up hb, h.bel.trans (hb.mono h.low), h.far, Nat.le_trans h.low hb.size⟩
theorem PrV.drew (h : PrV B w0 w g cs) : PrV B w0 w.drew g cs := ⟨h.blk, h.bel.drew, h.far, h.low⟩
theorem PrV.new (w : World) (cs : Array Value) : PrV w.heap.size w (w.alloc (.cells cs 27)) w.heap.size cs := ⟨Vk.new _ _ _, ienew w _, Nat.le_refl _, by simp⟩
theorem PrV.fill (h : PrV B w0 w g cs) (hs : cs.size = 4) (x0 x1 x2 x3 : Value) : PrV B w0 ((((w.setCell ⟨g, 0, none⟩ x0).setCell ⟨g, 1, none⟩ x1).setCell ⟨g, 2, none⟩ x2).setCell ⟨g, 3, none⟩ x3) g #[x0, x1, x2, x3] := by
  obtain ⟨l⟩ := cs
  match l, hs with
  | [y0, y1, y2, y3], _ => exact (((h.put 0 x0).put 1 x1).put 2 x2).put 3 x3
end
set_option maxRecDepth 100000 in
set_option maxHeartbeats 8000000 in
theorem ifrom_any (v : Value) (L : List Hd) (w : World) (h : HLv w v L) (HT : Hid (Pce w)) {a b s f : Nat} {z : Int} (H : Hid (fromI L = ((a, b, s, f), z))) :
    Calls Tryz.prog 8 #[v] w fun e w' => e = .returned (.tuple #[.agg #[.int .u64 (a : Int), .int .u64 (b : Int), .int .u64 (s : Int), .int .i64 (f : Int)], .int .i64 z]) ∧ Below w.heap.size w w' := by
  have c1 : (ByteArray.mk #[116, 114, 97, 99, 101, 112, 97, 114, 101, 110, 116]) = bs kTP := rfl
  have t0 := PrV.new w #[.int .u64 0, .int .u64 0, .int .u64 0, .int .i64 0]
  have HOp := hid (h.up t0.bel)
  obtain ⟨t, q, hg⟩ : ∃ t q, getH L kTP = (t, q) := ⟨_, _, rfl⟩
  have htl : t.length ≤ 10000 := by have := getH_small L kTP h.2.2; rw [hg] at this; exact this
  have HG := hid hg
  have HC := hid (fun (w2 : World) (h2 : HLv w2 v L) => iget_any w2 h2 kTP HG)
  have HF := hid (show (if q = true then parS t else (noP7, 9)) = ((a, b, s, f), z) by rw [← H.out]; unfold fromI; rw [hg])
  have HTL := hid htl
  clear hg htl h H
  cases q
  · have e := HF.out
    rw [if_neg (by decide)] at e
    simp only [noP7, Prod.mk.injEq] at e
    obtain ⟨⟨rfl, rfl, rfl, rfl⟩, rfl⟩ := e
    clear HF
    go_enter Tryz.func8, Tryz.ntmps8
    go_upto_region 1 with (fail)
    generalize w.alloc (.cells #[.int .u64 0, .int .u64 0, .int .u64 0, .int .i64 0] 27) = v0 at *
    go_wp2_with fail
    refine (HC.out _ HOp.out).mono ?_
    rintro e w1 ⟨rfl, hb1⟩
    have t1 := hid (t0.up hb1)
    have z0 : w1.cell? ⟨w.heap.size, 0, none⟩ = some (.int .u64 0) := (t1.out.c 0).1
    have y0 : w1.frozen? ⟨w.heap.size, 0, none⟩ = false := (t1.out.c 0).2
    have z1 : w1.cell? ⟨w.heap.size, 1, none⟩ = some (.int .u64 0) := (t1.out.c 1).1
    have y1 : w1.frozen? ⟨w.heap.size, 1, none⟩ = false := (t1.out.c 1).2
    have z2 : w1.cell? ⟨w.heap.size, 2, none⟩ = some (.int .u64 0) := (t1.out.c 2).1
    have y2 : w1.frozen? ⟨w.heap.size, 2, none⟩ = false := (t1.out.c 2).2
    have z3 : w1.cell? ⟨w.heap.size, 3, none⟩ = some (.int .i64 0) := (t1.out.c 3).1
    have y3 : w1.frozen? ⟨w.heap.size, 3, none⟩ = false := (t1.out.c 3).2
    clear hb1 t0
    go_wp2_with fail
    have t2 := hid (t1.out.fill rfl (.int .u64 0) (.int .u64 0) (.int .u64 0) (.int .i64 0))
    clear z0 y0 z1 y1 z2 y2 z3 y3 t1
    generalize (((w1.setCell ⟨w.heap.size, 0, none⟩ (.int .u64 0)).setCell ⟨w.heap.size, 1, none⟩ (.int .u64 0)).setCell ⟨w.heap.size, 2, none⟩ (.int .u64 0)).setCell ⟨w.heap.size, 3, none⟩ (.int .i64 0) = w3 at *
    have c0 : w3.cell? ⟨w.heap.size, 0, none⟩ = some (.int .u64 0) := (t2.out.c 0).1
    have c1 : w3.cell? ⟨w.heap.size, 1, none⟩ = some (.int .u64 0) := (t2.out.c 1).1
    have c2 : w3.cell? ⟨w.heap.size, 2, none⟩ = some (.int .u64 0) := (t2.out.c 2).1
    have c3 : w3.cell? ⟨w.heap.size, 3, none⟩ = some (.int .i64 0) := (t2.out.c 3).1
    (try simp only [Exit.inBlock, Exit.then])
    refine bodyPost_ret (v := .tuple #[.agg #[.int .u64 0, .int .u64 0, .int .u64 0, .int .i64 0], .int .i64 9]) (by simp [results, Tryz.results8, go_sem, c0, c1, c2, c3]; try rfl) rfl ?_
    exact ⟨rfl, t2.out.bel⟩
  · have e := HF.out
    rw [if_pos rfl] at e
    have HPr := hid e
    clear HF e
    go_enter Tryz.func8, Tryz.ntmps8
    go_upto_region 1 with (fail)
    generalize w.alloc (.cells #[.int .u64 0, .int .u64 0, .int .u64 0, .int .i64 0] 27) = v0 at *
    go_wp2_with fail
    refine (HC.out _ HOp.out).mono ?_
    rintro e w1 ⟨rfl, hb1⟩
    have t1 := hid (t0.up hb1)
    have HB1 := hid t1.out.bel
    clear hb1 t0
    go_wp2_with fail
    refine (parread_at t w1 (by have := HTL.out; omega) (hid (HT.out.later HB1.out)) HPr).mono ?_
    rintro e w2 ⟨rfl, hb2⟩
    have t2 := hid (t1.out.up hb2)
    have z0 : w2.cell? ⟨w.heap.size, 0, none⟩ = some (.int .u64 0) := (t2.out.c 0).1
    have y0 : w2.frozen? ⟨w.heap.size, 0, none⟩ = false := (t2.out.c 0).2
    have z1 : w2.cell? ⟨w.heap.size, 1, none⟩ = some (.int .u64 0) := (t2.out.c 1).1
    have y1 : w2.frozen? ⟨w.heap.size, 1, none⟩ = false := (t2.out.c 1).2
    have z2 : w2.cell? ⟨w.heap.size, 2, none⟩ = some (.int .u64 0) := (t2.out.c 2).1
    have y2 : w2.frozen? ⟨w.heap.size, 2, none⟩ = false := (t2.out.c 2).2
    have z3 : w2.cell? ⟨w.heap.size, 3, none⟩ = some (.int .i64 0) := (t2.out.c 3).1
    have y3 : w2.frozen? ⟨w.heap.size, 3, none⟩ = false := (t2.out.c 3).2
    clear hb2 t1
    go_wp2_with fail
    have t3 := hid (t2.out.fill rfl (.int .u64 (a : Int)) (.int .u64 (b : Int)) (.int .u64 (s : Int)) (.int .i64 (f : Int)))
    clear z0 y0 z1 y1 z2 y2 z3 y3 t2
    generalize (((w2.setCell ⟨w.heap.size, 0, none⟩ (.int .u64 (a : Int))).setCell ⟨w.heap.size, 1, none⟩ (.int .u64 (b : Int))).setCell ⟨w.heap.size, 2, none⟩ (.int .u64 (s : Int))).setCell ⟨w.heap.size, 3, none⟩ (.int .i64 (f : Int)) = w3 at *
    have c0 : w3.cell? ⟨w.heap.size, 0, none⟩ = some (.int .u64 (a : Int)) := (t3.out.c 0).1
    have c1 : w3.cell? ⟨w.heap.size, 1, none⟩ = some (.int .u64 (b : Int)) := (t3.out.c 1).1
    have c2 : w3.cell? ⟨w.heap.size, 2, none⟩ = some (.int .u64 (s : Int)) := (t3.out.c 2).1
    have c3 : w3.cell? ⟨w.heap.size, 3, none⟩ = some (.int .i64 (f : Int)) := (t3.out.c 3).1
    (try simp only [Exit.inBlock, Exit.then])
    refine bodyPost_ret (v := .tuple #[.agg #[.int .u64 (a : Int), .int .u64 (b : Int), .int .u64 (s : Int), .int .i64 (f : Int)], .int .i64 z]) (by simp [results, Tryz.results8, go_sem, c0, c1, c2, c3]; try rfl) rfl ?_
    exact ⟨rfl, t3.out.bel⟩
set_option maxRecDepth 100000 in
set_option maxHeartbeats 8000000 in
theorem rifrom_any (v : Value) (L : List Hd) (w : World) (h : HLv w v L) {a b s f : Nat} {z : Int} (H : Hid (fromI L = ((a, b, s, f), z))) :
    Calls Tryz.prog 9 #[v] w fun e w' => e = .returned (.tuple #[.agg #[.int .u64 (a : Int), .int .u64 (b : Int), .int .u64 (s : Int), .int .i64 (f : Int)], .int .i64 z]) ∧ Below w.heap.size w w' := by
  have c1 : (ByteArray.mk #[116, 114, 97, 99, 101, 112, 97, 114, 101, 110, 116]) = bs kTP := rfl
  have t0 := PrV.new w #[.int .u64 0, .int .u64 0, .int .u64 0, .int .i64 0]
  have HOp := hid (h.up t0.bel)
  obtain ⟨t, q, hg⟩ : ∃ t q, getH L kTP = (t, q) := ⟨_, _, rfl⟩
  have htl : t.length ≤ 10000 := by have := getH_small L kTP h.2.2; rw [hg] at this; exact this
  have HG := hid hg
  have HC := hid (fun (w2 : World) (h2 : HLv w2 v L) => riget_any w2 h2 kTP HG)
  have HF := hid (show (if q = true then parS t else (noP7, 9)) = ((a, b, s, f), z) by rw [← H.out]; unfold fromI; rw [hg])
  have HTL := hid htl
  clear hg htl h H
  cases q
  · have e := HF.out
    rw [if_neg (by decide)] at e
    simp only [noP7, Prod.mk.injEq] at e
    obtain ⟨⟨rfl, rfl, rfl, rfl⟩, rfl⟩ := e
    clear HF
    go_enter Tryz.func9, Tryz.ntmps9
    go_upto_region 1 with (fail)
    generalize w.alloc (.cells #[.int .u64 0, .int .u64 0, .int .u64 0, .int .i64 0] 27) = v0 at *
    go_wp2_with fail
    refine (HC.out _ HOp.out).mono ?_
    rintro e w1 ⟨rfl, hb1⟩
    have t1 := hid (t0.up hb1)
    have z0 : w1.cell? ⟨w.heap.size, 0, none⟩ = some (.int .u64 0) := (t1.out.c 0).1
    have y0 : w1.frozen? ⟨w.heap.size, 0, none⟩ = false := (t1.out.c 0).2
    have z1 : w1.cell? ⟨w.heap.size, 1, none⟩ = some (.int .u64 0) := (t1.out.c 1).1
    have y1 : w1.frozen? ⟨w.heap.size, 1, none⟩ = false := (t1.out.c 1).2
    have z2 : w1.cell? ⟨w.heap.size, 2, none⟩ = some (.int .u64 0) := (t1.out.c 2).1
    have y2 : w1.frozen? ⟨w.heap.size, 2, none⟩ = false := (t1.out.c 2).2
    have z3 : w1.cell? ⟨w.heap.size, 3, none⟩ = some (.int .i64 0) := (t1.out.c 3).1
    have y3 : w1.frozen? ⟨w.heap.size, 3, none⟩ = false := (t1.out.c 3).2
    clear hb1 t0
    go_wp2_with fail
    have t2 := hid (t1.out.fill rfl (.int .u64 0) (.int .u64 0) (.int .u64 0) (.int .i64 0))
    clear z0 y0 z1 y1 z2 y2 z3 y3 t1
    generalize (((w1.setCell ⟨w.heap.size, 0, none⟩ (.int .u64 0)).setCell ⟨w.heap.size, 1, none⟩ (.int .u64 0)).setCell ⟨w.heap.size, 2, none⟩ (.int .u64 0)).setCell ⟨w.heap.size, 3, none⟩ (.int .i64 0) = w3 at *
    have c0 : w3.cell? ⟨w.heap.size, 0, none⟩ = some (.int .u64 0) := (t2.out.c 0).1
    have c1 : w3.cell? ⟨w.heap.size, 1, none⟩ = some (.int .u64 0) := (t2.out.c 1).1
    have c2 : w3.cell? ⟨w.heap.size, 2, none⟩ = some (.int .u64 0) := (t2.out.c 2).1
    have c3 : w3.cell? ⟨w.heap.size, 3, none⟩ = some (.int .i64 0) := (t2.out.c 3).1
    (try simp only [Exit.inBlock, Exit.then])
    refine bodyPost_ret (v := .tuple #[.agg #[.int .u64 0, .int .u64 0, .int .u64 0, .int .i64 0], .int .i64 9]) (by simp [results, Tryz.results9, go_sem, c0, c1, c2, c3]; try rfl) rfl ?_
    exact ⟨rfl, t2.out.bel⟩
  · have e := HF.out
    rw [if_pos rfl] at e
    have HPr := hid e
    clear HF e
    go_enter Tryz.func9, Tryz.ntmps9
    go_upto_region 1 with (fail)
    generalize w.alloc (.cells #[.int .u64 0, .int .u64 0, .int .u64 0, .int .i64 0] 27) = v0 at *
    go_wp2_with fail
    refine (HC.out _ HOp.out).mono ?_
    rintro e w1 ⟨rfl, hb1⟩
    have t1 := hid (t0.up hb1)
    have HB1 := hid t1.out.bel
    clear hb1 t0
    go_wp2_with fail
    refine (rparread_at t w1 (by have := HTL.out; omega) HPr).mono ?_
    rintro e w2 ⟨rfl, hb2⟩
    have t2 := hid (t1.out.up hb2)
    have z0 : w2.cell? ⟨w.heap.size, 0, none⟩ = some (.int .u64 0) := (t2.out.c 0).1
    have y0 : w2.frozen? ⟨w.heap.size, 0, none⟩ = false := (t2.out.c 0).2
    have z1 : w2.cell? ⟨w.heap.size, 1, none⟩ = some (.int .u64 0) := (t2.out.c 1).1
    have y1 : w2.frozen? ⟨w.heap.size, 1, none⟩ = false := (t2.out.c 1).2
    have z2 : w2.cell? ⟨w.heap.size, 2, none⟩ = some (.int .u64 0) := (t2.out.c 2).1
    have y2 : w2.frozen? ⟨w.heap.size, 2, none⟩ = false := (t2.out.c 2).2
    have z3 : w2.cell? ⟨w.heap.size, 3, none⟩ = some (.int .i64 0) := (t2.out.c 3).1
    have y3 : w2.frozen? ⟨w.heap.size, 3, none⟩ = false := (t2.out.c 3).2
    clear hb2 t1
    go_wp2_with fail
    have t3 := hid (t2.out.fill rfl (.int .u64 (a : Int)) (.int .u64 (b : Int)) (.int .u64 (s : Int)) (.int .i64 (f : Int)))
    clear z0 y0 z1 y1 z2 y2 z3 y3 t2
    generalize (((w2.setCell ⟨w.heap.size, 0, none⟩ (.int .u64 (a : Int))).setCell ⟨w.heap.size, 1, none⟩ (.int .u64 (b : Int))).setCell ⟨w.heap.size, 2, none⟩ (.int .u64 (s : Int))).setCell ⟨w.heap.size, 3, none⟩ (.int .i64 (f : Int)) = w3 at *
    have c0 : w3.cell? ⟨w.heap.size, 0, none⟩ = some (.int .u64 (a : Int)) := (t3.out.c 0).1
    have c1 : w3.cell? ⟨w.heap.size, 1, none⟩ = some (.int .u64 (b : Int)) := (t3.out.c 1).1
    have c2 : w3.cell? ⟨w.heap.size, 2, none⟩ = some (.int .u64 (s : Int)) := (t3.out.c 2).1
    have c3 : w3.cell? ⟨w.heap.size, 3, none⟩ = some (.int .i64 (f : Int)) := (t3.out.c 3).1
    (try simp only [Exit.inBlock, Exit.then])
    refine bodyPost_ret (v := .tuple #[.agg #[.int .u64 (a : Int), .int .u64 (b : Int), .int .u64 (s : Int), .int .i64 (f : Int)], .int .i64 z]) (by simp [results, Tryz.results9, go_sem, c0, c1, c2, c3]; try rfl) rfl ?_
    exact ⟨rfl, t3.out.bel⟩
theorem wrS_len {a b s : Nat} {f : Int} {t : List UInt8} {c : Int} (h : wrS a b s f = (t, c)) : t.length ≤ 1000 := by
  have e := congrArg Prod.fst h
  simp only at e
  rw [← e]
  unfold wrS
  split
  · simp
  · split
    · simp
    · simp only [parT_len]; omega
theorem txtI_len (L : List Hd) (s : Nat) : (txtI L s).length ≤ 64 := by
  obtain ⟨j, -, -, h, -⟩ := txtI_is L s
  exact h
theorem intoI_ok {L : List Hd} {a b s : Nat} {f : Int} {t : List UInt8} {M : List Hd} {z : Int} (h : wrS a b s f = (t, 0)) (H : intoI L a b s f = (M, z)) : setH (setH L kTP t) kTS (txtI L s) = M ∧ z = 0 := by
  unfold intoI at H
  rw [h] at H
  rw [if_pos rfl] at H
  exact ⟨congrArg Prod.fst H, (congrArg Prod.snd H).symm⟩
theorem intoI_no {L : List Hd} {a b s : Nat} {f : Int} {t : List UInt8} {c : Int} {M : List Hd} {z : Int} (h : wrS a b s f = (t, c)) (hc : c ≠ 0) (H : intoI L a b s f = (M, z)) : M = [] ∧ z = c := by
  unfold intoI at H
  rw [h] at H
  rw [if_neg hc] at H
  exact ⟨(congrArg Prod.fst H).symm, (congrArg Prod.snd H).symm⟩
end Go.Proofs.YtnbkpannhcamjaaGreatDoor
namespace Go.Proofs.YtnbkpannhcamjaaGreatDoor
set_option linter.unusedVariables false
set_option linter.unusedSimpArgs false
open Go.RowKit Go.Joins

set_option maxRecDepth 100000 in
set_option maxHeartbeats 8000000 in
theorem into_any (v : Value) (L : List Hd) (a b s : Nat) (f : Int) (w : World) (h : HLv w v L) (hl : L.length ≤ 500) (ha : Hid (a < 18446744073709551616)) (hb : Hid (b < 18446744073709551616)) (hs : Hid (s < 18446744073709551616)) (hf : Hid (-9223372036854775808 ≤ f ∧ f ≤ 9223372036854775807)) (HT : Hid (Pce w)) (HE : Hid (EnvT w)) {M : List Hd} {z : Int} (H : Hid (intoI L a b s f = (M, z))) :
    Calls Tryz.prog 6 #[v, .agg #[.int .u64 (a : Int), .int .u64 (b : Int), .int .u64 (s : Int), .int .i64 f]] w fun e w' => ∃ r, e = .returned (.tuple #[r, .int .i64 z]) ∧ HLv w' r M ∧ Below w.heap.size w w' := by
  have c1 : (ByteArray.mk #[116, 114, 97, 99, 101, 112, 97, 114, 101, 110, 116]) = bs kTP := rfl
  have c2 : (ByteArray.mk #[116, 114, 97, 99, 101, 115, 116, 97, 116, 101]) = bs kTS := rfl
  have c3 : (ByteArray.mk #[109, 101, 115, 104]) = bs kMesh := rfl
  have t0 := PrV.new w #[.int .u64 (a : Int), .int .u64 (b : Int), .int .u64 (s : Int), .int .i64 f]
  have HOp := hid (h.up t0.bel)
  have HLl := hid hl
  obtain ⟨t, c, hw⟩ : ∃ t c, wrS a b s f = (t, c) := ⟨_, _, rfl⟩
  have HW := hid hw
  have HWL := hid (wrS_len hw)
  clear h hl hw
  go_enter Tryz.func6, Tryz.ntmps6
  go_upto_region 1 with (fail)
  generalize w.alloc (.cells #[.int .u64 (a : Int), .int .u64 (b : Int), .int .u64 (s : Int), .int .i64 f] 27) = v0 at *
  have z0 : v0.cell? ⟨w.heap.size, 0, none⟩ = some (.int .u64 (a : Int)) := (t0.c 0).1
  have z1 : v0.cell? ⟨w.heap.size, 1, none⟩ = some (.int .u64 (b : Int)) := (t0.c 1).1
  have z2 : v0.cell? ⟨w.heap.size, 2, none⟩ = some (.int .u64 (s : Int)) := (t0.c 2).1
  have z3 : v0.cell? ⟨w.heap.size, 3, none⟩ = some (.int .i64 f) := (t0.c 3).1
  go_wp2_with fail
  clear z0 z1 z2 z3
  refine (parwrite_at a b s f v0 ha hb hs hf (hid (HT.out.later t0.bel)) HW).mono ?_
  rintro e w1 ⟨rfl, hb1⟩
  have t1 := hid (t0.up hb1)
  have HO1 := hid (HOp.out.up hb1)
  clear hb1 t0 HOp
  by_cases hc : c = 0
  rotate_left
  · have hcn : (c != 0) = true := by simpa using hc
    obtain ⟨rfl, rfl⟩ := intoI_no HW.out hc H.out
    clear hc
    go_wp2_with fail
    go_returns
    exact ⟨_, rfl, HLv.nil _, t1.out.bel⟩
  subst hc
  obtain ⟨e1, rfl⟩ := intoI_ok HW.out H.out
  obtain ⟨K, hK⟩ : ∃ K, setH L kTP t = K := ⟨_, rfl⟩
  obtain ⟨u, hu⟩ : ∃ u, txtI L s = u := ⟨_, rfl⟩
  rw [hK, hu] at e1
  obtain ⟨G, hG⟩ : ∃ G, memI L s = G := ⟨_, rfl⟩
  have HKl := hid (show K.length ≤ L.length + 1 by rw [← hK]; exact (setH_small L kTP t (by decide) (by have := HWL.out; omega) HO1.out.2.2).1)
  have hgf := memI_facts L s
  rw [hG] at hgf
  have HE1 := hid e1
  have HK := hid hK
  have HG := hid hG
  have HGF := hid hgf
  have HU := hid (show joinM (cutI G G.length) = u by rw [← hu, ← hG]; rfl)
  have HUL := hid (show u.length ≤ 64 by rw [← hu]; exact txtI_len L s)
  clear e1 hK hu hG hgf H HW
  go_upto_region 4 with (fail)
  have z2 : w1.cell? ⟨w.heap.size, 2, none⟩ = some (.int .u64 (s : Int)) := (t1.out.c 2).1
  go_wp2_with fail
  clear z2
  refine (members_any v L s w1 HO1.out hs (hid (HE.out.later t1.out.bel)) HG).mono ?_
  rintro e w2 ⟨r2, rfl, hr2, hb2⟩
  have t2 := hid (t1.out.up hb2)
  have HO2 := hid (HO1.out.up hb2)
  have HR2 := hid hr2
  clear hb2 hr2
  go_wp2_with fail
  refine (fitting_any r2 G w2 HR2.out HGF.out.1 HGF.out.2.1 HGF.out.2.2 HU).mono ?_
  rintro e w3 ⟨rfl, hb3⟩
  have t3 := hid (t2.out.up hb3)
  have HO3 := hid (HO2.out.up hb3)
  clear hb3
  go_wp2_with fail
  refine (iset_any w3 HO3.out kTP t (by decide) (by have := HWL.out; omega) (by have := HLl.out; omega) HK).mono ?_
  rintro e w4 ⟨r4, rfl, hr4, hb4⟩
  have t4 := hid (t3.out.up hb4)
  have HR4 := hid hr4
  clear hb4 hr4
  go_wp2_with fail
  refine (iset_any w4 HR4.out kTS u (by decide) (by have := HUL.out; omega) (by have := HLl.out; have := HKl.out; omega) HE1).mono ?_
  rintro e w5 ⟨r5, rfl, hr5, hb5⟩
  have t5 := hid (t4.out.up hb5)
  have HR5 := hid hr5
  clear hb5 hr5
  go_wp2_with fail
  go_returns
  exact ⟨_, rfl, HR5.out, t5.out.bel⟩
end Go.Proofs.YtnbkpannhcamjaaGreatDoor
namespace Go.Proofs.YtnbkpannhcamjaaGreatDoor
set_option linter.unusedVariables false
set_option linter.unusedSimpArgs false
open Go.RowKit Go.Joins

def kMV : List UInt8 := [109, 101, 115, 104, 61, 48, 48, 48, 48, 48, 48, 48, 48, 48, 48, 48, 48, 48, 48, 48, 50, 44, 120, 61, 121]
def kPV : List UInt8 := [48, 48, 45, 48, 48, 48, 48, 48, 48, 48, 48, 48, 48, 48, 48, 48, 48, 48, 48, 48, 48, 48, 48, 48, 48, 48, 48, 48, 48, 48, 48, 48, 48, 48, 49, 45, 48, 48, 48, 48, 48, 48, 48, 48, 48, 48, 48, 48, 48, 48, 48, 50, 45, 48, 49]
def k23L : List Hd := [([97], [49]), (kTS, [120, 61, 121])]
def k23M : List Hd := [([97], [49]), (kTS, kMV), (kTP, kPV)]
theorem k23_into : intoI k23L 0 1 2 1 = (k23M, 0) := by decide +kernel
theorem k23_from : fromI k23M = ((0, 1, 2, 1), 0) := by decide +kernel
theorem k23_nil : fromI [] = ((0, 0, 0, 0), 9) := by decide +kernel
theorem k23_strip : stripI k23M = [([97], [49])] := by decide +kernel
section
variable {w w' : World} {v : Value} {L : List Hd}
theorem HLv.cut {A : Option Addr} {n c k : Nat} (h : HLv w (.slice A n c) L) (hn : L.length = n) (hk : k ≤ n) : HLv w (.slice A k c) (L.take k) := by
  obtain ⟨⟨A2, c2, e, h1, h2, h3, h4, h5⟩, h6, h7⟩ := h
  injection e with e1 e2 e3
  subst e1 e3
  have hl : (L.take k).length = k := by rw [List.length_take]; omega
  exact ⟨⟨A, c, by rw [hl], h1.take k, h2, by omega, h4, fun m hm => h5 m (List.mem_of_mem_take hm)⟩, by omega, fun m hm => h7 m (List.mem_of_mem_take hm)⟩
theorem HLv.two (w : World) (a b c d : List UInt8) (hs : ∀ h ∈ [(a, b), (c, d)], h.1.length ≤ 10000 ∧ h.2.length ≤ 10000) : HLv (w.alloc (.cells #[.string (bs a), .string (bs b), .string (bs c), .string (bs d)] 39)) (.slice (some ⟨w.heap.size, 0, none⟩) 2 2) [(a, b), (c, d)] := by
  have h : HB (w.alloc (.cells #[.string (bs a), .string (bs b), .string (bs c), .string (bs d)] 39)) w.heap.size (.slice (some ⟨w.heap.size, 0, none⟩) 2 2) [(a, b), (c, d)] := World.ownsRow_lit w #[.string (bs a), .string (bs b), .string (bs c), .string (bs d)] 2 (Nat.le_refl _) (by decide) rfl
  exact HLv.of_hb h (by simp) hs
theorem HLv.three (w : World) (a b c d e f : List UInt8) (hs : ∀ h ∈ [(a, b), (c, d), (e, f)], h.1.length ≤ 10000 ∧ h.2.length ≤ 10000) : HLv (w.alloc (.cells #[.string (bs a), .string (bs b), .string (bs c), .string (bs d), .string (bs e), .string (bs f)] 39)) (.slice (some ⟨w.heap.size, 0, none⟩) 3 3) [(a, b), (c, d), (e, f)] := by
  have h : HB (w.alloc (.cells #[.string (bs a), .string (bs b), .string (bs c), .string (bs d), .string (bs e), .string (bs f)] 39)) w.heap.size (.slice (some ⟨w.heap.size, 0, none⟩) 3 3) [(a, b), (c, d), (e, f)] := World.ownsRow_lit w #[.string (bs a), .string (bs b), .string (bs c), .string (bs d), .string (bs e), .string (bs f)] 3 (Nat.le_refl _) (by decide) rfl
  exact HLv.of_hb h (by simp) hs
end
theorem pr_same (w : World) (a b s : Nat) (f : Int) : (binOp .eql 27 (.agg #[.int .u64 (a : Int), .int .u64 (b : Int), .int .u64 (s : Int), .int .i64 f]) (.agg #[.int .u64 (a : Int), .int .u64 (b : Int), .int .u64 (s : Int), .int .i64 f])).run Tryz.prog w = .ok (.bool true) w := by
  rw [pr_eql, samePr_self]
theorem pr_diff (w : World) (a b s : Nat) (f : Int) : (binOp .neq 27 (.agg #[.int .u64 (a : Int), .int .u64 (b : Int), .int .u64 (s : Int), .int .i64 f]) (.agg #[.int .u64 (a : Int), .int .u64 (b : Int), .int .u64 (s : Int), .int .i64 f])).run Tryz.prog w = .ok (.bool false) w := by
  rw [pr_neq, samePr_self]; rfl
theorem k23_eq (w : World) : (binOp .eql 27 (.agg #[.int .u64 0, .int .u64 1, .int .u64 2, .int .i64 1]) (.agg #[.int .u64 0, .int .u64 1, .int .u64 2, .int .i64 1])).run Tryz.prog w = .ok (.bool true) w := pr_same w 0 1 2 1
theorem k23_c1 (y : Value) (w : World) (h : HLv w y k23L) (HT : Hid (Pce w)) (HE : Hid (EnvT w)) : Calls Tryz.prog 6 #[y, .agg #[.int .u64 0, .int .u64 1, .int .u64 2, .int .i64 1]] w fun e w' => ∃ r, e = .returned (.tuple #[r, .int .i64 0]) ∧ HLv w' r k23M ∧ Below w.heap.size w w' := into_any y k23L 0 1 2 1 w h (by decide) (hid (by decide)) (hid (by decide)) (hid (by decide)) (hid (by decide)) HT HE (hid k23_into)
theorem k23_c2 (y : Value) (w : World) (h : HLv w y k23M) (HT : Hid (Pce w)) : Calls Tryz.prog 8 #[y] w fun e w' => e = .returned (.tuple #[.agg #[.int .u64 0, .int .u64 1, .int .u64 2, .int .i64 1], .int .i64 0]) ∧ Below w.heap.size w w' := ifrom_any y k23M w h HT (hid k23_from)
theorem k23_c3 (w : World) (HT : Hid (Pce w)) : Calls Tryz.prog 8 #[.slice none 0 0] w fun e w' => e = .returned (.tuple #[.agg #[.int .u64 0, .int .u64 0, .int .u64 0, .int .i64 0], .int .i64 9]) ∧ Below w.heap.size w w' := ifrom_any (.slice none 0 0) [] w (HLv.nil w) HT (hid k23_nil)
theorem k23_c4 (y u : Value) (w : World) (h : HLv w y k23M) (k : HLv w u k23M) : Calls Tryz.prog 10 #[y, u] w fun e w' => e = .returned (.bool true) ∧ Below w.heap.size w w' := isame_any w h k (hid (by simp))
theorem k23_c5 (y : Value) (w : World) (h : HLv w y k23M) : Calls Tryz.prog 11 #[y] w fun e w' => ∃ r, e = .returned r ∧ HLv w' r [([97], [49])] ∧ Below w.heap.size w w' := istrip_any y k23M w h (hid k23_strip)
theorem k23_c6 (y u : Value) (w : World) (h : HLv w y [([97], [49])]) (k : HLv w u [([97], [49])]) : Calls Tryz.prog 10 #[y, u] w fun e w' => e = .returned (.bool true) ∧ Below w.heap.size w w' := isame_any w h k (hid (by simp))
theorem keep8 {w9 w' : World} {g h : Nat} {x0 x1 x2 x3 y0 y1 y2 y3 : Value} (k1 : Vk w9 g 27 #[x0, x1, x2, x3]) (k2 : Vk w9 h 27 #[y0, y1, y2, y3]) (hz : Below w9.heap.size w9 w') : w'.cell? ⟨g, 0, none⟩ = some x0 ∧ w'.cell? ⟨g, 1, none⟩ = some x1 ∧ w'.cell? ⟨g, 2, none⟩ = some x2 ∧ w'.cell? ⟨g, 3, none⟩ = some x3 ∧ w'.cell? ⟨h, 0, none⟩ = some y0 ∧ w'.cell? ⟨h, 1, none⟩ = some y1 ∧ w'.cell? ⟨h, 2, none⟩ = some y2 ∧ w'.cell? ⟨h, 3, none⟩ = some y3 ∧ Below w9.heap.size w9 w' :=
  ⟨Vk.cell (k1.up hz) 0, Vk.cell (k1.up hz) 1, Vk.cell (k1.up hz) 2, Vk.cell (k1.up hz) 3, Vk.cell (k2.up hz) 0, Vk.cell (k2.up hz) 1, Vk.cell (k2.up hz) 2, Vk.cell (k2.up hz) 3, hz⟩
set_option maxRecDepth 100000 in
set_option maxHeartbeats 8000000 in
theorem known23_any (w : World) (HT : Hid (Pce w)) (HE : Hid (EnvT w)) : Calls Tryz.prog 5 #[] w fun e w' => e = .returned (.bool true) ∧ Below w.heap.size w w' := by
  have l1 : (ByteArray.mk #[97]) = bs [97] := rfl
  have l2 : (ByteArray.mk #[49]) = bs [49] := rfl
  have l3 : (ByteArray.mk #[116, 114, 97, 99, 101, 115, 116, 97, 116, 101]) = bs kTS := rfl
  have l4 : (ByteArray.mk #[120, 61, 121]) = bs [120, 61, 121] := rfl
  have l5 : (ByteArray.mk #[109, 101, 115, 104, 61, 48, 48, 48, 48, 48, 48, 48, 48, 48, 48, 48, 48, 48, 48, 48, 50, 44, 120, 61, 121]) = bs kMV := rfl
  have l6 : (ByteArray.mk #[116, 114, 97, 99, 101, 112, 97, 114, 101, 110, 116]) = bs kTP := rfl
  have l7 : (ByteArray.mk #[48, 48, 45, 48, 48, 48, 48, 48, 48, 48, 48, 48, 48, 48, 48, 48, 48, 48, 48, 48, 48, 48, 48, 48, 48, 48, 48, 48, 48, 48, 48, 48, 48, 48, 49, 45, 48, 48, 48, 48, 48, 48, 48, 48, 48, 48, 48, 48, 48, 48, 48, 50, 45, 48, 49]) = bs kPV := rfl
  have hg := pr_guard
  have he := k23_eq
  have hb0 := ienew w (.cells #[.int .u64 0, .int .u64 1, .int .u64 2, .int .i64 1] 27)
  have T1 := hid (Vk.new w 27 #[.int .u64 0, .int .u64 1, .int .u64 2, .int .i64 1])
  have HB := hid hb0
  go_enter Tryz.func5, Tryz.ntmps5
  go_upto_region 2 with (fail)
  generalize w.alloc (.cells #[.int .u64 0, .int .u64 1, .int .u64 2, .int .i64 1] 27) = v0 at *
  have hb1 := ienew v0 (.cells #[.string (bs [97]), .string (bs [49]), .string (bs kTS), .string (bs [120, 61, 121])] 39)
  have HL0 := hid (HLv.two v0 [97] [49] kTS [120, 61, 121] (by decide))
  have T1 := hid (T1.out.up hb1)
  have z0 : (v0.alloc (.cells #[.string (bs [97]), .string (bs [49]), .string (bs kTS), .string (bs [120, 61, 121])] 39)).cell? ⟨w.heap.size, 0, none⟩ = some (.int .u64 0) := Vk.cell T1.out 0
  have z1 : (v0.alloc (.cells #[.string (bs [97]), .string (bs [49]), .string (bs kTS), .string (bs [120, 61, 121])] 39)).cell? ⟨w.heap.size, 1, none⟩ = some (.int .u64 1) := Vk.cell T1.out 1
  have z2 : (v0.alloc (.cells #[.string (bs [97]), .string (bs [49]), .string (bs kTS), .string (bs [120, 61, 121])] 39)).cell? ⟨w.heap.size, 2, none⟩ = some (.int .u64 2) := Vk.cell T1.out 2
  have z3 : (v0.alloc (.cells #[.string (bs [97]), .string (bs [49]), .string (bs kTS), .string (bs [120, 61, 121])] 39)).cell? ⟨w.heap.size, 3, none⟩ = some (.int .i64 1) := Vk.cell T1.out 3
  have HBa := hid (iestep HB.out hb1)
  clear hb0 HB
  go_wp2_with fail
  clear z0 z1 z2 z3
  generalize v0.alloc (.cells #[.string (bs [97]), .string (bs [49]), .string (bs kTS), .string (bs [120, 61, 121])] 39) = v1 at *
  refine (k23_c1 _ v1 HL0.out (hid (HT.out.later HBa.out)) (hid (HE.out.later HBa.out))).mono ?_
  rintro e w2 ⟨r2, rfl, hr2, hb2⟩
  have T1 := hid (T1.out.up hb2)
  have HB2 := hid (iestep HBa.out hb2)
  have hb3 := ienew w2 (.cells #[.string (bs [97]), .string (bs [49]), .string (bs kTS), .string (bs kMV), .string (bs kTP), .string (bs kPV)] 39)
  have HL1 := hid (HLv.three w2 [97] [49] kTS kMV kTP kPV (by decide))
  have T1 := hid (T1.out.up hb3)
  have HB3 := hid (iestep HB2.out hb3)
  have HR2 := hid (hr2.up hb3)
  clear hb2 hr2 hb3 hb1
  go_upto_region 4 with (fail)
  generalize w2.alloc (.cells #[.string (bs [97]), .string (bs [49]), .string (bs kTS), .string (bs kMV), .string (bs kTP), .string (bs kPV)] 39) = v3 at *
  go_wp2_with fail
  refine (k23_c2 _ v3 HR2.out (hid (HT.out.later HB3.out))).mono ?_
  rintro e w4 ⟨rfl, hb4⟩
  have T1 := hid (T1.out.up hb4)
  have HB4 := hid (iestep HB3.out hb4)
  have HR2 := hid (HR2.out.up hb4)
  have HL1 := hid (HL1.out.up hb4)
  have hb5 := ienew w4 (.cells #[.int .u64 0, .int .u64 1, .int .u64 2, .int .i64 1] 27)
  have T1 := hid (T1.out.up hb5)
  have HB5 := hid (iestep HB4.out hb5)
  have HR2 := hid (HR2.out.up hb5)
  have HL1 := hid (HL1.out.up hb5)
  have T5 := hid (Vk.new w4 27 #[.int .u64 0, .int .u64 1, .int .u64 2, .int .i64 1])
  clear hb4 hb5
  go_upto_region 5 with (fail)
  generalize w4.alloc (.cells #[.int .u64 0, .int .u64 1, .int .u64 2, .int .i64 1] 27) = v4 at *
  go_wp2_with fail
  refine (k23_c3 v4 (hid (HT.out.later HB5.out))).mono ?_
  rintro e w6 ⟨rfl, hb6⟩
  have hb7 := ienew w6 (.cells #[.int .u64 0, .int .u64 0, .int .u64 0, .int .i64 0] 27)
  have T1 := hid ((T1.out.up hb6).up hb7)
  have T5 := hid ((T5.out.up hb6).up hb7)
  have HR2 := hid ((HR2.out.up hb6).up hb7)
  have HL1 := hid ((HL1.out.up hb6).up hb7)
  have HB7 := hid (iestep (iestep HB5.out hb6) hb7)
  clear hb6 hb7
  go_upto_region 6 with (fail)
  generalize w6.alloc (.cells #[.int .u64 0, .int .u64 0, .int .u64 0, .int .i64 0] 27) = w9 at *
  obtain ⟨A2, c2, rfl⟩ : ∃ A c, r2 = .slice A 3 c := by
    obtain ⟨⟨A, c, e, -⟩, -⟩ := HR2.out
    exact ⟨A, c, e⟩
  have hc2 : (1 : Int) ≤ (c2 : Int) := by
    obtain ⟨⟨A, c, e, -, -, h, -⟩, -⟩ := HR2.out
    injection e with _ _ e
    have : k23M.length = 3 := rfl
    omega
  have HCu := hid (HR2.out.cut (k := 1) rfl (by omega))
  have HSA := hid (fun (w2 : World) (hb : Below w9.heap.size w9 w2) => k23_c4 _ _ w2 (HR2.out.up hb) (HL1.out.up hb))
  have HST := hid (fun (w2 : World) (hb : Below w9.heap.size w9 w2) => k23_c5 _ w2 (HR2.out.up hb))
  have HSB := hid (fun (w2 : World) (y : Value) (hb : Below w9.heap.size w9 w2) (hy : HLv w2 y [([97], [49])]) => k23_c6 y _ w2 hy (show HLv w2 (.slice A2 1 c2) [([97], [49])] from HCu.out.up hb))
  have z0 : w9.cell? ⟨w.heap.size, 0, none⟩ = some (.int .u64 0) := Vk.cell T1.out 0
  have y0 : w9.cell? ⟨w4.heap.size, 0, none⟩ = some (.int .u64 0) := Vk.cell T5.out 0
  have z1 : w9.cell? ⟨w.heap.size, 1, none⟩ = some (.int .u64 1) := Vk.cell T1.out 1
  have y1 : w9.cell? ⟨w4.heap.size, 1, none⟩ = some (.int .u64 1) := Vk.cell T5.out 1
  have z2 : w9.cell? ⟨w.heap.size, 2, none⟩ = some (.int .u64 2) := Vk.cell T1.out 2
  have y2 : w9.cell? ⟨w4.heap.size, 2, none⟩ = some (.int .u64 2) := Vk.cell T5.out 2
  have z3 : w9.cell? ⟨w.heap.size, 3, none⟩ = some (.int .i64 1) := Vk.cell T1.out 3
  have y3 : w9.cell? ⟨w4.heap.size, 3, none⟩ = some (.int .i64 1) := Vk.cell T5.out 3
  have hz : Below w9.heap.size w9 w9.drew := (Below.refl _ _).drew
  go_region_held3 (fun w' => w'.cell? ⟨w.heap.size, 0, none⟩ = some (.int .u64 0) ∧ w'.cell? ⟨w.heap.size, 1, none⟩ = some (.int .u64 1) ∧ w'.cell? ⟨w.heap.size, 2, none⟩ = some (.int .u64 2) ∧ w'.cell? ⟨w.heap.size, 3, none⟩ = some (.int .i64 1) ∧ w'.cell? ⟨w4.heap.size, 0, none⟩ = some (.int .u64 0) ∧ w'.cell? ⟨w4.heap.size, 1, none⟩ = some (.int .u64 1) ∧ w'.cell? ⟨w4.heap.size, 2, none⟩ = some (.int .u64 2) ∧ w'.cell? ⟨w4.heap.size, 3, none⟩ = some (.int .i64 1) ∧ Below w9.heap.size w9 w') (first | (with_reducible exact keep8 T1.out T5.out hz) | (with_reducible exact keep8 T1.out T5.out (hz.trans (Below.mono (by assumption) hz.size)))) (first
    | (go_at_call 10
       (first
         | ((with_reducible refine (HSA.out _ hz).mono ?_); rintro e wa ⟨rfl, hy⟩)
         | ((with_reducible refine (HSB.out _ _ hz hr5).mono ?_); rintro e wa ⟨rfl, hy⟩))
       have hz := hz.trans (hy.mono hz.size))
    | (go_at_call 11
       ((with_reducible refine (HST.out _ hz).mono ?_); rintro e wa ⟨r5, rfl, hr5, hy⟩)
       have hz := hz.trans (hy.mono hz.size)))
  all_goals
    go_wp2_with fail
    go_returns
    exact ⟨rfl, iestep HB7.out hz⟩
end Go.Proofs.YtnbkpannhcamjaaGreatDoor
namespace Go.Proofs.YtnbkpannhcamjaaGreatDoor
set_option linter.unusedVariables false
set_option linter.unusedSimpArgs false
open Go.RowKit Go.Joins

set_option maxRecDepth 100000 in
set_option maxHeartbeats 8000000 in
theorem rinto_any (v : Value) (L : List Hd) (a b s : Nat) (f : Int) (w : World) (h : HLv w v L) (hl : L.length ≤ 500) (ha : Hid (a < 18446744073709551616)) (hb : Hid (b < 18446744073709551616)) (hs : Hid (s < 18446744073709551616)) (hf : Hid (-9223372036854775808 ≤ f ∧ f ≤ 9223372036854775807)) {M : List Hd} {z : Int} (H : Hid (intoI L a b s f = (M, z))) :
    Calls Tryz.prog 7 #[v, .agg #[.int .u64 (a : Int), .int .u64 (b : Int), .int .u64 (s : Int), .int .i64 f]] w fun e w' => ∃ r, e = .returned (.tuple #[r, .int .i64 z]) ∧ HLv w' r M ∧ Below w.heap.size w w' := by
  have c1 : (ByteArray.mk #[116, 114, 97, 99, 101, 112, 97, 114, 101, 110, 116]) = bs kTP := rfl
  have c2 : (ByteArray.mk #[116, 114, 97, 99, 101, 115, 116, 97, 116, 101]) = bs kTS := rfl
  have c3 : (ByteArray.mk #[109, 101, 115, 104]) = bs kMesh := rfl
  have t0 := PrV.new w #[.int .u64 (a : Int), .int .u64 (b : Int), .int .u64 (s : Int), .int .i64 f]
  have HOp := hid (h.up t0.bel)
  have HLl := hid hl
  obtain ⟨t, c, hw⟩ : ∃ t c, wrS a b s f = (t, c) := ⟨_, _, rfl⟩
  have HW := hid hw
  have HWL := hid (wrS_len hw)
  clear h hl hw
  go_enter Tryz.func7, Tryz.ntmps7
  go_upto_region 1 with (fail)
  generalize w.alloc (.cells #[.int .u64 (a : Int), .int .u64 (b : Int), .int .u64 (s : Int), .int .i64 f] 27) = v0 at *
  have z0 : v0.cell? ⟨w.heap.size, 0, none⟩ = some (.int .u64 (a : Int)) := (t0.c 0).1
  have z1 : v0.cell? ⟨w.heap.size, 1, none⟩ = some (.int .u64 (b : Int)) := (t0.c 1).1
  have z2 : v0.cell? ⟨w.heap.size, 2, none⟩ = some (.int .u64 (s : Int)) := (t0.c 2).1
  have z3 : v0.cell? ⟨w.heap.size, 3, none⟩ = some (.int .i64 f) := (t0.c 3).1
  go_wp2_with fail
  clear z0 z1 z2 z3
  refine (rparwrite_at a b s f v0 ha hb hs hf HW).mono ?_
  rintro e w1 ⟨rfl, hb1⟩
  have t1 := hid (t0.up hb1)
  have HO1 := hid (HOp.out.up hb1)
  clear hb1 t0 HOp
  by_cases hc : c = 0
  rotate_left
  · have hcn : (c != 0) = true := by simpa using hc
    obtain ⟨rfl, rfl⟩ := intoI_no HW.out hc H.out
    clear hc
    go_wp2_with fail
    go_returns
    exact ⟨_, rfl, HLv.nil _, t1.out.bel⟩
  subst hc
  obtain ⟨e1, rfl⟩ := intoI_ok HW.out H.out
  obtain ⟨K, hK⟩ : ∃ K, setH L kTP t = K := ⟨_, rfl⟩
  obtain ⟨u, hu⟩ : ∃ u, txtI L s = u := ⟨_, rfl⟩
  rw [hK, hu] at e1
  obtain ⟨G, hG⟩ : ∃ G, memI L s = G := ⟨_, rfl⟩
  have HKl := hid (show K.length ≤ L.length + 1 by rw [← hK]; exact (setH_small L kTP t (by decide) (by have := HWL.out; omega) HO1.out.2.2).1)
  have hgf := memI_facts L s
  rw [hG] at hgf
  have HE1 := hid e1
  have HK := hid hK
  have HG := hid hG
  have HGF := hid hgf
  have HU := hid (show joinM (cutI G G.length) = u by rw [← hu, ← hG]; rfl)
  have HUL := hid (show u.length ≤ 64 by rw [← hu]; exact txtI_len L s)
  clear e1 hK hu hG hgf H HW
  obtain ⟨tt, tb, hgt⟩ : ∃ t b, getH L kTS = (t, b) := ⟨_, _, rfl⟩
  obtain ⟨Xr, xr, hrd⟩ : ∃ X x, readM tt = (X, x) := ⟨_, _, rfl⟩
  have hpt := memI_put s hgt
  rw [HG.out, hrd] at hpt
  have HGT := hid hgt
  have HRD := hid hrd
  have HPT := hid hpt
  have HTT := hid (show tt.length ≤ 90000 by have := getH_small L kTS HO1.out.2.2; rw [hgt] at this; simp only at this; omega)
  clear hgt hrd hpt
  go_upto_region 4 with (fail)
  go_wp2_with fail
  refine (riget_any w1 HO1.out kTS HGT).mono ?_
  rintro e w2 ⟨rfl, hb2⟩
  have t2 := hid (t1.out.up hb2)
  have HO2 := hid (HO1.out.up hb2)
  clear hb2
  go_wp2_with fail
  refine (d_rread w2 tt HTT.out HRD).mono ?_
  rintro e w3 ⟨⟨r3, rfl, hr3⟩, hb3⟩
  have t3 := hid (t2.out.up hb3)
  have HO3 := hid (HO2.out.up hb3)
  have HR3 := hid hr3
  clear hb3 hr3
  go_upto_region 6 with (fail)
  have z2 : w3.cell? ⟨w.heap.size, 2, none⟩ = some (.int .u64 (s : Int)) := (t3.out.c 2).1
  go_wp2_with fail
  clear z2
  refine (rspan_any s w3 hs).mono ?_
  rintro e w4 ⟨rfl, hb4⟩
  have t4 := hid (t3.out.up hb4)
  have HO4 := hid (HO3.out.up hb4)
  have HR4 := hid (HR3.out.up hb4)
  clear hb4
  go_wp2_with fail
  refine (d_rput w4 HR4.out kMesh (hx 16 s) (by decide) (by rw [hx_length]; omega) HPT).mono ?_
  rintro e w5 ⟨⟨r5, rfl, hr5⟩, hb5⟩
  have t5 := hid (t4.out.up hb5)
  have HO5 := hid (HO4.out.up hb5)
  obtain ⟨A5, c5, rfl, k5, -, -, -⟩ := id hr5
  obtain ⟨n, hn⟩ : ∃ n, G.length = n := ⟨_, rfl⟩
  rw [hn] at hr5 k5
  have HR5 := hid hr5
  have HN := hid hn
  have hn32 : n ≤ 32 := by rw [← hn]; exact HGF.out.1.2.2
  have hn0 : 0 < n := by rw [← hn]; exact HGF.out.2.1
  obtain ⟨q0, hq0⟩ : ∃ u, joinM (G.take n) = u := ⟨_, rfl⟩
  have HQ0 := hid hq0
  have HW0 := hid (show writeM G = (q0, 0) by rw [← hq0, ← hn, List.take_length]; have := writeM_take HGF.out.1 G.length; rwa [List.take_length] at this)
  clear hb5 hr5 hq0
  simp only [hn]
  clear hn
  go_wp2_with fail
  refine (d_rwrite w5 HR5.out HW0).mono ?_
  rintro e w6 ⟨rfl, hb6⟩
  have t6 := hid (t5.out.up hb6)
  have HO6 := hid (HO5.out.up hb6)
  have HR6 := hid (HR5.out.up hb6)
  clear hb6
  go_wp2_with fail
  go_loopw [10, 12] (fun l x wr => ∃ (k : Nat) (y : List UInt8), 0 < k ∧ k ≤ n ∧ l = .slice A5 k c5 ∧ x = .string (bs y) ∧ Hid (cutI G n = cutI G k ∧ joinM (G.take k) = y ∧ RD wr (.slice A5 k c5) (G.take k) ∧ HLv wr v L ∧ Below w.heap.size w wr)) (fun l _ _ => match l with | .slice _ k _ => k | _ => 0)
  case atStart => exact ⟨n, q0, hn0, Nat.le_refl _, rfl, rfl, hid ⟨rfl, HQ0.out, HR6.out.cut HN.out (Nat.le_refl _), HO6.out, t6.out.bel⟩⟩
  case round =>
    obtain ⟨k, y, hk0, hkn, rfl, rfl, HK2⟩ := hrel
    by_cases hy : y.length ≤ 64
    · have hd : decide ((64 : Int) < (y.length : Int)) = false := decide_eq_false (by omega)
      have hd2 : ¬ ((64 : Int) < (y.length : Int)) := by omega
      have HY := hid (show y = u by
        obtain ⟨j, rfl⟩ : ∃ j, k = j + 1 := ⟨k - 1, by omega⟩
        rw [← HU.out, HN.out, HK2.out.1, cutI, if_pos (by rw [HK2.out.2.1]; exact hy), HK2.out.2.1])
      clear hy
      obtain rfl := HY.out
      go_wp2_with fail
      refine (riset_any wr HK2.out.2.2.2.1 kTP t (by decide) (by have := HWL.out; omega) (by have := HLl.out; omega) HK).mono ?_
      rintro e w7 ⟨r7, rfl, hr7, hb7⟩
      have HB7 := hid (HK2.out.2.2.2.2.trans (hb7.mono HK2.out.2.2.2.2.size))
      have HR7 := hid hr7
      clear hb7 hr7
      go_wp2_with fail
      refine (riset_any w7 HR7.out kTS _ (by decide) (by have := HUL.out; omega) (by have := HLl.out; have := HKl.out; omega) HE1).mono ?_
      rintro e w8 ⟨r8, rfl, hr8, hb8⟩
      have HB8 := hid (HB7.out.trans (hb8.mono HB7.out.size))
      have HR8 := hid hr8
      clear hb8 hr8
      go_wp2_with fail
      go_returns
      exact ⟨_, rfl, HR8.out, HB8.out⟩
    · have hd : decide ((64 : Int) < (y.length : Int)) = true := decide_eq_true (by omega)
      have hd2 : (64 : Int) < (y.length : Int) := by omega
      have hk1 : 1 < k := by
        rcases Nat.lt_or_ge 1 k with h | h
        · exact h
        · have : k = 1 := by omega
          subst this
          have := HGF.out.2.2
          rw [HK2.out.2.1] at this
          omega
      have HF := hid (show cutI G n = cutI G (k - 1) by
        obtain ⟨j, rfl⟩ : ∃ j, k = j + 1 := ⟨k - 1, by omega⟩
        rw [HK2.out.1, cutI, if_neg (by rw [HK2.out.2.1]; exact hy)]
        rfl)
      have hkc : (k : Int) - 1 ≤ (c5 : Int) := by omega
      have hk2 : (0 : Int) ≤ (k : Int) - 1 := by omega
      have hkw : wrap64 ((k : Int) - 1) = (k : Int) - 1 := by unfold wrap64; omega
      have hkw2 : IntKind.i64.wrap ((k : Int) - 1) = ((k - 1 : Nat) : Int) := by rw [IntKind.wrap_i64]; omega
      have h3 := HK2.out.2.2.1.cut (k := k - 1) (by rw [List.length_take]; have := HN.out; omega) (by omega)
      rw [List.take_take, Nat.min_eq_left (by omega)] at h3
      have HR3' := hid h3
      obtain ⟨y2, hy2⟩ : ∃ u, joinM (G.take (k - 1)) = u := ⟨_, rfl⟩
      have HY2 := hid hy2
      have HW2 := hid (show writeM (G.take (k - 1)) = (y2, 0) by rw [← hy2]; exact writeM_take HGF.out.1 _)
      clear hy h3 hy2
      go_wp2_with fail
      refine (d_rwrite wr HR3'.out HW2).mono ?_
      rintro e w7 ⟨rfl, hb7⟩
      have HB7 := hid (HK2.out.2.2.2.2.trans (hb7.mono HK2.out.2.2.2.2.size))
      have HR7 := hid (HR3'.out.up hb7)
      have HO7 := hid (HK2.out.2.2.2.1.up hb7)
      clear hb7
      go_wp2_with fail
      go_roundw
      case rel => exact ⟨k - 1, y2, by omega, by omega, by first | rfl | go_num, by first | rfl | trivial, hid ⟨HF.out, HY2.out, HR7.out, HO7.out, HB7.out⟩⟩
      case measure => simp; omega
end Go.Proofs.YtnbkpannhcamjaaGreatDoor
namespace Go.Proofs.YtnbkpannhcamjaaGreatDoor
set_option linter.unusedVariables false
set_option linter.unusedSimpArgs false
open Go.RowKit Go.Joins

theorem hx_up {w w' : World} {v : Value} {L : List Hd} (h : HX w (· < w.heap.size) v L) (hb : Below w.heap.size w w') : HX w' (· < w'.heap.size) v L := by
  obtain ⟨A, c, e, h1, h2⟩ := h
  exact ⟨A, c, e, h1.up hb, h2⟩
set_option maxRecDepth 100000 in
set_option maxHeartbeats 16000000 in
theorem injectSays_walk (v : Value) (L : List Hd) (a b s : Nat) (f : Int) (ha : Hid (a < 18446744073709551616)) (hb : Hid (b < 18446744073709551616)) (hs : Hid (s < 18446744073709551616)) (hf : Hid (-9223372036854775808 ≤ f ∧ f ≤ 9223372036854775807)) (w : World) (E : Pce w ∧ EnvT w) (h : HX w (· < w.heap.size) v L) :
    Calls Tryz.prog 3 #[v, .agg #[.int .u64 (a : Int), .int .u64 (b : Int), .int .u64 (s : Int), .int .i64 f]] w fun e w' => e = .returned (.bool true) ∧ Below w.heap.size w w' := by
  have l1 : (ByteArray.mk #[116, 114, 97, 99, 101, 112, 97, 114, 101, 110, 116]) = bs kTP := rfl
  have l2 : (ByteArray.mk #[116, 114, 97, 99, 101, 115, 116, 97, 116, 101]) = bs kTS := rfl
  have HT := hid E.1
  have HE := hid E.2
  have hg := pr_guard
  have hnot : ∀ (x : Bool) (w : World), (Op.unary .not (.bool x)).run Tryz.prog w = .ok (.bool (!x)) w := fun _ _ => rfl
  have HBel := hid (Below.refl w.heap.size w)
  obtain ⟨A, c, hv, -, -, -, -⟩ := id h
  have HXo := hid h
  clear E h
  have hb_p := ienew w (.cells #[.int .u64 (a : Int), .int .u64 (b : Int), .int .u64 (s : Int), .int .i64 f] 27)
  have HBel := hid (iestep HBel.out hb_p)
  have HXo : Hid (HX (w.alloc (.cells #[.int .u64 (a : Int), .int .u64 (b : Int), .int .u64 (s : Int), .int .i64 f] 27)) (· < (w.alloc (.cells #[.int .u64 (a : Int), .int .u64 (b : Int), .int .u64 (s : Int), .int .i64 f] 27)).heap.size) v L) := hid (hx_up HXo.out hb_p)
  have T_p : Hid (Vk (w.alloc (.cells #[.int .u64 (a : Int), .int .u64 (b : Int), .int .u64 (s : Int), .int .i64 f] 27)) w.heap.size 27 #[.int .u64 (a : Int), .int .u64 (b : Int), .int .u64 (s : Int), .int .i64 f]) := hid (Vk.new _ _ _)
  clear hb_p
  generalize hv0 : w.alloc (.cells #[.int .u64 (a : Int), .int .u64 (b : Int), .int .u64 (s : Int), .int .i64 f] 27) = v0 at *
  obtain ⟨fo, hfo⟩ : ∃ b, fewOk L = b := ⟨_, rfl⟩
  have HFO := hid hfo
  clear hv hfo
  go_enter Tryz.func3, Tryz.ntmps3
  go_upto_region 1 with (fail)
  (try rw [hv0])
  clear hv0
  go_wp2_with fail
  refine (ifew_any v0 HXo.out HFO).mono ?_
  rintro e w0 ⟨rfl, hb0⟩
  have T_p := hid (T_p.out.up hb0)
  have HBel := hid (iestep HBel.out hb0)
  have HXo := hid (hx_up HXo.out hb0)
  clear hb0
  cases fo
  · go_wp2_with fail
    refine (known23_any _ (hid (HT.out.later HBel.out)) (hid (HE.out.later HBel.out))).mono ?_
    rintro e w99 ⟨rfl, hb99⟩
    have HBel := hid (iestep HBel.out hb99)
    go_wp2_with fail
    go_returns
    exact ⟨rfl, HBel.out⟩
  have HLf := HLv.of_few HXo.out HFO.out
  have O_l := hid HLf.1
  have HL := hid HLf.2
  clear HLf HXo HFO
  obtain ⟨M, z, hM⟩ : ∃ M z, intoI L a b s f = (M, z) := ⟨_, _, rfl⟩
  obtain ⟨xa, xb, xs, xf, y, hF⟩ : ∃ xa xb xs xf y, fromI L = ((xa, xb, xs, xf), y) := ⟨_, _, _, _, _, rfl⟩
  obtain ⟨S, hS⟩ : ∃ S, stripI L = S := ⟨_, rfl⟩
  have HM := hid hM
  have HF := hid hF
  have HS := hid hS
  have he : ∀ w : World, (binOp .eql 27 (.agg #[.int .u64 (xa : Int), .int .u64 (xb : Int), .int .u64 (xs : Int), .int .i64 (xf : Int)]) (.agg #[.int .u64 (xa : Int), .int .u64 (xb : Int), .int .u64 (xs : Int), .int .i64 (xf : Int)])).run Tryz.prog w = .ok (.bool true) w := fun w => pr_same w xa xb xs xf
  clear hM hF hS
  go_upto_region 3 with (fail)
  have f_p0 : w0.cell? ⟨w.heap.size, 0, none⟩ = some (.int .u64 (a : Int)) := Vk.cell T_p.out 0
  have f_p1 : w0.cell? ⟨w.heap.size, 1, none⟩ = some (.int .u64 (b : Int)) := Vk.cell T_p.out 1
  have f_p2 : w0.cell? ⟨w.heap.size, 2, none⟩ = some (.int .u64 (s : Int)) := Vk.cell T_p.out 2
  have f_p3 : w0.cell? ⟨w.heap.size, 3, none⟩ = some (.int .i64 f) := Vk.cell T_p.out 3
  go_wp2_with fail
  clear f_p0 f_p1 f_p2 f_p3
  refine (into_any _ _ a b s f _ O_l.out (by have := HL.out; omega) ha hb hs hf (hid (HT.out.later HBel.out)) (hid (HE.out.later HBel.out)) HM).mono ?_
  rintro e w1 ⟨y1, rfl, hy1, hb1⟩
  have T_p := hid (T_p.out.up hb1)
  have O_l := hid (O_l.out.up hb1)
  have HBel := hid (iestep HBel.out hb1)
  have O_a := hid hy1
  clear hy1 hb1
  go_upto_region 4 with (fail)
  have f_p0 : w1.cell? ⟨w.heap.size, 0, none⟩ = some (.int .u64 (a : Int)) := Vk.cell T_p.out 0
  have f_p1 : w1.cell? ⟨w.heap.size, 1, none⟩ = some (.int .u64 (b : Int)) := Vk.cell T_p.out 1
  have f_p2 : w1.cell? ⟨w.heap.size, 2, none⟩ = some (.int .u64 (s : Int)) := Vk.cell T_p.out 2
  have f_p3 : w1.cell? ⟨w.heap.size, 3, none⟩ = some (.int .i64 f) := Vk.cell T_p.out 3
  go_wp2_with fail
  clear f_p0 f_p1 f_p2 f_p3
  refine (rinto_any _ _ a b s f _ O_l.out (by have := HL.out; omega) ha hb hs hf HM).mono ?_
  rintro e w2 ⟨y2, rfl, hy2, hb2⟩
  have T_p := hid (T_p.out.up hb2)
  have O_l := hid (O_l.out.up hb2)
  have O_a := hid (O_a.out.up hb2)
  have HBel := hid (iestep HBel.out hb2)
  have O_b := hid hy2
  clear hy2 hb2
  go_upto_region 5 with (fail)
  go_wp2_with fail
  refine (ifrom_any _ _ _ O_l.out (hid (HT.out.later HBel.out)) HF).mono ?_
  rintro e w3 ⟨rfl, hb3⟩
  have T_p := hid (T_p.out.up hb3)
  have O_l := hid (O_l.out.up hb3)
  have O_a := hid (O_a.out.up hb3)
  have O_b := hid (O_b.out.up hb3)
  have HBel := hid (iestep HBel.out hb3)
  clear hb3
  have hb_x := ienew w3 (.cells #[.int .u64 (xa : Int), .int .u64 (xb : Int), .int .u64 (xs : Int), .int .i64 (xf : Int)] 27)
  have T_p := hid (T_p.out.up hb_x)
  have O_l := hid (O_l.out.up hb_x)
  have O_a := hid (O_a.out.up hb_x)
  have O_b := hid (O_b.out.up hb_x)
  have HBel := hid (iestep HBel.out hb_x)
  have T_x : Hid (Vk (w3.alloc (.cells #[.int .u64 (xa : Int), .int .u64 (xb : Int), .int .u64 (xs : Int), .int .i64 (xf : Int)] 27)) w3.heap.size 27 #[.int .u64 (xa : Int), .int .u64 (xb : Int), .int .u64 (xs : Int), .int .i64 (xf : Int)]) := hid (Vk.new _ _ _)
  clear hb_x
  go_upto_region 6 with (fail)
  generalize w3.alloc (.cells #[.int .u64 (xa : Int), .int .u64 (xb : Int), .int .u64 (xs : Int), .int .i64 (xf : Int)] 27) = v3 at *
  go_wp2_with fail
  refine (rifrom_any _ _ _ O_l.out HF).mono ?_
  rintro e w4 ⟨rfl, hb4⟩
  have T_p := hid (T_p.out.up hb4)
  have T_x := hid (T_x.out.up hb4)
  have O_l := hid (O_l.out.up hb4)
  have O_a := hid (O_a.out.up hb4)
  have O_b := hid (O_b.out.up hb4)
  have HBel := hid (iestep HBel.out hb4)
  clear hb4
  have hb_y := ienew w4 (.cells #[.int .u64 (xa : Int), .int .u64 (xb : Int), .int .u64 (xs : Int), .int .i64 (xf : Int)] 27)
  have T_p := hid (T_p.out.up hb_y)
  have T_x := hid (T_x.out.up hb_y)
  have O_l := hid (O_l.out.up hb_y)
  have O_a := hid (O_a.out.up hb_y)
  have O_b := hid (O_b.out.up hb_y)
  have HBel := hid (iestep HBel.out hb_y)
  have T_y : Hid (Vk (w4.alloc (.cells #[.int .u64 (xa : Int), .int .u64 (xb : Int), .int .u64 (xs : Int), .int .i64 (xf : Int)] 27)) w4.heap.size 27 #[.int .u64 (xa : Int), .int .u64 (xb : Int), .int .u64 (xs : Int), .int .i64 (xf : Int)]) := hid (Vk.new _ _ _)
  clear hb_y
  go_upto_region 7 with (fail)
  generalize w4.alloc (.cells #[.int .u64 (xa : Int), .int .u64 (xb : Int), .int .u64 (xs : Int), .int .i64 (xf : Int)] 27) = v4 at *
  go_wp2_with fail
  refine (isame_any _ O_a.out O_b.out (hid (decide_eq_true rfl))).mono ?_
  rintro e w5 ⟨rfl, hb5⟩
  have T_p := hid (T_p.out.up hb5)
  have T_x := hid (T_x.out.up hb5)
  have T_y := hid (T_y.out.up hb5)
  have O_l := hid (O_l.out.up hb5)
  have O_a := hid (O_a.out.up hb5)
  have O_b := hid (O_b.out.up hb5)
  have HBel := hid (iestep HBel.out hb5)
  clear hb5
  have f_x0 : w5.cell? ⟨w3.heap.size, 0, none⟩ = some (.int .u64 (xa : Int)) := Vk.cell T_x.out 0
  have f_x1 : w5.cell? ⟨w3.heap.size, 1, none⟩ = some (.int .u64 (xb : Int)) := Vk.cell T_x.out 1
  have f_x2 : w5.cell? ⟨w3.heap.size, 2, none⟩ = some (.int .u64 (xs : Int)) := Vk.cell T_x.out 2
  have f_x3 : w5.cell? ⟨w3.heap.size, 3, none⟩ = some (.int .i64 (xf : Int)) := Vk.cell T_x.out 3
  have f_y0 : w5.cell? ⟨w4.heap.size, 0, none⟩ = some (.int .u64 (xa : Int)) := Vk.cell T_y.out 0
  have f_y1 : w5.cell? ⟨w4.heap.size, 1, none⟩ = some (.int .u64 (xb : Int)) := Vk.cell T_y.out 1
  have f_y2 : w5.cell? ⟨w4.heap.size, 2, none⟩ = some (.int .u64 (xs : Int)) := Vk.cell T_y.out 2
  have f_y3 : w5.cell? ⟨w4.heap.size, 3, none⟩ = some (.int .i64 (xf : Int)) := Vk.cell T_y.out 3
  go_wp2_with fail
  clear f_x0 f_x1 f_x2 f_x3 f_y0 f_y1 f_y2 f_y3
  refine (istrip_any _ _ _ O_l.out HS).mono ?_
  rintro e w6 ⟨y6, rfl, hy6, hb6⟩
  have T_p := hid (T_p.out.up hb6)
  have T_x := hid (T_x.out.up hb6)
  have T_y := hid (T_y.out.up hb6)
  have O_l := hid (O_l.out.up hb6)
  have O_a := hid (O_a.out.up hb6)
  have O_b := hid (O_b.out.up hb6)
  have HBel := hid (iestep HBel.out hb6)
  have O_s := hid hy6
  clear hy6 hb6
  go_wp2_with fail
  refine (ristrip_any _ _ _ O_l.out HS).mono ?_
  rintro e w7 ⟨y7, rfl, hy7, hb7⟩
  have T_p := hid (T_p.out.up hb7)
  have T_x := hid (T_x.out.up hb7)
  have T_y := hid (T_y.out.up hb7)
  have O_l := hid (O_l.out.up hb7)
  have O_a := hid (O_a.out.up hb7)
  have O_b := hid (O_b.out.up hb7)
  have O_s := hid (O_s.out.up hb7)
  have HBel := hid (iestep HBel.out hb7)
  have O_t := hid hy7
  clear hy7 hb7
  go_wp2_with fail
  refine (isame_any _ O_s.out O_t.out (hid (decide_eq_true rfl))).mono ?_
  rintro e w8 ⟨rfl, hb8⟩
  have T_p := hid (T_p.out.up hb8)
  have T_x := hid (T_x.out.up hb8)
  have T_y := hid (T_y.out.up hb8)
  have O_l := hid (O_l.out.up hb8)
  have O_a := hid (O_a.out.up hb8)
  have O_b := hid (O_b.out.up hb8)
  have O_s := hid (O_s.out.up hb8)
  have O_t := hid (O_t.out.up hb8)
  have HBel := hid (iestep HBel.out hb8)
  clear hb8
  go_wp2_with fail
  refine (known23_any _ (hid (HT.out.later HBel.out)) (hid (HE.out.later HBel.out))).mono ?_
  rintro e w99 ⟨rfl, hb99⟩
  have HBel := hid (iestep HBel.out hb99)
  go_wp2_with fail
  go_returns
  exact ⟨rfl, HBel.out⟩
end Go.Proofs.YtnbkpannhcamjaaGreatDoor
