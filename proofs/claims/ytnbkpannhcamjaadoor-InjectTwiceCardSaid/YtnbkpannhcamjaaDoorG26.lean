/- Texts put together: Ar As Au Aw. -/
import Derived.Test.YtnbkpannhcamjaaDoorG23
import Derived.Test.YtnbkpannhcamjaaDoorG25
import Derived.Deep.RegionHeld3
namespace Go.Proofs.YtnbkpannhcamjaaDoor
set_option linter.unusedVariables false
set_option linter.unusedSimpArgs false
open Go.RowKit Go.Joins

/-- A block of cells. -/
def Vk (w : World) (g : Nat) (t : TypeId) (cs : Array Value) : Prop := w.heap[g]? = some (.cells cs t (0, 0))
section
variable {w w' : World} {g : Nat} {t : TypeId} {cs : Array Value}
theorem Vk.lt (h : Vk w g t cs) : g < w.heap.size := by
  rcases Nat.lt_or_ge g w.heap.size with hlt | hge
  · exact hlt
  · unfold Vk at h; rw [Array.getElem?_eq_none hge] at h; cases h
theorem Vk.cell (h : Vk w g t cs) (i : Nat) : w.cell? ⟨g, i, none⟩ = cs[i]? := cell_of_row w g i cs t (0, 0) h
theorem Vk.frozen (h : Vk w g t cs) (i : Nat) : w.frozen? ⟨g, i, none⟩ = false := by
  unfold Vk at h
  simp [World.frozen?, h]
theorem Vk.new (w : World) (t : TypeId) (cs : Array Value) : Vk (w.alloc (.cells cs t)) w.heap.size t cs := heap_alloc_new w _
theorem Vk.set_ (h : Vk w g t cs) (i : Nat) (u : Value) : Vk (w.setCell ⟨g, i, none⟩ u) g t (cs.setIfInBounds i u) := by
  unfold Vk at h ⊢
  simp [World.setCell, Array.getElem?_modify, h]
theorem Vk.up (h : Vk w g t cs) (hb : Below w.heap.size w w') : Vk w' g t cs := (hb.block g h.lt).trans h
end
theorem ienew (w : World) (o : Obj) : Below w.heap.size w (w.alloc o) := (Below.refl _ _).alloc (Nat.le_refl _) _
theorem iestep {a b c : World} (h : Below a.heap.size a b) (k : Below b.heap.size b c) : Below a.heap.size a c := h.trans (k.mono h.size)
/-- A variable of the call's own that holds what a traceparent says. -/
structure PrV (B : Nat) (w0 w : World) (g : Nat) (cs : Array Value) : Prop where
  blk : Vk w g 27 cs
  bel : Below B w0 w
  far : B ≤ g
  low : B ≤ w.heap.size
section
variable {B : Nat} {w0 w w' : World} {g g2 : Nat} {cs cs2 : Array Value}
theorem PrV.c (h : PrV B w0 w g cs) (i : Nat) : w.cell? ⟨g, i, none⟩ = cs[i]? ∧ w.frozen? ⟨g, i, none⟩ = false := ⟨Vk.cell h.blk i, Vk.frozen h.blk i⟩
theorem PrV.put (h : PrV B w0 w g cs) (i : Nat) (u : Value) : PrV B w0 (w.setCell ⟨g, i, none⟩ u) g (cs.setIfInBounds i u) := ⟨Vk.set_ h.blk i u, h.bel.setCell h.far u, h.far, by have := h.low; simpa using this⟩
theorem PrV.up (h : PrV B w0 w g cs) (hb : Below w.heap.size w w') : PrV B w0 w' g cs := ⟨h.blk.up hb, h.bel.trans (hb.mono h.low), h.far, Nat.le_trans h.low hb.size⟩
theorem PrV.drew (h : PrV B w0 w g cs) : PrV B w0 w.drew g cs := ⟨h.blk, h.bel.drew, h.far, h.low⟩
theorem PrV.new (w : World) (cs : Array Value) : PrV w.heap.size w (w.alloc (.cells cs 27)) w.heap.size cs := ⟨Vk.new _ _ _, ienew w _, Nat.le_refl _, by simp⟩
theorem PrV.fill (h : PrV B w0 w g cs) (hs : cs.size = 4) (x0 x1 x2 x3 : Value) : PrV B w0 ((((w.setCell ⟨g, 0, none⟩ x0).setCell ⟨g, 1, none⟩ x1).setCell ⟨g, 2, none⟩ x2).setCell ⟨g, 3, none⟩ x3) g #[x0, x1, x2, x3] := by
  obtain ⟨l⟩ := cs
  match l, hs with
  | [y0, y1, y2, y3], _ => exact (((h.put 0 x0).put 1 x1).put 2 x2).put 3 x3
end
set_option maxRecDepth 100000 in
set_option maxHeartbeats 8000000 in
theorem ifrom_any (v : Value) (L : List Hd) (w : World) (h : HLv w v L) (HT : Hid (Pce w)) {a b s f : Nat} {z : Int} (H : Hid (fromI L = ((a, b, s, f), z))) :
    Calls Tryd.prog 8 #[v] w fun e w' => e = .returned (.tuple #[.agg #[.int .u64 (a : Int), .int .u64 (b : Int), .int .u64 (s : Int), .int .i64 (f : Int)], .int .i64 z]) ∧ Below w.heap.size w w' := by
  have c1 : (ByteArray.mk #[116, 114, 97, 99, 101, 112, 97, 114, 101, 110, 116]) = bs kTP := rfl
  have t0 := PrV.new w #[.int .u64 0, .int .u64 0, .int .u64 0, .int .i64 0]
  have HOp := hid (h.up t0.bel)
  obtain ⟨t, q, hg⟩ : ∃ t q, getH L kTP = (t, q) := ⟨_, _, rfl⟩
  have htl : t.length ≤ 10000 := by have := getH_small L kTP h.2.2; rw [hg] at this; exact this
  have HG := hid hg
  have HC := hid (fun (w2 : World) (h2 : HLv w2 v L) => iget_any w2 h2 kTP HG)
  have HF := hid (show (if q = true then parS t else (noP7, 9)) = ((a, b, s, f), z) by rw [← H.out]; unfold fromI; rw [hg])
  have HTL := hid htl
  clear hg htl h H
  cases q
  · have e := HF.out
    rw [if_neg (by decide)] at e
    simp only [noP7, Prod.mk.injEq] at e
    obtain ⟨⟨rfl, rfl, rfl, rfl⟩, rfl⟩ := e
    clear HF
    go_enter Tryd.func8, Tryd.ntmps8
    go_upto_region 1 with (fail)
    generalize w.alloc (.cells #[.int .u64 0, .int .u64 0, .int .u64 0, .int .i64 0] 27) = v0 at *
    go_wp2_with fail
    refine (HC.out _ HOp.out).mono ?_
    rintro e w1 ⟨rfl, hb1⟩
    have t1 := hid (t0.up hb1)
    have z0 : w1.cell? ⟨w.heap.size, 0, none⟩ = some (.int .u64 0) := (t1.out.c 0).1
    have y0 : w1.frozen? ⟨w.heap.size, 0, none⟩ = false := (t1.out.c 0).2
    have z1 : w1.cell? ⟨w.heap.size, 1, none⟩ = some (.int .u64 0) := (t1.out.c 1).1
    have y1 : w1.frozen? ⟨w.heap.size, 1, none⟩ = false := (t1.out.c 1).2
    have z2 : w1.cell? ⟨w.heap.size, 2, none⟩ = some (.int .u64 0) := (t1.out.c 2).1
    have y2 : w1.frozen? ⟨w.heap.size, 2, none⟩ = false := (t1.out.c 2).2
    have z3 : w1.cell? ⟨w.heap.size, 3, none⟩ = some (.int .i64 0) := (t1.out.c 3).1
    have y3 : w1.frozen? ⟨w.heap.size, 3, none⟩ = false := (t1.out.c 3).2
    clear hb1 t0
    go_wp2_with fail
    have t2 := hid (t1.out.fill rfl (.int .u64 0) (.int .u64 0) (.int .u64 0) (.int .i64 0))
    clear z0 y0 z1 y1 z2 y2 z3 y3 t1
    generalize (((w1.setCell ⟨w.heap.size, 0, none⟩ (.int .u64 0)).setCell ⟨w.heap.size, 1, none⟩ (.int .u64 0)).setCell ⟨w.heap.size, 2, none⟩ (.int .u64 0)).setCell ⟨w.heap.size, 3, none⟩ (.int .i64 0) = w3 at *
    have c0 : w3.cell? ⟨w.heap.size, 0, none⟩ = some (.int .u64 0) := (t2.out.c 0).1
    have c1 : w3.cell? ⟨w.heap.size, 1, none⟩ = some (.int .u64 0) := (t2.out.c 1).1
    have c2 : w3.cell? ⟨w.heap.size, 2, none⟩ = some (.int .u64 0) := (t2.out.c 2).1
    have c3 : w3.cell? ⟨w.heap.size, 3, none⟩ = some (.int .i64 0) := (t2.out.c 3).1
    (try simp only [Exit.inBlock, Exit.then])
    refine bodyPost_ret (v := .tuple #[.agg #[.int .u64 0, .int .u64 0, .int .u64 0, .int .i64 0], .int .i64 9]) (by simp [results, Tryd.results8, go_sem, c0, c1, c2, c3]; try rfl) rfl ?_
    exact ⟨rfl, t2.out.bel⟩
  · have e := HF.out
    rw [if_pos rfl] at e
    have HPr := hid e
    clear HF e
    go_enter Tryd.func8, Tryd.ntmps8
    go_upto_region 1 with (fail)
    generalize w.alloc (.cells #[.int .u64 0, .int .u64 0, .int .u64 0, .int .i64 0] 27) = v0 at *
    go_wp2_with fail
    refine (HC.out _ HOp.out).mono ?_
    rintro e w1 ⟨rfl, hb1⟩
    have t1 := hid (t0.up hb1)
    have HB1 := hid t1.out.bel
    clear hb1 t0
    go_wp2_with fail
    refine (parread_at t w1 (by have := HTL.out; omega) (hid (HT.out.later HB1.out)) HPr).mono ?_
    rintro e w2 ⟨rfl, hb2⟩
    have t2 := hid (t1.out.up hb2)
    have z0 : w2.cell? ⟨w.heap.size, 0, none⟩ = some (.int .u64 0) := (t2.out.c 0).1
    have y0 : w2.frozen? ⟨w.heap.size, 0, none⟩ = false := (t2.out.c 0).2
    have z1 : w2.cell? ⟨w.heap.size, 1, none⟩ = some (.int .u64 0) := (t2.out.c 1).1
    have y1 : w2.frozen? ⟨w.heap.size, 1, none⟩ = false := (t2.out.c 1).2
    have z2 : w2.cell? ⟨w.heap.size, 2, none⟩ = some (.int .u64 0) := (t2.out.c 2).1
    have y2 : w2.frozen? ⟨w.heap.size, 2, none⟩ = false := (t2.out.c 2).2
    have z3 : w2.cell? ⟨w.heap.size, 3, none⟩ = some (.int .i64 0) := (t2.out.c 3).1
    have y3 : w2.frozen? ⟨w.heap.size, 3, none⟩ = false := (t2.out.c 3).2
    clear hb2 t1
    go_wp2_with fail
    have t3 := hid (t2.out.fill rfl (.int .u64 (a : Int)) (.int .u64 (b : Int)) (.int .u64 (s : Int)) (.int .i64 (f : Int)))
    clear z0 y0 z1 y1 z2 y2 z3 y3 t2
    generalize (((w2.setCell ⟨w.heap.size, 0, none⟩ (.int .u64 (a : Int))).setCell ⟨w.heap.size, 1, none⟩ (.int .u64 (b : Int))).setCell ⟨w.heap.size, 2, none⟩ (.int .u64 (s : Int))).setCell ⟨w.heap.size, 3, none⟩ (.int .i64 (f : Int)) = w3 at *
    have c0 : w3.cell? ⟨w.heap.size, 0, none⟩ = some (.int .u64 (a : Int)) := (t3.out.c 0).1
    have c1 : w3.cell? ⟨w.heap.size, 1, none⟩ = some (.int .u64 (b : Int)) := (t3.out.c 1).1
    have c2 : w3.cell? ⟨w.heap.size, 2, none⟩ = some (.int .u64 (s : Int)) := (t3.out.c 2).1
    have c3 : w3.cell? ⟨w.heap.size, 3, none⟩ = some (.int .i64 (f : Int)) := (t3.out.c 3).1
    (try simp only [Exit.inBlock, Exit.then])
    refine bodyPost_ret (v := .tuple #[.agg #[.int .u64 (a : Int), .int .u64 (b : Int), .int .u64 (s : Int), .int .i64 (f : Int)], .int .i64 z]) (by simp [results, Tryd.results8, go_sem, c0, c1, c2, c3]; try rfl) rfl ?_
    exact ⟨rfl, t3.out.bel⟩
theorem wrS_len {a b s : Nat} {f : Int} {t : List UInt8} {c : Int} (h : wrS a b s f = (t, c)) : t.length ≤ 1000 := by
  have e := congrArg Prod.fst h
  simp only at e
  rw [← e]
  unfold wrS
  split
  · simp
  · split
    · simp
    · simp only [parT_len]; omega
theorem txtI_len (L : List Hd) (s : Nat) : (txtI L s).length ≤ 64 := by
  obtain ⟨j, -, -, h, -⟩ := txtI_is L s
  exact h
theorem intoI_ok {L : List Hd} {a b s : Nat} {f : Int} {t : List UInt8} {M : List Hd} {z : Int} (h : wrS a b s f = (t, 0)) (H : intoI L a b s f = (M, z)) : setH (setH L kTP t) kTS (txtI L s) = M ∧ z = 0 := by
  unfold intoI at H
  rw [h] at H
  rw [if_pos rfl] at H
  exact ⟨congrArg Prod.fst H, (congrArg Prod.snd H).symm⟩
theorem intoI_no {L : List Hd} {a b s : Nat} {f : Int} {t : List UInt8} {c : Int} {M : List Hd} {z : Int} (h : wrS a b s f = (t, c)) (hc : c ≠ 0) (H : intoI L a b s f = (M, z)) : M = [] ∧ z = c := by
  unfold intoI at H
  rw [h] at H
  rw [if_neg hc] at H
  exact ⟨(congrArg Prod.fst H).symm, (congrArg Prod.snd H).symm⟩
end Go.Proofs.YtnbkpannhcamjaaDoor
namespace Go.Proofs.YtnbkpannhcamjaaDoor
set_option linter.unusedVariables false
set_option linter.unusedSimpArgs false
open Go.RowKit Go.Joins

set_option maxRecDepth 100000 in
set_option maxHeartbeats 8000000 in
theorem into_any (v : Value) (L : List Hd) (a b s : Nat) (f : Int) (w : World) (h : HLv w v L) (hl : L.length ≤ 500) (ha : Hid (a < 18446744073709551616)) (hb : Hid (b < 18446744073709551616)) (hs : Hid (s < 18446744073709551616)) (hf : Hid (-9223372036854775808 ≤ f ∧ f ≤ 9223372036854775807)) (HT : Hid (Pce w)) (HE : Hid (EnvT w)) {M : List Hd} {z : Int} (H : Hid (intoI L a b s f = (M, z))) :
    Calls Tryd.prog 7 #[v, .agg #[.int .u64 (a : Int), .int .u64 (b : Int), .int .u64 (s : Int), .int .i64 f]] w fun e w' => ∃ r, e = .returned (.tuple #[r, .int .i64 z]) ∧ HLv w' r M ∧ Below w.heap.size w w' := by
  have c1 : (ByteArray.mk #[116, 114, 97, 99, 101, 112, 97, 114, 101, 110, 116]) = bs kTP := rfl
  have c2 : (ByteArray.mk #[116, 114, 97, 99, 101, 115, 116, 97, 116, 101]) = bs kTS := rfl
  have c3 : (ByteArray.mk #[109, 101, 115, 104]) = bs kMesh := rfl
  have t0 := PrV.new w #[.int .u64 (a : Int), .int .u64 (b : Int), .int .u64 (s : Int), .int .i64 f]
  have HOp := hid (h.up t0.bel)
  have HLl := hid hl
  obtain ⟨t, c, hw⟩ : ∃ t c, wrS a b s f = (t, c) := ⟨_, _, rfl⟩
  have HW := hid hw
  have HWL := hid (wrS_len hw)
  clear h hl hw
  go_enter Tryd.func7, Tryd.ntmps7
  go_upto_region 1 with (fail)
  generalize w.alloc (.cells #[.int .u64 (a : Int), .int .u64 (b : Int), .int .u64 (s : Int), .int .i64 f] 27) = v0 at *
  have z0 : v0.cell? ⟨w.heap.size, 0, none⟩ = some (.int .u64 (a : Int)) := (t0.c 0).1
  have z1 : v0.cell? ⟨w.heap.size, 1, none⟩ = some (.int .u64 (b : Int)) := (t0.c 1).1
  have z2 : v0.cell? ⟨w.heap.size, 2, none⟩ = some (.int .u64 (s : Int)) := (t0.c 2).1
  have z3 : v0.cell? ⟨w.heap.size, 3, none⟩ = some (.int .i64 f) := (t0.c 3).1
  go_wp2_with fail
  clear z0 z1 z2 z3
  refine (parwrite_at a b s f v0 ha hb hs hf (hid (HT.out.later t0.bel)) HW).mono ?_
  rintro e w1 ⟨rfl, hb1⟩
  have t1 := hid (t0.up hb1)
  have HO1 := hid (HOp.out.up hb1)
  clear hb1 t0 HOp
  by_cases hc : c = 0
  rotate_left
  · have hcn : (c != 0) = true := by simpa using hc
    obtain ⟨rfl, rfl⟩ := intoI_no HW.out hc H.out
    clear hc
    go_wp2_with fail
    go_returns
    exact ⟨_, rfl, HLv.nil _, t1.out.bel⟩
  subst hc
  obtain ⟨e1, rfl⟩ := intoI_ok HW.out H.out
  obtain ⟨K, hK⟩ : ∃ K, setH L kTP t = K := ⟨_, rfl⟩
  obtain ⟨u, hu⟩ : ∃ u, txtI L s = u := ⟨_, rfl⟩
  rw [hK, hu] at e1
  obtain ⟨G, hG⟩ : ∃ G, memI L s = G := ⟨_, rfl⟩
  have HKl := hid (show K.length ≤ L.length + 1 by rw [← hK]; exact (setH_small L kTP t (by decide) (by have := HWL.out; omega) HO1.out.2.2).1)
  have hgf := memI_facts L s
  rw [hG] at hgf
  have HE1 := hid e1
  have HK := hid hK
  have HG := hid hG
  have HGF := hid hgf
  have HU := hid (show joinM (cutI G G.length) = u by rw [← hu, ← hG]; rfl)
  have HUL := hid (show u.length ≤ 64 by rw [← hu]; exact txtI_len L s)
  clear e1 hK hu hG hgf H HW
  go_upto_region 4 with (fail)
  have z2 : w1.cell? ⟨w.heap.size, 2, none⟩ = some (.int .u64 (s : Int)) := (t1.out.c 2).1
  go_wp2_with fail
  clear z2
  refine (members_any v L s w1 HO1.out hs (hid (HE.out.later t1.out.bel)) HG).mono ?_
  rintro e w2 ⟨r2, rfl, hr2, hb2⟩
  have t2 := hid (t1.out.up hb2)
  have HO2 := hid (HO1.out.up hb2)
  have HR2 := hid hr2
  clear hb2 hr2
  go_wp2_with fail
  refine (fitting_any r2 G w2 HR2.out HGF.out.1 HGF.out.2.1 HGF.out.2.2 HU).mono ?_
  rintro e w3 ⟨rfl, hb3⟩
  have t3 := hid (t2.out.up hb3)
  have HO3 := hid (HO2.out.up hb3)
  clear hb3
  go_wp2_with fail
  refine (iset_any w3 HO3.out kTP t (by decide) (by have := HWL.out; omega) (by have := HLl.out; omega) HK).mono ?_
  rintro e w4 ⟨r4, rfl, hr4, hb4⟩
  have t4 := hid (t3.out.up hb4)
  have HR4 := hid hr4
  clear hb4 hr4
  go_wp2_with fail
  refine (iset_any w4 HR4.out kTS u (by decide) (by have := HUL.out; omega) (by have := HLl.out; have := HKl.out; omega) HE1).mono ?_
  rintro e w5 ⟨r5, rfl, hr5, hb5⟩
  have t5 := hid (t4.out.up hb5)
  have HR5 := hid hr5
  clear hb5 hr5
  go_wp2_with fail
  go_returns
  exact ⟨_, rfl, HR5.out, t5.out.bel⟩
end Go.Proofs.YtnbkpannhcamjaaDoor
namespace Go.Proofs.YtnbkpannhcamjaaDoor
set_option linter.unusedVariables false
set_option linter.unusedSimpArgs false
open Go.RowKit Go.Joins

def kMV : List UInt8 := [109, 101, 115, 104, 61, 48, 48, 48, 48, 48, 48, 48, 48, 48, 48, 48, 48, 48, 48, 48, 50, 44, 120, 61, 121]
def kPV : List UInt8 := [48, 48, 45, 48, 48, 48, 48, 48, 48, 48, 48, 48, 48, 48, 48, 48, 48, 48, 48, 48, 48, 48, 48, 48, 48, 48, 48, 48, 48, 48, 48, 48, 48, 48, 49, 45, 48, 48, 48, 48, 48, 48, 48, 48, 48, 48, 48, 48, 48, 48, 48, 50, 45, 48, 49]
def k23L : List Hd := [([97], [49]), (kTS, [120, 61, 121])]
def k23M : List Hd := [([97], [49]), (kTS, kMV), (kTP, kPV)]
theorem k23_into : intoI k23L 0 1 2 1 = (k23M, 0) := by decide +kernel
theorem k23_from : fromI k23M = ((0, 1, 2, 1), 0) := by decide +kernel
theorem k23_nil : fromI [] = ((0, 0, 0, 0), 9) := by decide +kernel
theorem k23_strip : stripI k23M = [([97], [49])] := by decide +kernel
section
variable {w w' : World} {v : Value} {L : List Hd}
theorem HLv.cut {A : Option Addr} {n c k : Nat} (h : HLv w (.slice A n c) L) (hn : L.length = n) (hk : k ≤ n) : HLv w (.slice A k c) (L.take k) := by
  obtain ⟨⟨A2, c2, e, h1, h2, h3, h4, h5⟩, h6, h7⟩ := h
  injection e with e1 e2 e3
  subst e1 e3
  have hl : (L.take k).length = k := by rw [List.length_take]; omega
  exact ⟨⟨A, c, by rw [hl], h1.take k, h2, by omega, h4, fun m hm => h5 m (List.mem_of_mem_take hm)⟩, by omega, fun m hm => h7 m (List.mem_of_mem_take hm)⟩
theorem HLv.two (w : World) (a b c d : List UInt8) (hs : ∀ h ∈ [(a, b), (c, d)], h.1.length ≤ 10000 ∧ h.2.length ≤ 10000) : HLv (w.alloc (.cells #[.string (bs a), .string (bs b), .string (bs c), .string (bs d)] 45)) (.slice (some ⟨w.heap.size, 0, none⟩) 2 2) [(a, b), (c, d)] := by
  have h : HB (w.alloc (.cells #[.string (bs a), .string (bs b), .string (bs c), .string (bs d)] 45)) w.heap.size (.slice (some ⟨w.heap.size, 0, none⟩) 2 2) [(a, b), (c, d)] := World.ownsRow_lit w #[.string (bs a), .string (bs b), .string (bs c), .string (bs d)] 2 (Nat.le_refl _) (by decide) rfl
  exact HLv.of_hb h (by simp) hs
theorem HLv.three (w : World) (a b c d e f : List UInt8) (hs : ∀ h ∈ [(a, b), (c, d), (e, f)], h.1.length ≤ 10000 ∧ h.2.length ≤ 10000) : HLv (w.alloc (.cells #[.string (bs a), .string (bs b), .string (bs c), .string (bs d), .string (bs e), .string (bs f)] 45)) (.slice (some ⟨w.heap.size, 0, none⟩) 3 3) [(a, b), (c, d), (e, f)] := by
  have h : HB (w.alloc (.cells #[.string (bs a), .string (bs b), .string (bs c), .string (bs d), .string (bs e), .string (bs f)] 45)) w.heap.size (.slice (some ⟨w.heap.size, 0, none⟩) 3 3) [(a, b), (c, d), (e, f)] := World.ownsRow_lit w #[.string (bs a), .string (bs b), .string (bs c), .string (bs d), .string (bs e), .string (bs f)] 3 (Nat.le_refl _) (by decide) rfl
  exact HLv.of_hb h (by simp) hs
end
theorem pr_same (w : World) (a b s : Nat) (f : Int) : (binOp .eql 27 (.agg #[.int .u64 (a : Int), .int .u64 (b : Int), .int .u64 (s : Int), .int .i64 f]) (.agg #[.int .u64 (a : Int), .int .u64 (b : Int), .int .u64 (s : Int), .int .i64 f])).run Tryd.prog w = .ok (.bool true) w := by
  rw [pr_eql, samePr_self]
theorem pr_diff (w : World) (a b s : Nat) (f : Int) : (binOp .neq 27 (.agg #[.int .u64 (a : Int), .int .u64 (b : Int), .int .u64 (s : Int), .int .i64 f]) (.agg #[.int .u64 (a : Int), .int .u64 (b : Int), .int .u64 (s : Int), .int .i64 f])).run Tryd.prog w = .ok (.bool false) w := by
  rw [pr_neq, samePr_self]; rfl
theorem k23_eq (w : World) : (binOp .eql 27 (.agg #[.int .u64 0, .int .u64 1, .int .u64 2, .int .i64 1]) (.agg #[.int .u64 0, .int .u64 1, .int .u64 2, .int .i64 1])).run Tryd.prog w = .ok (.bool true) w := pr_same w 0 1 2 1
theorem k23_c1 (y : Value) (w : World) (h : HLv w y k23L) (HT : Hid (Pce w)) (HE : Hid (EnvT w)) : Calls Tryd.prog 7 #[y, .agg #[.int .u64 0, .int .u64 1, .int .u64 2, .int .i64 1]] w fun e w' => ∃ r, e = .returned (.tuple #[r, .int .i64 0]) ∧ HLv w' r k23M ∧ Below w.heap.size w w' := into_any y k23L 0 1 2 1 w h (by decide) (hid (by decide)) (hid (by decide)) (hid (by decide)) (hid (by decide)) HT HE (hid k23_into)
theorem k23_c2 (y : Value) (w : World) (h : HLv w y k23M) (HT : Hid (Pce w)) : Calls Tryd.prog 8 #[y] w fun e w' => e = .returned (.tuple #[.agg #[.int .u64 0, .int .u64 1, .int .u64 2, .int .i64 1], .int .i64 0]) ∧ Below w.heap.size w w' := ifrom_any y k23M w h HT (hid k23_from)
theorem k23_c3 (w : World) (HT : Hid (Pce w)) : Calls Tryd.prog 8 #[.slice none 0 0] w fun e w' => e = .returned (.tuple #[.agg #[.int .u64 0, .int .u64 0, .int .u64 0, .int .i64 0], .int .i64 9]) ∧ Below w.heap.size w w' := ifrom_any (.slice none 0 0) [] w (HLv.nil w) HT (hid k23_nil)
theorem k23_c4 (y u : Value) (w : World) (h : HLv w y k23M) (k : HLv w u k23M) : Calls Tryd.prog 9 #[y, u] w fun e w' => e = .returned (.bool true) ∧ Below w.heap.size w w' := isame_any w h k (hid (by simp))
theorem k23_c5 (y : Value) (w : World) (h : HLv w y k23M) : Calls Tryd.prog 10 #[y] w fun e w' => ∃ r, e = .returned r ∧ HLv w' r [([97], [49])] ∧ Below w.heap.size w w' := istrip_any y k23M w h (hid k23_strip)
theorem k23_c6 (y u : Value) (w : World) (h : HLv w y [([97], [49])]) (k : HLv w u [([97], [49])]) : Calls Tryd.prog 9 #[y, u] w fun e w' => e = .returned (.bool true) ∧ Below w.heap.size w w' := isame_any w h k (hid (by simp))
theorem keep8 {w9 w' : World} {g h : Nat} {x0 x1 x2 x3 y0 y1 y2 y3 : Value} (k1 : Vk w9 g 27 #[x0, x1, x2, x3]) (k2 : Vk w9 h 27 #[y0, y1, y2, y3]) (hz : Below w9.heap.size w9 w') : w'.cell? ⟨g, 0, none⟩ = some x0 ∧ w'.cell? ⟨g, 1, none⟩ = some x1 ∧ w'.cell? ⟨g, 2, none⟩ = some x2 ∧ w'.cell? ⟨g, 3, none⟩ = some x3 ∧ w'.cell? ⟨h, 0, none⟩ = some y0 ∧ w'.cell? ⟨h, 1, none⟩ = some y1 ∧ w'.cell? ⟨h, 2, none⟩ = some y2 ∧ w'.cell? ⟨h, 3, none⟩ = some y3 ∧ Below w9.heap.size w9 w' :=
  ⟨Vk.cell (k1.up hz) 0, Vk.cell (k1.up hz) 1, Vk.cell (k1.up hz) 2, Vk.cell (k1.up hz) 3, Vk.cell (k2.up hz) 0, Vk.cell (k2.up hz) 1, Vk.cell (k2.up hz) 2, Vk.cell (k2.up hz) 3, hz⟩
set_option maxRecDepth 100000 in
set_option maxHeartbeats 8000000 in
theorem known23_any (w : World) (HT : Hid (Pce w)) (HE : Hid (EnvT w)) : Calls Tryd.prog 6 #[] w fun e w' => e = .returned (.bool true) ∧ Below w.heap.size w w' := by
  have l1 : (ByteArray.mk #[97]) = bs [97] := rfl
  have l2 : (ByteArray.mk #[49]) = bs [49] := rfl
  have l3 : (ByteArray.mk #[116, 114, 97, 99, 101, 115, 116, 97, 116, 101]) = bs kTS := rfl
  have l4 : (ByteArray.mk #[120, 61, 121]) = bs [120, 61, 121] := rfl
  have l5 : (ByteArray.mk #[109, 101, 115, 104, 61, 48, 48, 48, 48, 48, 48, 48, 48, 48, 48, 48, 48, 48, 48, 48, 50, 44, 120, 61, 121]) = bs kMV := rfl
  have l6 : (ByteArray.mk #[116, 114, 97, 99, 101, 112, 97, 114, 101, 110, 116]) = bs kTP := rfl
  have l7 : (ByteArray.mk #[48, 48, 45, 48, 48, 48, 48, 48, 48, 48, 48, 48, 48, 48, 48, 48, 48, 48, 48, 48, 48, 48, 48, 48, 48, 48, 48, 48, 48, 48, 48, 48, 48, 48, 49, 45, 48, 48, 48, 48, 48, 48, 48, 48, 48, 48, 48, 48, 48, 48, 48, 50, 45, 48, 49]) = bs kPV := rfl
  have hg := pr_guard
  have he := k23_eq
  have hb0 := ienew w (.cells #[.int .u64 0, .int .u64 1, .int .u64 2, .int .i64 1] 27)
  have T1 := hid (Vk.new w 27 #[.int .u64 0, .int .u64 1, .int .u64 2, .int .i64 1])
  have HB := hid hb0
  go_enter Tryd.func6, Tryd.ntmps6
  go_upto_region 2 with (fail)
  generalize w.alloc (.cells #[.int .u64 0, .int .u64 1, .int .u64 2, .int .i64 1] 27) = v0 at *
  have hb1 := ienew v0 (.cells #[.string (bs [97]), .string (bs [49]), .string (bs kTS), .string (bs [120, 61, 121])] 45)
  have HL0 := hid (HLv.two v0 [97] [49] kTS [120, 61, 121] (by decide))
  have T1 := hid (T1.out.up hb1)
  have z0 : (v0.alloc (.cells #[.string (bs [97]), .string (bs [49]), .string (bs kTS), .string (bs [120, 61, 121])] 45)).cell? ⟨w.heap.size, 0, none⟩ = some (.int .u64 0) := Vk.cell T1.out 0
  have z1 : (v0.alloc (.cells #[.string (bs [97]), .string (bs [49]), .string (bs kTS), .string (bs [120, 61, 121])] 45)).cell? ⟨w.heap.size, 1, none⟩ = some (.int .u64 1) := Vk.cell T1.out 1
  have z2 : (v0.alloc (.cells #[.string (bs [97]), .string (bs [49]), .string (bs kTS), .string (bs [120, 61, 121])] 45)).cell? ⟨w.heap.size, 2, none⟩ = some (.int .u64 2) := Vk.cell T1.out 2
  have z3 : (v0.alloc (.cells #[.string (bs [97]), .string (bs [49]), .string (bs kTS), .string (bs [120, 61, 121])] 45)).cell? ⟨w.heap.size, 3, none⟩ = some (.int .i64 1) := Vk.cell T1.out 3
  have HBa := hid (iestep HB.out hb1)
  clear hb0 HB
  go_wp2_with fail
  clear z0 z1 z2 z3
  generalize v0.alloc (.cells #[.string (bs [97]), .string (bs [49]), .string (bs kTS), .string (bs [120, 61, 121])] 45) = v1 at *
  refine (k23_c1 _ v1 HL0.out (hid (HT.out.later HBa.out)) (hid (HE.out.later HBa.out))).mono ?_
  rintro e w2 ⟨r2, rfl, hr2, hb2⟩
  have T1 := hid (T1.out.up hb2)
  have HB2 := hid (iestep HBa.out hb2)
  have hb3 := ienew w2 (.cells #[.string (bs [97]), .string (bs [49]), .string (bs kTS), .string (bs kMV), .string (bs kTP), .string (bs kPV)] 45)
  have HL1 := hid (HLv.three w2 [97] [49] kTS kMV kTP kPV (by decide))
  have T1 := hid (T1.out.up hb3)
  have HB3 := hid (iestep HB2.out hb3)
  have HR2 := hid (hr2.up hb3)
  clear hb2 hr2 hb3 hb1
  go_upto_region 4 with (fail)
  generalize w2.alloc (.cells #[.string (bs [97]), .string (bs [49]), .string (bs kTS), .string (bs kMV), .string (bs kTP), .string (bs kPV)] 45) = v3 at *
  go_wp2_with fail
  refine (k23_c2 _ v3 HR2.out (hid (HT.out.later HB3.out))).mono ?_
  rintro e w4 ⟨rfl, hb4⟩
  have T1 := hid (T1.out.up hb4)
  have HB4 := hid (iestep HB3.out hb4)
  have HR2 := hid (HR2.out.up hb4)
  have HL1 := hid (HL1.out.up hb4)
  have hb5 := ienew w4 (.cells #[.int .u64 0, .int .u64 1, .int .u64 2, .int .i64 1] 27)
  have T1 := hid (T1.out.up hb5)
  have HB5 := hid (iestep HB4.out hb5)
  have HR2 := hid (HR2.out.up hb5)
  have HL1 := hid (HL1.out.up hb5)
  have T5 := hid (Vk.new w4 27 #[.int .u64 0, .int .u64 1, .int .u64 2, .int .i64 1])
  clear hb4 hb5
  go_upto_region 5 with (fail)
  generalize w4.alloc (.cells #[.int .u64 0, .int .u64 1, .int .u64 2, .int .i64 1] 27) = v4 at *
  go_wp2_with fail
  refine (k23_c3 v4 (hid (HT.out.later HB5.out))).mono ?_
  rintro e w6 ⟨rfl, hb6⟩
  have hb7 := ienew w6 (.cells #[.int .u64 0, .int .u64 0, .int .u64 0, .int .i64 0] 27)
  have T1 := hid ((T1.out.up hb6).up hb7)
  have T5 := hid ((T5.out.up hb6).up hb7)
  have HR2 := hid ((HR2.out.up hb6).up hb7)
  have HL1 := hid ((HL1.out.up hb6).up hb7)
  have HB7 := hid (iestep (iestep HB5.out hb6) hb7)
  clear hb6 hb7
  go_upto_region 6 with (fail)
  generalize w6.alloc (.cells #[.int .u64 0, .int .u64 0, .int .u64 0, .int .i64 0] 27) = w9 at *
  obtain ⟨A2, c2, rfl⟩ : ∃ A c, r2 = .slice A 3 c := by
    obtain ⟨⟨A, c, e, -⟩, -⟩ := HR2.out
    exact ⟨A, c, e⟩
  have hc2 : (1 : Int) ≤ (c2 : Int) := by
    obtain ⟨⟨A, c, e, -, -, h, -⟩, -⟩ := HR2.out
    injection e with _ _ e
    have : k23M.length = 3 := rfl
    omega
  have HCu := hid (HR2.out.cut (k := 1) rfl (by omega))
  have HSA := hid (fun (w2 : World) (hb : Below w9.heap.size w9 w2) => k23_c4 _ _ w2 (HR2.out.up hb) (HL1.out.up hb))
  have HST := hid (fun (w2 : World) (hb : Below w9.heap.size w9 w2) => k23_c5 _ w2 (HR2.out.up hb))
  have HSB := hid (fun (w2 : World) (y : Value) (hb : Below w9.heap.size w9 w2) (hy : HLv w2 y [([97], [49])]) => k23_c6 y _ w2 hy (show HLv w2 (.slice A2 1 c2) [([97], [49])] from HCu.out.up hb))
  have z0 : w9.cell? ⟨w.heap.size, 0, none⟩ = some (.int .u64 0) := Vk.cell T1.out 0
  have y0 : w9.cell? ⟨w4.heap.size, 0, none⟩ = some (.int .u64 0) := Vk.cell T5.out 0
  have z1 : w9.cell? ⟨w.heap.size, 1, none⟩ = some (.int .u64 1) := Vk.cell T1.out 1
  have y1 : w9.cell? ⟨w4.heap.size, 1, none⟩ = some (.int .u64 1) := Vk.cell T5.out 1
  have z2 : w9.cell? ⟨w.heap.size, 2, none⟩ = some (.int .u64 2) := Vk.cell T1.out 2
  have y2 : w9.cell? ⟨w4.heap.size, 2, none⟩ = some (.int .u64 2) := Vk.cell T5.out 2
  have z3 : w9.cell? ⟨w.heap.size, 3, none⟩ = some (.int .i64 1) := Vk.cell T1.out 3
  have y3 : w9.cell? ⟨w4.heap.size, 3, none⟩ = some (.int .i64 1) := Vk.cell T5.out 3
  have hz : Below w9.heap.size w9 w9.drew := (Below.refl _ _).drew
  go_region_held3 (fun w' => w'.cell? ⟨w.heap.size, 0, none⟩ = some (.int .u64 0) ∧ w'.cell? ⟨w.heap.size, 1, none⟩ = some (.int .u64 1) ∧ w'.cell? ⟨w.heap.size, 2, none⟩ = some (.int .u64 2) ∧ w'.cell? ⟨w.heap.size, 3, none⟩ = some (.int .i64 1) ∧ w'.cell? ⟨w4.heap.size, 0, none⟩ = some (.int .u64 0) ∧ w'.cell? ⟨w4.heap.size, 1, none⟩ = some (.int .u64 1) ∧ w'.cell? ⟨w4.heap.size, 2, none⟩ = some (.int .u64 2) ∧ w'.cell? ⟨w4.heap.size, 3, none⟩ = some (.int .i64 1) ∧ Below w9.heap.size w9 w') (first | (with_reducible exact keep8 T1.out T5.out hz) | (with_reducible exact keep8 T1.out T5.out (hz.trans (Below.mono (by assumption) hz.size)))) (first
    | (go_at_call 9
       (first
         | ((with_reducible refine (HSA.out _ hz).mono ?_); rintro e wa ⟨rfl, hy⟩)
         | ((with_reducible refine (HSB.out _ _ hz hr5).mono ?_); rintro e wa ⟨rfl, hy⟩))
       have hz := hz.trans (hy.mono hz.size))
    | (go_at_call 10
       ((with_reducible refine (HST.out _ hz).mono ?_); rintro e wa ⟨r5, rfl, hr5, hy⟩)
       have hz := hz.trans (hy.mono hz.size)))
  all_goals
    go_wp2_with fail
    go_returns
    exact ⟨rfl, iestep HB7.out hz⟩
end Go.Proofs.YtnbkpannhcamjaaDoor
namespace Go.Proofs.YtnbkpannhcamjaaDoor
set_option linter.unusedVariables false
set_option linter.unusedSimpArgs false
open Go.RowKit Go.Joins

theorem hx_up {w w' : World} {v : Value} {L : List Hd} (h : HX w (· < w.heap.size) v L) (hb : Below w.heap.size w w') : HX w' (· < w'.heap.size) v L := by
  obtain ⟨A, c, e, h1, h2⟩ := h
  exact ⟨A, c, e, h1.up hb, h2⟩
theorem intoI_zero {L : List Hd} {a b s : Nat} {f : Int} {M : List Hd} (h : intoI L a b s f = (M, 0)) : (wrS a b s f).2 = 0 ∧ M = setH (setH L kTP (wrS a b s f).1) kTS (txtI L s) := by
  unfold intoI at h
  split at h
  · rename_i h0
    exact ⟨h0, (congrArg Prod.fst h).symm⟩
  · rename_i h0
    exact absurd (congrArg Prod.snd h) h0
theorem intoI_err {L : List Hd} {a b s : Nat} {f : Int} {M : List Hd} {z : Int} (h : intoI L a b s f = (M, z)) (hz : z ≠ 0) : M = [] := by
  unfold intoI at h
  split at h
  · exact absurd (congrArg Prod.snd h).symm hz
  · exact (congrArg Prod.fst h).symm
theorem wrS_zero {a b s : Nat} {f : Int} (h : (wrS a b s f).2 = 0) : 0 ≤ f ∧ f ≤ 255 ∧ (wrS a b s f).1 = parT (a, b, s, f.toNat) := by
  have h0 := h
  unfold wrS at h
  split at h
  · cases h
  · split at h
    · cases h
    · rename_i h1 h2
      exact ⟨by omega, by omega, by unfold wrS; rw [if_neg h1, if_neg h2]⟩
/-- What was put in: what it says, what stands as it stood, what the two values are. -/
theorem intoI_back {L : List Hd} {a b s : Nat} {f : Int} {M : List Hd} (ha : a < 18446744073709551616) (hb : b < 18446744073709551616) (hs : s < 18446744073709551616) (h : intoI L a b s f = (M, 0)) :
    ∃ (k : Nat) (t u : List UInt8), f = (k : Int) ∧ fromI M = ((a, b, s, k), 0) ∧ stripI M = stripI L ∧ M.length = (stripI L).length + 2 ∧ allS M kTP = [t] ∧ allS M kTS = [u] ∧ getH M kTS = (u, true) ∧ valueB t = true ∧ valueB u = true ∧ 21 ≤ u.length ∧ u.length ≤ 64 ∧ t.length ≤ 64 ∧ u.take 5 = [109, 101, 115, 104, 61] := by
  obtain ⟨h0, rfl⟩ := intoI_zero h
  obtain ⟨f0, f1, ft⟩ := wrS_zero h0
  obtain ⟨-, -, hfr⟩ := from_into ha hb hs h0 L (txtI L s)
  obtain ⟨i1, i2, i3⟩ := into_facts L (wrS a b s f).1 (txtI L s)
  obtain ⟨v1, v2, v3⟩ := valueB_txtI L s
  refine ⟨f.toNat, (wrS a b s f).1, txtI L s, by omega, hfr, i3, into_len _ _ _, i1, i2, (into_get _ _ _).2, by rw [ft]; exact valueB_parT _, v1, v2, txtI_len L s, by rw [ft, parT_len]; omega, v3⟩
theorem intoI_len {L : List Hd} {a b s : Nat} {f : Int} {M : List Hd} {z : Int} (h : intoI L a b s f = (M, z)) : M.length ≤ L.length + 2 := by
  by_cases hz : z = 0
  · subst hz
    obtain ⟨-, rfl⟩ := intoI_zero h
    rw [into_len]
    have : (stripI L).length ≤ L.length := List.length_filter_le _ _
    omega
  · rw [intoI_err h hz]; simp
theorem iall_any (w : World) {v : Value} {L : List Hd} (h : HLv w v L) (n t : List UInt8) (H : Hid (allS L n = [t])) : Calls Tryd.prog 11 #[v, .string (bs n)] w fun e w' => ∃ g o c, e = .returned (.slice (some ⟨g, o, none⟩) 1 c) ∧ w'.cell? ⟨g, o, none⟩ = some (.string (bs t)) ∧ Below w.heap.size w w' := by
  obtain ⟨⟨A, c, rfl, h1, _⟩, h3, _⟩ := h
  have := asTexts (rall_any A c L n w h1 (by omega))
  rw [H.out] at this
  refine this.mono fun e w' ⟨A2, c2, e1, hs, hb⟩ => ?_
  obtain ⟨ad, e2, -, hc⟩ := hs 0 (by simp)
  subst e2
  have hpl := plain_of_cell hc
  simp only [Addr.add, if_true] at hpl hc
  obtain ⟨g, o, sp⟩ := ad
  simp only [Addr.mk.injEq, true_and] at hpl
  subst hpl
  exact ⟨g, o, c2, e1, hc, hb⟩
theorem ivalue_any (w : World) (l : List UInt8) (hs : l.length ≤ 64) (H : valueB l = true) : Calls Tryd.prog 13 #[.string (bs l)] w fun e w' => e = .returned (.bool true) ∧ w = w' := by
  have := rvalue_any l w (by omega)
  rw [H] at this
  exact this
set_option maxRecDepth 100000 in
set_option maxHeartbeats 16000000 in
theorem injectBack_walk (v : Value) (L : List Hd) (a b s : Nat) (f : Int) (ha : Hid (a < 18446744073709551616)) (hb : Hid (b < 18446744073709551616)) (hs : Hid (s < 18446744073709551616)) (hf : Hid (-9223372036854775808 ≤ f ∧ f ≤ 9223372036854775807)) (w : World) (E : Pce w ∧ EnvT w) (h : HX w (· < w.heap.size) v L) :
    Calls Tryd.prog 3 #[v, .agg #[.int .u64 (a : Int), .int .u64 (b : Int), .int .u64 (s : Int), .int .i64 f]] w fun e w' => e = .returned (.bool true) ∧ Below w.heap.size w w' := by
  have l1 : (ByteArray.mk #[116, 114, 97, 99, 101, 112, 97, 114, 101, 110, 116]) = bs kTP := rfl
  have l2 : (ByteArray.mk #[116, 114, 97, 99, 101, 115, 116, 97, 116, 101]) = bs kTS := rfl
  have HT := hid E.1
  have HE := hid E.2
  have hg := pr_guard
  have hnot : ∀ (x : Bool) (w : World), (Op.unary .not (.bool x)).run Tryd.prog w = .ok (.bool (!x)) w := fun _ _ => rfl
  have HBel := hid (Below.refl w.heap.size w)
  obtain ⟨A, c, hv, -, -, -, -⟩ := id h
  have HXo := hid h
  clear E h
  have hb_p := ienew w (.cells #[.int .u64 (a : Int), .int .u64 (b : Int), .int .u64 (s : Int), .int .i64 f] 27)
  have HBel := hid (iestep HBel.out hb_p)
  have HXo : Hid (HX (w.alloc (.cells #[.int .u64 (a : Int), .int .u64 (b : Int), .int .u64 (s : Int), .int .i64 f] 27)) (· < (w.alloc (.cells #[.int .u64 (a : Int), .int .u64 (b : Int), .int .u64 (s : Int), .int .i64 f] 27)).heap.size) v L) := hid (hx_up HXo.out hb_p)
  have T_p : Hid (Vk (w.alloc (.cells #[.int .u64 (a : Int), .int .u64 (b : Int), .int .u64 (s : Int), .int .i64 f] 27)) w.heap.size 27 #[.int .u64 (a : Int), .int .u64 (b : Int), .int .u64 (s : Int), .int .i64 f]) := hid (Vk.new _ _ _)
  clear hb_p
  generalize hv0 : w.alloc (.cells #[.int .u64 (a : Int), .int .u64 (b : Int), .int .u64 (s : Int), .int .i64 f] 27) = v0 at *
  obtain ⟨fo, hfo⟩ : ∃ b, fewOk L = b := ⟨_, rfl⟩
  have HFO := hid hfo
  clear hv hfo
  go_enter Tryd.func3, Tryd.ntmps3
  go_upto_region 1 with (fail)
  (try rw [hv0])
  clear hv0
  go_wp2_with fail
  refine (ifew_any v0 HXo.out HFO).mono ?_
  rintro e w0 ⟨rfl, hb0⟩
  have T_p := hid (T_p.out.up hb0)
  have HBel := hid (iestep HBel.out hb0)
  have HXo := hid (hx_up HXo.out hb0)
  clear hb0
  cases fo
  · go_wp2_with fail
    refine (known23_any _ (hid (HT.out.later HBel.out)) (hid (HE.out.later HBel.out))).mono ?_
    rintro e w99 ⟨rfl, hb99⟩
    have HBel := hid (iestep HBel.out hb99)
    go_wp2_with fail
    go_returns
    exact ⟨rfl, HBel.out⟩
  have HLf := HLv.of_few HXo.out HFO.out
  have O_l := hid HLf.1
  have HL := hid HLf.2
  clear HLf HXo HFO
  obtain ⟨M, z, hM⟩ : ∃ M z, intoI L a b s f = (M, z) := ⟨_, _, rfl⟩
  have HM := hid hM
  have HML := hid (intoI_len hM)
  clear hM
  go_upto_region 3 with (fail)
  have f_p0 : w0.cell? ⟨w.heap.size, 0, none⟩ = some (.int .u64 (a : Int)) := Vk.cell T_p.out 0
  have f_p1 : w0.cell? ⟨w.heap.size, 1, none⟩ = some (.int .u64 (b : Int)) := Vk.cell T_p.out 1
  have f_p2 : w0.cell? ⟨w.heap.size, 2, none⟩ = some (.int .u64 (s : Int)) := Vk.cell T_p.out 2
  have f_p3 : w0.cell? ⟨w.heap.size, 3, none⟩ = some (.int .i64 f) := Vk.cell T_p.out 3
  go_wp2_with fail
  clear f_p0 f_p1 f_p2 f_p3
  refine (into_any _ _ a b s f _ O_l.out (by have := HL.out; omega) ha hb hs hf (hid (HT.out.later HBel.out)) (hid (HE.out.later HBel.out)) HM).mono ?_
  rintro e w1 ⟨y1, rfl, hy1, hb1⟩
  have T_p := hid (T_p.out.up hb1)
  have O_l := hid (O_l.out.up hb1)
  have HBel := hid (iestep HBel.out hb1)
  have O_a := hid hy1
  clear hy1 hb1
  by_cases hz : z = 0
  rotate_left
  · have hzn : (z != 0) = true := by simpa using hz
    obtain rfl := intoI_err HM.out hz
    obtain ⟨⟨A1, c1, hv1, -⟩, -⟩ := O_a.out
    have HV1 := hid hv1
    clear hz hv1
    go_upto_region 5 with (fail)
    simp only [HV1.out, List.length_nil]
    go_wp2_with fail
    refine (known23_any _ (hid (HT.out.later HBel.out)) (hid (HE.out.later HBel.out))).mono ?_
    rintro e w99 ⟨rfl, hb99⟩
    have HBel := hid (iestep HBel.out hb99)
    go_wp2_with fail
    go_returns
    exact ⟨rfl, HBel.out⟩
  subst hz
  obtain ⟨k, t, u, rfl, hfr, hst, -, ht, hu, hgu, vt, vu, u21, u64, t64, u5⟩ := intoI_back ha.out hb.out hs.out HM.out
  have HFr := hid hfr
  have HSt := hid hst
  have HAt := hid ht
  have HAu := hid hu
  have HGu := hid hgu
  have HVt := hid (And.intro vt t64)
  have HVu := hid (And.intro vu u64)
  have hne := pr_diff
  obtain ⟨S, hS⟩ : ∃ S, stripI L = S := ⟨_, rfl⟩
  have HS := hid hS
  have HS2 := hid (hst.trans hS)
  clear hfr hst ht hu hgu vt vu t64 hS
  go_upto_region 6 with (fail)
  go_wp2_with fail
  refine (ifrom_any _ _ _ O_a.out (hid (HT.out.later HBel.out)) HFr).mono ?_
  rintro e w2 ⟨rfl, hb2⟩
  have T_p := hid (T_p.out.up hb2)
  have O_l := hid (O_l.out.up hb2)
  have O_a := hid (O_a.out.up hb2)
  have HBel := hid (iestep HBel.out hb2)
  clear hb2
  have hb_x := ienew w2 (.cells #[.int .u64 (a : Int), .int .u64 (b : Int), .int .u64 (s : Int), .int .i64 (k : Int)] 27)
  have T_p := hid (T_p.out.up hb_x)
  have O_l := hid (O_l.out.up hb_x)
  have O_a := hid (O_a.out.up hb_x)
  have HBel := hid (iestep HBel.out hb_x)
  have T_x : Hid (Vk (w2.alloc (.cells #[.int .u64 (a : Int), .int .u64 (b : Int), .int .u64 (s : Int), .int .i64 (k : Int)] 27)) w2.heap.size 27 #[.int .u64 (a : Int), .int .u64 (b : Int), .int .u64 (s : Int), .int .i64 (k : Int)]) := hid (Vk.new _ _ _)
  clear hb_x
  go_upto_region 7 with (fail)
  generalize w2.alloc (.cells #[.int .u64 (a : Int), .int .u64 (b : Int), .int .u64 (s : Int), .int .i64 (k : Int)] 27) = v2 at *
  have f_p0 : v2.cell? ⟨w.heap.size, 0, none⟩ = some (.int .u64 (a : Int)) := Vk.cell T_p.out 0
  have f_p1 : v2.cell? ⟨w.heap.size, 1, none⟩ = some (.int .u64 (b : Int)) := Vk.cell T_p.out 1
  have f_p2 : v2.cell? ⟨w.heap.size, 2, none⟩ = some (.int .u64 (s : Int)) := Vk.cell T_p.out 2
  have f_p3 : v2.cell? ⟨w.heap.size, 3, none⟩ = some (.int .i64 (k : Int)) := Vk.cell T_p.out 3
  have f_x0 : v2.cell? ⟨w2.heap.size, 0, none⟩ = some (.int .u64 (a : Int)) := Vk.cell T_x.out 0
  have f_x1 : v2.cell? ⟨w2.heap.size, 1, none⟩ = some (.int .u64 (b : Int)) := Vk.cell T_x.out 1
  have f_x2 : v2.cell? ⟨w2.heap.size, 2, none⟩ = some (.int .u64 (s : Int)) := Vk.cell T_x.out 2
  have f_x3 : v2.cell? ⟨w2.heap.size, 3, none⟩ = some (.int .i64 (k : Int)) := Vk.cell T_x.out 3
  go_wp2_with fail
  clear f_p0 f_p1 f_p2 f_p3 f_x0 f_x1 f_x2 f_x3
  refine (istrip_any _ _ _ O_a.out HS2).mono ?_
  rintro e w3 ⟨y3, rfl, hy3, hb3⟩
  have T_p := hid (T_p.out.up hb3)
  have T_x := hid (T_x.out.up hb3)
  have O_l := hid (O_l.out.up hb3)
  have O_a := hid (O_a.out.up hb3)
  have HBel := hid (iestep HBel.out hb3)
  have O_s := hid hy3
  clear hy3 hb3
  go_wp2_with fail
  refine (istrip_any _ _ _ O_l.out HS).mono ?_
  rintro e w4 ⟨y4, rfl, hy4, hb4⟩
  have T_p := hid (T_p.out.up hb4)
  have T_x := hid (T_x.out.up hb4)
  have O_l := hid (O_l.out.up hb4)
  have O_a := hid (O_a.out.up hb4)
  have O_s := hid (O_s.out.up hb4)
  have HBel := hid (iestep HBel.out hb4)
  have O_t := hid hy4
  clear hy4 hb4
  go_wp2_with fail
  refine (isame_any _ O_s.out O_t.out (hid (decide_eq_true rfl))).mono ?_
  rintro e w5 ⟨rfl, hb5⟩
  have T_p := hid (T_p.out.up hb5)
  have T_x := hid (T_x.out.up hb5)
  have O_l := hid (O_l.out.up hb5)
  have O_a := hid (O_a.out.up hb5)
  have O_s := hid (O_s.out.up hb5)
  have O_t := hid (O_t.out.up hb5)
  have HBel := hid (iestep HBel.out hb5)
  clear hb5
  go_wp2_with fail
  refine (iall_any _ O_a.out kTP t HAt).mono ?_
  rintro e w6 ⟨g6, o6, c6, rfl, -, hb6⟩
  have T_p := hid (T_p.out.up hb6)
  have T_x := hid (T_x.out.up hb6)
  have O_l := hid (O_l.out.up hb6)
  have O_a := hid (O_a.out.up hb6)
  have O_s := hid (O_s.out.up hb6)
  have O_t := hid (O_t.out.up hb6)
  have HBel := hid (iestep HBel.out hb6)
  clear hb6
  go_wp2_with fail
  refine (iall_any _ O_a.out kTS u HAu).mono ?_
  rintro e w7 ⟨g7, o7, c7, rfl, -, hb7⟩
  have T_p := hid (T_p.out.up hb7)
  have T_x := hid (T_x.out.up hb7)
  have O_l := hid (O_l.out.up hb7)
  have O_a := hid (O_a.out.up hb7)
  have O_s := hid (O_s.out.up hb7)
  have O_t := hid (O_t.out.up hb7)
  have HBel := hid (iestep HBel.out hb7)
  clear hb7
  go_upto_region 9 with (fail)
  go_wp2_with fail
  refine (riget_any _ O_a.out kTS HGu).mono ?_
  rintro e w8 ⟨rfl, hb8⟩
  have T_p := hid (T_p.out.up hb8)
  have T_x := hid (T_x.out.up hb8)
  have O_l := hid (O_l.out.up hb8)
  have O_a := hid (O_a.out.up hb8)
  have O_s := hid (O_s.out.up hb8)
  have O_t := hid (O_t.out.up hb8)
  have HBel := hid (iestep HBel.out hb8)
  clear hb8
  go_upto_region 10 with (fail)
  go_wp2_with fail
  refine (iall_any _ O_a.out kTP t HAt).mono ?_
  rintro e w9 ⟨g9, o9, c9, rfl, hc9, hb9⟩
  have T_p := hid (T_p.out.up hb9)
  have T_x := hid (T_x.out.up hb9)
  have O_l := hid (O_l.out.up hb9)
  have O_a := hid (O_a.out.up hb9)
  have O_s := hid (O_s.out.up hb9)
  have O_t := hid (O_t.out.up hb9)
  have HBel := hid (iestep HBel.out hb9)
  clear hb9
  go_wp2_with fail
  refine (ivalue_any _ t HVt.out.2 HVt.out.1).mono ?_
  rintro e wA ⟨rfl, rfl⟩
  clear hc9
  go_wp2_with fail
  refine (ivalue_any _ u HVu.out.2 HVu.out.1).mono ?_
  rintro e wB ⟨rfl, rfl⟩
  have hu1 : decide ((21 : Int) ≤ (u.length : Int)) = true := decide_eq_true (by omega)
  have hu2 : (21 : Int) ≤ (u.length : Int) := by omega
  have hu3 : (5 : Int) ≤ (u.length : Int) := by omega
  have hx5 : (bs u).extract 0 5 = bs (u.take 5) := by rw [bs_extract]; simp
  have hx6 : (bs u).extract 0 5 = ByteArray.mk #[109, 101, 115, 104, 61] := by rw [hx5, u5]; rfl
  go_wp2_with fail
  refine (known23_any _ (hid (HT.out.later HBel.out)) (hid (HE.out.later HBel.out))).mono ?_
  rintro e w99 ⟨rfl, hb99⟩
  have HBel := hid (iestep HBel.out hb99)
  go_wp2_with fail
  go_returns
  exact ⟨rfl, HBel.out⟩
set_option maxRecDepth 100000 in
set_option maxHeartbeats 16000000 in
theorem injectTwice_walk (v : Value) (L : List Hd) (a b s : Nat) (f : Int) (a2 b2 s2 : Nat) (f2 : Int) (ha : Hid (a < 18446744073709551616)) (hb : Hid (b < 18446744073709551616)) (hs : Hid (s < 18446744073709551616)) (hf : Hid (-9223372036854775808 ≤ f ∧ f ≤ 9223372036854775807)) (ha2 : Hid (a2 < 18446744073709551616)) (hb2 : Hid (b2 < 18446744073709551616)) (hs2 : Hid (s2 < 18446744073709551616)) (hf2 : Hid (-9223372036854775808 ≤ f2 ∧ f2 ≤ 9223372036854775807)) (w : World) (E : Pce w ∧ EnvT w) (h : HX w (· < w.heap.size) v L) :
    Calls Tryd.prog 4 #[v, .agg #[.int .u64 (a : Int), .int .u64 (b : Int), .int .u64 (s : Int), .int .i64 f], .agg #[.int .u64 (a2 : Int), .int .u64 (b2 : Int), .int .u64 (s2 : Int), .int .i64 f2]] w fun e w' => e = .returned (.bool true) ∧ Below w.heap.size w w' := by
  have l1 : (ByteArray.mk #[116, 114, 97, 99, 101, 112, 97, 114, 101, 110, 116]) = bs kTP := rfl
  have l2 : (ByteArray.mk #[116, 114, 97, 99, 101, 115, 116, 97, 116, 101]) = bs kTS := rfl
  have HT := hid E.1
  have HE := hid E.2
  have hg := pr_guard
  have hnot : ∀ (x : Bool) (w : World), (Op.unary .not (.bool x)).run Tryd.prog w = .ok (.bool (!x)) w := fun _ _ => rfl
  have HBel := hid (Below.refl w.heap.size w)
  obtain ⟨A, c, hv, -, -, -, -⟩ := id h
  have HXo := hid h
  clear E h
  have hb_p := ienew w (.cells #[.int .u64 (a : Int), .int .u64 (b : Int), .int .u64 (s : Int), .int .i64 f] 27)
  have HBel := hid (iestep HBel.out hb_p)
  have HXo : Hid (HX (w.alloc (.cells #[.int .u64 (a : Int), .int .u64 (b : Int), .int .u64 (s : Int), .int .i64 f] 27)) (· < (w.alloc (.cells #[.int .u64 (a : Int), .int .u64 (b : Int), .int .u64 (s : Int), .int .i64 f] 27)).heap.size) v L) := hid (hx_up HXo.out hb_p)
  have T_p : Hid (Vk (w.alloc (.cells #[.int .u64 (a : Int), .int .u64 (b : Int), .int .u64 (s : Int), .int .i64 f] 27)) w.heap.size 27 #[.int .u64 (a : Int), .int .u64 (b : Int), .int .u64 (s : Int), .int .i64 f]) := hid (Vk.new _ _ _)
  clear hb_p
  generalize hv0 : w.alloc (.cells #[.int .u64 (a : Int), .int .u64 (b : Int), .int .u64 (s : Int), .int .i64 f] 27) = v0 at *
  have hb_q := ienew v0 (.cells #[.int .u64 (a2 : Int), .int .u64 (b2 : Int), .int .u64 (s2 : Int), .int .i64 f2] 27)
  have T_p := hid (T_p.out.up hb_q)
  have HBel := hid (iestep HBel.out hb_q)
  have HXo : Hid (HX (v0.alloc (.cells #[.int .u64 (a2 : Int), .int .u64 (b2 : Int), .int .u64 (s2 : Int), .int .i64 f2] 27)) (· < (v0.alloc (.cells #[.int .u64 (a2 : Int), .int .u64 (b2 : Int), .int .u64 (s2 : Int), .int .i64 f2] 27)).heap.size) v L) := hid (hx_up HXo.out hb_q)
  have T_q : Hid (Vk (v0.alloc (.cells #[.int .u64 (a2 : Int), .int .u64 (b2 : Int), .int .u64 (s2 : Int), .int .i64 f2] 27)) v0.heap.size 27 #[.int .u64 (a2 : Int), .int .u64 (b2 : Int), .int .u64 (s2 : Int), .int .i64 f2]) := hid (Vk.new _ _ _)
  clear hb_q
  generalize hv1 : v0.alloc (.cells #[.int .u64 (a2 : Int), .int .u64 (b2 : Int), .int .u64 (s2 : Int), .int .i64 f2] 27) = v1 at *
  obtain ⟨fo, hfo⟩ : ∃ b, fewOk L = b := ⟨_, rfl⟩
  have HFO := hid hfo
  clear hv hfo
  go_enter Tryd.func4, Tryd.ntmps4
  go_upto_region 1 with (fail)
  (try rw [hv0])
  (try rw [hv1])
  clear hv0
  clear hv1
  go_wp2_with fail
  refine (ifew_any v1 HXo.out HFO).mono ?_
  rintro e w0 ⟨rfl, hb0⟩
  have T_p := hid (T_p.out.up hb0)
  have T_q := hid (T_q.out.up hb0)
  have HBel := hid (iestep HBel.out hb0)
  have HXo := hid (hx_up HXo.out hb0)
  clear hb0
  cases fo
  · go_wp2_with fail
    refine (known23_any _ (hid (HT.out.later HBel.out)) (hid (HE.out.later HBel.out))).mono ?_
    rintro e w99 ⟨rfl, hb99⟩
    have HBel := hid (iestep HBel.out hb99)
    go_wp2_with fail
    go_returns
    exact ⟨rfl, HBel.out⟩
  have HLf := HLv.of_few HXo.out HFO.out
  have O_l := hid HLf.1
  have HL := hid HLf.2
  clear HLf HXo HFO
  obtain ⟨M, z, hM⟩ : ∃ M z, intoI L a b s f = (M, z) := ⟨_, _, rfl⟩
  obtain ⟨M2, z2, hM2⟩ : ∃ M2 z2, intoI M a2 b2 s2 f2 = (M2, z2) := ⟨_, _, rfl⟩
  have HM := hid hM
  have HM2 := hid hM2
  have HML := hid (intoI_len hM)
  have HML2 := hid (intoI_len hM2)
  clear hM hM2
  go_upto_region 3 with (fail)
  have f_p0 : w0.cell? ⟨w.heap.size, 0, none⟩ = some (.int .u64 (a : Int)) := Vk.cell T_p.out 0
  have f_p1 : w0.cell? ⟨w.heap.size, 1, none⟩ = some (.int .u64 (b : Int)) := Vk.cell T_p.out 1
  have f_p2 : w0.cell? ⟨w.heap.size, 2, none⟩ = some (.int .u64 (s : Int)) := Vk.cell T_p.out 2
  have f_p3 : w0.cell? ⟨w.heap.size, 3, none⟩ = some (.int .i64 f) := Vk.cell T_p.out 3
  go_wp2_with fail
  clear f_p0 f_p1 f_p2 f_p3
  refine (into_any _ _ a b s f _ O_l.out (by have := HL.out; omega) ha hb hs hf (hid (HT.out.later HBel.out)) (hid (HE.out.later HBel.out)) HM).mono ?_
  rintro e w1 ⟨y1, rfl, hy1, hb1⟩
  have T_p := hid (T_p.out.up hb1)
  have T_q := hid (T_q.out.up hb1)
  have O_l := hid (O_l.out.up hb1)
  have HBel := hid (iestep HBel.out hb1)
  have O_a := hid hy1
  clear hy1 hb1
  go_upto_region 4 with (fail)
  have f_q0 : w1.cell? ⟨v0.heap.size, 0, none⟩ = some (.int .u64 (a2 : Int)) := Vk.cell T_q.out 0
  have f_q1 : w1.cell? ⟨v0.heap.size, 1, none⟩ = some (.int .u64 (b2 : Int)) := Vk.cell T_q.out 1
  have f_q2 : w1.cell? ⟨v0.heap.size, 2, none⟩ = some (.int .u64 (s2 : Int)) := Vk.cell T_q.out 2
  have f_q3 : w1.cell? ⟨v0.heap.size, 3, none⟩ = some (.int .i64 f2) := Vk.cell T_q.out 3
  go_wp2_with fail
  clear f_q0 f_q1 f_q2 f_q3
  refine (into_any _ _ a2 b2 s2 f2 _ O_a.out (by have := HL.out; have := HML.out; omega) ha2 hb2 hs2 hf2 (hid (HT.out.later HBel.out)) (hid (HE.out.later HBel.out)) HM2).mono ?_
  rintro e w2 ⟨y2, rfl, hy2, hb2w⟩
  have T_p := hid (T_p.out.up hb2w)
  have T_q := hid (T_q.out.up hb2w)
  have O_l := hid (O_l.out.up hb2w)
  have O_a := hid (O_a.out.up hb2w)
  have HBel := hid (iestep HBel.out hb2w)
  have O_b := hid hy2
  clear hy2 hb2w
  by_cases hz : z = 0
  rotate_left
  · have hzn : (z != 0) = true := by simpa using hz
    clear hz
    go_wp2_with fail
    refine (known23_any _ (hid (HT.out.later HBel.out)) (hid (HE.out.later HBel.out))).mono ?_
    rintro e w99 ⟨rfl, hb99⟩
    have HBel := hid (iestep HBel.out hb99)
    go_wp2_with fail
    go_returns
    exact ⟨rfl, HBel.out⟩
  subst hz
  by_cases hz2 : z2 = 0
  rotate_left
  · have hzn : (z2 != 0) = true := by simpa using hz2
    clear hz2
    go_wp2_with fail
    refine (known23_any _ (hid (HT.out.later HBel.out)) (hid (HE.out.later HBel.out))).mono ?_
    rintro e w99 ⟨rfl, hb99⟩
    have HBel := hid (iestep HBel.out hb99)
    go_wp2_with fail
    go_returns
    exact ⟨rfl, HBel.out⟩
  subst hz2
  obtain ⟨k, -, -, rfl, -, hst, -⟩ := intoI_back ha.out hb.out hs.out HM.out
  obtain ⟨k2, -, -, rfl, hfr2, hst2, hln2, -⟩ := intoI_back ha2.out hb2.out hs2.out HM2.out
  obtain ⟨S, hS⟩ : ∃ S, stripI L = S := ⟨_, rfl⟩
  have HFr := hid hfr2
  have HS := hid hS
  have HS2 := hid (hst2.trans (hst.trans hS))
  obtain ⟨n2, hn2⟩ : ∃ n, M2.length = n := ⟨_, rfl⟩
  obtain ⟨ns, hns⟩ : ∃ n, S.length = n := ⟨_, rfl⟩
  have HN := hid (show n2 = ns + 2 ∧ ns ≤ 60 by
    rw [← hn2, ← hns, hln2, hst, hS]
    have : (stripI L).length ≤ L.length := List.length_filter_le _ _
    rw [hS] at this
    exact ⟨rfl, Nat.le_trans this HL.out⟩)
  have HN2 := hid hn2
  have HNs := hid hns
  have he : ∀ w : World, (binOp .eql 27 (.agg #[.int .u64 (a2 : Int), .int .u64 (b2 : Int), .int .u64 (s2 : Int), .int .i64 (k2 : Int)]) (.agg #[.int .u64 (a2 : Int), .int .u64 (b2 : Int), .int .u64 (s2 : Int), .int .i64 (k2 : Int)])).run Tryd.prog w = .ok (.bool true) w := fun w => pr_same w a2 b2 s2 k2
  clear hst hfr2 hst2 hln2 hS hn2 hns
  go_upto_region 7 with (fail)
  go_wp2_with fail
  refine (ifrom_any _ _ _ O_b.out (hid (HT.out.later HBel.out)) HFr).mono ?_
  rintro e w3 ⟨rfl, hb3⟩
  have T_p := hid (T_p.out.up hb3)
  have T_q := hid (T_q.out.up hb3)
  have O_l := hid (O_l.out.up hb3)
  have O_a := hid (O_a.out.up hb3)
  have O_b := hid (O_b.out.up hb3)
  have HBel := hid (iestep HBel.out hb3)
  clear hb3
  have hb_x := ienew w3 (.cells #[.int .u64 (a2 : Int), .int .u64 (b2 : Int), .int .u64 (s2 : Int), .int .i64 (k2 : Int)] 27)
  have T_p := hid (T_p.out.up hb_x)
  have T_q := hid (T_q.out.up hb_x)
  have O_l := hid (O_l.out.up hb_x)
  have O_a := hid (O_a.out.up hb_x)
  have O_b := hid (O_b.out.up hb_x)
  have HBel := hid (iestep HBel.out hb_x)
  have T_x : Hid (Vk (w3.alloc (.cells #[.int .u64 (a2 : Int), .int .u64 (b2 : Int), .int .u64 (s2 : Int), .int .i64 (k2 : Int)] 27)) w3.heap.size 27 #[.int .u64 (a2 : Int), .int .u64 (b2 : Int), .int .u64 (s2 : Int), .int .i64 (k2 : Int)]) := hid (Vk.new _ _ _)
  clear hb_x
  go_upto_region 8 with (fail)
  generalize w3.alloc (.cells #[.int .u64 (a2 : Int), .int .u64 (b2 : Int), .int .u64 (s2 : Int), .int .i64 (k2 : Int)] 27) = v3 at *
  have f_q0 : v3.cell? ⟨v0.heap.size, 0, none⟩ = some (.int .u64 (a2 : Int)) := Vk.cell T_q.out 0
  have f_q1 : v3.cell? ⟨v0.heap.size, 1, none⟩ = some (.int .u64 (b2 : Int)) := Vk.cell T_q.out 1
  have f_q2 : v3.cell? ⟨v0.heap.size, 2, none⟩ = some (.int .u64 (s2 : Int)) := Vk.cell T_q.out 2
  have f_q3 : v3.cell? ⟨v0.heap.size, 3, none⟩ = some (.int .i64 (k2 : Int)) := Vk.cell T_q.out 3
  have f_x0 : v3.cell? ⟨w3.heap.size, 0, none⟩ = some (.int .u64 (a2 : Int)) := Vk.cell T_x.out 0
  have f_x1 : v3.cell? ⟨w3.heap.size, 1, none⟩ = some (.int .u64 (b2 : Int)) := Vk.cell T_x.out 1
  have f_x2 : v3.cell? ⟨w3.heap.size, 2, none⟩ = some (.int .u64 (s2 : Int)) := Vk.cell T_x.out 2
  have f_x3 : v3.cell? ⟨w3.heap.size, 3, none⟩ = some (.int .i64 (k2 : Int)) := Vk.cell T_x.out 3
  go_wp2_with fail
  clear f_q0 f_q1 f_q2 f_q3 f_x0 f_x1 f_x2 f_x3
  refine (istrip_any _ _ _ O_b.out HS2).mono ?_
  rintro e w4 ⟨y4, rfl, hy4, hb4⟩
  have T_p := hid (T_p.out.up hb4)
  have T_q := hid (T_q.out.up hb4)
  have T_x := hid (T_x.out.up hb4)
  have O_l := hid (O_l.out.up hb4)
  have O_a := hid (O_a.out.up hb4)
  have O_b := hid (O_b.out.up hb4)
  have HBel := hid (iestep HBel.out hb4)
  have O_s := hid hy4
  clear hy4 hb4
  go_wp2_with fail
  refine (istrip_any _ _ _ O_l.out HS).mono ?_
  rintro e w5 ⟨y5, rfl, hy5, hb5⟩
  have T_p := hid (T_p.out.up hb5)
  have T_q := hid (T_q.out.up hb5)
  have T_x := hid (T_x.out.up hb5)
  have O_l := hid (O_l.out.up hb5)
  have O_a := hid (O_a.out.up hb5)
  have O_b := hid (O_b.out.up hb5)
  have O_s := hid (O_s.out.up hb5)
  have HBel := hid (iestep HBel.out hb5)
  have O_t := hid hy5
  clear hy5 hb5
  go_wp2_with fail
  refine (isame_any _ O_s.out O_t.out (hid (decide_eq_true rfl))).mono ?_
  rintro e w6 ⟨rfl, hb6⟩
  have T_p := hid (T_p.out.up hb6)
  have T_q := hid (T_q.out.up hb6)
  have T_x := hid (T_x.out.up hb6)
  have O_l := hid (O_l.out.up hb6)
  have O_a := hid (O_a.out.up hb6)
  have O_b := hid (O_b.out.up hb6)
  have O_s := hid (O_s.out.up hb6)
  have O_t := hid (O_t.out.up hb6)
  have HBel := hid (iestep HBel.out hb6)
  clear hb6
  obtain ⟨⟨B1, d1, hvb, -⟩, -⟩ := O_b.out
  rw [HN2.out] at hvb
  have HVb := hid hvb
  clear hvb
  simp only [HVb.out]
  go_wp2_with fail
  refine (istrip_any _ _ _ O_l.out HS).mono ?_
  rintro e w7 ⟨y7, rfl, hy7, hb7⟩
  have T_p := hid (T_p.out.up hb7)
  have T_q := hid (T_q.out.up hb7)
  have T_x := hid (T_x.out.up hb7)
  have O_l := hid (O_l.out.up hb7)
  have O_a := hid (O_a.out.up hb7)
  have O_b := hid (O_b.out.up hb7)
  have O_s := hid (O_s.out.up hb7)
  have O_t := hid (O_t.out.up hb7)
  have HBel := hid (iestep HBel.out hb7)
  obtain ⟨⟨B7, d7, hv7, -⟩, -⟩ := hy7
  rw [HNs.out] at hv7
  subst hv7
  have hq1 : IntKind.i64.wrap ((ns : Int) + 2) = (n2 : Int) := by rw [IntKind.wrap_i64]; have := HN.out; omega
  have hq2 : wrap64 ((ns : Int) + 2) = (n2 : Int) := by unfold wrap64; have := HN.out; omega
  clear hb7
  go_wp2_with fail
  refine (known23_any _ (hid (HT.out.later HBel.out)) (hid (HE.out.later HBel.out))).mono ?_
  rintro e w99 ⟨rfl, hb99⟩
  have HBel := hid (iestep HBel.out hb99)
  go_wp2_with fail
  go_returns
  exact ⟨rfl, HBel.out⟩
end Go.Proofs.YtnbkpannhcamjaaDoor
