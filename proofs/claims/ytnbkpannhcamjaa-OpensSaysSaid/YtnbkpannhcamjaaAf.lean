/- opens: Start, both. -/
import Derived.Test.YtnbkpannhcamjaaAe
import Derived.Deep.RegionLaw
namespace Go.Proofs.Ytnbkpannhcamjaa
set_option linter.unusedVariables false
set_option linter.unusedSimpArgs false
open Go.RowKit Go.Joins

theorem full_bel {a b c : World} (h : Below a.heap.size a b) (hg : b.grownBy c none) : Below a.heap.size a c := h.grown hg h.size (fun k hk => by cases hk)
/-- What Start answers. -/
def StaR (w : World) (r : List Opn × Int) (e : Ending) (w' : World) : Prop := ∃ y, e = .returned (.tuple #[y, .int .i64 r.2]) ∧ OV w' y r.1 ∧ Below w.heap.size w w'
set_option maxRecDepth 100000 in
set_option maxHeartbeats 8000000 in
theorem start_ok (v : Value) (L : List Opn) (no : Int) (s : Sp) (w : World) (h : OV w v L) (hl : L.length < 256) (hI : opI L no = -1) :
    Calls Try.prog 7 #[v, .int .i64 no, .agg #[.int .u64 (s.hi : Int), .int .u64 (s.lo : Int), .int .u64 (s.id : Int), .int .u64 (s.up : Int), .string (bs s.name), .int .i64 s.status, .int .i64 s.seq, .int .i64 s.kids, .bool s.shade, .int .i64 s.start, .int .i64 s.fin]] w fun e w' => StaR w (L ++ [(no, s)], 0) e w' := by
  have t0 := SpV.new w #[.int .u64 (s.hi : Int), .int .u64 (s.lo : Int), .int .u64 (s.id : Int), .int .u64 (s.up : Int), .string (bs s.name), .int .i64 s.status, .int .i64 s.seq, .int .i64 s.kids, .bool s.shade, .int .i64 s.start, .int .i64 s.fin]
  have HOp := hid (h.up t0.bel)
  have HC := hid (fun (w2 : World) (h2 : OV w2 v L) => place_any v L no w2 h2 (by omega) (hid hI))
  obtain ⟨n, hnn⟩ : ∃ n, L.length = n := ⟨_, rfl⟩
  have hn256 : ¬ ((256 : Int) ≤ (n : Int)) := by omega
  have hnd : decide ((256 : Int) ≤ (n : Int)) = false := decide_eq_false hn256
  have HNl := hid hnn
  have HL := hid hl
  clear hI h hnn hl
  go_enter Try.func7, Try.ntmps7
  go_upto_region 1 with (fail)
  generalize w.alloc (.cells #[.int .u64 (s.hi : Int), .int .u64 (s.lo : Int), .int .u64 (s.id : Int), .int .u64 (s.up : Int), .string (bs s.name), .int .i64 s.status, .int .i64 s.seq, .int .i64 s.kids, .bool s.shade, .int .i64 s.start, .int .i64 s.fin] 27) = v0 at *
  go_wp2_with fail
  refine (HC.out _ HOp.out).mono ?_
  rintro e w1 ⟨rfl, hb1⟩
  have t1 := hid (t0.up hb1)
  obtain ⟨A, c, hv, hgx, hc1, hc2, hc3⟩ := HOp.out.up hb1
  rw [HNl.out] at hv hc1
  subst hv
  have HG := hid hgx
  have c0 : w1.cell? ⟨w.heap.size, 0, none⟩ = some (.int .u64 (s.hi : Int)) := (t1.out.c 0).1
  have c1 : w1.cell? ⟨w.heap.size, 1, none⟩ = some (.int .u64 (s.lo : Int)) := (t1.out.c 1).1
  have c2 : w1.cell? ⟨w.heap.size, 2, none⟩ = some (.int .u64 (s.id : Int)) := (t1.out.c 2).1
  have c3 : w1.cell? ⟨w.heap.size, 3, none⟩ = some (.int .u64 (s.up : Int)) := (t1.out.c 3).1
  have c4 : w1.cell? ⟨w.heap.size, 4, none⟩ = some (.string (bs s.name)) := (t1.out.c 4).1
  have c5 : w1.cell? ⟨w.heap.size, 5, none⟩ = some (.int .i64 s.status) := (t1.out.c 5).1
  have c6 : w1.cell? ⟨w.heap.size, 6, none⟩ = some (.int .i64 s.seq) := (t1.out.c 6).1
  have c7 : w1.cell? ⟨w.heap.size, 7, none⟩ = some (.int .i64 s.kids) := (t1.out.c 7).1
  have c8 : w1.cell? ⟨w.heap.size, 8, none⟩ = some (.bool s.shade) := (t1.out.c 8).1
  have c9 : w1.cell? ⟨w.heap.size, 9, none⟩ = some (.int .i64 s.start) := (t1.out.c 9).1
  have c10 : w1.cell? ⟨w.heap.size, 10, none⟩ = some (.int .i64 s.fin) := (t1.out.c 10).1
  clear hgx
  have hcz : (n : Int) ≤ (c : Int) := by omega
  have hnz : (0 : Int) ≤ (n : Int) := by omega
  have hb2 : Below w1.heap.size w1 (w1.alloc (.cells #[.int .i64 no, .int .u64 (s.hi : Int), .int .u64 (s.lo : Int), .int .u64 (s.id : Int), .int .u64 (s.up : Int), .string (bs s.name), .int .i64 s.status, .int .i64 s.seq, .int .i64 s.kids, .bool s.shade, .int .i64 s.start, .int .i64 s.fin] 44)) := enew w1 _
  have hb3 : Below w1.heap.size w1 (w1.drew.alloc (.cells #[.int .i64 no, .int .u64 (s.hi : Int), .int .u64 (s.lo : Int), .int .u64 (s.id : Int), .int .u64 (s.up : Int), .string (bs s.name), .int .i64 s.status, .int .i64 s.seq, .int .i64 s.kids, .bool s.shade, .int .i64 s.start, .int .i64 s.fin] 44)) := (Below.drew (Below.refl _ w1)).alloc (Nat.le_refl _) _
  have hx1 : GX encO 12 (w1.alloc (.cells #[.int .i64 no, .int .u64 (s.hi : Int), .int .u64 (s.lo : Int), .int .u64 (s.id : Int), .int .u64 (s.up : Int), .string (bs s.name), .int .i64 s.status, .int .i64 s.seq, .int .i64 s.kids, .bool s.shade, .int .i64 s.start, .int .i64 s.fin] 44)) (fun b => b = w1.heap.size) (some ⟨w1.heap.size, 0, none⟩) [(no, s)] := gx_new (M := [(no, s)]) encO_len (Bk.new w1 44 #[.int .i64 no, .int .u64 (s.hi : Int), .int .u64 (s.lo : Int), .int .u64 (s.id : Int), .int .u64 (s.up : Int), .string (bs s.name), .int .i64 s.status, .int .i64 s.seq, .int .i64 s.kids, .bool s.shade, .int .i64 s.start, .int .i64 s.fin]) rfl
  have hx2 : GX encO 12 (w1.drew.alloc (.cells #[.int .i64 no, .int .u64 (s.hi : Int), .int .u64 (s.lo : Int), .int .u64 (s.id : Int), .int .u64 (s.up : Int), .string (bs s.name), .int .i64 s.status, .int .i64 s.seq, .int .i64 s.kids, .bool s.shade, .int .i64 s.start, .int .i64 s.fin] 44)) (fun b => b = w1.heap.size) (some ⟨w1.heap.size, 0, none⟩) [(no, s)] := gx_new (M := [(no, s)]) encO_len (Bk.new w1.drew 44 #[.int .i64 no, .int .u64 (s.hi : Int), .int .u64 (s.lo : Int), .int .u64 (s.id : Int), .int .u64 (s.up : Int), .string (bs s.name), .int .i64 s.status, .int .i64 s.seq, .int .i64 s.kids, .bool s.shade, .int .i64 s.start, .int .i64 s.fin]) rfl
  have hg1 := HG.out.up hb2
  have hg2 := HG.out.up hb3
  have H1 := hid (And.intro hb2 (And.intro hx1 hg1))
  have H2 := hid (And.intro hb3 (And.intro hx2 hg2))
  clear hb2 hb3 hx1 hx2 hg1 hg2
  rcases A with _ | ad
  · have h0 := hc3 rfl
    subst h0
    obtain rfl : n = 0 := by omega
    go_wp2_with fail
    go_region_law (first
      | (refine step_append_full (L := L) (M := [(no, s)]) (cap := 1) rowO rfl _ _ rfl rfl HNl.out H1.out.2.2 rfl H1.out.2.1 (by simp) (by have := HL.out; simp only [List.length_cons, List.length_nil]; omega) ?_
         intro v7 w7 hF hg
         have HF := hid (And.intro hF (show Below w1.heap.size w1 w7 by first | exact full_bel H1.out.1.drew hg | exact full_bel H1.out.1 hg)))
      | (refine step_append_full (L := L) (M := [(no, s)]) (cap := 1) rowO rfl _ _ rfl rfl HNl.out H2.out.2.2 rfl H2.out.2.1 (by simp) (by have := HL.out; simp only [List.length_cons, List.length_nil]; omega) ?_
         intro v7 w7 hF hg
         have HF := hid (And.intro hF (show Below w1.heap.size w1 w7 by first | exact full_bel H2.out.1.drew hg | exact full_bel H2.out.1 hg))))
    all_goals
      clear hF hg
      go_wp2_with fail
      go_returns
      exact ⟨_, rfl, by first | exact (OV.of_gb HF.out.1) | exact (OV.of_gb (w := w7) HF.out.1), by first | exact t1.out.bel.trans (HF.out.2.mono t1.out.low) | exact (t1.out.bel.trans (HF.out.2.mono t1.out.low)).drew⟩
  · go_wp2_with fail
    go_region_law (first
      | (refine step_append_full (L := L) (M := [(no, s)]) (cap := 1) rowO rfl _ _ rfl rfl HNl.out H1.out.2.2 rfl H1.out.2.1 (by simp) (by have := HL.out; simp only [List.length_cons, List.length_nil]; omega) ?_
         intro v7 w7 hF hg
         have HF := hid (And.intro hF (show Below w1.heap.size w1 w7 by first | exact full_bel H1.out.1.drew hg | exact full_bel H1.out.1 hg)))
      | (refine step_append_full (L := L) (M := [(no, s)]) (cap := 1) rowO rfl _ _ rfl rfl HNl.out H2.out.2.2 rfl H2.out.2.1 (by simp) (by have := HL.out; simp only [List.length_cons, List.length_nil]; omega) ?_
         intro v7 w7 hF hg
         have HF := hid (And.intro hF (show Below w1.heap.size w1 w7 by first | exact full_bel H2.out.1.drew hg | exact full_bel H2.out.1 hg))))
    all_goals
      clear hF hg
      go_wp2_with fail
      go_returns
      exact ⟨_, rfl, by first | exact (OV.of_gb HF.out.1) | exact (OV.of_gb (w := w7) HF.out.1), by first | exact t1.out.bel.trans (HF.out.2.mono t1.out.low) | exact (t1.out.bel.trans (HF.out.2.mono t1.out.low)).drew⟩
end Go.Proofs.Ytnbkpannhcamjaa
