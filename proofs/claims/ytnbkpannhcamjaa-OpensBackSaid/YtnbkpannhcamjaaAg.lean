/- opens: Start, whole, both. -/
import Derived.Test.YtnbkpannhcamjaaAf
namespace Go.Proofs.Ytnbkpannhcamjaa
set_option linter.unusedVariables false
set_option linter.unusedSimpArgs false
open Go.RowKit Go.Joins

set_option maxRecDepth 100000 in
set_option maxHeartbeats 8000000 in
/-- A number that is open, or no room. -/
theorem start_no (v : Value) (L : List Opn) (no : Int) (s : Sp) (w : World) (h : OV w v L) (hl : L.length ≤ 1000000) {z x : Int} (hI : Hid (opI L no = z)) (hx : Hid ((0 ≤ z ∧ x = 10) ∨ (z < 0 ∧ 256 ≤ L.length ∧ x = 8))) :
    Calls Try.prog 7 #[v, .int .i64 no, .agg #[.int .u64 (s.hi : Int), .int .u64 (s.lo : Int), .int .u64 (s.id : Int), .int .u64 (s.up : Int), .string (bs s.name), .int .i64 s.status, .int .i64 s.seq, .int .i64 s.kids, .bool s.shade, .int .i64 s.start, .int .i64 s.fin]] w fun e w' => StaR w ([], x) e w' := by
  have t0 := SpV.new w #[.int .u64 (s.hi : Int), .int .u64 (s.lo : Int), .int .u64 (s.id : Int), .int .u64 (s.up : Int), .string (bs s.name), .int .i64 s.status, .int .i64 s.seq, .int .i64 s.kids, .bool s.shade, .int .i64 s.start, .int .i64 s.fin]
  have HOp := hid (h.up t0.bel)
  have HC := hid (fun (w2 : World) (h2 : OV w2 v L) => place_any v L no w2 h2 hl hI)
  obtain ⟨n, hnn⟩ : ∃ n, L.length = n := ⟨_, rfl⟩
  have HNl := hid hnn
  have HL := hid hl
  clear h hnn hl
  go_enter Try.func7, Try.ntmps7
  go_upto_region 1 with (fail)
  generalize w.alloc (.cells #[.int .u64 (s.hi : Int), .int .u64 (s.lo : Int), .int .u64 (s.id : Int), .int .u64 (s.up : Int), .string (bs s.name), .int .i64 s.status, .int .i64 s.seq, .int .i64 s.kids, .bool s.shade, .int .i64 s.start, .int .i64 s.fin] 27) = v0 at *
  go_wp2_with fail
  refine (HC.out _ HOp.out).mono ?_
  rintro e w1 ⟨rfl, hb1⟩
  have t1 := hid (t0.up hb1)
  clear t0
  rcases hx.out with ⟨h1, rfl⟩ | ⟨h1, h2, rfl⟩
  · have hd1 : decide ((0 : Int) ≤ z) = true := decide_eq_true h1
    go_wp2_with fail
    go_returns
    exact ⟨_, rfl, OV.nil _, t1.out.bel⟩
  · have hd1 : decide ((0 : Int) ≤ z) = false := decide_eq_false (by omega)
    have hz : ¬ ((0 : Int) ≤ z) := by omega
    obtain ⟨A, c, hv, -, -, -, -⟩ := HOp.out.up hb1
    rw [HNl.out] at hv h2
    subst hv
    have hd2 : decide ((256 : Int) ≤ (n : Int)) = true := decide_eq_true (by omega)
    clear hb1
    go_wp2_with fail
    go_returns
    exact ⟨_, rfl, OV.nil _, t1.out.bel⟩
set_option maxRecDepth 100000 in
set_option maxHeartbeats 8000000 in
/-- A number that is open, or no room. -/
theorem rstart_no (v : Value) (L : List Opn) (no : Int) (s : Sp) (w : World) (h : OV w v L) (hl : L.length ≤ 1000000) {z x : Int} (hI : Hid (opI L no = z)) (hx : Hid ((0 ≤ z ∧ x = 10) ∨ (z < 0 ∧ 256 ≤ L.length ∧ x = 8))) :
    Calls Try.prog 8 #[v, .int .i64 no, .agg #[.int .u64 (s.hi : Int), .int .u64 (s.lo : Int), .int .u64 (s.id : Int), .int .u64 (s.up : Int), .string (bs s.name), .int .i64 s.status, .int .i64 s.seq, .int .i64 s.kids, .bool s.shade, .int .i64 s.start, .int .i64 s.fin]] w fun e w' => StaR w ([], x) e w' := by
  have t0 := SpV.new w #[.int .u64 (s.hi : Int), .int .u64 (s.lo : Int), .int .u64 (s.id : Int), .int .u64 (s.up : Int), .string (bs s.name), .int .i64 s.status, .int .i64 s.seq, .int .i64 s.kids, .bool s.shade, .int .i64 s.start, .int .i64 s.fin]
  have HOp := hid (h.up t0.bel)
  have HC := hid (fun (w2 : World) (h2 : OV w2 v L) => opat_any v L no w2 h2 hl hI)
  obtain ⟨n, hnn⟩ : ∃ n, L.length = n := ⟨_, rfl⟩
  have HNl := hid hnn
  have HL := hid hl
  clear h hnn hl
  go_enter Try.func8, Try.ntmps8
  go_upto_region 1 with (fail)
  generalize w.alloc (.cells #[.int .u64 (s.hi : Int), .int .u64 (s.lo : Int), .int .u64 (s.id : Int), .int .u64 (s.up : Int), .string (bs s.name), .int .i64 s.status, .int .i64 s.seq, .int .i64 s.kids, .bool s.shade, .int .i64 s.start, .int .i64 s.fin] 27) = v0 at *
  go_wp2_with fail
  refine (HC.out _ HOp.out).mono ?_
  rintro e w1 ⟨rfl, hb1⟩
  have t1 := hid (t0.up hb1)
  clear t0
  rcases hx.out with ⟨h1, rfl⟩ | ⟨h1, h2, rfl⟩
  · have hd1 : decide ((0 : Int) ≤ z) = true := decide_eq_true h1
    go_wp2_with fail
    go_returns
    exact ⟨_, rfl, OV.nil _, t1.out.bel⟩
  · have hd1 : decide ((0 : Int) ≤ z) = false := decide_eq_false (by omega)
    have hz : ¬ ((0 : Int) ≤ z) := by omega
    obtain ⟨A, c, hv, -, -, -, -⟩ := HOp.out.up hb1
    rw [HNl.out] at hv h2
    subst hv
    have hd2 : decide ((256 : Int) ≤ (n : Int)) = true := decide_eq_true (by omega)
    clear hb1
    go_wp2_with fail
    go_returns
    exact ⟨_, rfl, OV.nil _, t1.out.bel⟩
set_option maxRecDepth 100000 in
set_option maxHeartbeats 8000000 in
theorem rstart_ok (v : Value) (L : List Opn) (no : Int) (s : Sp) (w : World) (h : OV w v L) (hl : L.length < 256) (hI : opI L no = -1) :
    Calls Try.prog 8 #[v, .int .i64 no, .agg #[.int .u64 (s.hi : Int), .int .u64 (s.lo : Int), .int .u64 (s.id : Int), .int .u64 (s.up : Int), .string (bs s.name), .int .i64 s.status, .int .i64 s.seq, .int .i64 s.kids, .bool s.shade, .int .i64 s.start, .int .i64 s.fin]] w fun e w' => StaR w (L ++ [(no, s)], 0) e w' := by
  have t0 := SpV.new w #[.int .u64 (s.hi : Int), .int .u64 (s.lo : Int), .int .u64 (s.id : Int), .int .u64 (s.up : Int), .string (bs s.name), .int .i64 s.status, .int .i64 s.seq, .int .i64 s.kids, .bool s.shade, .int .i64 s.start, .int .i64 s.fin]
  have HOp := hid (h.up t0.bel)
  have HC := hid (fun (w2 : World) (h2 : OV w2 v L) => opat_any v L no w2 h2 (by omega) (hid hI))
  obtain ⟨n, hnn⟩ : ∃ n, L.length = n := ⟨_, rfl⟩
  have hn256 : ¬ ((256 : Int) ≤ (n : Int)) := by omega
  have hnd : decide ((256 : Int) ≤ (n : Int)) = false := decide_eq_false hn256
  have HNl := hid hnn
  have HL := hid hl
  clear hI h hnn hl
  go_enter Try.func8, Try.ntmps8
  go_upto_region 1 with (fail)
  generalize w.alloc (.cells #[.int .u64 (s.hi : Int), .int .u64 (s.lo : Int), .int .u64 (s.id : Int), .int .u64 (s.up : Int), .string (bs s.name), .int .i64 s.status, .int .i64 s.seq, .int .i64 s.kids, .bool s.shade, .int .i64 s.start, .int .i64 s.fin] 27) = v0 at *
  go_wp2_with fail
  refine (HC.out _ HOp.out).mono ?_
  rintro e w1 ⟨rfl, hb1⟩
  have t1 := hid (t0.up hb1)
  obtain ⟨A, c, hv, hgx, hc1, hc2, hc3⟩ := HOp.out.up hb1
  have HG := hid (And.intro hgx hc3)
  have HV := hid hv
  rw [HNl.out] at hv
  subst hv
  clear hgx hc1 hc2 hc3 t0 hb1
  go_wp2_with (at_builtin; refine wpList_append_gx (W0 := w1) rowO rfl _ _ rfl w1.heap.size (.slice none 0 0) [] L A c (· < w1.heap.size) rfl (GB.nil _ _) (by rw [HNl.out]; rfl) HG.out.1 HG.out.2 (by have := HL.out; simp only [List.length_nil]; omega) (Below.refl _ _) (Nat.le_refl _) ?_)
  intro v2 w2 hF2 hb2 hg2
  have HF2 := hid (And.intro hF2 hb2)
  have t2 := hid (t1.out.up hb2)
  clear hF2 hb2 hg2
  have c0 : w2.cell? ⟨w.heap.size, 0, none⟩ = some (.int .u64 (s.hi : Int)) := (t2.out.c 0).1
  have c1 : w2.cell? ⟨w.heap.size, 1, none⟩ = some (.int .u64 (s.lo : Int)) := (t2.out.c 1).1
  have c2 : w2.cell? ⟨w.heap.size, 2, none⟩ = some (.int .u64 (s.id : Int)) := (t2.out.c 2).1
  have c3 : w2.cell? ⟨w.heap.size, 3, none⟩ = some (.int .u64 (s.up : Int)) := (t2.out.c 3).1
  have c4 : w2.cell? ⟨w.heap.size, 4, none⟩ = some (.string (bs s.name)) := (t2.out.c 4).1
  have c5 : w2.cell? ⟨w.heap.size, 5, none⟩ = some (.int .i64 s.status) := (t2.out.c 5).1
  have c6 : w2.cell? ⟨w.heap.size, 6, none⟩ = some (.int .i64 s.seq) := (t2.out.c 6).1
  have c7 : w2.cell? ⟨w.heap.size, 7, none⟩ = some (.int .i64 s.kids) := (t2.out.c 7).1
  have c8 : w2.cell? ⟨w.heap.size, 8, none⟩ = some (.bool s.shade) := (t2.out.c 8).1
  have c9 : w2.cell? ⟨w.heap.size, 9, none⟩ = some (.int .i64 s.start) := (t2.out.c 9).1
  have c10 : w2.cell? ⟨w.heap.size, 10, none⟩ = some (.int .i64 s.fin) := (t2.out.c 10).1
  have hb3 : Below w2.heap.size w2 (w2.alloc (.cells #[.int .i64 no, .int .u64 (s.hi : Int), .int .u64 (s.lo : Int), .int .u64 (s.id : Int), .int .u64 (s.up : Int), .string (bs s.name), .int .i64 s.status, .int .i64 s.seq, .int .i64 s.kids, .bool s.shade, .int .i64 s.start, .int .i64 s.fin] 44)) := enew w2 _
  have hx1 : GX encO 12 (w2.alloc (.cells #[.int .i64 no, .int .u64 (s.hi : Int), .int .u64 (s.lo : Int), .int .u64 (s.id : Int), .int .u64 (s.up : Int), .string (bs s.name), .int .i64 s.status, .int .i64 s.seq, .int .i64 s.kids, .bool s.shade, .int .i64 s.start, .int .i64 s.fin] 44)) (fun b => b = w2.heap.size) (some ⟨w2.heap.size, 0, none⟩) [(no, s)] := gx_new (M := [(no, s)]) encO_len (Bk.new w2 44 #[.int .i64 no, .int .u64 (s.hi : Int), .int .u64 (s.lo : Int), .int .u64 (s.id : Int), .int .u64 (s.up : Int), .string (bs s.name), .int .i64 s.status, .int .i64 s.seq, .int .i64 s.kids, .bool s.shade, .int .i64 s.start, .int .i64 s.fin]) rfl
  have H1 := hid (And.intro (HF2.out.2.trans (hb3.mono HF2.out.2.size)) (And.intro hx1 (GB.below HF2.out.1 hb3)))
  have HS := hid HF2.out.2.size
  clear hb3 hx1
  go_wp2_with (at_builtin; refine wpList_append_gx (W0 := w1) rowO rfl _ _ rfl w1.heap.size v2 L [(no, s)] (some ⟨w2.heap.size, 0, none⟩) 1 (fun b => b = w2.heap.size) rfl H1.out.2.2 rfl H1.out.2.1 (fun h => by cases h) (by have := HL.out; simp only [List.length_cons, List.length_nil]; omega) H1.out.1 (Nat.le_refl _) ?_)
  intro v3 w3 hF3 hb3 hg3
  have HF3 := hid (And.intro hF3 hb3)
  clear hF3 hb3 hg3
  go_wp2_with fail
  go_returns
  exact ⟨_, rfl, OV.of_gb HF3.out.1, t1.out.bel.trans (HF3.out.2.mono t1.out.low)⟩
theorem start_any (v : Value) (L : List Opn) (no : Int) (s : Sp) (w : World) (h : OV w v L) (hl : L.length ≤ 1000000) {r : List Opn × Int} (H : Hid (opStart L no s = r)) :
    Calls Try.prog 7 #[v, .int .i64 no, .agg #[.int .u64 (s.hi : Int), .int .u64 (s.lo : Int), .int .u64 (s.id : Int), .int .u64 (s.up : Int), .string (bs s.name), .int .i64 s.status, .int .i64 s.seq, .int .i64 s.kids, .bool s.shade, .int .i64 s.start, .int .i64 s.fin]] w fun e w' => StaR w r e w' := by
  rcases op_case L no with ⟨k, o, hu, hk, hI, -, -, hs⟩ | ⟨hI, -, -, hs⟩
  · rw [← H.out, hs s]
    exact start_no v L no s w h hl (hid hI) (hid (Or.inl ⟨by omega, rfl⟩))
  · rw [← H.out, hs s]
    by_cases hc : 256 ≤ L.length
    · rw [if_pos hc]
      exact start_no v L no s w h hl (hid hI) (hid (Or.inr ⟨by omega, hc, rfl⟩))
    · rw [if_neg hc]
      exact start_ok v L no s w h (by omega) hI
theorem rstart_any (v : Value) (L : List Opn) (no : Int) (s : Sp) (w : World) (h : OV w v L) (hl : L.length ≤ 1000000) {r : List Opn × Int} (H : Hid (opStart L no s = r)) :
    Calls Try.prog 8 #[v, .int .i64 no, .agg #[.int .u64 (s.hi : Int), .int .u64 (s.lo : Int), .int .u64 (s.id : Int), .int .u64 (s.up : Int), .string (bs s.name), .int .i64 s.status, .int .i64 s.seq, .int .i64 s.kids, .bool s.shade, .int .i64 s.start, .int .i64 s.fin]] w fun e w' => StaR w r e w' := by
  rcases op_case L no with ⟨k, o, hu, hk, hI, -, -, hs⟩ | ⟨hI, -, -, hs⟩
  · rw [← H.out, hs s]
    exact rstart_no v L no s w h hl (hid hI) (hid (Or.inl ⟨by omega, rfl⟩))
  · rw [← H.out, hs s]
    by_cases hc : 256 ≤ L.length
    · rw [if_pos hc]
      exact rstart_no v L no s w h hl (hid hI) (hid (Or.inr ⟨by omega, hc, rfl⟩))
    · rw [if_neg hc]
      exact rstart_ok v L no s w h (by omega) hI
end Go.Proofs.Ytnbkpannhcamjaa
