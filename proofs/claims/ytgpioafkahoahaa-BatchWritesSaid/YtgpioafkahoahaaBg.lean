import Derived.Test.YtgpioafkahoahaaBf
import Derived.Deep.Cut
import Derived.Deep.RegionHeld3
namespace Go.Proofs.Ytgpioafkahoahaa
set_option linter.unusedVariables false
set_option linter.unusedSimpArgs false
open Go.RowKit Go.Joins

theorem RW.upB {w v v' : World} {c0 c1 c2 : Value} {Bd : Nat} (h : RW w v c0 c1 c2) (hb : Below Bd v v') (h1 : w.heap.size < Bd) (h2 : Bd ≤ v.heap.size) : RW w v' c0 c1 c2 :=
  ⟨Blk.below h.res hb h1, h.bel.trans (hb.mono (Nat.le_of_lt h1))⟩
theorem RW.setFar {w v : World} {c0 c1 c2 : Value} {g i : Nat} (h : RW w v c0 c1 c2) (hg : w.heap.size < g) (u : Value) : RW w (v.setCell ⟨g, i, none⟩ u) c0 c1 c2 :=
  ⟨Blk.far h.res (by simp only [ne_eq]; omega) u, setb h.bel (by omega) u⟩
theorem SPB.setFar {w : World} {base g i : Nat} {v : Value} {L : List Sp} (h : SPB w base v L) (hg : g < base) (u : Value) : SPB (w.setCell ⟨g, i, none⟩ u) base v L := h.far hg u
theorem SPB.grown {w w' : World} {base : Nat} {v : Value} {L : List Sp} (h : SPB w base v L) (hb : Below w.heap.size w w') : SPB w' base v L := h.below hb
/-- Where the definition's loop is. -/
structure LP (w : World) (g Bd : Nat) (n q : Int) (v : World) (f : Value) (acc : List Sp) : Prop where
  res : RW w v (.int .i64 0) (.int .i64 0) (.slice none 0 0)
  own : Blk v g 39 #[.int .i64 n, .int .i64 q, f]
  row : SPB v Bd f acc
  size : Bd ≤ v.heap.size
  ltw : w.heap.size < g
  ltg : g < Bd
theorem LP.up {w : World} {g Bd : Nat} {n q : Int} {v v' : World} {f : Value} {acc : List Sp} (h : LP w g Bd n q v f acc) (hb : Below v.heap.size v v') : LP w g Bd n q v' f acc :=
  ⟨h.res.up hb, Blk.below h.own hb (Blk.lt h.own), h.row.below hb, Nat.le_trans h.size hb.size, h.ltw, h.ltg⟩
theorem LP.put {w : World} {g Bd : Nat} {n q : Int} {v v' : World} {f f' : Value} {acc acc' : List Sp} (h : LP w g Bd n q v f acc) (hb : Below Bd v v') (hr : SPB v' Bd f' acc') : LP w g Bd n q (v'.setCell ⟨g, 2, none⟩ f') f' acc' := by
  have hl1 := h.ltw
  have hl2 := h.ltg
  have ho : Blk v' g 39 #[.int .i64 n, .int .i64 q, f] := Blk.below h.own hb hl2
  refine ⟨(h.res.upB hb (by omega) h.size).setFar hl1 _, Blk.set_ ho 2 f', hr.setFar hl2 _, ?_, hl1, hl2⟩
  have := hb.size
  simp [World.setCell]
  exact Nat.le_trans h.size this
theorem LP.cells {w : World} {g Bd : Nat} {n q : Int} {v : World} {f : Value} {acc : List Sp} (h : LP w g Bd n q v f acc) : v.cell? ⟨g, 0, none⟩ = some (.int .i64 n) ∧ v.cell? ⟨g, 1, none⟩ = some (.int .i64 q) ∧ v.cell? ⟨g, 2, none⟩ = some f ∧ v.frozen? ⟨g, 2, none⟩ = false :=
  ⟨Blk.cell h.own 0, Blk.cell h.own 1, Blk.cell h.own 2, Blk.frozen h.own 2⟩
theorem keep2 {v : World} {g : Nat} {x y : Value} (h0 : v.cell? ⟨g, 0, none⟩ = some x) (h1 : v.cell? ⟨g, 1, none⟩ = some y) : v.drew.cell? ⟨g, 0, none⟩ = some x ∧ v.drew.cell? ⟨g, 1, none⟩ = some y := ⟨h0, h1⟩
theorem keep2a {v : World} {g : Nat} {x y : Value} (h0 : v.cell? ⟨g, 0, none⟩ = some x) (h1 : v.cell? ⟨g, 1, none⟩ = some y) (ob : Obj) : (v.alloc ob).drew.cell? ⟨g, 0, none⟩ = some x ∧ (v.alloc ob).drew.cell? ⟨g, 1, none⟩ = some y :=
  ⟨((sbelow_new v ob).cell (p := ⟨g, 0, none⟩) (lt_of_cell h0)).trans h0, ((sbelow_new v ob).cell (p := ⟨g, 1, none⟩) (lt_of_cell h1)).trans h1⟩
set_option maxRecDepth 100000 in
set_option maxHeartbeats 16000000 in
theorem rbread_any (s : List UInt8) (w : World) (hs : s.length ≤ 140737488351232) {n q : Nat} {L : List Sp} {r : Int} (H : Hid (readB s = (n, q, L, r))) :
    Calls Try.prog 26 #[.string (bs s)] w fun e w' => (∃ v, e = .returned (.tuple #[.agg #[.int .i64 n, .int .i64 q, v], .int .i64 r]) ∧ SPB w' w.heap.size v L) ∧ Below w.heap.size w w' := by
  have H0 := H.out
  clear H
  obtain ⟨l, e, ho⟩ : ∃ l e, opM mkB s = (l, e) := ⟨_, _, rfl⟩
  have hll := opM_len ho
  rw [readB, ho] at H0
  simp only at H0
  obtain ⟨n', a1, e1, h1⟩ : ∃ x y z, nmP l 7 0 0 = (x, y, z) := ⟨_, _, _, rfl⟩
  obtain ⟨q', a2, e2, h2⟩ : ∃ x y z, nmP l 1099511627776 a1 e1 = (x, y, z) := ⟨_, _, _, rfl⟩
  obtain ⟨m, a3, e3, h3⟩ : ∃ x y z, nmP l 16 a2 e2 = (x, y, z) := ⟨_, _, _, rfl⟩
  have b1 := nmP_in h1 (by omega)
  have b2 := nmP_in h2 b1
  have b3 := nmP_in h3 b2
  obtain ⟨f1, f2, f3⟩ := fr_link mkB_len ho h1 h2
  by_cases he : e = 0
  rotate_left
  · rw [if_pos he] at H0
    simp only [Prod.mk.injEq] at H0
    obtain ⟨rfl, rfl, rfl, rfl⟩ := H0
    have hfr := fun w' => front_any mkB s 1 kind_one w' hs (hid (f1 he))
    have HFR := hid hfr
    have hb : (e != 0) = true := by simpa using he
    clear he f1 f2 f3 h1 h2 h3 ho hfr
    go_enter Try.func26, Try.ntmps26
    go_upto_region 1 with (fail)
    have t0 := RW.new w
    generalize w.alloc (.cells #[.int .i64 0, .int .i64 0, .slice none 0 0] 39) = v0 at *
    go_wp2_with fail
    refine (HFR.out _).mono ?_
    rintro r w1 ⟨⟨vf, rfl, hf⟩, hb1⟩
    have t1 := t0.up hb1
    clear hb1 t0
    obtain ⟨r0, r1, r2, z0, z1, z2⟩ := RW.cells t1
    go_wp2_with fail
    have t9 := RW.fill t1 (.int .i64 0) (.int .i64 0) (.slice none 0 0)
    clear r0 r1 r2 z0 z1 z2
    generalize (((w1.setCell ⟨w.heap.size, 0, none⟩ (.int .i64 0)).setCell ⟨w.heap.size, 1, none⟩ (.int .i64 0)).setCell ⟨w.heap.size, 2, none⟩ (.slice none 0 0)) = v9 at *
    obtain ⟨r0, r1, r2, z0, z1, z2⟩ := t9.cells
    (try simp only [Exit.inBlock, Exit.then])
    refine bodyPost_ret (v := .tuple #[.agg #[(.int .i64 0), (.int .i64 0), (.slice none 0 0)], .int .i64 e]) (by simp [results, Try.results26, go_sem, r0, r1, r2]; try rfl) rfl ?_
    exact ⟨⟨_, rfl, SPB.nil _ _⟩, t9.bel⟩
  rw [if_neg (by simpa using he)] at H0
  by_cases h20 : e2 = 0
  rotate_left
  · have h3' := h3
    rw [nmP_err h20] at h3'
    simp only [Prod.mk.injEq] at h3'
    obtain ⟨-, -, rfl⟩ := h3'
    rw [rdB_err h1 h2 h3 h20] at H0
    simp only [Prod.mk.injEq] at H0
    obtain ⟨rfl, rfl, rfl, rfl⟩ := H0
    have hfr := fun w' => front_any mkB s 1 kind_one w' hs (hid (f2 he h20))
    have HFR := hid hfr
    have hb : (e2 != 0) = true := by simpa using h20
    clear he f1 f2 f3 h1 h2 h3 ho hfr h20
    go_enter Try.func26, Try.ntmps26
    go_upto_region 1 with (fail)
    have t0 := RW.new w
    generalize w.alloc (.cells #[.int .i64 0, .int .i64 0, .slice none 0 0] 39) = v0 at *
    go_wp2_with fail
    refine (HFR.out _).mono ?_
    rintro r w1 ⟨⟨vf, rfl, hf⟩, hb1⟩
    have t1 := t0.up hb1
    clear hb1 t0
    obtain ⟨r0, r1, r2, z0, z1, z2⟩ := RW.cells t1
    go_wp2_with fail
    have t9 := RW.fill t1 (.int .i64 0) (.int .i64 0) (.slice none 0 0)
    clear r0 r1 r2 z0 z1 z2
    generalize (((w1.setCell ⟨w.heap.size, 0, none⟩ (.int .i64 0)).setCell ⟨w.heap.size, 1, none⟩ (.int .i64 0)).setCell ⟨w.heap.size, 2, none⟩ (.slice none 0 0)) = v9 at *
    obtain ⟨r0, r1, r2, z0, z1, z2⟩ := t9.cells
    (try simp only [Exit.inBlock, Exit.then])
    refine bodyPost_ret (v := .tuple #[.agg #[(.int .i64 0), (.int .i64 0), (.slice none 0 0)], .int .i64 e2]) (by simp [results, Try.results26, go_sem, r0, r1, r2]; try rfl) rfl ?_
    exact ⟨⟨_, rfl, SPB.nil _ _⟩, t9.bel⟩
  have hfr := fun w' => front_any mkB s 1 kind_one w' hs (hid (f3 he h20))
  have HFR := hid hfr
  have htl2 : (mkB ++ l).length ≤ s.length := by
    have hb := (opM_back (m := mkB) (s := s) (l := l) (by rw [he] at ho; exact ho)).1
    have hb2 := congrArg List.length hb
    rw [sealS_length] at hb2
    omega
  subst h20
  clear f1 f2 f3 hfr ho
  obtain ⟨g3, g4⟩ := num_link mkB l b2.1 h3
  have htl : (mkB ++ l).length = 3 + l.length := by rw [List.length_append, mkB_len]
  rw [mkB_len] at g3 g4
  by_cases h30 : e3 = 0
  rotate_left
  · rw [rdB_err h1 h2 h3 h30] at H0
    simp only [Prod.mk.injEq] at H0
    obtain ⟨rfl, rfl, rfl, rfl⟩ := H0
    have hnn := fun w' => rnumber_any (mkB ++ l) (3 + a2) 16 w' (by omega) (by omega) (by omega) (hid (g4 h30))
    have HNN := hid hnn
    have hb : (e3 != 0) = true := by simpa using h30
    clear g3 g4 hnn h30 h1 h2 h3
    generalize mkB ++ l = t at *
    go_enter Try.func26, Try.ntmps26
    go_upto_region 1 with (fail)
    have t0 := RW.new w
    generalize w.alloc (.cells #[.int .i64 0, .int .i64 0, .slice none 0 0] 39) = v0 at *
    go_wp2_with fail
    refine (HFR.out _).mono ?_
    rintro r w1 ⟨⟨vf, rfl, hf⟩, hb1⟩
    have t1 := t0.up hb1
    clear hb1 t0
    go_wp2_with fail
    refine (HNN.out _).mono ?_
    rintro r w2 ⟨rfl, rfl⟩
    obtain ⟨r0, r1, r2, z0, z1, z2⟩ := RW.cells t1
    go_wp2_with fail
    have t9 := RW.fill t1 (.int .i64 0) (.int .i64 0) (.slice none 0 0)
    clear r0 r1 r2 z0 z1 z2
    generalize (((w1.setCell ⟨w.heap.size, 0, none⟩ (.int .i64 0)).setCell ⟨w.heap.size, 1, none⟩ (.int .i64 0)).setCell ⟨w.heap.size, 2, none⟩ (.slice none 0 0)) = v9 at *
    obtain ⟨r0, r1, r2, z0, z1, z2⟩ := t9.cells
    (try simp only [Exit.inBlock, Exit.then])
    refine bodyPost_ret (v := .tuple #[.agg #[(.int .i64 0), (.int .i64 0), (.slice none 0 0)], .int .i64 e3]) (by simp [results, Try.results26, go_sem, r0, r1, r2]; try rfl) rfl ?_
    exact ⟨⟨_, rfl, SPB.nil _ _⟩, t9.bel⟩
  subst h30
  obtain ⟨g5, g6, g7, hm16⟩ := g3 rfl
  have hnn := fun w' => rnumber_any (mkB ++ l) (3 + a2) 16 w' (by omega) (by omega) (by omega) (hid g5)
  have HNN := hid hnn
  obtain ⟨k3, rfl⟩ := Int.eq_ofNat_of_zero_le g6
  obtain ⟨L0, c0, x0, hrs⟩ : ∃ L0 c0 x0, rsS (l.drop k3) m 0 = (L0, c0, x0) := ⟨_, _, _, rfl⟩
  have hsh := rsS_sh (mkB ++ l.take k3) (l.drop k3) m 0 (Int.le_refl 0)
  rw [List.append_assoc, List.take_append_drop, hrs] at hsh
  have hpl : (((mkB ++ l.take k3).length : Nat) : Int) = 3 + k3 := by rw [List.length_append, mkB_len, List.length_take]; omega
  rw [hpl, show (3 : Int) + (k3 : Int) + 0 = 3 + k3 by omega] at hsh
  simp only at hsh
  have hrange : x0 = 0 → 0 ≤ c0 ∧ c0 ≤ (l.drop k3).length := fun hx => by
    subst hx
    obtain ⟨_, p1, p2, _⟩ := rs_back m 0 c0 L0 (by omega) (by omega) hrs
    exact ⟨p1, p2⟩
  rw [List.length_drop] at hrange
  obtain ⟨cc, hcc⟩ : ∃ cc, (if x0 = 0 then (3 : Int) + k3 + c0 else 0) = cc := ⟨_, rfl⟩
  rw [hcc] at hsh
  have hsp : spsS (l.drop k3) m = if x0 ≠ 0 then ([], x0) else if c0 < (l.drop k3).length then ([], 3) else if m = 0 then ([], 9) else (L0, 0) := by rw [spsS, hrs]
  obtain ⟨L', yy, hly⟩ : ∃ L' y, spsS (l.drop k3) m = (L', y) := ⟨_, _, rfl⟩
  rw [rdB_spans (L := L') (e := yy) h1 h2 h3 (by rw [Int.toNat_natCast]; exact hly)] at H0
  rw [hly, List.length_drop] at hsp
  have HSH := hid hsh
  have HH := hid H0
  have HSP := hid hsp
  have HCC := hid hcc
  have HRG := hid hrange
  clear g3 g4 g5 hnn h1 h2 h3 hrs hsh hpl hly H0 hsp hcc hrange
  generalize mkB ++ l = t at *
  go_enter Try.func26, Try.ntmps26
  go_upto_region 1 with (fail)
  have t0 := RW.new w
  generalize w.alloc (.cells #[.int .i64 0, .int .i64 0, .slice none 0 0] 39) = v0 at *
  go_wp2_with fail
  refine (HFR.out _).mono ?_
  rintro r w1 ⟨⟨vf, rfl, hf⟩, hb1⟩
  have t1 := t0.up hb1
  clear hb1 t0
  go_wp2_with fail
  refine (HNN.out _).mono ?_
  rintro r w2 ⟨rfl, rfl⟩
  obtain ⟨gf, cf, rfl, hgf1, hgf2, hcell⟩ := hf.form (by simp)
  have x0' : w1.cell? ⟨gf, 0, none⟩ = some (.int .i64 (n' : Int)) := hcell 0 (by simp)
  have x1' : w1.cell? ⟨gf, 1, none⟩ = some (.int .i64 (q' : Int)) := hcell 1 (by simp)
  clear hcell hf HFR HNN
  simp only [List.length_cons, List.length_nil]
  go_wp2_with fail
  go_region_held3 (fun w' => w'.cell? ⟨gf, 0, none⟩ = some (.int .i64 (n' : Int)) ∧ w'.cell? ⟨gf, 1, none⟩ = some (.int .i64 (q' : Int))) (first | (with_reducible exact keep2 x0' x1') | (with_reducible exact keep2a x0' x1' _)) (fail)
  have hlp : LP w w1.heap.size (w1.heap.size + 1) n' q' (w1.alloc (.cells #[.int .i64 (n' : Int), .int .i64 (q' : Int), .slice none 0 0] 39)).drew (.slice none 0 0) [] := by
    have hb := (sbelow_new w1 (.cells #[.int .i64 (n' : Int), .int .i64 (q' : Int), .slice none 0 0] 39)).drew
    have hu := t1.up hb
    refine ⟨hu, Blk.drew (Blk.new _ _ _), SPB.nil _ _, by simp [World.drew], Blk.lt t1.res, by omega⟩
  have HLP := hid hlp
  clear hlp x0' x1' t1
  generalize (w1.alloc (.cells #[.int .i64 (n' : Int), .int .i64 (q' : Int), .slice none 0 0] 39)).drew = v2 at *
  go_wp2_with fail
  go_loopw [6, 10] (fun at' i wr => ∃ (j : Nat) (p : Int) (acc : List Sp) (f : Value), j ≤ m ∧ 0 ≤ p ∧ p ≤ t.length ∧ Hid (acc.length = j ∧ cmr acc (rsS t (m - j) p) = (L0, cc, x0) ∧ LP w w1.heap.size (w1.heap.size + 1) n' q' wr f acc) ∧ at' = .int .i64 p ∧ i = .int .i64 j) (fun _ i _ => m - (intOf i).toNat)
  case atStart => exact ⟨0, 3 + k3, [], .slice none 0 0, by omega, by omega, by omega, hid ⟨rfl, by rw [Nat.sub_zero, cmr_nil]; exact HSH.out, HLP.out⟩, rfl, rfl⟩
  case round =>
    obtain ⟨j, p, acc, f, hj, hp0, hp1, HW, rfl, rfl⟩ := hrel
    by_cases hlt : j < m
    · obtain ⟨s2, b2', y2, hrd⟩ : ∃ s q r, readS t p = (s, q, r) := ⟨_, _, _, rfl⟩
      obtain ⟨a, b, c, d, nm, st, sq, kd, sh, x, y⟩ := s2
      have HRD := hid hrd
      have hsr := fun w' => rspread_at t p w' (by omega) (by omega) HRD
      have HSR := hid hsr
      have hji : decide ((j : Int) < (m : Int)) = true := by simp; omega
      clear hsr
      by_cases hr0 : y2 = 0
      · subst hr0
        have hbk := readS_back hrd
        have HSTEP := hid (cmr_step (k := m - (j + 1)) acc hrd)
        have hq0 : 0 ≤ b2' := by omega
        have hq1 : b2' ≤ t.length := hbk.2.2.1
        clear hbk hrd
        go_wp2_with fail
        refine (HSR.out _).mono ?_
        rintro e' w3 ⟨rfl, hb3⟩
        have hlA := (HW.out.2.2.up hb3).up (sbelow_new w3 (.cells #[.int .u64 (a : Int), .int .u64 (b : Int), .int .u64 (c : Int), .int .u64 (d : Int), .string (bs nm), .int .i64 st, .int .i64 sq, .int .i64 kd, .bool sh, .int .i64 x, .int .i64 y] 26))
        have hsA := SB.new w3 a b c d nm st sq kd sh x y
        clear hb3
        go_upto_region 12 with (fail)
        generalize w3.alloc (.cells #[.int .u64 (a : Int), .int .u64 (b : Int), .int .u64 (c : Int), .int .u64 (d : Int), .string (bs nm), .int .i64 st, .int .i64 sq, .int .i64 kd, .bool sh, .int .i64 x, .int .i64 y] 26) = v3 at *
        obtain ⟨c0, c1, c2, c3, c4, c5, c6, c7, c8, c9, c10⟩ := hsA.cells
        obtain ⟨k0, k1, k2, kf⟩ := hlA.cells
        have hlt1 : w1.heap.size < v3.heap.size := lt_of_cell k0
        have hbB := sbelow_new v3 (.cells #[.int .u64 (a : Int), .int .u64 (b : Int), .int .u64 (c : Int), .int .u64 (d : Int), .string (bs nm), .int .i64 st, .int .i64 sq, .int .i64 kd, .bool sh, .int .i64 x, .int .i64 y] 26)
        have hoB := hlA.row.below hbB
        have hcB : ∀ i, i < 11 → (v3.alloc (.cells #[.int .u64 (a : Int), .int .u64 (b : Int), .int .u64 (c : Int), .int .u64 (d : Int), .string (bs nm), .int .i64 st, .int .i64 sq, .int .i64 kd, .bool sh, .int .i64 x, .int .i64 y] 26)).cell? ⟨v3.heap.size, i, none⟩ = (spA ⟨a, b, c, d, nm, st, sq, kd, sh, x, y⟩).toList[i]? := fun i _ => by rw [Array.getElem?_toList]; exact Blk.cell (SB.new v3 a b c d nm st sq kd sh x y) i
        have hB3 : Below (w1.heap.size + 1) v3 (v3.alloc (.cells #[.int .u64 (a : Int), .int .u64 (b : Int), .int .u64 (c : Int), .int .u64 (d : Int), .string (bs nm), .int .i64 st, .int .i64 sq, .int .i64 kd, .bool sh, .int .i64 x, .int .i64 y] 26)) := hbB.mono hlA.size
        have HBB := hid (And.intro hB3 (And.intro hoB hcB))
        have HLA := hid hlA
        clear hbB hoB hcB hsA hB3 hlA
        go_wp2_with (at_builtin; refine wpList_append_sp rfl _ _ rfl (w1.heap.size + 1) f acc ⟨a, b, c, d, nm, st, sq, kd, sh, x, y⟩ v3.heap.size rfl HBB.out.2.1 rfl HBB.out.2.2 (by have := HW.out.1; omega) HBB.out.1 HLA.out.size ?_)
        intro v' w4 hown hb4 _
        have hc4 : w4.cell? ⟨w1.heap.size, 2, none⟩ = some f := (hb4.cell (p := ⟨w1.heap.size, 2, none⟩) (Nat.lt_succ_self _)).trans k2
        have hf4 : w4.frozen? ⟨w1.heap.size, 2, none⟩ = false := (hb4.frozen (p := ⟨w1.heap.size, 2, none⟩) (Nat.lt_succ_self _)).trans kf
        obtain ⟨AA, ca, hva⟩ : ∃ AA ca, v' = .slice AA (acc.length + 1) ca := by obtain ⟨A, c, e, _⟩ := SPB.form hown; rw [List.length_append] at e; exact ⟨A, c, e⟩
        subst hva
        have H2 := hid (HLA.out.put hb4 hown)
        clear hown hb4 c0 c1 c2 c3 c4 c5 c6 c7 c8 c9 c10 k0 k1 k2 kf
        go_wp2_with fail
        go_roundw
        case rel =>
          refine ⟨j + 1, b2', acc ++ [⟨a, b, c, d, nm, st, sq, kd, sh, x, y⟩], _, by omega, hq0, hq1, hid ⟨by rw [List.length_append, HW.out.1]; rfl, ?_, H2.out⟩, rfl, by go_num⟩
          rw [← HSTEP.out, show m - (j + 1) + 1 = m - j by omega]
          exact HW.out.2.1
        case measure => simp [intOf]; omega
      · have hst := rsS_err (k := m - (j + 1)) hrd hr0
        have hc := HW.out.2.1
        rw [show m - j = m - (j + 1) + 1 by omega, hst, cmr, if_pos hr0] at hc
        simp only [Prod.mk.injEq] at hc
        obtain ⟨-, -, rfl⟩ := hc
        have h0 := HSP.out
        rw [if_pos hr0] at h0
        simp only [Prod.mk.injEq] at h0
        obtain ⟨rfl, hyy⟩ := h0
        subst hyy
        have h1 := HH.out
        rw [if_pos hr0] at h1
        simp only [Prod.mk.injEq] at h1
        obtain ⟨rfl, rfl, rfl, rfl⟩ := h1
        have hb : (yy != 0) = true := by simpa using hr0
        clear hr0 hst hrd
        go_wp2_with fail
        refine (HSR.out _).mono ?_
        rintro e' w3 ⟨rfl, hb3⟩
        have hlA := (HW.out.2.2.up hb3).up (sbelow_new w3 (.cells #[.int .u64 (a : Int), .int .u64 (b : Int), .int .u64 (c : Int), .int .u64 (d : Int), .string (bs nm), .int .i64 st, .int .i64 sq, .int .i64 kd, .bool sh, .int .i64 x, .int .i64 y] 26))
        have t3 := hlA.res
        clear hb3 hlA
        go_upto_region 12 with (fail)
        generalize w3.alloc (.cells #[.int .u64 (a : Int), .int .u64 (b : Int), .int .u64 (c : Int), .int .u64 (d : Int), .string (bs nm), .int .i64 st, .int .i64 sq, .int .i64 kd, .bool sh, .int .i64 x, .int .i64 y] 26) = v3 at *
        obtain ⟨r0, r1, r2, z0, z1, z2⟩ := RW.cells t3
        go_wp2_with fail
        have t9 := RW.fill t3 (.int .i64 0) (.int .i64 0) (.slice none 0 0)
        clear r0 r1 r2 z0 z1 z2
        generalize (((v3.setCell ⟨w.heap.size, 0, none⟩ (.int .i64 0)).setCell ⟨w.heap.size, 1, none⟩ (.int .i64 0)).setCell ⟨w.heap.size, 2, none⟩ (.slice none 0 0)) = v9 at *
        obtain ⟨r0, r1, r2, z0, z1, z2⟩ := t9.cells
        (try simp only [Exit.inBlock, Exit.then])
        refine bodyPost_ret (v := .tuple #[.agg #[(.int .i64 0), (.int .i64 0), (.slice none 0 0)], .int .i64 yy]) (by simp [results, Try.results26, go_sem, r0, r1, r2]; try rfl) rfl ?_
        exact ⟨⟨_, rfl, SPB.nil _ _⟩, t9.bel⟩
    · obtain rfl : j = m := by omega
      have hc := HW.out.2.1
      rw [Nat.sub_self, rsS, cmr, if_neg (by simp)] at hc
      simp only [Prod.mk.injEq, List.append_nil] at hc
      obtain ⟨rfl, hpc, hx0⟩ := hc
      have h0 := HSP.out
      rw [← hx0, if_neg (by simp)] at h0
      have hcc := HCC.out
      rw [← hx0, if_pos rfl] at hcc
      have hrg := HRG.out hx0.symm
      have hji : decide ((j : Int) < (j : Int)) = false := by simp
      have t3 := HW.out.2.2.res
      by_cases hshort : c0 < ((l.length - k3 : Nat) : Int)
      · rw [if_pos hshort] at h0
        simp only [Prod.mk.injEq] at h0
        obtain ⟨rfl, rfl⟩ := h0
        have h1 := HH.out
        rw [if_pos (by simp)] at h1
        simp only [Prod.mk.injEq] at h1
        obtain ⟨rfl, rfl, rfl, rfl⟩ := h1
        have hne : (p != ((t.length : Nat) : Int)) = true := by simp; omega
        clear hcc hrg hpc hx0
        obtain ⟨r0, r1, r2, z0, z1, z2⟩ := RW.cells t3
        go_wp2_with fail
        have t9 := RW.fill t3 (.int .i64 0) (.int .i64 0) (.slice none 0 0)
        clear r0 r1 r2 z0 z1 z2
        generalize (((wr.setCell ⟨w.heap.size, 0, none⟩ (.int .i64 0)).setCell ⟨w.heap.size, 1, none⟩ (.int .i64 0)).setCell ⟨w.heap.size, 2, none⟩ (.slice none 0 0)) = v9 at *
        obtain ⟨r0, r1, r2, z0, z1, z2⟩ := t9.cells
        (try simp only [Exit.inBlock, Exit.then])
        refine bodyPost_ret (v := .tuple #[.agg #[(.int .i64 0), (.int .i64 0), (.slice none 0 0)], .int .i64 3]) (by simp [results, Try.results26, go_sem, r0, r1, r2]; try rfl) rfl ?_
        exact ⟨⟨_, rfl, SPB.nil _ _⟩, t9.bel⟩
      · rw [if_neg hshort] at h0
        have hne : (p != ((t.length : Nat) : Int)) = false := by simp; omega
        by_cases hz : j = 0
        · rw [if_pos hz] at h0
          simp only [Prod.mk.injEq] at h0
          obtain ⟨rfl, rfl⟩ := h0
          have h1 := HH.out
          rw [if_pos (by simp)] at h1
          simp only [Prod.mk.injEq] at h1
          obtain ⟨rfl, rfl, rfl, rfl⟩ := h1
          have hbz : ((j : Int) == 0) = true := by simp [hz]
          have HZ := hid hz
          clear hz hcc hrg hpc hx0
          obtain ⟨r0, r1, r2, z0, z1, z2⟩ := RW.cells t3
          go_wp2_with fail
          have t9 := RW.fill t3 (.int .i64 0) (.int .i64 0) (.slice none 0 0)
          clear r0 r1 r2 z0 z1 z2
          generalize (((wr.setCell ⟨w.heap.size, 0, none⟩ (.int .i64 0)).setCell ⟨w.heap.size, 1, none⟩ (.int .i64 0)).setCell ⟨w.heap.size, 2, none⟩ (.slice none 0 0)) = v9 at *
          obtain ⟨r0, r1, r2, z0, z1, z2⟩ := t9.cells
          (try simp only [Exit.inBlock, Exit.then])
          refine bodyPost_ret (v := .tuple #[.agg #[(.int .i64 0), (.int .i64 0), (.slice none 0 0)], .int .i64 9]) (by simp [results, Try.results26, go_sem, r0, r1, r2]; try rfl) rfl ?_
          exact ⟨⟨_, rfl, SPB.nil _ _⟩, t9.bel⟩
        · rw [if_neg hz] at h0
          simp only [Prod.mk.injEq] at h0
          obtain ⟨rfl, rfl⟩ := h0
          have h1 := HH.out
          rw [if_neg (by simp)] at h1
          simp only [Prod.mk.injEq] at h1
          obtain ⟨rfl, rfl, rfl, rfl⟩ := h1
          have hbz : ((j : Int) == 0) = false := by simp; omega
          clear hz hcc hrg hpc hx0
          obtain ⟨k0, k1, k2, kf⟩ := HW.out.2.2.cells
          have hneg : w.heap.size ≠ w1.heap.size := Nat.ne_of_lt HW.out.2.2.ltw
          obtain ⟨AA, ca, hva⟩ : ∃ AA ca, f = .slice AA L'.length ca := by obtain ⟨A, c, e, _⟩ := SPB.form HW.out.2.2.row; exact ⟨A, c, e⟩
          subst hva
          have hrow := HW.out.2.2.row
          have hlw := HW.out.2.2.ltw
          have hown := SPB.more (((hrow.far (g := w.heap.size) (by omega) (i := 0) (.int .i64 (n' : Int))).far (g := w.heap.size) (by omega) (i := 1) (.int .i64 (q' : Int))).far (g := w.heap.size) (by omega) (i := 2) (.slice AA L'.length ca)) (base' := w.heap.size) (by omega)
          clear hrow
          obtain ⟨r0, r1, r2, z0, z1, z2⟩ := RW.cells t3
          go_wp2_with fail
          have t9 := RW.fill t3 (.int .i64 (n' : Int)) (.int .i64 (q' : Int)) (.slice AA L'.length ca)
          clear r0 r1 r2 z0 z1 z2
          generalize (((wr.setCell ⟨w.heap.size, 0, none⟩ (.int .i64 (n' : Int))).setCell ⟨w.heap.size, 1, none⟩ (.int .i64 (q' : Int))).setCell ⟨w.heap.size, 2, none⟩ (.slice AA L'.length ca)) = v9 at *
          obtain ⟨r0, r1, r2, z0, z1, z2⟩ := t9.cells
          (try simp only [Exit.inBlock, Exit.then])
          refine bodyPost_ret (v := .tuple #[.agg #[(.int .i64 (n' : Int)), (.int .i64 (q' : Int)), (.slice AA L'.length ca)], .int .i64 0]) (by simp [results, Try.results26, go_sem, r0, r1, r2]; try rfl) rfl ?_
          exact ⟨⟨_, rfl, hown⟩, t9.bel⟩
set_option maxRecDepth 100000 in
set_option maxHeartbeats 4000000 in
theorem ssame_any (A1 A2 : Option Addr) (p1 p2 : Nat) (L : List Sp) (w : World) (h1 : SR w (· < w.heap.size) A1 L) (h2 : SR w (· < w.heap.size) A2 L) (hl : L.length ≤ 10000000) :
    Calls Try.prog 59 #[.slice A1 L.length p1, .slice A2 L.length p2] w fun e w' => e = .returned (.bool true) ∧ Below w.heap.size w w' := by
  have G1 := hid h1
  have G2 := hid h2
  have hg := sp_guard
  clear h1 h2
  go_enter Try.func59, Try.ntmps59
  go_wp2_with fail
  go_loopw [5] (fun i wr => ∃ k : Nat, k ≤ L.length ∧ i = .int .i64 k ∧ Hid (Below w.heap.size w wr)) (fun i _ => L.length - (intOf i).toNat)
  case atStart => exact ⟨0, by omega, rfl, hid (Below.refl _ _)⟩
  case round =>
    obtain ⟨k, hk, rfl, HW⟩ := hrel
    by_cases hlt : k < L.length
    · obtain ⟨b1, o1, rfl, hB1, c0, c1, c2, c3, c4, c5, c6, c7, c8, c9, c10⟩ := (G1.out.below HW.out) k hlt
      obtain ⟨b2, o2, rfl, hB2, d0, d1, d2, d3, d4, d5, d6, d7, d8, d9, d10⟩ := (G2.out.below HW.out) k hlt
      generalize L[k] = s at *
      obtain ⟨a, b, c, d, nm, st, sq, kd, sh, x, y⟩ := s
      simp only at c0 c1 c2 c3 c4 c5 c6 c7 c8 c9 c10 d0 d1 d2 d3 d4 d5 d6 d7 d8 d9 d10
      have hki : decide ((k : Int) < ((L.length : Nat) : Int)) = true := by simp; omega
      have hne : ∀ w : World, (binOp .neq 26 (.agg #[.int .u64 (a : Int), .int .u64 (b : Int), .int .u64 (c : Int), .int .u64 (d : Int), .string (bs nm), .int .i64 st, .int .i64 sq, .int .i64 kd, .bool sh, .int .i64 x, .int .i64 y]) (.agg #[.int .u64 (a : Int), .int .u64 (b : Int), .int .u64 (c : Int), .int .u64 (d : Int), .string (bs nm), .int .i64 st, .int .i64 sq, .int .i64 kd, .bool sh, .int .i64 x, .int .i64 y])).run Try.prog w = .ok (.bool false) w := fun w => sp_neq w a b c d nm st sq kd sh x y
      go_wp2_with fail
      go_quiet (fail)
      go_wp2_with fail
      go_roundw
      case rel => exact ⟨k + 1, by omega, by go_num, hid (below_drewN HW.out _)⟩
      case measure => simp [intOf]; omega
    · obtain rfl : k = L.length := by omega
      go_wp2_with fail
      go_returns
      exact ⟨rfl, HW.out⟩
set_option maxHeartbeats 1600000 in
theorem bsame_any (A1 A2 : Option Addr) (p1 p2 : Nat) (L : List Sp) (n q : Int) (w : World) (h1 : SR w (· < w.heap.size) A1 L) (h2 : SR w (· < w.heap.size) A2 L) (hl : L.length ≤ 10000000) :
    Calls Try.prog 29 #[.agg #[.int .i64 n, .int .i64 q, .slice A1 L.length p1], .agg #[.int .i64 n, .int .i64 q, .slice A2 L.length p2]] w fun e w' => e = .returned (.bool true) ∧ Below w.heap.size w w' := by
  have u1 := sbelow_new w (.cells #[.int .i64 n, .int .i64 q, .slice A1 L.length p1] 39)
  have u2 := sbelow_step u1 (sbelow_new (w.alloc (.cells #[.int .i64 n, .int .i64 q, .slice A1 L.length p1] 39)) (.cells #[.int .i64 n, .int .i64 q, .slice A2 L.length p2] 39))
  have hs := ssame_any A1 A2 p1 p2 L _ (h1.up u2) (h2.up u2) hl
  have HS := hid hs
  clear hs h1 h2
  go_enter Try.func29, Try.ntmps29
  go_wp2_with fail
  refine HS.out.mono ?_
  rintro e w1 ⟨rfl, hb1⟩
  go_wp2_with fail
  go_returns
  exact ⟨rfl, sbelow_step u2 hb1⟩
end Go.Proofs.Ytgpioafkahoahaa
