import Derived.Test.YtgpioafkahoahaaBe
import Derived.Test.YtgpioafkahoahaaSl
import Derived.Deep.Cut
namespace Go.Proofs.Ytgpioafkahoahaa
set_option linter.unusedVariables false
set_option linter.unusedSimpArgs false
open Go.RowKit Go.Joins

theorem readS_name {l : List UInt8} {p b : Int} {s : Sp} {e : Int} (h : readS l p = (s, b, e)) : s.name.length ≤ l.length := by
  obtain ⟨t, c, x, hr⟩ : ∃ t c x, runS l p = (t, c, x) := ⟨_, _, _, rfl⟩
  have hn := runS_name hr
  by_cases hx : x = 0
  · subst hx
    by_cases hk : chkS t = 0
    · rw [readS_ok hr hk] at h; simp only [Prod.mk.injEq] at h; rw [← h.1]; exact hn
    · rw [readS_chk hr hk] at h; simp only [Prod.mk.injEq] at h; rw [← h.1]; simp [sp0]
  · rw [readS_err hr hx] at h; simp only [Prod.mk.injEq] at h; rw [← h.1]; simp [sp0]
set_option maxRecDepth 100000 in
set_option maxHeartbeats 8000000 in
theorem readspans_any (l : List UInt8) (m : Nat) (w : World) (hs : l.length ≤ 140737488351232) (hm : m ≤ 16) {L : List Sp} {e : Int} (H : Hid (spsS l m = (L, e))) :
    Calls Try.prog 56 #[.string (bs l), .int .i64 m] w fun r w' => (∃ v, r = .returned (.tuple #[v, .int .i64 e]) ∧ SPB w' w.heap.size v L) ∧ Below w.heap.size w w' := by
  obtain ⟨L0, c0, e0, hr⟩ : ∃ L0 c0 e0, rsS l m 0 = (L0, c0, e0) := ⟨_, _, _, rfl⟩
  have H0 := H.out
  rw [spsS, hr] at H0
  simp only at H0
  have HR0 := hid hr
  have HS := hid H0
  clear H H0 hr
  go_enter Try.func56, Try.ntmps56
  go_wp2_with fail
  go_loopw [6, 7, 12] (fun f at' i wr => ∃ (j : Nat) (p : Int) (acc : List Sp), j ≤ m ∧ 0 ≤ p ∧ p ≤ l.length ∧ Hid (acc.length = j ∧ cmr acc (rsS l (m - j) p) = (L0, c0, e0) ∧ SPB wr w.heap.size f acc ∧ Below w.heap.size w wr) ∧ at' = .int .i64 p ∧ i = .int .i64 j) (fun _ _ i _ => m - (intOf i).toNat)
  case atStart => exact ⟨0, 0, [], by omega, by omega, by omega, hid ⟨rfl, by rw [Nat.sub_zero, cmr_nil]; exact HR0.out, SPB.nil _ _, Below.refl _ _⟩, rfl, rfl⟩
  case round =>
    obtain ⟨j, p, acc, hj, hp0, hp1, HW, rfl, rfl⟩ := hrel
    by_cases hlt : j < m
    · obtain ⟨s, q, r, hrd⟩ : ∃ s q r, readS l p = (s, q, r) := ⟨_, _, _, rfl⟩
      obtain ⟨a, b, c, d, nm, st, sq, kd, sh, x, y⟩ := s
      have HRD := hid hrd
      have hsr := fun w' => spread_at l p w' hs (by omega) HRD
      have HSR := hid hsr
      have hji : decide ((j : Int) < (m : Int)) = true := by simp; omega
      clear hsr
      by_cases hr0 : r = 0
      · subst hr0
        have hbk := readS_back hrd
        have HSTEP := hid (cmr_step (k := m - (j + 1)) acc hrd)
        have hq0 : 0 ≤ q := by omega
        have hq1 : q ≤ l.length := hbk.2.2.1
        clear hbk hrd
        go_wp2_with fail
        refine (HSR.out _).mono ?_
        rintro e' w1 ⟨rfl, hb1⟩
        have hbA := sbelow_step (sbelow_step HW.out.2.2.2 hb1) (sbelow_new w1 (.cells #[.int .u64 (a : Int), .int .u64 (b : Int), .int .u64 (c : Int), .int .u64 (d : Int), .string (bs nm), .int .i64 st, .int .i64 sq, .int .i64 kd, .bool sh, .int .i64 x, .int .i64 y] 26))
        have hoA := (HW.out.2.2.1.below hb1).below (sbelow_new w1 (.cells #[.int .u64 (a : Int), .int .u64 (b : Int), .int .u64 (c : Int), .int .u64 (d : Int), .string (bs nm), .int .i64 st, .int .i64 sq, .int .i64 kd, .bool sh, .int .i64 x, .int .i64 y] 26))
        have hsA := SB.new w1 a b c d nm st sq kd sh x y
        clear hb1
        go_upto_region 6 with (fail)
        generalize w1.alloc (.cells #[.int .u64 (a : Int), .int .u64 (b : Int), .int .u64 (c : Int), .int .u64 (d : Int), .string (bs nm), .int .i64 st, .int .i64 sq, .int .i64 kd, .bool sh, .int .i64 x, .int .i64 y] 26) = v1 at *
        have HA := hid (And.intro hbA hoA)
        obtain ⟨c0, c1, c2, c3, c4, c5, c6, c7, c8, c9, c10⟩ := hsA.cells
        have hbB := sbelow_step hbA (sbelow_new v1 (.cells #[.int .u64 (a : Int), .int .u64 (b : Int), .int .u64 (c : Int), .int .u64 (d : Int), .string (bs nm), .int .i64 st, .int .i64 sq, .int .i64 kd, .bool sh, .int .i64 x, .int .i64 y] 26))
        have hoB := hoA.below (sbelow_new v1 (.cells #[.int .u64 (a : Int), .int .u64 (b : Int), .int .u64 (c : Int), .int .u64 (d : Int), .string (bs nm), .int .i64 st, .int .i64 sq, .int .i64 kd, .bool sh, .int .i64 x, .int .i64 y] 26))
        have hcB : ∀ i, i < 11 → (v1.alloc (.cells #[.int .u64 (a : Int), .int .u64 (b : Int), .int .u64 (c : Int), .int .u64 (d : Int), .string (bs nm), .int .i64 st, .int .i64 sq, .int .i64 kd, .bool sh, .int .i64 x, .int .i64 y] 26)).cell? ⟨v1.heap.size, i, none⟩ = (spA ⟨a, b, c, d, nm, st, sq, kd, sh, x, y⟩).toList[i]? := fun i _ => by rw [Array.getElem?_toList]; exact Blk.cell (SB.new v1 a b c d nm st sq kd sh x y) i
        have HBB := hid (And.intro hbB (And.intro hoB hcB))
        clear hbA hoA hbB hoB hcB hsA
        go_wp2_with (at_builtin; refine wpList_append_sp rfl _ _ rfl w.heap.size _ acc ⟨a, b, c, d, nm, st, sq, kd, sh, x, y⟩ v1.heap.size rfl HBB.out.2.1 rfl HBB.out.2.2 (by have := HW.out.1; omega) HBB.out.1 (Nat.le_refl _) ?_)
        intro v' w2 hown hb2 _
        have H2 := hid (And.intro hown hb2)
        clear hown hb2 c0 c1 c2 c3 c4 c5 c6 c7 c8 c9 c10
        go_wp2_with fail
        go_roundw
        case rel =>
          refine ⟨j + 1, q, acc ++ [⟨a, b, c, d, nm, st, sq, kd, sh, x, y⟩], by omega, hq0, hq1, hid ⟨by rw [List.length_append, HW.out.1]; rfl, ?_, H2.out.1, H2.out.2⟩, rfl, by go_num⟩
          rw [← HSTEP.out, show m - (j + 1) + 1 = m - j by omega]
          exact HW.out.2.1
        case measure => simp [intOf]; omega
      · have hst := rsS_err (k := m - (j + 1)) hrd hr0
        have hc := HW.out.2.1
        rw [show m - j = m - (j + 1) + 1 by omega, hst, cmr, if_pos hr0] at hc
        simp only [Prod.mk.injEq] at hc
        obtain ⟨_, _, rfl⟩ := hc
        have h0 := HS.out
        rw [if_pos hr0] at h0
        simp only [Prod.mk.injEq] at h0
        obtain ⟨rfl, rfl⟩ := h0
        have hb : (r != 0) = true := by simpa using hr0
        clear hr0 hst hrd
        go_wp2_with fail
        refine (HSR.out _).mono ?_
        rintro e' w1 ⟨rfl, hb1⟩
        have hbA := sbelow_step (sbelow_step HW.out.2.2.2 hb1) (sbelow_new w1 (.cells #[.int .u64 (a : Int), .int .u64 (b : Int), .int .u64 (c : Int), .int .u64 (d : Int), .string (bs nm), .int .i64 st, .int .i64 sq, .int .i64 kd, .bool sh, .int .i64 x, .int .i64 y] 26))
        clear hb1
        go_upto_region 6 with (fail)
        generalize w1.alloc (.cells #[.int .u64 (a : Int), .int .u64 (b : Int), .int .u64 (c : Int), .int .u64 (d : Int), .string (bs nm), .int .i64 st, .int .i64 sq, .int .i64 kd, .bool sh, .int .i64 x, .int .i64 y] 26) = v1 at *
        go_wp2_with fail
        go_returns
        exact ⟨⟨_, rfl, SPB.nil _ _⟩, hbA⟩
    · obtain rfl : j = m := by omega
      have hc := HW.out.2.1
      rw [Nat.sub_self, rsS, cmr, if_neg (by simp)] at hc
      simp only [Prod.mk.injEq, List.append_nil] at hc
      obtain ⟨rfl, rfl, rfl⟩ := hc
      have h0 := HS.out
      rw [if_neg (by simp)] at h0
      have hji : decide ((j : Int) < (j : Int)) = false := by simp
      by_cases hshort : p < l.length
      · rw [if_pos hshort] at h0
        simp only [Prod.mk.injEq] at h0
        obtain ⟨rfl, rfl⟩ := h0
        go_wp2_with fail
        go_returns
        exact ⟨⟨_, rfl, SPB.nil _ _⟩, HW.out.2.2.2⟩
      · rw [if_neg hshort] at h0
        by_cases hz : j = 0
        · rw [if_pos hz] at h0
          simp only [Prod.mk.injEq] at h0
          obtain ⟨rfl, rfl⟩ := h0
          have hbz : ((j : Int) == 0) = true := by simp [hz]
          have HZ := hid hz
          clear hz
          go_wp2_with fail
          go_returns
          exact ⟨⟨_, rfl, SPB.nil _ _⟩, HW.out.2.2.2⟩
        · rw [if_neg hz] at h0
          simp only [Prod.mk.injEq] at h0
          obtain ⟨rfl, rfl⟩ := h0
          have hbz : ((j : Int) == 0) = false := by simp; omega
          clear hz
          go_wp2_with fail
          go_returns
          exact ⟨⟨_, rfl, HW.out.2.2.1⟩, HW.out.2.2.2⟩
/-- The variable of a result that is a batch. -/
structure RW (w v : World) (c0 c1 c2 : Value) : Prop where
  res : Blk v w.heap.size 39 #[c0, c1, c2]
  bel : Below w.heap.size w v
theorem RW.new (w : World) : RW w (w.alloc (.cells #[.int .i64 0, .int .i64 0, .slice none 0 0] 39)) (.int .i64 0) (.int .i64 0) (.slice none 0 0) := ⟨Blk.new _ _ _, sbelow_new _ _⟩
theorem RW.up {w v v' : World} {c0 c1 c2 : Value} (h : RW w v c0 c1 c2) (hb : Below v.heap.size v v') : RW w v' c0 c1 c2 := ⟨Blk.below h.res hb (Blk.lt h.res), sbelow_step h.bel hb⟩
theorem RW.fill {w v : World} {c0 c1 c2 : Value} (h : RW w v c0 c1 c2) (x0 x1 x2 : Value) : RW w (((v.setCell ⟨w.heap.size, 0, none⟩ x0).setCell ⟨w.heap.size, 1, none⟩ x1).setCell ⟨w.heap.size, 2, none⟩ x2) x0 x1 x2 := by
  have h0 : Blk (v.setCell ⟨w.heap.size, 0, none⟩ x0) w.heap.size 39 #[x0, c1, c2] := Blk.set_ h.res 0 x0
  have h1 : Blk ((v.setCell ⟨w.heap.size, 0, none⟩ x0).setCell ⟨w.heap.size, 1, none⟩ x1) w.heap.size 39 #[x0, x1, c2] := Blk.set_ h0 1 x1
  exact ⟨Blk.set_ h1 2 x2, setb (setb (setb h.bel (Nat.le_refl _) x0) (Nat.le_refl _) x1) (Nat.le_refl _) x2⟩
theorem RW.cells {w v : World} {c0 c1 c2 : Value} (h : RW w v c0 c1 c2) : v.cell? ⟨w.heap.size, 0, none⟩ = some c0 ∧ v.cell? ⟨w.heap.size, 1, none⟩ = some c1 ∧ v.cell? ⟨w.heap.size, 2, none⟩ = some c2 ∧ v.frozen? ⟨w.heap.size, 0, none⟩ = false ∧ v.frozen? ⟨w.heap.size, 1, none⟩ = false ∧ v.frozen? ⟨w.heap.size, 2, none⟩ = false :=
  ⟨Blk.cell h.res 0, Blk.cell h.res 1, Blk.cell h.res 2, Blk.frozen h.res 0, Blk.frozen h.res 1, Blk.frozen h.res 2⟩
set_option maxRecDepth 100000 in
set_option maxHeartbeats 8000000 in
theorem bread_any (s : List UInt8) (w : World) (hs : s.length ≤ 140737488351232) {n q : Nat} {L : List Sp} {r : Int} (H : Hid (readB s = (n, q, L, r))) :
    Calls Try.prog 25 #[.string (bs s)] w fun e w' => (∃ v, e = .returned (.tuple #[.agg #[.int .i64 n, .int .i64 q, v], .int .i64 r]) ∧ SPB w' w.heap.size v L) ∧ Below w.heap.size w w' := by
  have H0 := H.out
  clear H
  obtain ⟨l, e, ho⟩ : ∃ l e, opM mkB s = (l, e) := ⟨_, _, rfl⟩
  have hll := opM_len ho
  have HO := hid ho
  rw [readB, ho] at H0
  simp only at H0
  have hop := fun w' => bopen_any s mkB w' hs (by rw [mkB_len]; omega) HO
  have cmk := lit_mkB
  have HOP := hid hop
  clear ho hop HO
  generalize mkB = mk at *
  by_cases he : e = 0
  rotate_left
  · rw [if_pos he] at H0
    simp only [Prod.mk.injEq] at H0
    obtain ⟨rfl, rfl, rfl, rfl⟩ := H0
    have hb : (e != 0) = true := by simpa using he
    clear he
    go_enter Try.func25, Try.ntmps25
    go_upto_region 1 with (fail)
    have t0 := RW.new w
    generalize w.alloc (.cells #[.int .i64 0, .int .i64 0, .slice none 0 0] 39) = v0 at *
    go_wp2_with fail
    refine (HOP.out _).mono ?_
    rintro r w1 ⟨rfl, rfl⟩
    obtain ⟨r0, r1, r2, z0, z1, z2⟩ := RW.cells t0
    go_wp2_with fail
    have t9 := RW.fill t0 (.int .i64 0) (.int .i64 0) (.slice none 0 0)
    clear r0 r1 r2 z0 z1 z2
    generalize (((v0.setCell ⟨w.heap.size, 0, none⟩ (.int .i64 0)).setCell ⟨w.heap.size, 1, none⟩ (.int .i64 0)).setCell ⟨w.heap.size, 2, none⟩ (.slice none 0 0)) = v9 at *
    obtain ⟨r0, r1, r2, z0, z1, z2⟩ := t9.cells
    (try simp only [Exit.inBlock, Exit.then])
    refine bodyPost_ret (v := .tuple #[.agg #[(.int .i64 0), (.int .i64 0), (.slice none 0 0)], .int .i64 e]) (by simp [results, Try.results25, go_sem, r0, r1, r2]; try rfl) rfl ?_
    exact ⟨⟨_, rfl, SPB.nil _ _⟩, t9.bel⟩
  subst he
  rw [if_neg (by simp)] at H0
  obtain ⟨n', a1, e1, h1⟩ : ∃ x y z, nmP l 7 0 0 = (x, y, z) := ⟨_, _, _, rfl⟩
  obtain ⟨q', a2, e2, h2⟩ : ∃ x y z, nmP l 1099511627776 a1 e1 = (x, y, z) := ⟨_, _, _, rfl⟩
  obtain ⟨m, a3, e3, h3⟩ : ∃ x y z, nmP l 16 a2 e2 = (x, y, z) := ⟨_, _, _, rfl⟩
  have b1 := nmP_in h1 (by omega)
  have b2 := nmP_in h2 b1
  have b3 := nmP_in h3 b2
  obtain ⟨k3, rfl⟩ := Int.eq_ofNat_of_zero_le b3.1
  have HN1 := hid h1
  have HN2 := hid h2
  have HN3 := hid h3
  have hen := fun g w' (h : NC w' g l k3 e3) => end_any g l k3 e3 w' h (by omega) (by omega)
  have HEN := hid hen
  clear hen
  by_cases h30 : e3 = 0
  rotate_left
  · rw [rdB_err h1 h2 h3 h30] at H0
    simp only [Prod.mk.injEq] at H0
    obtain ⟨rfl, rfl, rfl, rfl⟩ := H0
    have hb : (e3 != 0) = true := by simpa using h30
    clear h30 h1 h2 h3
    go_enter Try.func25, Try.ntmps25
    go_upto_region 1 with (fail)
    have t0 := RW.new w
    generalize w.alloc (.cells #[.int .i64 0, .int .i64 0, .slice none 0 0] 39) = v0 at *
    go_wp2_with fail
    refine (HOP.out _).mono ?_
    rintro r w1 ⟨rfl, rfl⟩
    go_wp2_with fail
    refine (numbers_any l _).mono ?_
    rintro r w2 ⟨rfl, hn2, hb2⟩
    go_wp2_with fail
    refine (number_any v0.heap.size l 0 0 7 w2 v0 v0.heap.size hn2 hb2 (Nat.le_refl _) (by omega) HN1 (by omega)).mono ?_
    rintro r w3 ⟨⟨v1, rfl, hv1⟩, hn3, hb3⟩
    clear hn2 hb2
    go_wp2_with fail
    refine (number_any v0.heap.size l a1 e1 1099511627776 w3 v0 v0.heap.size hn3 hb3 (Nat.le_refl _) (by omega) HN2 (by omega)).mono ?_
    rintro r w4 ⟨⟨v2, rfl, hv2⟩, hn4, hb4⟩
    clear hn3 hb3
    go_wp2_with fail
    refine (number_any v0.heap.size l a2 e2 16 w4 v0 v0.heap.size hn4 hb4 (Nat.le_refl _) (by omega) HN3 (by omega)).mono ?_
    rintro r w5 ⟨⟨v3, rfl, hv3⟩, hn5, hb5⟩
    clear hn4 hb4
    go_wp2_with fail
    refine (HEN.out _ _ hn5).mono ?_
    rintro r w6 ⟨rfl, hb6⟩
    have t6 := t0.up (hb5.trans (hb6.mono hb5.size))
    clear hb5 hb6 hn5 t0
    obtain ⟨r0, r1, r2, z0, z1, z2⟩ := RW.cells t6
    go_wp2_with fail
    have t9 := RW.fill t6 (.int .i64 0) (.int .i64 0) (.slice none 0 0)
    clear r0 r1 r2 z0 z1 z2
    generalize (((w6.setCell ⟨w.heap.size, 0, none⟩ (.int .i64 0)).setCell ⟨w.heap.size, 1, none⟩ (.int .i64 0)).setCell ⟨w.heap.size, 2, none⟩ (.slice none 0 0)) = v9 at *
    obtain ⟨r0, r1, r2, z0, z1, z2⟩ := t9.cells
    (try simp only [Exit.inBlock, Exit.then])
    refine bodyPost_ret (v := .tuple #[.agg #[(.int .i64 0), (.int .i64 0), (.slice none 0 0)], .int .i64 e3]) (by simp [results, Try.results25, go_sem, r0, r1, r2]; try rfl) rfl ?_
    exact ⟨⟨_, rfl, SPB.nil _ _⟩, t9.bel⟩
  subst h30
  obtain rfl := nmE h3
  obtain rfl := nmE h2
  have hm16 := (nm_back h3).2.2.2.1
  obtain ⟨L', x, h4⟩ : ∃ L' x, spsS (l.drop k3) m = (L', x) := ⟨_, _, rfl⟩
  have h4' := rdB_spans (L := L') (e := x) h1 h2 h3 (by rw [Int.toNat_natCast]; exact h4)
  rw [h4'] at H0
  have hrs := fun w' => readspans_any (l.drop k3) m w' (by rw [List.length_drop]; omega) hm16 (hid h4)
  have HRS := hid hrs
  clear hrs h4 h4' h1 h2 h3
  by_cases hx : x = 0
  rotate_left
  · rw [if_pos hx] at H0
    simp only [Prod.mk.injEq] at H0
    obtain ⟨rfl, rfl, rfl, rfl⟩ := H0
    have hb : (x != 0) = true := by simpa using hx
    clear hx
    go_enter Try.func25, Try.ntmps25
    go_upto_region 1 with (fail)
    have t0 := RW.new w
    generalize w.alloc (.cells #[.int .i64 0, .int .i64 0, .slice none 0 0] 39) = v0 at *
    go_wp2_with fail
    refine (HOP.out _).mono ?_
    rintro r w1 ⟨rfl, rfl⟩
    go_wp2_with fail
    refine (numbers_any l _).mono ?_
    rintro r w2 ⟨rfl, hn2, hb2⟩
    go_wp2_with fail
    refine (number_any v0.heap.size l 0 0 7 w2 v0 v0.heap.size hn2 hb2 (Nat.le_refl _) (by omega) HN1 (by omega)).mono ?_
    rintro r w3 ⟨⟨v1, rfl, hv1⟩, hn3, hb3⟩
    obtain rfl := hv1 rfl
    clear hn2 hb2
    go_wp2_with fail
    refine (number_any v0.heap.size l a1 0 1099511627776 w3 v0 v0.heap.size hn3 hb3 (Nat.le_refl _) (by omega) HN2 (by omega)).mono ?_
    rintro r w4 ⟨⟨v2, rfl, hv2⟩, hn4, hb4⟩
    obtain rfl := hv2 rfl
    clear hn3 hb3
    go_wp2_with fail
    refine (number_any v0.heap.size l a2 0 16 w4 v0 v0.heap.size hn4 hb4 (Nat.le_refl _) (by omega) HN3 (by omega)).mono ?_
    rintro r w5 ⟨⟨v3, rfl, hv3⟩, hn5, hb5⟩
    obtain rfl := hv3 rfl
    clear hn4 hb4
    go_wp2_with fail
    refine (HEN.out _ _ hn5).mono ?_
    rintro r w6 ⟨rfl, hb6⟩
    have t6 := t0.up (hb5.trans (hb6.mono hb5.size))
    clear hb5 hb6 hn5 t0
    go_wp2_with fail
    refine (HRS.out _).mono ?_
    rintro r w7 ⟨⟨vs, rfl, hvs⟩, hb7⟩
    have t7 := t6.up hb7
    clear hb7 t6 hvs
    obtain ⟨r0, r1, r2, z0, z1, z2⟩ := RW.cells t7
    go_wp2_with fail
    have t9 := RW.fill t7 (.int .i64 0) (.int .i64 0) (.slice none 0 0)
    clear r0 r1 r2 z0 z1 z2
    generalize (((w7.setCell ⟨w.heap.size, 0, none⟩ (.int .i64 0)).setCell ⟨w.heap.size, 1, none⟩ (.int .i64 0)).setCell ⟨w.heap.size, 2, none⟩ (.slice none 0 0)) = v9 at *
    obtain ⟨r0, r1, r2, z0, z1, z2⟩ := t9.cells
    (try simp only [Exit.inBlock, Exit.then])
    refine bodyPost_ret (v := .tuple #[.agg #[(.int .i64 0), (.int .i64 0), (.slice none 0 0)], .int .i64 x]) (by simp [results, Try.results25, go_sem, r0, r1, r2]; try rfl) rfl ?_
    exact ⟨⟨_, rfl, SPB.nil _ _⟩, t9.bel⟩
  subst hx
  rw [if_neg (by simp)] at H0
  simp only [Prod.mk.injEq] at H0
  obtain ⟨rfl, rfl, rfl, rfl⟩ := H0
  go_enter Try.func25, Try.ntmps25
  go_upto_region 1 with (fail)
  have t0 := RW.new w
  generalize w.alloc (.cells #[.int .i64 0, .int .i64 0, .slice none 0 0] 39) = v0 at *
  go_wp2_with fail
  refine (HOP.out _).mono ?_
  rintro r w1 ⟨rfl, rfl⟩
  go_wp2_with fail
  refine (numbers_any l _).mono ?_
  rintro r w2 ⟨rfl, hn2, hb2⟩
  go_wp2_with fail
  refine (number_any v0.heap.size l 0 0 7 w2 v0 v0.heap.size hn2 hb2 (Nat.le_refl _) (by omega) HN1 (by omega)).mono ?_
  rintro r w3 ⟨⟨v1, rfl, hv1⟩, hn3, hb3⟩
  obtain rfl := hv1 rfl
  clear hn2 hb2
  go_wp2_with fail
  refine (number_any v0.heap.size l a1 0 1099511627776 w3 v0 v0.heap.size hn3 hb3 (Nat.le_refl _) (by omega) HN2 (by omega)).mono ?_
  rintro r w4 ⟨⟨v2, rfl, hv2⟩, hn4, hb4⟩
  obtain rfl := hv2 rfl
  clear hn3 hb3
  go_wp2_with fail
  refine (number_any v0.heap.size l a2 0 16 w4 v0 v0.heap.size hn4 hb4 (Nat.le_refl _) (by omega) HN3 (by omega)).mono ?_
  rintro r w5 ⟨⟨v3, rfl, hv3⟩, hn5, hb5⟩
  obtain rfl := hv3 rfl
  clear hn4 hb4
  go_wp2_with fail
  refine (HEN.out _ _ hn5).mono ?_
  rintro r w6 ⟨rfl, hb6⟩
  have t6 := t0.up (hb5.trans (hb6.mono hb5.size))
  clear hb5 hb6 hn5 t0
  go_wp2_with fail
  refine (HRS.out _).mono ?_
  rintro r w7 ⟨⟨vs, rfl, hvs⟩, hb7⟩
  have t7 := t6.up hb7
  have hlt : w.heap.size < w6.heap.size := Blk.lt t6.res
  have hvs2 := SPB.more (((hvs.far hlt (i := 0) (.int .i64 (n' : Int))).far hlt (i := 1) (.int .i64 (q' : Int))).far hlt (i := 2) vs) (Nat.le_of_lt hlt)
  clear hb7 t6 hvs
  obtain ⟨r0, r1, r2, z0, z1, z2⟩ := RW.cells t7
  obtain ⟨AA, cc, hvv⟩ : ∃ AA cc, vs = .slice AA L'.length cc := by obtain ⟨A, c, e, _⟩ := SPB.form hvs2; exact ⟨A, c, e⟩
  subst hvv
  go_wp2_with fail
  have t9 := RW.fill t7 (.int .i64 (n' : Int)) (.int .i64 (q' : Int)) (.slice AA L'.length cc)
  clear r0 r1 r2 z0 z1 z2
  generalize (((w7.setCell ⟨w.heap.size, 0, none⟩ (.int .i64 (n' : Int))).setCell ⟨w.heap.size, 1, none⟩ (.int .i64 (q' : Int))).setCell ⟨w.heap.size, 2, none⟩ (.slice AA L'.length cc)) = v9 at *
  obtain ⟨r0, r1, r2, z0, z1, z2⟩ := t9.cells
  (try simp only [Exit.inBlock, Exit.then])
  refine bodyPost_ret (v := .tuple #[.agg #[(.int .i64 (n' : Int)), (.int .i64 (q' : Int)), (.slice AA L'.length cc)], .int .i64 0]) (by simp [results, Try.results25, go_sem, r0, r1, r2]; try rfl) rfl ?_
  exact ⟨⟨_, rfl, hvs2⟩, t9.bel⟩
end Go.Proofs.Ytgpioafkahoahaa
