import Derived.Test.YtgpioafkahoahaaBk
import Derived.Test.YtgpioafkahoahaaCl
namespace Go.Proofs.Ytgpioafkahoahaa
set_option linter.unusedVariables false
set_option linter.unusedSimpArgs false
open Go.RowKit Go.Joins

theorem SV.nil (w : World) : SV w (.slice none 0 0) [] := ⟨none, 0, rfl, SR.nil _ _, by simp⟩
set_option maxRecDepth 100000 in
set_option maxHeartbeats 16000000 in
theorem batchTells_walk (n q : Int) (x : Value) (L : List Sp) (p by' : Int) (hL : okL L) (wp : -9223372036854775808 ≤ p ∧ p ≤ 9223372036854775807) (wb : (Lit.int .u8 by').wf = true) (w : World) (hx : SV w x L) :
    Calls Try.prog 9 #[.agg #[.int .i64 n, .int .i64 q, x], .int .i64 p, .int .u8 by'] w fun e w' => e = .returned (.bool true) ∧ Below w.heap.size w w' := by
  have hnot := snot
  obtain ⟨z, hz⟩ : ∃ z, fewB L = z := ⟨_, rfl⟩
  have HFEW := hid fun w (h : SV w x L) => d_bfew w n q h hL (hid hz)
  obtain ⟨c, hc⟩ : ∃ c, chkB n q L = c := ⟨_, rfl⟩
  have HCK := hid fun w (h : SV w x L) => d_bcheck w n q h hL (hid hc)
  cases z
  · clear hz
    have hb0 := sbelow_new w (.cells #[.int .i64 n, .int .i64 q, x] 39)
    have hs0 := BB.new w n q x
    have hv0 := hx.up hb0
    go_enter Try.func9, Try.ntmps9
    go_upto_region 1 with (fail)
    generalize w.alloc (.cells #[.int .i64 n, .int .i64 q, x] 39) = v0 at *
    have HV0 := hid hv0
    clear hv0 hx
    obtain ⟨k0, k1, k2⟩ := hs0.cells
    go_wp2_with fail
    refine (HFEW.out v0 HV0.out).mono ?_
    rintro r v1 ⟨rfl, hbq⟩
    have hb1 := sbelow_step hb0 hbq
    have hs1 := hs0.up hbq
    have HV1 := hid (HV0.out.up hbq)
    clear hbq hb0 hs0 HV0
    clear k0 k1 k2
    go_wp2_with fail
    refine (known10_any _).mono ?_
    rintro r vz ⟨rfl, hbq⟩
    go_wp2_with fail
    go_returns
    exact ⟨rfl, sbelow_step hb1 hbq⟩
  clear hz
  by_cases hc0 : c = 0
  rotate_left
  · have hb : (c != 0) = true := by simpa using hc0
    clear hc0 hc
    have hb0 := sbelow_new w (.cells #[.int .i64 n, .int .i64 q, x] 39)
    have hs0 := BB.new w n q x
    have hv0 := hx.up hb0
    go_enter Try.func9, Try.ntmps9
    go_upto_region 1 with (fail)
    generalize w.alloc (.cells #[.int .i64 n, .int .i64 q, x] 39) = v0 at *
    have HV0 := hid hv0
    clear hv0 hx
    obtain ⟨k0, k1, k2⟩ := hs0.cells
    go_wp2_with fail
    refine (HFEW.out v0 HV0.out).mono ?_
    rintro r v1 ⟨rfl, hbq⟩
    have hb1 := sbelow_step hb0 hbq
    have hs1 := hs0.up hbq
    have HV1 := hid (HV0.out.up hbq)
    clear hbq hb0 hs0 HV0
    clear k0 k1 k2
    obtain ⟨k0, k1, k2⟩ := hs1.cells
    go_wp2_with fail
    refine (HCK.out _ HV1.out).mono ?_
    rintro r v2 ⟨rfl, hbq⟩
    have hb2 := sbelow_step hb1 hbq
    have hs2 := hs1.up hbq
    have HV2 := hid (HV1.out.up hbq)
    clear hbq hb1 hs1 HV1
    clear k0 k1 k2
    go_wp2_with fail
    refine (known10_any _).mono ?_
    rintro r vz ⟨rfl, hbq⟩
    go_wp2_with fail
    go_returns
    exact ⟨rfl, sbelow_step hb2 hbq⟩
  subst hc0
  obtain ⟨t, ht⟩ : ∃ t, sealS (bodyB n q L) = t := ⟨_, rfl⟩
  have htl : t.length ≤ 3000 := by rw [← ht, sealS_length]; have := bodyB_len hc; omega
  have HW := hid fun w (h : SV w x L) => d_bwrite w n q h hL (hid (show writeB n q L = (t, 0) by rw [writeB, if_pos hc, ht]))
  have hto : ∀ (i : Nat) (d : UInt8) (hi : i < t.length), t[i] ≠ d → readB (t.set i d) = (0, 0, [], 4) := fun i d hi hd => by
    subst ht; exact readB_told hi hd
  have HTO := hid hto
  clear hto ht hc
  by_cases hk : p < 0 ∨ (t.length : Int) ≤ p ∨ by' = 0
  · have go : ∀ (h1 : p < 0 ∨ 0 ≤ p ∧ (t.length : Int) ≤ p ∨ 0 ≤ p ∧ p < t.length ∧ by' = 0), Calls Try.prog 9 #[.agg #[.int .i64 n, .int .i64 q, x], .int .i64 p, .int .u8 by'] w fun e w' => e = .returned (.bool true) ∧ Below w.heap.size w w' := by
      rintro (h1 | ⟨h1, h2⟩ | ⟨h1, h2, h3⟩)
      all_goals
        try (have hb0 : (by' == 0) = true := by simpa using h3)
        try (have H3 := hid h3; clear h3)
        clear hk
        have hb0 := sbelow_new w (.cells #[.int .i64 n, .int .i64 q, x] 39)
        have hs0 := BB.new w n q x
        have hv0 := hx.up hb0
        go_enter Try.func9, Try.ntmps9
        go_upto_region 1 with (fail)
        generalize w.alloc (.cells #[.int .i64 n, .int .i64 q, x] 39) = v0 at *
        have HV0 := hid hv0
        clear hv0 hx
        obtain ⟨k0, k1, k2⟩ := hs0.cells
        go_wp2_with fail
        refine (HFEW.out v0 HV0.out).mono ?_
        rintro r v1 ⟨rfl, hbq⟩
        have hb1 := sbelow_step hb0 hbq
        have hs1 := hs0.up hbq
        have HV1 := hid (HV0.out.up hbq)
        clear hbq hb0 hs0 HV0
        clear k0 k1 k2
        obtain ⟨k0, k1, k2⟩ := hs1.cells
        go_wp2_with fail
        refine (HCK.out _ HV1.out).mono ?_
        rintro r v2 ⟨rfl, hbq⟩
        have hb2 := sbelow_step hb1 hbq
        have hs2 := hs1.up hbq
        have HV2 := hid (HV1.out.up hbq)
        clear hbq hb1 hs1 HV1
        clear k0 k1 k2
        obtain ⟨k0, k1, k2⟩ := hs2.cells
        go_wp2_with fail
        refine (HW.out _ HV2.out).mono ?_
        rintro r v3 ⟨rfl, hbq⟩
        have hb3 := sbelow_step hb2 hbq
        have hs3 := hs2.up hbq
        have HV3 := hid (HV2.out.up hbq)
        clear hbq hb2 hs2 HV2
        clear k0 k1 k2
        go_wp2_with fail
        refine (known10_any _).mono ?_
        rintro r vz ⟨rfl, hbq⟩
        go_wp2_with fail
        go_returns
        exact ⟨rfl, sbelow_step hb3 hbq⟩
    exact go (by omega)
  obtain ⟨p, rfl⟩ := Int.eq_ofNat_of_zero_le (show 0 ≤ p by omega)
  have hbn0 : (by' == 0) = false := by simp; omega
  obtain ⟨b, rfl⟩ : ∃ b : Nat, by' = b := ⟨by'.toNat, by have := (u8_bd wb).1; omega⟩
  have hbl : b < 256 := by have := (u8_bd wb).2; omega
  have hbz : b ≠ 0 := by omega
  have hat : p < t.length := by omega
  have hrun : ∀ w, (convert 9 52 (.string (bs t))).run Try.prog w = .ok (.slice (some ⟨w.heap.size, 0, none⟩) t.length (grownCap w t.length 0 5)) (Go.Lib.bytesWorld w 5 (bs t)) := fun w => conv_to_bytes w t
  have hc1 : ∀ w : World, (Go.Lib.bytesWorld w 5 (bs t)).cell? ⟨w.heap.size, p, none⟩ = some (.int .u8 (t[p].toNat : Int)) := fun w => bw_cell w t p hat
  have hz1 : ∀ w : World, (Go.Lib.bytesWorld w 5 (bs t)).frozen? ⟨w.heap.size, p, none⟩ = false := fun w => bw_frozen w t p hat
  have htc := UInt8.toNat_lt t[p]
  obtain ⟨y, hy⟩ : ∃ y : Nat, y = t[p].toNat ^^^ b := ⟨_, rfl⟩
  have hyl : y < 256 := by rw [hy]; exact Nat.xor_lt_two_pow (n := 8) htc hbl
  have hx8 : bits .xor .u8 (t[p].toNat : Int) (b : Int) = (y : Int) := by rw [hy]; exact u8_xor_nat _ _ htc hbl
  have hback : ∀ w : World, (convert 52 9 (.slice (some ⟨w.heap.size, 0, none⟩) t.length (grownCap w t.length 0 5))).run Try.prog ((Go.Lib.bytesWorld w 5 (bs t)).setCell ⟨w.heap.size, p, none⟩ (.int .u8 (y : Int))) = .ok (.string (bs (t.set p (UInt8.ofNat y)))) ((Go.Lib.bytesWorld w 5 (bs t)).setCell ⟨w.heap.size, p, none⟩ (.int .u8 (y : Int))) := fun w => by
    refine conv_bytes _ _ _ _ _ (by simp) fun j hj => ?_
    by_cases e : p = j
    · subst e
      rw [World.cell?_setCell_same _ _ _ (hc1 w)]
      simp [UInt8.toNat_ofNat', Nat.mod_eq_of_lt hyl]
    · rw [World.cell?_setCell_other _ _ _ _ (by simp [e]), bw_cell w t j (by simpa using hj)]
      simp [List.getElem_set, e]
  have hrd := HTO.out p (UInt8.ofNat y) hat (by
    intro e
    have := xor_u8_ne htc hbl hbz
    rw [← hy, ← e, UInt8.ofNat_toNat] at this
    exact this rfl)
  have HRD : Hid (∀ w, Calls Try.prog 25 #[.string (bs (t.set p (UInt8.ofNat y)))] w fun e w' => (∃ v, e = .returned (.tuple #[.agg #[.int .i64 0, .int .i64 0, v], .int .i64 4]) ∧ SV w' v []) ∧ Below w.heap.size w w') :=
    hid fun w => d_bread (t.set p (UInt8.ofNat y)) w (by rw [List.length_set]; omega) (hid hrd)
  clear hy hk hrd HTO
  have hb0 := sbelow_new w (.cells #[.int .i64 n, .int .i64 q, x] 39)
  have hs0 := BB.new w n q x
  have hv0 := hx.up hb0
  go_enter Try.func9, Try.ntmps9
  go_upto_region 1 with (fail)
  generalize w.alloc (.cells #[.int .i64 n, .int .i64 q, x] 39) = v0 at *
  have HV0 := hid hv0
  clear hv0 hx
  obtain ⟨k0, k1, k2⟩ := hs0.cells
  go_wp2_with fail
  refine (HFEW.out v0 HV0.out).mono ?_
  rintro r v1 ⟨rfl, hbq⟩
  have hb1 := sbelow_step hb0 hbq
  have hs1 := hs0.up hbq
  have HV1 := hid (HV0.out.up hbq)
  clear hbq hb0 hs0 HV0
  clear k0 k1 k2
  obtain ⟨k0, k1, k2⟩ := hs1.cells
  go_wp2_with fail
  refine (HCK.out _ HV1.out).mono ?_
  rintro r v2 ⟨rfl, hbq⟩
  have hb2 := sbelow_step hb1 hbq
  have hs2 := hs1.up hbq
  have HV2 := hid (HV1.out.up hbq)
  clear hbq hb1 hs1 HV1
  clear k0 k1 k2
  obtain ⟨k0, k1, k2⟩ := hs2.cells
  go_wp2_with fail
  refine (HW.out _ HV2.out).mono ?_
  rintro r v3 ⟨rfl, hbq⟩
  have hb3 := sbelow_step hb2 hbq
  have hs3 := hs2.up hbq
  have HV3 := hid (HV2.out.up hbq)
  clear hbq hb2 hs2 HV2
  clear k0 k1 k2
  go_wp2_with fail
  go_wp2_with fail
  have hb4 := sbelow_step hb3 ((bw_below v3 t).setCell (p := ⟨v3.heap.size, p, none⟩) (Nat.le_refl _) (.int .u8 (y : Int)))
  clear hb3 hs3 HV3
  refine (HRD.out _).mono ?_
  rintro r v5 ⟨⟨vx, rfl, hvx⟩, hbq⟩
  have hb5 := sbelow_step (sbelow_step hb4 hbq) (sbelow_new v5 (.cells #[.int .i64 0, .int .i64 0, vx] 39))
  have hxx := hvx.up (sbelow_new v5 (.cells #[.int .i64 0, .int .i64 0, vx] 39))
  have hsx := BB.new v5 0 0 vx
  obtain ⟨A1, p1, he1⟩ : ∃ A1 p1, vx = .slice A1 0 p1 := by obtain ⟨A, c, e, _⟩ := hvx; exact ⟨A, c, e⟩
  subst he1
  clear hbq hb4 hvx
  go_upto_region 9 with (fail)
  generalize v5.alloc (.cells #[.int .i64 0, .int .i64 0, .slice A1 0 p1] 39) = v6 at *
  generalize (Value.slice A1 0 p1) = vx at *
  obtain ⟨q0, q1, q2⟩ := hsx.cells
  go_wp2_with fail
  refine (d_bsame _ 0 0 hxx (SV.nil _) (by simp)).mono ?_
  rintro r v7 ⟨rfl, hbq⟩
  have hb7 := sbelow_step hb5 hbq
  clear hbq hb5 hxx hsx q0 q1 q2
  go_wp2_with fail
  refine (known10_any _).mono ?_
  rintro r v8 ⟨rfl, hbq⟩
  go_wp2_with fail
  go_returns
  exact ⟨rfl, sbelow_step hb7 hbq⟩
end Go.Proofs.Ytgpioafkahoahaa
