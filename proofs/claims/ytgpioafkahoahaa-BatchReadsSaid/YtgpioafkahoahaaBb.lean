import Derived.Test.YtgpioafkahoahaaBa
import Derived.Test.YtgpioafkahoahaaSk
import Derived.Test.YtgpioafkahoahaaSm
import Derived.Deep.Cut
import Derived.Deep.RegionHeld3
namespace Go.Proofs.Ytgpioafkahoahaa
set_option linter.unusedVariables false
set_option linter.unusedSimpArgs false
open Go.RowKit Go.Joins

theorem scseal_at (l : List UInt8) (w : World) (hs : l.length ≤ 140737488351232) {t : List UInt8} (H : Hid (sealS l = t)) :
    Calls Try.prog 51 #[.string (bs l)] w fun e w' => e = .returned (.string (bs t)) ∧ Below w.heap.size w w' :=
  (cseal_any l w hs).mono fun e w' ⟨h1, h2⟩ => ⟨by rw [← H.out]; exact h1, h2⟩
theorem srseal_at (l : List UInt8) (w : World) (hs : l.length ≤ 140737488351232) {t : List UInt8} (H : Hid (sealS l = t)) :
    Calls Try.prog 49 #[.string (bs l)] w fun e w' => e = .returned (.string (bs t)) ∧ Below w.heap.size w w' :=
  (rseal_any l w hs).mono fun e w' ⟨h1, h2⟩ => ⟨by rw [← H.out]; exact h1, h2⟩
def fms (L : List Nat) : List UInt8 := (L.map vput).flatten
theorem fms_len : ∀ L : List Nat, (fms L).length ≤ 10 * L.length
  | [] => by simp [fms]
  | n :: r => by
    have h1 := (vput_length_le n).2
    have h2 := fms_len r
    have : fms (n :: r) = vput n ++ fms r := by simp [fms]
    rw [this, List.length_append, List.length_cons]; omega
theorem fms_take (L : List Nat) (k : Nat) (h : k < L.length) : fms (L.take (k + 1)) = fms (L.take k) ++ vput L[k] := by
  unfold fms; rw [List.take_succ_eq_append_getElem h, List.map_append, List.flatten_append]; simp
theorem flatB_take (L : List Sp) (k : Nat) (h : k < L.length) : flatB (L.take (k + 1)) = flatB (L.take k) ++ bytesS L[k] := by
  unfold flatB; rw [List.take_succ_eq_append_getElem h, List.map_append, List.flatten_append]; simp
set_option maxRecDepth 100000 in
set_option maxHeartbeats 1600000 in
theorem forms_any (g : Nat) (cap : Nat) (L : List Nat) (w : World) (hc : ∀ k (h : k < L.length), w.cell? ⟨g, k, none⟩ = some (.int .i64 (L[k] : Int))) (hg : g < w.heap.size) (hl : L.length ≤ 10) (hL : ∀ x ∈ L, x ≤ 1099511627776) :
    Calls Try.prog 50 #[.slice (some ⟨g, 0, none⟩) L.length cap] w fun e w' => e = .returned (.string (bs (fms L))) ∧ Below w.heap.size w w' := by
  have HC := hid hc
  clear hc
  go_enter Try.func50, Try.ntmps50
  go_wp2_with fail
  go_loopw [3, 8] (fun s i wr => ∃ (k : Nat) (acc : List UInt8), k ≤ L.length ∧ acc.length ≤ 10 * k ∧ s = .string (bs acc) ∧ i = .int .i64 k ∧ Hid (acc = fms (L.take k) ∧ Below w.heap.size w wr)) (fun _ i _ => L.length - (intOf i).toNat)
  case atStart => exact ⟨0, [], by omega, by simp, rfl, rfl, hid ⟨rfl, Below.refl _ _⟩⟩
  case round =>
    obtain ⟨k, acc, hk, ha, rfl, rfl, HW⟩ := hrel
    by_cases hlt : k < L.length
    · have hki : decide ((k : Int) < ((L.length : Nat) : Int)) = true := by simp; omega
      have hcell : wr.cell? ⟨g, k, none⟩ = some (.int .i64 (L[k] : Int)) := (HW.out.2.cell (p := ⟨g, k, none⟩) hg).trans (HC.out k hlt)
      have HT := hid (fms_take L k hlt)
      have hx := hL _ (List.getElem_mem hlt)
      generalize L[k] = x at *
      have HX := hid (show x < 18446744073709551616 by omega)
      have hwr := wrap_u64_nat x HX.out
      obtain ⟨t, ht⟩ : ∃ t, vput x = t := ⟨_, rfl⟩
      have htl : t.length ≤ 10 := by rw [← ht]; exact (vput_length_le x).2
      have HP := hid ht
      clear ht
      have hput := fun w' => svput_at x w' HX HP
      have u1 : ¬ 9223372036854775807 < acc.length + t.length := by omega
      go_wp2_with fail
      refine (hput _).mono ?_
      rintro e w1 ⟨rfl, hb1⟩
      have HBD := hid (sbelow_step HW.out.2 hb1)
      clear hb1 hcell
      go_wp2_with fail
      go_roundw
      case rel => exact ⟨k + 1, acc ++ t, by omega, by rw [List.length_append]; omega, rfl, by go_num, hid ⟨by rw [HT.out, HP.out, HW.out.1], HBD.out⟩⟩
      case measure => simp [intOf]; omega
    · obtain rfl : k = L.length := by omega
      go_wp2_with fail
      go_returns
      exact ⟨by rw [HW.out.1, List.take_length]; rfl, HW.out.2⟩
theorem keepBB {w1 w' : World} {g : Nat} {n q : Int} {v : Value} (h : BB w1 g n q v) (hb : Below w1.heap.size w1 w') : w'.cell? ⟨g, 0, none⟩ = some (.int .i64 n) ∧ w'.cell? ⟨g, 1, none⟩ = some (.int .i64 q) ∧ w'.cell? ⟨g, 2, none⟩ = some v ∧ Below w1.heap.size w1 w' := by
  have h1 := h.up hb
  exact ⟨Blk.cell h1 0, Blk.cell h1 1, Blk.cell h1 2, hb⟩
theorem chkB_atbwrite (A : Option Addr) (cap : Nat) (L : List Sp) (n q : Int) (hl : L.length ≤ 9223372036854775807) (hs : smallS L) {c : Int} (H : Hid (chkB n q L = c)) (w : World) (hR : SR w (· < w.heap.size) A L) :
    Calls Try.prog 23 #[.agg #[.int .i64 n, .int .i64 q, .slice A L.length cap]] w fun e w' => e = .returned (.int .i64 c) ∧ Below w.heap.size w w' := by
  rw [← H.out]; exact bcheck_any A cap L n q w hR hl hs
set_option maxRecDepth 100000 in
set_option maxHeartbeats 8000000 in
theorem bwrite_any (A : Option Addr) (cap : Nat) (L : List Sp) (n q : Int) (w : World) (hR : SR w (· < w.heap.size) A L) (hl : L.length ≤ 9223372036854775807) (hs : ∀ s ∈ L, okSp s) :
    Calls Try.prog 19 #[.agg #[.int .i64 n, .int .i64 q, .slice A L.length cap]] w fun e w' => e = .returned (.tuple #[.string (bs (writeB n q L).1), .int .i64 (writeB n q L).2]) ∧ Below w.heap.size w w' := by
  have hsm : smallS L := fun s h => (hs s h).1
  have HS := hid hs
  have hb0 := sbelow_new w (.cells #[.int .i64 n, .int .i64 q, .slice A L.length cap] 39)
  have hs0 := BB.new w n q (.slice A L.length cap)
  have hR := hR.up hb0
  clear hs
  by_cases hc : chkB n q L = 0
  rotate_left
  · obtain ⟨c, hcc⟩ : ∃ c, chkB n q L = c := ⟨_, rfl⟩
    have HWr := hid (show writeB n q L = ([], c) by rw [writeB, if_neg hc, hcc])
    have hb : (c != 0) = true := by rw [← hcc]; simpa using hc
    have hck := chkB_atbwrite A cap L n q hl hsm (hid hcc)
    clear hc hcc
    go_enter Try.func19, Try.ntmps19
    go_upto_region 1 with (fail)
    generalize w.alloc (.cells #[.int .i64 n, .int .i64 q, .slice A L.length cap] 39) = v0 at *
    obtain ⟨k0, k1, k2⟩ := hs0.cells
    go_wp2_with fail
    refine (hck _ hR).mono ?_
    rintro e w1 ⟨rfl, hb1⟩
    have hs0 := hs0.up hb1
    have hb0 := sbelow_step hb0 hb1
    have hR := hR.up hb1
    clear hb1 k0 k1 k2
    go_wp2_with fail
    go_returns
    exact ⟨by rw [HWr.out]; rfl, hb0⟩
  have hck := chkB_atbwrite A cap L n q hl hsm (hid hc)
  obtain ⟨h1, h2, h3, h4⟩ := chkB_ok hc
  rw [inR, decide_eq_true_eq] at h1
  obtain ⟨n, rfl⟩ := Int.eq_ofNat_of_zero_le h1.1
  obtain ⟨q, rfl⟩ := Int.eq_ofNat_of_zero_le h1.2.2.1
  have hbl := bodyB_len hc
  obtain ⟨t, ht⟩ : ∃ t, sealS (bodyB n q L) = t := ⟨_, rfl⟩
  have HWr := hid (show writeB n q L = (t, 0) by rw [writeB, if_pos hc, ht])
  have HSL := hid ht
  have HBD := hid (show bodyB n q L = (mkB ++ fms [n, q, L.length]) ++ flatB L by simp [bodyB, fms])
  have h4' := h4
  have H4 := hid h4'
  have hfl := fms_len [n, q, L.length]
  obtain ⟨fm, hfm⟩ : ∃ fm, fms [n, q, L.length] = fm := ⟨_, rfl⟩
  rw [hfm] at HBD hfl
  have hfl2 : fm.length ≤ 30 := hfl
  have HFM := hid hfm
  have cmk : (ByteArray.mk #[80, 66, 1]) = bs mkB := rfl
  have hmk : mkB.length ≤ 3 := Nat.le_refl 3
  generalize mkB = mk at *
  clear hc ht h4 h4' hfm hfl
  go_enter Try.func19, Try.ntmps19
  go_upto_region 1 with (fail)
  generalize w.alloc (.cells #[.int .i64 n, .int .i64 q, .slice A L.length cap] 39) = v0 at *
  obtain ⟨k0, k1, k2⟩ := hs0.cells
  go_wp2_with fail
  refine (hck _ hR).mono ?_
  rintro e w1 ⟨rfl, hb1⟩
  have hs0 := hs0.up hb1
  have hb0 := sbelow_step hb0 hb1
  have hR := hR.up hb1
  clear hb1 k0 k1 k2
  obtain ⟨k0, k1, k2⟩ := hs0.cells
  have hbz := sbelow_step hb0 (sbelow_new w1 (.cells #[.int .i64 (n : Int), .int .i64 (q : Int), .int .i64 ((L.length : Nat) : Int)] 3))
  have hsz := hs0.up (sbelow_new w1 (.cells #[.int .i64 (n : Int), .int .i64 (q : Int), .int .i64 ((L.length : Nat) : Int)] 3))
  have hRz := hR.up (sbelow_new w1 (.cells #[.int .i64 (n : Int), .int .i64 (q : Int), .int .i64 ((L.length : Nat) : Int)] 3))
  have hfc : ∀ k (h : k < [n, q, L.length].length), (w1.alloc (.cells #[.int .i64 (n : Int), .int .i64 (q : Int), .int .i64 ((L.length : Nat) : Int)] 3)).cell? ⟨w1.heap.size, k, none⟩ = some (.int .i64 ([n, q, L.length][k] : Int)) := fun k h => by
    match k, h with
    | 0, _ => simp
    | 1, _ => simp
    | 2, _ => simp
  have hfa := forms_any w1.heap.size 3 [n, q, L.length] _ hfc (by simp) (by simp) (fun x hx => by simp at hx; omega)
  rw [HFM.out] at hfa
  have HFA := hid hfa
  have u1 : ¬ 9223372036854775807 < mk.length + fm.length := by omega
  clear hfc hfa
  go_wp2_with fail
  refine HFA.out.mono ?_
  rintro e w2 ⟨rfl, hb2⟩
  have hs0 := hsz.up hb2
  have hb0 := sbelow_step hbz hb2
  have hR := hRz.up hb2
  clear hbz hsz hRz hb2 k0 k1 k2 HFA
  obtain ⟨k0, k1, k2⟩ := hs0.cells
  go_wp2_with fail
  clear k0 k1 k2 u1
  have H0 := hid (And.intro hb0 (And.intro hs0 hR))
  clear hb0 hs0 hR
  go_loopw [5, 28] (fun s i wr => ∃ (k : Nat) (acc : List UInt8), k ≤ L.length ∧ acc.length ≤ 100 + 150 * k ∧ s = .string (bs acc) ∧ i = .int .i64 k ∧ Hid (acc = (mk ++ fm) ++ flatB (L.take k) ∧ Below w.heap.size w wr ∧ BB wr w.heap.size n q (.slice A L.length cap) ∧ SR wr (· < wr.heap.size) A L)) (fun _ i _ => L.length - (intOf i).toNat)
  case atStart => exact ⟨0, mk ++ fm, by omega, by rw [List.length_append]; omega, rfl, rfl, hid ⟨by simp [flatB], H0.out.1, H0.out.2.1, H0.out.2.2⟩⟩
  case round =>
    obtain ⟨k, acc, hk, ha, rfl, rfl, HW⟩ := hrel
    obtain ⟨k0, k1, k2⟩ := HW.out.2.2.1.cells
    by_cases hlt : k < L.length
    · obtain ⟨bk, ok, rfl, hB, c0, c1, c2, c3, c4, c5, c6, c7, c8, c9, c10⟩ := HW.out.2.2.2 k hlt
      have HT := hid (flatB_take L k hlt)
      have hok := HS.out _ (List.getElem_mem hlt)
      have hch := H4.out _ (List.getElem_mem hlt)
      have hlen := (bytesS_len _ hch).1
      generalize L[k] = s at *
      obtain ⟨a, b, c, d, nm, st, sq, kd, sh, x, y⟩ := s
      obtain ⟨hnm, hwide⟩ := hok
      simp only at hnm c0 c1 c2 c3 c4 c5 c6 c7 c8 c9 c10
      have hki : decide ((k : Int) < ((L.length : Nat) : Int)) = true := by simp; omega
      obtain ⟨t', ht'⟩ : ∃ t, bytesS ⟨a, b, c, d, nm, st, sq, kd, sh, x, y⟩ = t := ⟨_, rfl⟩
      rw [ht'] at hlen
      have HTT := hid ht'
      have hwt := fun w' => spwrite_at a b c d nm st sq kd sh x y w' hnm (hid hwide) (hid (show writeS ⟨a, b, c, d, nm, st, sq, kd, sh, x, y⟩ = (t', 0) by rw [writeS, if_pos hch, ht']))
      have HWT := hid hwt
      have u1 : ¬ 9223372036854775807 < acc.length + t'.length := by omega
      clear ht' hch hwt hwide
      have hb1 := sbelow_step HW.out.2.1 (sbelow_new wr (.cells #[.int .u64 (a : Int), .int .u64 (b : Int), .int .u64 (c : Int), .int .u64 (d : Int), .string (bs nm), .int .i64 st, .int .i64 sq, .int .i64 kd, .bool sh, .int .i64 x, .int .i64 y] 26))
      have hs1 := HW.out.2.2.1.up (sbelow_new wr (.cells #[.int .u64 (a : Int), .int .u64 (b : Int), .int .u64 (c : Int), .int .u64 (d : Int), .string (bs nm), .int .i64 st, .int .i64 sq, .int .i64 kd, .bool sh, .int .i64 x, .int .i64 y] 26))
      have hR1 := HW.out.2.2.2.up (sbelow_new wr (.cells #[.int .u64 (a : Int), .int .u64 (b : Int), .int .u64 (c : Int), .int .u64 (d : Int), .string (bs nm), .int .i64 st, .int .i64 sq, .int .i64 kd, .bool sh, .int .i64 x, .int .i64 y] 26))
      have ss1 := SB.new wr a b c d nm st sq kd sh x y
      go_upto_region 8 with (fail)
      clear c0 c1 c2 c3 c4 c5 c6 c7 c8 c9 c10 k0 k1 k2
      generalize wr.alloc (.cells #[.int .u64 (a : Int), .int .u64 (b : Int), .int .u64 (c : Int), .int .u64 (d : Int), .string (bs nm), .int .i64 st, .int .i64 sq, .int .i64 kd, .bool sh, .int .i64 x, .int .i64 y] 26) = v1 at *
      obtain ⟨c0, c1, c2, c3, c4, c5, c6, c7, c8, c9, c10⟩ := ss1.cells
      go_wp2_with fail
      refine (HWT.out _).mono ?_
      rintro e w3 ⟨rfl, hb2⟩
      have H2 := hid (And.intro (sbelow_step hb1 hb2) (And.intro (hs1.up hb2) (hR1.up hb2)))
      clear hb1 hb2 hs1 hR1 ss1 c0 c1 c2 c3 c4 c5 c6 c7 c8 c9 c10
      go_wp2_with fail
      go_roundw
      case rel => exact ⟨k + 1, acc ++ t', by omega, by rw [List.length_append]; omega, rfl, by go_num, hid ⟨by rw [HT.out, HTT.out, HW.out.1]; simp, H2.out.1, H2.out.2.1, H2.out.2.2⟩⟩
      case measure => simp [intOf]; omega
    · obtain rfl : k = L.length := by omega
      have hacc := HW.out.1
      rw [List.take_length] at hacc
      have hse := fun w' => scseal_at acc w' (by omega) (hid (show sealS acc = t by rw [hacc, ← HBD.out]; exact HSL.out))
      clear hacc
      go_wp2_with fail
      refine (hse _).mono ?_
      rintro e w4 ⟨rfl, hb4⟩
      have HB4 := hid (sbelow_step HW.out.2.1 hb4)
      clear hb4
      go_wp2_with fail
      go_returns
      exact ⟨by rw [HWr.out]; rfl, HB4.out⟩
theorem chkB_atrbwrite (A : Option Addr) (cap : Nat) (L : List Sp) (n q : Int) (hl : L.length ≤ 9223372036854775807) (hs : smallS L) {c : Int} (H : Hid (chkB n q L = c)) (w : World) (hR : SR w (· < w.heap.size) A L) :
    Calls Try.prog 24 #[.agg #[.int .i64 n, .int .i64 q, .slice A L.length cap]] w fun e w' => e = .returned (.int .i64 c) ∧ Below w.heap.size w w' := by
  rw [← H.out]; exact rbcheck_any A cap L n q w hR hl hs
set_option maxRecDepth 100000 in
set_option maxHeartbeats 8000000 in
theorem rbwrite_any (A : Option Addr) (cap : Nat) (L : List Sp) (n q : Int) (w : World) (hR : SR w (· < w.heap.size) A L) (hl : L.length ≤ 9223372036854775807) (hs : ∀ s ∈ L, okSp s) :
    Calls Try.prog 20 #[.agg #[.int .i64 n, .int .i64 q, .slice A L.length cap]] w fun e w' => e = .returned (.tuple #[.string (bs (writeB n q L).1), .int .i64 (writeB n q L).2]) ∧ Below w.heap.size w w' := by
  have hsm : smallS L := fun s h => (hs s h).1
  have HS := hid hs
  have hb0 := sbelow_new w (.cells #[.int .i64 n, .int .i64 q, .slice A L.length cap] 39)
  have hs0 := BB.new w n q (.slice A L.length cap)
  have hR := hR.up hb0
  clear hs
  by_cases hc : chkB n q L = 0
  rotate_left
  · obtain ⟨c, hcc⟩ : ∃ c, chkB n q L = c := ⟨_, rfl⟩
    have HWr := hid (show writeB n q L = ([], c) by rw [writeB, if_neg hc, hcc])
    have hb : (c != 0) = true := by rw [← hcc]; simpa using hc
    have hck := chkB_atrbwrite A cap L n q hl hsm (hid hcc)
    clear hc hcc
    go_enter Try.func20, Try.ntmps20
    go_upto_region 1 with (fail)
    generalize w.alloc (.cells #[.int .i64 n, .int .i64 q, .slice A L.length cap] 39) = v0 at *
    obtain ⟨k0, k1, k2⟩ := hs0.cells
    go_wp2_with fail
    refine (hck _ hR).mono ?_
    rintro e w1 ⟨rfl, hb1⟩
    have hs0 := hs0.up hb1
    have hb0 := sbelow_step hb0 hb1
    have hR := hR.up hb1
    clear hb1 k0 k1 k2
    obtain ⟨k0, k1, k2⟩ := hs0.cells
    go_wp2_with fail
    refine (hck _ hR).mono ?_
    rintro e w1 ⟨rfl, hb1⟩
    have hs0 := hs0.up hb1
    have hb0 := sbelow_step hb0 hb1
    have hR := hR.up hb1
    clear hb1 k0 k1 k2
    go_wp2_with fail
    go_returns
    exact ⟨by rw [HWr.out]; rfl, hb0⟩
  have hck := chkB_atrbwrite A cap L n q hl hsm (hid hc)
  obtain ⟨h1, h2, h3, h4⟩ := chkB_ok hc
  rw [inR, decide_eq_true_eq] at h1
  obtain ⟨n, rfl⟩ := Int.eq_ofNat_of_zero_le h1.1
  obtain ⟨q, rfl⟩ := Int.eq_ofNat_of_zero_le h1.2.2.1
  have hbl := bodyB_len hc
  obtain ⟨t, ht⟩ : ∃ t, sealS (bodyB n q L) = t := ⟨_, rfl⟩
  have HWr := hid (show writeB n q L = (t, 0) by rw [writeB, if_pos hc, ht])
  have HSL := hid ht
  have HBD := hid (show bodyB n q L = (mkB ++ fms [n, q, L.length]) ++ flatB L by simp [bodyB, fms])
  have h4' := h4
  have H4 := hid h4'
  have hfl := fms_len [n, q, L.length]
  obtain ⟨fm, hfm⟩ : ∃ fm, fms [n, q, L.length] = fm := ⟨_, rfl⟩
  rw [hfm] at HBD hfl
  have hfl2 : fm.length ≤ 30 := hfl
  have HFM := hid hfm
  have cmk : (ByteArray.mk #[80, 66, 1]) = bs mkB := rfl
  have hmk : mkB.length ≤ 3 := Nat.le_refl 3
  generalize mkB = mk at *
  clear hc ht h4 h4' hfm hfl
  go_enter Try.func20, Try.ntmps20
  go_upto_region 1 with (fail)
  generalize w.alloc (.cells #[.int .i64 n, .int .i64 q, .slice A L.length cap] 39) = v0 at *
  obtain ⟨k0, k1, k2⟩ := hs0.cells
  go_wp2_with fail
  refine (hck _ hR).mono ?_
  rintro e w1 ⟨rfl, hb1⟩
  have hs0 := hs0.up hb1
  have hb0 := sbelow_step hb0 hb1
  have hR := hR.up hb1
  clear hb1 k0 k1 k2
  obtain ⟨k0, k1, k2⟩ := hs0.cells
  have q1 := wrap_u64_nat n (by omega)
  have q2 := wrap_u64_nat q (by omega)
  have q3 := wrap_u64_nat L.length (by omega)
  obtain ⟨t1, ht1⟩ : ∃ t, vput n = t := ⟨_, rfl⟩
  obtain ⟨t2, ht2⟩ : ∃ t, vput q = t := ⟨_, rfl⟩
  obtain ⟨t3, ht3⟩ : ∃ t, vput L.length = t := ⟨_, rfl⟩
  have l1 : t1.length ≤ 10 := by rw [← ht1]; exact (vput_length_le _).2
  have l2 : t2.length ≤ 10 := by rw [← ht2]; exact (vput_length_le _).2
  have l3 : t3.length ≤ 10 := by rw [← ht3]; exact (vput_length_le _).2
  have HF2 := hid (show fm = t1 ++ (t2 ++ t3) by rw [← HFM.out, ← ht1, ← ht2, ← ht3]; simp [fms])
  have p1 := fun w' => srvput_at n w' (hid (by omega)) (hid ht1)
  have p2 := fun w' => srvput_at q w' (hid (by omega)) (hid ht2)
  have p3 := fun w' => srvput_at L.length w' (hid (by omega)) (hid ht3)
  have P1 := hid p1
  have P2 := hid p2
  have P3 := hid p3
  clear p1 p2 p3 ht1 ht2 ht3
  have u1 : ¬ 9223372036854775807 < mk.length + t1.length := by omega
  have u2 : ¬ 9223372036854775807 < mk.length + t1.length + t2.length := by omega
  have u3 : ¬ 9223372036854775807 < mk.length + (t1.length + t2.length) + t3.length := by omega
  go_wp2_with fail
  clear k0 k1 k2
  have hz : Below w1.heap.size w1 w1.drew := (Below.refl _ _).drew
  go_region_held3 (fun w' => w'.cell? ⟨w.heap.size, 0, none⟩ = some (.int .i64 (n : Int)) ∧ w'.cell? ⟨w.heap.size, 1, none⟩ = some (.int .i64 (q : Int)) ∧ w'.cell? ⟨w.heap.size, 2, none⟩ = some (.slice A L.length cap) ∧ Below w1.heap.size w1 w') (first | (with_reducible exact keepBB hs0 hz) | (with_reducible exact keepBB hs0 (hz.trans (Below.mono (by assumption) hz.size)))) (first
    | (go_at_call 38
       first
         | ((with_reducible refine (P1.out _).mono ?_); rintro e w5 ⟨rfl, hy⟩)
         | ((with_reducible refine (P2.out _).mono ?_); rintro e w5 ⟨rfl, hy⟩)
         | ((with_reducible refine (P3.out _).mono ?_); rintro e w5 ⟨rfl, hy⟩)
       have hz := hz.trans (hy.mono hz.size)))
  all_goals
    have H0 := hid (And.intro (sbelow_step hb0 hz) (And.intro (hs0.up hz) (hR.up hz)))
    clear hb0 hs0 hR hz u1 u2 u3 P1 P2 P3 q1 q2 q3
    have hfm2 := HF2.out
    have e1 : mk ++ (t1 ++ (t2 ++ t3)) = mk ++ fm := by rw [hfm2]
    go_wp2_with fail
    simp only [e1]
    clear e1 hfm2 HF2 l1 l2 l3
    go_loopw [4, 5] (fun s i wr => ∃ (k : Nat) (acc : List UInt8), k ≤ L.length ∧ acc.length ≤ 100 + 150 * k ∧ s = .string (bs acc) ∧ i = .int .i64 k ∧ Hid (acc = (mk ++ fm) ++ flatB (L.take k) ∧ Below w.heap.size w wr ∧ BB wr w.heap.size n q (.slice A L.length cap) ∧ SR wr (· < wr.heap.size) A L)) (fun _ i _ => L.length - (intOf i).toNat)
    case atStart => exact ⟨0, mk ++ fm, by omega, by rw [List.length_append]; omega, rfl, rfl, hid ⟨by simp [flatB], H0.out.1, H0.out.2.1, H0.out.2.2⟩⟩
    case round =>
      obtain ⟨k, acc, hk, ha, rfl, rfl, HW⟩ := hrel
      obtain ⟨k0, k1, k2⟩ := HW.out.2.2.1.cells
      by_cases hlt : k < L.length
      · obtain ⟨bk, ok, rfl, hB, c0, c1, c2, c3, c4, c5, c6, c7, c8, c9, c10⟩ := HW.out.2.2.2 k hlt
        have HT := hid (flatB_take L k hlt)
        have hok := HS.out _ (List.getElem_mem hlt)
        have hch := H4.out _ (List.getElem_mem hlt)
        have hlen := (bytesS_len _ hch).1
        generalize L[k] = s at *
        obtain ⟨a, b, c, d, nm, st, sq, kd, sh, x, y⟩ := s
        obtain ⟨hnm, hwide⟩ := hok
        simp only at hnm c0 c1 c2 c3 c4 c5 c6 c7 c8 c9 c10
        have hki : decide ((k : Int) < ((L.length : Nat) : Int)) = true := by simp; omega
        obtain ⟨t', ht'⟩ : ∃ t, bytesS ⟨a, b, c, d, nm, st, sq, kd, sh, x, y⟩ = t := ⟨_, rfl⟩
        rw [ht'] at hlen
        have HTT := hid ht'
        have hwt := fun w' => rspwrite_at a b c d nm st sq kd sh x y w' hnm (hid hwide) (hid (show writeS ⟨a, b, c, d, nm, st, sq, kd, sh, x, y⟩ = (t', 0) by rw [writeS, if_pos hch, ht']))
        have HWT := hid hwt
        have u1 : ¬ 9223372036854775807 < acc.length + t'.length := by omega
        clear ht' hch hwt hwide
        go_wp2_with fail
        refine (HWT.out _).mono ?_
        rintro e w3 ⟨rfl, hb2⟩
        have H2 := hid (And.intro (sbelow_step HW.out.2.1 hb2) (And.intro (HW.out.2.2.1.up hb2) (HW.out.2.2.2.up hb2)))
        clear hb2 c0 c1 c2 c3 c4 c5 c6 c7 c8 c9 c10 k0 k1 k2
        go_wp2_with fail
        go_roundw
        case rel => exact ⟨k + 1, acc ++ t', by omega, by rw [List.length_append]; omega, rfl, by go_num, hid ⟨by rw [HT.out, HTT.out, HW.out.1]; simp, H2.out.1, H2.out.2.1, H2.out.2.2⟩⟩
        case measure => simp [intOf]; omega
      · obtain rfl : k = L.length := by omega
        have hacc := HW.out.1
        rw [List.take_length] at hacc
        have hse := fun w' => srseal_at acc w' (by omega) (hid (show sealS acc = t by rw [hacc, ← HBD.out]; exact HSL.out))
        clear hacc
        go_wp2_with fail
        refine (hse _).mono ?_
        rintro e w4 ⟨rfl, hb4⟩
        have HB4 := hid (sbelow_step HW.out.2.1 hb4)
        clear hb4
        go_wp2_with fail
        go_returns
        exact ⟨by rw [HWr.out]; rfl, HB4.out⟩
end Go.Proofs.Ytgpioafkahoahaa
