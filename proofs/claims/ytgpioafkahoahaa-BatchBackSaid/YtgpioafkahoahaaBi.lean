import Derived.Test.YtgpioafkahoahaaBg
import Derived.Test.YtgpioafkahoahaaBh
import Derived.Deep.Cut
namespace Go.Proofs.Ytgpioafkahoahaa
set_option linter.unusedVariables false
set_option linter.unusedSimpArgs false
open Go.RowKit Go.Joins

theorem SPB.sv {w : World} {base : Nat} {v : Value} {L : List Sp} (h : SPB w base v L) (hl : L.length ≤ 9223372036854775807) : SV w v L := by
  obtain ⟨A, c, e, hr⟩ := h.sr
  exact ⟨A, c, e, hr, hl⟩
def okL (L : List Sp) : Prop := ∀ s ∈ L, okSp s
theorem okL.small {L : List Sp} (h : okL L) : smallS L := fun s hs => (h s hs).1
theorem d_bfew (w : World) {v : Value} {L : List Sp} (n q : Int) (h : SV w v L) (hs : okL L) {z : Bool} (H : Hid (fewB L = z)) :
    Calls Try.prog 17 #[.agg #[.int .i64 n, .int .i64 q, v]] w fun e w' => e = .returned (.bool z) ∧ Below w.heap.size w w' := by
  obtain ⟨A, c, rfl, h1, h2⟩ := h
  rw [← H.out]; exact bfew_any A c L n q w h1 h2 hs.small
theorem d_bcheck (w : World) {v : Value} {L : List Sp} (n q : Int) (h : SV w v L) (hs : okL L) {z : Int} (H : Hid (chkB n q L = z)) :
    Calls Try.prog 23 #[.agg #[.int .i64 n, .int .i64 q, v]] w fun e w' => e = .returned (.int .i64 z) ∧ Below w.heap.size w w' := by
  obtain ⟨A, c, rfl, h1, h2⟩ := h
  rw [← H.out]; exact bcheck_any A c L n q w h1 h2 hs.small
theorem d_rbcheck (w : World) {v : Value} {L : List Sp} (n q : Int) (h : SV w v L) (hs : okL L) {z : Int} (H : Hid (chkB n q L = z)) :
    Calls Try.prog 24 #[.agg #[.int .i64 n, .int .i64 q, v]] w fun e w' => e = .returned (.int .i64 z) ∧ Below w.heap.size w w' := by
  obtain ⟨A, c, rfl, h1, h2⟩ := h
  rw [← H.out]; exact rbcheck_any A c L n q w h1 h2 hs.small
theorem d_bwrite (w : World) {v : Value} {L : List Sp} (n q : Int) (h : SV w v L) (hs : okL L) {t : List UInt8} {r : Int} (H : Hid (writeB n q L = (t, r))) :
    Calls Try.prog 19 #[.agg #[.int .i64 n, .int .i64 q, v]] w fun e w' => e = .returned (.tuple #[.string (bs t), .int .i64 r]) ∧ Below w.heap.size w w' := by
  obtain ⟨A, c, rfl, h1, h2⟩ := h
  have := bwrite_any A c L n q w h1 h2 hs
  rw [H.out] at this
  exact this
theorem d_rbwrite (w : World) {v : Value} {L : List Sp} (n q : Int) (h : SV w v L) (hs : okL L) {t : List UInt8} {r : Int} (H : Hid (writeB n q L = (t, r))) :
    Calls Try.prog 20 #[.agg #[.int .i64 n, .int .i64 q, v]] w fun e w' => e = .returned (.tuple #[.string (bs t), .int .i64 r]) ∧ Below w.heap.size w w' := by
  obtain ⟨A, c, rfl, h1, h2⟩ := h
  have := rbwrite_any A c L n q w h1 h2 hs
  rw [H.out] at this
  exact this
theorem d_bsame (w : World) {v u : Value} {L : List Sp} (n q : Int) (h : SV w v L) (k : SV w u L) (hl : L.length ≤ 10000000) :
    Calls Try.prog 29 #[.agg #[.int .i64 n, .int .i64 q, v], .agg #[.int .i64 n, .int .i64 q, u]] w fun e w' => e = .returned (.bool true) ∧ Below w.heap.size w w' := by
  obtain ⟨A, c, rfl, h1, h2⟩ := h
  obtain ⟨A', c', rfl, k1, k2⟩ := k
  exact bsame_any A A' c c' L n q w h1 k1 hl
theorem readB_few {s : List UInt8} {n q : Nat} {L : List Sp} {r : Int} (h : readB s = (n, q, L, r)) : L.length ≤ 16 := by
  by_cases hr : r = 0
  · subst hr
    exact (chkB_ok (readB_back h).1).2.2.1
  · have : L = [] := by
      unfold readB at h
      split at h
      · simp only [Prod.mk.injEq] at h; exact h.2.2.1.symm
      · obtain ⟨n', a1, e1, h1⟩ : ∃ x y z, nmP (opM mkB s).1 7 0 0 = (x, y, z) := ⟨_, _, _, rfl⟩
        obtain ⟨q', a2, e2, h2⟩ : ∃ x y z, nmP (opM mkB s).1 1099511627776 a1 e1 = (x, y, z) := ⟨_, _, _, rfl⟩
        obtain ⟨k, a3, e3, h3⟩ : ∃ x y z, nmP (opM mkB s).1 16 a2 e2 = (x, y, z) := ⟨_, _, _, rfl⟩
        by_cases h30 : e3 = 0
        · subst h30
          obtain ⟨L', x, h4⟩ : ∃ L' x, spsS ((opM mkB s).1.drop a3.toNat) k = (L', x) := ⟨_, _, rfl⟩
          rw [rdB_spans h1 h2 h3 h4] at h
          split at h
          · simp only [Prod.mk.injEq] at h; exact h.2.2.1.symm
          · simp only [Prod.mk.injEq] at h; exact absurd h.2.2.2.symm hr
        · rw [rdB_err h1 h2 h3 h30] at h
          simp only [Prod.mk.injEq] at h; exact h.2.2.1.symm
    rw [this]; simp
theorem d_bread (s : List UInt8) (w : World) (hs : s.length ≤ 140737488351232) {n q : Nat} {L : List Sp} {r : Int} (H : Hid (readB s = (n, q, L, r))) :
    Calls Try.prog 25 #[.string (bs s)] w fun e w' => (∃ v, e = .returned (.tuple #[.agg #[.int .i64 n, .int .i64 q, v], .int .i64 r]) ∧ SV w' v L) ∧ Below w.heap.size w w' :=
  (bread_any s w hs H).mono fun e w' ⟨⟨v, h1, h2⟩, h3⟩ => ⟨⟨v, h1, h2.sv (by have := readB_few H.out; omega)⟩, h3⟩
theorem d_rbread (s : List UInt8) (w : World) (hs : s.length ≤ 140737488351232) {n q : Nat} {L : List Sp} {r : Int} (H : Hid (readB s = (n, q, L, r))) :
    Calls Try.prog 26 #[.string (bs s)] w fun e w' => (∃ v, e = .returned (.tuple #[.agg #[.int .i64 n, .int .i64 q, v], .int .i64 r]) ∧ SV w' v L) ∧ Below w.heap.size w w' :=
  (rbread_any s w hs H).mono fun e w' ⟨⟨v, h1, h2⟩, h3⟩ => ⟨⟨v, h1, h2.sv (by have := readB_few H.out; omega)⟩, h3⟩
def k10S : Sp := ⟨0, 1, 2, 0, [97], 0, 0, 0, false, 0, 0⟩
theorem k10_ok : okL [k10S] := fun s hs => by
  simp only [List.mem_singleton] at hs
  subst hs
  exact ⟨by decide, ⟨by decide, by decide, by decide, by decide⟩⟩
theorem k10_chk : chkB 3 5 [k10S] = 0 := by decide +kernel
theorem k10_sv (w : World) (g : Nat) (h : Blk w g 26 #[.int .u64 0, .int .u64 1, .int .u64 2, .int .u64 0, .string (bs [97]), .int .i64 0, .int .i64 0, .int .i64 0, .bool false, .int .i64 0, .int .i64 0]) : SV w (.slice (some ⟨g, 0, none⟩) 1 1) [k10S] := by
  refine ⟨some ⟨g, 0, none⟩, 1, rfl, fun k hk => ?_, by simp⟩
  match k, hk with
  | 0, _ => exact ⟨g, 0, rfl, Blk.lt h, Blk.cell h 0, Blk.cell h 1, Blk.cell h 2, Blk.cell h 3, Blk.cell h 4, Blk.cell h 5, Blk.cell h 6, Blk.cell h 7, Blk.cell h 8, Blk.cell h 9, Blk.cell h 10⟩
theorem k10_ack : ackB 3 5 = (sealS [80, 65, 1, 3, 5], 0) := by
  have : mkA ++ (vput (3 : Int).toNat ++ vput (5 : Int).toNat) = [80, 65, 1, 3, 5] := by decide +kernel
  rw [ackB, if_pos (by decide), this]
theorem k10_kindA : kindB (sealS [80, 65, 1, 3, 5]) = 2 := kind_ackB [3, 5]
theorem k10_readA : readA (sealS [80, 65, 1, 3, 5]) = (3, 5, 0) := by
  have h := readA_ackB (n := 3) (q := 5) (by decide)
  rw [show mkA ++ (vput (3 : Int).toNat ++ vput (5 : Int).toNat) = [80, 65, 1, 3, 5] by decide +kernel] at h
  exact h
theorem k10_readack (w : World) {t : List UInt8} (H : Hid (sealS [80, 65, 1, 3, 5] = t)) : Calls Try.prog 27 #[.string (bs t)] w fun e w' => e = .returned (.tuple #[.int .i64 3, .int .i64 5, .int .i64 0]) ∧ Below w.heap.size w w' :=
  breadack_any t w (by rw [← H.out, sealS_length]; simp) (hid (by rw [← H.out]; exact k10_readA))
theorem k10_read (w : World) {t : List UInt8} (H : Hid (sealS (bodyB 3 5 [k10S]) = t)) : Calls Try.prog 25 #[.string (bs t)] w fun e w' => (∃ v, e = .returned (.tuple #[.agg #[.int .i64 3, .int .i64 5, v], .int .i64 0]) ∧ SV w' v [k10S]) ∧ Below w.heap.size w w' :=
  d_bread t w (by rw [← H.out, sealS_length]; have := bodyB_len k10_chk; omega) (n := 3) (q := 5) (hid (by
    rw [← H.out]; exact readB_writeB k10_chk fun s hs => (k10_ok s hs).2))
set_option maxRecDepth 100000 in
set_option maxHeartbeats 8000000 in
theorem known10_any (w : World) : Calls Try.prog 18 #[] w fun e w' => e = .returned (.bool true) ∧ Below w.heap.size w w' := by
  have c1 : (ByteArray.mk #[97]) = bs [97] := rfl
  have c2 : (ByteArray.mk #[120]) = bs [120] := rfl
  have c3 : (ByteArray.mk #[80, 65, 1, 3, 5]) = bs [80, 65, 1, 3, 5] := rfl
  obtain ⟨t, ht⟩ : ∃ t, sealS (bodyB 3 5 [k10S]) = t := ⟨_, rfl⟩
  obtain ⟨ta, hta⟩ : ∃ ta, sealS [80, 65, 1, 3, 5] = ta := ⟨_, rfl⟩
  have htl : t.length ≤ 140737488351232 := by rw [← ht, sealS_length]; have := bodyB_len k10_chk; omega
  have htal : ta.length ≤ 140737488351232 := by rw [← hta, sealS_length]; simp
  have HT := hid ht
  have HTA := hid hta
  have HWB := hid (show writeB 3 5 [k10S] = (t, 0) by rw [writeB, if_pos k10_chk, ht])
  have HAB := hid (show ackB 3 5 = (ta, 0) by rw [k10_ack, hta])
  have HK1 := hid (show kindB t = 1 by rw [← ht]; exact kind_writeB _ _ _)
  have HK2 := hid (show kindB ta = 2 by rw [← hta]; exact k10_kindA)
  have HK3 := hid (show kindB [120] = 0 by decide)
  clear ht hta
  have hb1 := sbelow_step (sbelow_new w (.cells #[.int .u64 0, .int .u64 1, .int .u64 2, .int .u64 0, .string (bs [97]), .int .i64 0, .int .i64 0, .int .i64 0, .bool false, .int .i64 0, .int .i64 0] 26)) (sbelow_new (w.alloc (.cells #[.int .u64 0, .int .u64 1, .int .u64 2, .int .u64 0, .string (bs [97]), .int .i64 0, .int .i64 0, .int .i64 0, .bool false, .int .i64 0, .int .i64 0] 26)) (.cells #[.int .i64 3, .int .i64 5, .slice (some ⟨w.heap.size, 0, none⟩) 1 1] 39))
  have hs1 := Blk.alloc (Blk.new w 26 #[.int .u64 0, .int .u64 1, .int .u64 2, .int .u64 0, .string (bs [97]), .int .i64 0, .int .i64 0, .int .i64 0, .bool false, .int .i64 0, .int .i64 0]) (.cells #[.int .i64 3, .int .i64 5, .slice (some ⟨w.heap.size, 0, none⟩) 1 1] 39)
  have hs2 := BB.new (w.alloc (.cells #[.int .u64 0, .int .u64 1, .int .u64 2, .int .u64 0, .string (bs [97]), .int .i64 0, .int .i64 0, .int .i64 0, .bool false, .int .i64 0, .int .i64 0] 26)) 3 5 (.slice (some ⟨w.heap.size, 0, none⟩) 1 1)
  rw [show (w.alloc (.cells #[.int .u64 0, .int .u64 1, .int .u64 2, .int .u64 0, .string (bs [97]), .int .i64 0, .int .i64 0, .int .i64 0, .bool false, .int .i64 0, .int .i64 0] 26)).heap.size = w.heap.size + 1 by simp] at hs2
  have hv1 := k10_sv _ _ hs1
  go_enter Try.func18, Try.ntmps18
  go_upto_region 2 with (fail)
  generalize (w.alloc (.cells #[.int .u64 0, .int .u64 1, .int .u64 2, .int .u64 0, .string (bs [97]), .int .i64 0, .int .i64 0, .int .i64 0, .bool false, .int .i64 0, .int .i64 0] 26)).alloc (.cells #[.int .i64 3, .int .i64 5, .slice (some ⟨w.heap.size, 0, none⟩) 1 1] 39) = w1 at *
  clear hs1
  generalize (Value.slice (some ⟨w.heap.size, 0, none⟩) 1 1) = vb at *
  obtain ⟨k0, k1, k2⟩ := hs2.cells
  go_wp2_with fail
  refine (d_bwrite _ 3 5 hv1 k10_ok HWB).mono ?_
  rintro r w2 ⟨rfl, hb2⟩
  have hv2 := hv1.up hb2
  have hs3 := hs2.up hb2
  have hb3 := sbelow_step hb1 hb2
  clear k0 k1 k2 hv1 hs2 hb1 hb2
  go_wp2_with fail
  refine (k10_read _ HT).mono ?_
  rintro r w3 ⟨⟨vc, rfl, hvc⟩, hb4⟩
  have hb5 := sbelow_step (sbelow_step hb3 hb4) (sbelow_new w3 (.cells #[.int .i64 3, .int .i64 5, vc] 39))
  have hv3 := (hv2.up hb4).up (sbelow_new w3 (.cells #[.int .i64 3, .int .i64 5, vc] 39))
  have hs4 := (hs3.up hb4).up (sbelow_new w3 (.cells #[.int .i64 3, .int .i64 5, vc] 39))
  have hvc2 := hvc.up (sbelow_new w3 (.cells #[.int .i64 3, .int .i64 5, vc] 39))
  have hsc := BB.new w3 3 5 vc
  obtain ⟨AA, ca, hva⟩ : ∃ AA ca, vc = .slice AA 1 ca := by obtain ⟨A, c, e, _⟩ := hvc; exact ⟨A, c, e⟩
  subst hva
  clear hvc hb3 hb4 hv2 hs3
  go_upto_region 4 with (fail)
  generalize w3.alloc (.cells #[.int .i64 3, .int .i64 5, .slice AA 1 ca] 39) = w4 at *
  generalize (Value.slice AA 1 ca) = vc at *
  go_wp2_with fail
  refine (back_any 3 5 _ HAB).mono ?_
  rintro r w5 ⟨rfl, hb6⟩
  have H5 := hid (And.intro (sbelow_step hb5 hb6) (And.intro (hv3.up hb6) (And.intro (hs4.up hb6) (And.intro (hvc2.up hb6) (hsc.up hb6)))))
  clear hb5 hb6 hv3 hs4 hvc2 hsc
  go_wp2_with fail
  refine (k10_readack _ HTA).mono ?_
  rintro r w6 ⟨rfl, hb7⟩
  have H6 := hid (And.intro (sbelow_step H5.out.1 hb7) (And.intro (H5.out.2.1.up hb7) (And.intro (H5.out.2.2.1.up hb7) (And.intro (H5.out.2.2.2.1.up hb7) (H5.out.2.2.2.2.up hb7)))))
  clear hb7
  obtain ⟨k0, k1, k2⟩ := H6.out.2.2.1.cells
  obtain ⟨q0, q1, q2⟩ := H6.out.2.2.2.2.cells
  go_wp2_with fail
  refine (d_bsame _ 3 5 H6.out.2.2.2.1 H6.out.2.1 (by simp)).mono ?_
  rintro r w7 ⟨rfl, hb8⟩
  have hb9 := sbelow_step H6.out.1 hb8
  clear hb8 k0 k1 k2 q0 q1 q2
  go_wp2_with fail
  refine (srseal_at [80, 65, 1, 3, 5] _ (by simp) HTA).mono ?_
  rintro r w8 ⟨rfl, hb10⟩
  have hb11 := sbelow_step hb9 hb10
  clear hb9 hb10
  go_wp2_with fail
  refine (kind_any t _ htl HK1).mono ?_
  rintro r w9 ⟨rfl, rfl⟩
  go_wp2_with fail
  refine (kind_any ta _ htal HK2).mono ?_
  rintro r w9 ⟨rfl, rfl⟩
  go_wp2_with fail
  refine (kind_any [120] _ (by simp) HK3).mono ?_
  rintro r w9 ⟨rfl, rfl⟩
  go_wp2_with fail
  go_returns
  exact ⟨rfl, hb11⟩
end Go.Proofs.Ytgpioafkahoahaa
