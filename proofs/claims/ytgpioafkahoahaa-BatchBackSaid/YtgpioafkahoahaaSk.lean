import Derived.Test.YtgpioafkahoahaaSc
import Derived.Test.YtgpioafkahoahaaSj
import Derived.Laws.StructEq
import Derived.Deep.Cut
namespace Go.Proofs.Ytgpioafkahoahaa
set_option linter.unusedVariables false
set_option linter.unusedSimpArgs false
open Go.RowKit Go.Joins

set_option maxHeartbeats 1600000 in
theorem spwrite_at (a b c d : Nat) (nm : List UInt8) (st sq kd : Int) (sh : Bool) (x y : Int) (w : World) (hs : nm.length ≤ 140737488351232) (wd : Hid (a < 18446744073709551616 ∧ b < 18446744073709551616 ∧ c < 18446744073709551616 ∧ d < 18446744073709551616)) {t : List UInt8} {r : Int} (H : Hid (writeS ⟨a, b, c, d, nm, st, sq, kd, sh, x, y⟩ = (t, r))) :
    Calls Try.prog 11 #[.agg #[.int .u64 (a : Int), .int .u64 (b : Int), .int .u64 (c : Int), .int .u64 (d : Int), .string (bs nm), .int .i64 st, .int .i64 sq, .int .i64 kd, .bool sh, .int .i64 x, .int .i64 y]] w fun e w' => e = .returned (.tuple #[.string (bs t), .int .i64 r]) ∧ Below w.heap.size w w' := by
  by_cases hc : chkS ⟨a, b, c, d, nm, st, sq, kd, sh, x, y⟩ = 0
  · refine (spwrite_ok a b c d nm st sq kd sh x y w wd hc).mono fun e w' ⟨h1, h2⟩ => ⟨?_, h2⟩
    have h := H.out
    have h3 : (writeS ⟨a, b, c, d, nm, st, sq, kd, sh, x, y⟩).2 = 0 := by rw [writeS, if_pos hc]
    rw [h] at h1 h3
    rw [h1, ← h3]
  · obtain ⟨q, hq⟩ : ∃ q, chkS ⟨a, b, c, d, nm, st, sq, kd, sh, x, y⟩ = q := ⟨_, rfl⟩
    have h := H.out
    rw [writeS, if_neg hc, hq] at h
    simp only [Prod.mk.injEq] at h
    obtain ⟨rfl, rfl⟩ := h
    have hb : (q != 0) = true := by rw [← hq]; simpa using hc
    have HC := hid hq
    have hck := fun w' => spcheck_at a b c d nm st sq kd sh x y w' hs HC
    have hb0 := sbelow_new w (.cells #[.int .u64 (a : Int), .int .u64 (b : Int), .int .u64 (c : Int), .int .u64 (d : Int), .string (bs nm), .int .i64 st, .int .i64 sq, .int .i64 kd, .bool sh, .int .i64 x, .int .i64 y] 26)
    have hs0 := SB.new w a b c d nm st sq kd sh x y
    clear hc hq H
    go_enter Try.func11, Try.ntmps11
    go_upto_region 1 with (fail)
    generalize w.alloc (.cells #[.int .u64 (a : Int), .int .u64 (b : Int), .int .u64 (c : Int), .int .u64 (d : Int), .string (bs nm), .int .i64 st, .int .i64 sq, .int .i64 kd, .bool sh, .int .i64 x, .int .i64 y] 26) = v0 at *
    obtain ⟨k0, k1, k2, k3, k4, k5, k6, k7, k8, k9, k10⟩ := hs0.cells
    go_wp2_with fail
    clear k0 k1 k2 k3 k4 k5 k6 k7 k8 k9 k10
    refine (hck _).mono ?_
    rintro e w1 ⟨rfl, hb1⟩
    have hs0 := hs0.up hb1
    have hb0 := sbelow_step hb0 hb1
    clear hb1
    go_wp2_with fail
    go_returns
    exact ⟨rfl, hb0⟩
set_option maxHeartbeats 1600000 in
theorem rspwrite_at (a b c d : Nat) (nm : List UInt8) (st sq kd : Int) (sh : Bool) (x y : Int) (w : World) (hs : nm.length ≤ 140737488351232) (wd : Hid (a < 18446744073709551616 ∧ b < 18446744073709551616 ∧ c < 18446744073709551616 ∧ d < 18446744073709551616)) {t : List UInt8} {r : Int} (H : Hid (writeS ⟨a, b, c, d, nm, st, sq, kd, sh, x, y⟩ = (t, r))) :
    Calls Try.prog 12 #[.agg #[.int .u64 (a : Int), .int .u64 (b : Int), .int .u64 (c : Int), .int .u64 (d : Int), .string (bs nm), .int .i64 st, .int .i64 sq, .int .i64 kd, .bool sh, .int .i64 x, .int .i64 y]] w fun e w' => e = .returned (.tuple #[.string (bs t), .int .i64 r]) ∧ Below w.heap.size w w' := by
  by_cases hc : chkS ⟨a, b, c, d, nm, st, sq, kd, sh, x, y⟩ = 0
  · refine (rspwrite_ok a b c d nm st sq kd sh x y w wd hc).mono fun e w' ⟨h1, h2⟩ => ⟨?_, h2⟩
    have h := H.out
    have h3 : (writeS ⟨a, b, c, d, nm, st, sq, kd, sh, x, y⟩).2 = 0 := by rw [writeS, if_pos hc]
    rw [h] at h1 h3
    rw [h1, ← h3]
  · obtain ⟨q, hq⟩ : ∃ q, chkS ⟨a, b, c, d, nm, st, sq, kd, sh, x, y⟩ = q := ⟨_, rfl⟩
    have h := H.out
    rw [writeS, if_neg hc, hq] at h
    simp only [Prod.mk.injEq] at h
    obtain ⟨rfl, rfl⟩ := h
    have hb : (q != 0) = true := by rw [← hq]; simpa using hc
    have HC := hid hq
    have hck := fun w' => rspcheck_at a b c d nm st sq kd sh x y w' hs HC
    have hb0 := sbelow_new w (.cells #[.int .u64 (a : Int), .int .u64 (b : Int), .int .u64 (c : Int), .int .u64 (d : Int), .string (bs nm), .int .i64 st, .int .i64 sq, .int .i64 kd, .bool sh, .int .i64 x, .int .i64 y] 26)
    have hs0 := SB.new w a b c d nm st sq kd sh x y
    clear hc hq H
    go_enter Try.func12, Try.ntmps12
    go_upto_region 1 with (fail)
    generalize w.alloc (.cells #[.int .u64 (a : Int), .int .u64 (b : Int), .int .u64 (c : Int), .int .u64 (d : Int), .string (bs nm), .int .i64 st, .int .i64 sq, .int .i64 kd, .bool sh, .int .i64 x, .int .i64 y] 26) = v0 at *
    obtain ⟨k0, k1, k2, k3, k4, k5, k6, k7, k8, k9, k10⟩ := hs0.cells
    go_wp2_with fail
    clear k0 k1 k2 k3 k4 k5 k6 k7 k8 k9 k10
    refine (hck _).mono ?_
    rintro e w1 ⟨rfl, hb1⟩
    have hs0 := hs0.up hb1
    have hb0 := sbelow_step hb0 hb1
    clear hb1
    obtain ⟨k0, k1, k2, k3, k4, k5, k6, k7, k8, k9, k10⟩ := hs0.cells
    go_wp2_with fail
    clear k0 k1 k2 k3 k4 k5 k6 k7 k8 k9 k10
    refine (hck _).mono ?_
    rintro e w1 ⟨rfl, hb1⟩
    have hs0 := hs0.up hb1
    have hb0 := sbelow_step hb0 hb1
    clear hb1
    go_wp2_with fail
    go_returns
    exact ⟨rfl, hb0⟩
theorem sp_guard (op : BinOp) (p q : Operand) (xs ys : Array Value) (w : World) : (eqGuard op 26 p q (.agg xs) (.agg ys)).run Try.prog w = .ok () w := run_eqGuard_agg w op _ p q xs ys (by kernel_rfl)
theorem tr_self (w : World) (a b : Nat) : (Op.equalIn 9999 24 (.agg #[.int .u64 (a : Int), .int .u64 (b : Int)]) (.agg #[.int .u64 (a : Int), .int .u64 (b : Int)])).run Try.prog w = .ok true w := by
  have us := Try.underlying22
  have asx := Try.isAgg22
  have zs := Try.sizeOf22
  rw [show (9999 : Nat) = 9998 + 1 from rfl, run_equalIn_agg w 9998 _ _ _ (by kernel_rfl) (by kernel_rfl)]
  simp only [Program.fieldsOf, Try.underlying24]
  go_simp
theorem sp_eqIn (w : World) (a b c d : Nat) (nm : List UInt8) (st sq kd : Int) (sh : Bool) (x y : Int) : (Op.equalIn 10000 26 (.agg #[.int .u64 (a : Int), .int .u64 (b : Int), .int .u64 (c : Int), .int .u64 (d : Int), .string (bs nm), .int .i64 st, .int .i64 sq, .int .i64 kd, .bool sh, .int .i64 x, .int .i64 y]) (.agg #[.int .u64 (a : Int), .int .u64 (b : Int), .int .u64 (c : Int), .int .u64 (d : Int), .string (bs nm), .int .i64 st, .int .i64 sq, .int .i64 kd, .bool sh, .int .i64 x, .int .i64 y])).run Try.prog w = .ok true w := by
  have us := Try.underlying22
  have asx := Try.isAgg22
  have zs := Try.sizeOf22
  have us2 := Try.underlying3
  have as2 := Try.isAgg3
  have zs2 := Try.sizeOf3
  have us3 := Try.underlying24
  have as3 := Try.isAgg24
  have zs3 := Try.sizeOf24
  have us4 := Try.underlying9
  have as4 := Try.isAgg9
  have zs4 := Try.sizeOf9
  have us5 := Try.underlying4
  have as5 := Try.isAgg4
  have zs5 := Try.sizeOf4
  have ht := tr_self w a b
  rw [show (10000 : Nat) = 9999 + 1 from rfl, run_equalIn_agg w 9999 _ _ _ (by kernel_rfl) (by kernel_rfl)]
  simp only [Program.fieldsOf, Try.underlying26]
  go_simp
theorem sp_eql (w : World) (a b c d : Nat) (nm : List UInt8) (st sq kd : Int) (sh : Bool) (x y : Int) : (binOp .eql 26 (.agg #[.int .u64 (a : Int), .int .u64 (b : Int), .int .u64 (c : Int), .int .u64 (d : Int), .string (bs nm), .int .i64 st, .int .i64 sq, .int .i64 kd, .bool sh, .int .i64 x, .int .i64 y]) (.agg #[.int .u64 (a : Int), .int .u64 (b : Int), .int .u64 (c : Int), .int .u64 (d : Int), .string (bs nm), .int .i64 st, .int .i64 sq, .int .i64 kd, .bool sh, .int .i64 x, .int .i64 y])).run Try.prog w = .ok (.bool true) w := by
  rw [run_eql_struct, sp_eqIn]; rfl
theorem sp_neq (w : World) (a b c d : Nat) (nm : List UInt8) (st sq kd : Int) (sh : Bool) (x y : Int) : (binOp .neq 26 (.agg #[.int .u64 (a : Int), .int .u64 (b : Int), .int .u64 (c : Int), .int .u64 (d : Int), .string (bs nm), .int .i64 st, .int .i64 sq, .int .i64 kd, .bool sh, .int .i64 x, .int .i64 y]) (.agg #[.int .u64 (a : Int), .int .u64 (b : Int), .int .u64 (c : Int), .int .u64 (d : Int), .string (bs nm), .int .i64 st, .int .i64 sq, .int .i64 kd, .bool sh, .int .i64 x, .int .i64 y])).run Try.prog w = .ok (.bool false) w := by
  rw [run_neq_struct, sp_eqIn]; rfl
def k9S : Sp := ⟨0, 1, 2, 3, [97], 100, 1, 2, true, 5, 9⟩
theorem k9_chk : chkS k9S = 0 := by decide +kernel
theorem k9_len : (bytesS k9S).length = 40 := by decide +kernel
theorem k9_write (w : World) {t : List UInt8} (H : Hid (bytesS k9S = t)) : Calls Try.prog 11 #[.agg #[.int .u64 0, .int .u64 1, .int .u64 2, .int .u64 3, .string (bs [97]), .int .i64 100, .int .i64 1, .int .i64 2, .bool true, .int .i64 5, .int .i64 9]] w fun e w' => e = .returned (.tuple #[.string (bs t), .int .i64 0]) ∧ Below w.heap.size w w' :=
  spwrite_at 0 1 2 3 [97] 100 1 2 true 5 9 w (by decide) (hid (by decide)) (hid (show writeS k9S = (t, 0) by rw [writeS, if_pos k9_chk, H.out]))
theorem k9_read (w : World) {t : List UInt8} (H : Hid (bytesS k9S = t)) : Calls Try.prog 15 #[.string (bs ([120] ++ (t ++ [121]))), .int .i64 1] w fun e w' => e = .returned (.tuple #[.agg #[.int .u64 0, .int .u64 1, .int .u64 2, .int .u64 3, .string (bs [97]), .int .i64 100, .int .i64 1, .int .i64 2, .bool true, .int .i64 5, .int .i64 9], .int .i64 41, .int .i64 0]) ∧ Below w.heap.size w w' :=
  spread_any ([120] ++ (t ++ [121])) 1 w (by rw [← H.out]; simp [k9_len]) (by omega) (s := k9S) (b := 41) (e := 0) (hid (by
    have h := readS_bytesS [120] [121] k9S k9_chk ⟨by decide, by decide, by decide, by decide⟩
    rw [k9_len, H.out] at h
    exact h))
theorem k9_check (w : World) : Calls Try.prog 13 #[.agg #[.int .u64 0, .int .u64 0, .int .u64 0, .int .u64 0, .string (ByteArray.mk #[]), .int .i64 0, .int .i64 0, .int .i64 0, .bool false, .int .i64 0, .int .i64 0]] w fun e w' => e = .returned (.int .i64 11) ∧ Below w.heap.size w w' :=
  spcheck_at 0 0 0 0 [] 0 0 0 false 0 0 w (by decide) (hid (by decide))
set_option maxRecDepth 100000 in
set_option maxHeartbeats 4000000 in
theorem known9_any (w : World) : Calls Try.prog 10 #[] w fun e w' => e = .returned (.bool true) ∧ Below w.heap.size w w' := by
  have c1 : (ByteArray.mk #[97]) = bs [97] := rfl
  have c2 : (ByteArray.mk #[120]) = bs [120] := rfl
  have c3 : (ByteArray.mk #[121]) = bs [121] := rfl
  have hg := sp_guard
  have he : ∀ w : World, (binOp .eql 26 (.agg #[.int .u64 0, .int .u64 1, .int .u64 2, .int .u64 3, .string (bs [97]), .int .i64 100, .int .i64 1, .int .i64 2, .bool true, .int .i64 5, .int .i64 9]) (.agg #[.int .u64 0, .int .u64 1, .int .u64 2, .int .u64 3, .string (bs [97]), .int .i64 100, .int .i64 1, .int .i64 2, .bool true, .int .i64 5, .int .i64 9])).run Try.prog w = .ok (.bool true) w := fun w => sp_eql w 0 1 2 3 [97] 100 1 2 true 5 9
  obtain ⟨t, ht⟩ : ∃ t, bytesS k9S = t := ⟨_, rfl⟩
  have hl : t.length = 40 := by rw [← ht]; exact k9_len
  have HT := hid ht
  clear ht
  have hb0 := sbelow_new w (.cells #[.int .u64 0, .int .u64 1, .int .u64 2, .int .u64 3, .string (bs [97]), .int .i64 100, .int .i64 1, .int .i64 2, .bool true, .int .i64 5, .int .i64 9] 26)
  have hs0 : Blk (w.alloc (.cells #[.int .u64 0, .int .u64 1, .int .u64 2, .int .u64 3, .string (bs [97]), .int .i64 100, .int .i64 1, .int .i64 2, .bool true, .int .i64 5, .int .i64 9] 26)) w.heap.size 26 #[.int .u64 0, .int .u64 1, .int .u64 2, .int .u64 3, .string (bs [97]), .int .i64 100, .int .i64 1, .int .i64 2, .bool true, .int .i64 5, .int .i64 9] := Blk.new _ _ _
  go_enter Try.func10, Try.ntmps10
  go_upto_region 2 with (fail)
  generalize w.alloc (.cells #[.int .u64 0, .int .u64 1, .int .u64 2, .int .u64 3, .string (bs [97]), .int .i64 100, .int .i64 1, .int .i64 2, .bool true, .int .i64 5, .int .i64 9] 26) = v0 at *
  have k0 : v0.cell? ⟨w.heap.size, 0, none⟩ = some (.int .u64 0) := Blk.cell hs0 0
  have k1 : v0.cell? ⟨w.heap.size, 1, none⟩ = some (.int .u64 1) := Blk.cell hs0 1
  have k2 : v0.cell? ⟨w.heap.size, 2, none⟩ = some (.int .u64 2) := Blk.cell hs0 2
  have k3 : v0.cell? ⟨w.heap.size, 3, none⟩ = some (.int .u64 3) := Blk.cell hs0 3
  have k4 : v0.cell? ⟨w.heap.size, 4, none⟩ = some (.string (bs [97])) := Blk.cell hs0 4
  have k5 : v0.cell? ⟨w.heap.size, 5, none⟩ = some (.int .i64 100) := Blk.cell hs0 5
  have k6 : v0.cell? ⟨w.heap.size, 6, none⟩ = some (.int .i64 1) := Blk.cell hs0 6
  have k7 : v0.cell? ⟨w.heap.size, 7, none⟩ = some (.int .i64 2) := Blk.cell hs0 7
  have k8 : v0.cell? ⟨w.heap.size, 8, none⟩ = some (.bool true) := Blk.cell hs0 8
  have k9 : v0.cell? ⟨w.heap.size, 9, none⟩ = some (.int .i64 5) := Blk.cell hs0 9
  have k10 : v0.cell? ⟨w.heap.size, 10, none⟩ = some (.int .i64 9) := Blk.cell hs0 10
  go_wp2_with fail
  refine (k9_write _ HT).mono ?_
  rintro r v1 ⟨rfl, hb1⟩
  have hs1 := Blk.below hs0 hb1 (Blk.lt hs0)
  have hb2 := sbelow_step hb0 hb1
  clear k0 k1 k2 k3 k4 k5 k6 k7 k8 k9 k10
  clear hs0 hb0 hb1
  have u1 : ¬ 9223372036854775807 < t.length + 1 := by omega
  have u2 : ¬ 9223372036854775807 < 1 + t.length := by omega
  have u3 : ¬ 9223372036854775807 < 1 + t.length + 1 := by omega
  have u4 : ¬ 9223372036854775807 < t.length + 1 + 1 := by omega
  have hrd := fun w => k9_read w HT
  go_wp2_with fail
  simp only [List.cons_append, List.nil_append] at hrd
  refine (hrd _).mono ?_
  rintro r v2 ⟨rfl, hb3⟩
  have hs2 := Blk.below hs1 hb3 (Blk.lt hs1)
  have hb4 := sbelow_step hb2 hb3
  clear hs1 hb2 hb3 hrd u1 u2 u3 u4
  have hb5 := sbelow_step hb4 (sbelow_new v2 (.cells #[.int .u64 0, .int .u64 1, .int .u64 2, .int .u64 3, .string (bs [97]), .int .i64 100, .int .i64 1, .int .i64 2, .bool true, .int .i64 5, .int .i64 9] 26))
  have hs3 : Blk (v2.alloc (.cells #[.int .u64 0, .int .u64 1, .int .u64 2, .int .u64 3, .string (bs [97]), .int .i64 100, .int .i64 1, .int .i64 2, .bool true, .int .i64 5, .int .i64 9] 26)) v2.heap.size 26 #[.int .u64 0, .int .u64 1, .int .u64 2, .int .u64 3, .string (bs [97]), .int .i64 100, .int .i64 1, .int .i64 2, .bool true, .int .i64 5, .int .i64 9] := Blk.new _ _ _
  have hs4 := Blk.alloc hs2 (.cells #[.int .u64 0, .int .u64 1, .int .u64 2, .int .u64 3, .string (bs [97]), .int .i64 100, .int .i64 1, .int .i64 2, .bool true, .int .i64 5, .int .i64 9] 26)
  clear hs2 hb4
  go_upto_region 4 with (fail)
  generalize v2.alloc (.cells #[.int .u64 0, .int .u64 1, .int .u64 2, .int .u64 3, .string (bs [97]), .int .i64 100, .int .i64 1, .int .i64 2, .bool true, .int .i64 5, .int .i64 9] 26) = v3 at *
  have k0 : v3.cell? ⟨w.heap.size, 0, none⟩ = some (.int .u64 0) := Blk.cell hs4 0
  have k1 : v3.cell? ⟨w.heap.size, 1, none⟩ = some (.int .u64 1) := Blk.cell hs4 1
  have k2 : v3.cell? ⟨w.heap.size, 2, none⟩ = some (.int .u64 2) := Blk.cell hs4 2
  have k3 : v3.cell? ⟨w.heap.size, 3, none⟩ = some (.int .u64 3) := Blk.cell hs4 3
  have k4 : v3.cell? ⟨w.heap.size, 4, none⟩ = some (.string (bs [97])) := Blk.cell hs4 4
  have k5 : v3.cell? ⟨w.heap.size, 5, none⟩ = some (.int .i64 100) := Blk.cell hs4 5
  have k6 : v3.cell? ⟨w.heap.size, 6, none⟩ = some (.int .i64 1) := Blk.cell hs4 6
  have k7 : v3.cell? ⟨w.heap.size, 7, none⟩ = some (.int .i64 2) := Blk.cell hs4 7
  have k8 : v3.cell? ⟨w.heap.size, 8, none⟩ = some (.bool true) := Blk.cell hs4 8
  have k9 : v3.cell? ⟨w.heap.size, 9, none⟩ = some (.int .i64 5) := Blk.cell hs4 9
  have k10 : v3.cell? ⟨w.heap.size, 10, none⟩ = some (.int .i64 9) := Blk.cell hs4 10
  have q0 : v3.cell? ⟨v2.heap.size, 0, none⟩ = some (.int .u64 0) := Blk.cell hs3 0
  have q1 : v3.cell? ⟨v2.heap.size, 1, none⟩ = some (.int .u64 1) := Blk.cell hs3 1
  have q2 : v3.cell? ⟨v2.heap.size, 2, none⟩ = some (.int .u64 2) := Blk.cell hs3 2
  have q3 : v3.cell? ⟨v2.heap.size, 3, none⟩ = some (.int .u64 3) := Blk.cell hs3 3
  have q4 : v3.cell? ⟨v2.heap.size, 4, none⟩ = some (.string (bs [97])) := Blk.cell hs3 4
  have q5 : v3.cell? ⟨v2.heap.size, 5, none⟩ = some (.int .i64 100) := Blk.cell hs3 5
  have q6 : v3.cell? ⟨v2.heap.size, 6, none⟩ = some (.int .i64 1) := Blk.cell hs3 6
  have q7 : v3.cell? ⟨v2.heap.size, 7, none⟩ = some (.int .i64 2) := Blk.cell hs3 7
  have q8 : v3.cell? ⟨v2.heap.size, 8, none⟩ = some (.bool true) := Blk.cell hs3 8
  have q9 : v3.cell? ⟨v2.heap.size, 9, none⟩ = some (.int .i64 5) := Blk.cell hs3 9
  have q10 : v3.cell? ⟨v2.heap.size, 10, none⟩ = some (.int .i64 9) := Blk.cell hs3 10
  go_wp2_with fail
  refine (k9_check _).mono ?_
  rintro r v4 ⟨rfl, hb6⟩
  clear k0 k1 k2 k3 k4 k5 k6 k7 k8 k9 k10
  clear q0 q1 q2 q3 q4 q5 q6 q7 q8 q9 q10
  go_wp2_with fail
  go_returns
  exact ⟨rfl, sbelow_step hb5 hb6⟩
end Go.Proofs.Ytgpioafkahoahaa
