import Derived.Test.YtgpioafkahoahaaSk
namespace Go.Proofs.Ytgpioafkahoahaa
set_option linter.unusedVariables false
set_option linter.unusedSimpArgs false
open Go.RowKit Go.Joins

theorem spread_at (l : List UInt8) (p : Int) (w : World) (hs : l.length ≤ 140737488351232) (hp : -9223372036854775808 ≤ p ∧ p ≤ 9223372036854775807) {a b c d : Nat} {nm : List UInt8} {st sq kd : Int} {sh : Bool} {x y : Int} {q r : Int} (H : Hid (readS l p = (⟨a, b, c, d, nm, st, sq, kd, sh, x, y⟩, q, r))) :
    Calls Try.prog 15 #[.string (bs l), .int .i64 p] w fun e w' => e = .returned (.tuple #[.agg #[.int .u64 (a : Int), .int .u64 (b : Int), .int .u64 (c : Int), .int .u64 (d : Int), .string (bs nm), .int .i64 st, .int .i64 sq, .int .i64 kd, .bool sh, .int .i64 x, .int .i64 y], .int .i64 q, .int .i64 r]) ∧ Below w.heap.size w w' := spread_any l p w hs hp H
theorem rspread_at (l : List UInt8) (p : Int) (w : World) (hs : l.length ≤ 140737488351232) (hp : -9223372036854775808 ≤ p ∧ p ≤ 9223372036854775807) {a b c d : Nat} {nm : List UInt8} {st sq kd : Int} {sh : Bool} {x y : Int} {q r : Int} (H : Hid (readS l p = (⟨a, b, c, d, nm, st, sq, kd, sh, x, y⟩, q, r))) :
    Calls Try.prog 16 #[.string (bs l), .int .i64 p] w fun e w' => e = .returned (.tuple #[.agg #[.int .u64 (a : Int), .int .u64 (b : Int), .int .u64 (c : Int), .int .u64 (d : Int), .string (bs nm), .int .i64 st, .int .i64 sq, .int .i64 kd, .bool sh, .int .i64 x, .int .i64 y], .int .i64 q, .int .i64 r]) ∧ Below w.heap.size w w' := rspread_any l p w hs hp H
set_option maxRecDepth 100000 in
set_option maxHeartbeats 8000000 in
theorem spanrecWrites_walk (a b c d : Nat) (nm : List UInt8) (st sq kd : Int) (sh : Bool) (x y : Int) (hs : nm.length ≤ 140737488351232) (wd : Hid (a < 18446744073709551616 ∧ b < 18446744073709551616 ∧ c < 18446744073709551616 ∧ d < 18446744073709551616)) (w : World) :
    Calls Try.prog 3 #[.agg #[.int .u64 (a : Int), .int .u64 (b : Int), .int .u64 (c : Int), .int .u64 (d : Int), .string (bs nm), .int .i64 st, .int .i64 sq, .int .i64 kd, .bool sh, .int .i64 x, .int .i64 y]] w fun e w' => e = .returned (.bool true) ∧ Below w.heap.size w w' := by
  by_cases hl : (nm.length : Int) > 400
  · skip
    have hb0 := sbelow_new w (.cells #[.int .u64 (a : Int), .int .u64 (b : Int), .int .u64 (c : Int), .int .u64 (d : Int), .string (bs nm), .int .i64 st, .int .i64 sq, .int .i64 kd, .bool sh, .int .i64 x, .int .i64 y] 26)
    have hs0 : Blk (w.alloc (.cells #[.int .u64 (a : Int), .int .u64 (b : Int), .int .u64 (c : Int), .int .u64 (d : Int), .string (bs nm), .int .i64 st, .int .i64 sq, .int .i64 kd, .bool sh, .int .i64 x, .int .i64 y] 26)) w.heap.size 26 #[.int .u64 (a : Int), .int .u64 (b : Int), .int .u64 (c : Int), .int .u64 (d : Int), .string (bs nm), .int .i64 st, .int .i64 sq, .int .i64 kd, .bool sh, .int .i64 x, .int .i64 y] := Blk.new _ _ _
    go_enter Try.func3, Try.ntmps3
    go_upto_region 1 with (fail)
    generalize w.alloc (.cells #[.int .u64 (a : Int), .int .u64 (b : Int), .int .u64 (c : Int), .int .u64 (d : Int), .string (bs nm), .int .i64 st, .int .i64 sq, .int .i64 kd, .bool sh, .int .i64 x, .int .i64 y] 26) = v0 at *
    have k0 : v0.cell? ⟨w.heap.size, 0, none⟩ = some (.int .u64 (a : Int)) := Blk.cell hs0 0
    have k1 : v0.cell? ⟨w.heap.size, 1, none⟩ = some (.int .u64 (b : Int)) := Blk.cell hs0 1
    have k2 : v0.cell? ⟨w.heap.size, 2, none⟩ = some (.int .u64 (c : Int)) := Blk.cell hs0 2
    have k3 : v0.cell? ⟨w.heap.size, 3, none⟩ = some (.int .u64 (d : Int)) := Blk.cell hs0 3
    have k4 : v0.cell? ⟨w.heap.size, 4, none⟩ = some (.string (bs nm)) := Blk.cell hs0 4
    have k5 : v0.cell? ⟨w.heap.size, 5, none⟩ = some (.int .i64 st) := Blk.cell hs0 5
    have k6 : v0.cell? ⟨w.heap.size, 6, none⟩ = some (.int .i64 sq) := Blk.cell hs0 6
    have k7 : v0.cell? ⟨w.heap.size, 7, none⟩ = some (.int .i64 kd) := Blk.cell hs0 7
    have k8 : v0.cell? ⟨w.heap.size, 8, none⟩ = some (.bool sh) := Blk.cell hs0 8
    have k9 : v0.cell? ⟨w.heap.size, 9, none⟩ = some (.int .i64 x) := Blk.cell hs0 9
    have k10 : v0.cell? ⟨w.heap.size, 10, none⟩ = some (.int .i64 y) := Blk.cell hs0 10
    go_wp2_with fail
    refine (known9_any _).mono ?_
    rintro r v1 ⟨rfl, hb1⟩
    go_wp2_with fail
    go_returns
    exact ⟨rfl, sbelow_step hb0 hb1⟩
  obtain ⟨t, r, hw⟩ : ∃ t r, writeS ⟨a, b, c, d, nm, st, sq, kd, sh, x, y⟩ = (t, r) := ⟨_, _, rfl⟩
  obtain ⟨q, hq⟩ : ∃ q, chkS ⟨a, b, c, d, nm, st, sq, kd, sh, x, y⟩ = q := ⟨_, rfl⟩
  have HW := hid hw
  have HQ := hid hq
  have h1 := fun w => spwrite_at a b c d nm st sq kd sh x y w hs wd HW
  have h2 := fun w => rspwrite_at a b c d nm st sq kd sh x y w hs wd HW
  have h3 := fun w => spcheck_at a b c d nm st sq kd sh x y w hs HQ
  have h4 := fun w => rspcheck_at a b c d nm st sq kd sh x y w hs HQ
  have H1 := hid h1
  have H2 := hid h2
  have H3 := hid h3
  have H4 := hid h4
  clear h1 h2 h3 h4 hw hq
  have hb0 := sbelow_new w (.cells #[.int .u64 (a : Int), .int .u64 (b : Int), .int .u64 (c : Int), .int .u64 (d : Int), .string (bs nm), .int .i64 st, .int .i64 sq, .int .i64 kd, .bool sh, .int .i64 x, .int .i64 y] 26)
  have hs0 : Blk (w.alloc (.cells #[.int .u64 (a : Int), .int .u64 (b : Int), .int .u64 (c : Int), .int .u64 (d : Int), .string (bs nm), .int .i64 st, .int .i64 sq, .int .i64 kd, .bool sh, .int .i64 x, .int .i64 y] 26)) w.heap.size 26 #[.int .u64 (a : Int), .int .u64 (b : Int), .int .u64 (c : Int), .int .u64 (d : Int), .string (bs nm), .int .i64 st, .int .i64 sq, .int .i64 kd, .bool sh, .int .i64 x, .int .i64 y] := Blk.new _ _ _
  go_enter Try.func3, Try.ntmps3
  go_upto_region 1 with (fail)
  generalize w.alloc (.cells #[.int .u64 (a : Int), .int .u64 (b : Int), .int .u64 (c : Int), .int .u64 (d : Int), .string (bs nm), .int .i64 st, .int .i64 sq, .int .i64 kd, .bool sh, .int .i64 x, .int .i64 y] 26) = v0 at *
  have k0 : v0.cell? ⟨w.heap.size, 0, none⟩ = some (.int .u64 (a : Int)) := Blk.cell hs0 0
  have k1 : v0.cell? ⟨w.heap.size, 1, none⟩ = some (.int .u64 (b : Int)) := Blk.cell hs0 1
  have k2 : v0.cell? ⟨w.heap.size, 2, none⟩ = some (.int .u64 (c : Int)) := Blk.cell hs0 2
  have k3 : v0.cell? ⟨w.heap.size, 3, none⟩ = some (.int .u64 (d : Int)) := Blk.cell hs0 3
  have k4 : v0.cell? ⟨w.heap.size, 4, none⟩ = some (.string (bs nm)) := Blk.cell hs0 4
  have k5 : v0.cell? ⟨w.heap.size, 5, none⟩ = some (.int .i64 st) := Blk.cell hs0 5
  have k6 : v0.cell? ⟨w.heap.size, 6, none⟩ = some (.int .i64 sq) := Blk.cell hs0 6
  have k7 : v0.cell? ⟨w.heap.size, 7, none⟩ = some (.int .i64 kd) := Blk.cell hs0 7
  have k8 : v0.cell? ⟨w.heap.size, 8, none⟩ = some (.bool sh) := Blk.cell hs0 8
  have k9 : v0.cell? ⟨w.heap.size, 9, none⟩ = some (.int .i64 x) := Blk.cell hs0 9
  have k10 : v0.cell? ⟨w.heap.size, 10, none⟩ = some (.int .i64 y) := Blk.cell hs0 10
  go_wp2_with fail
  refine (H1.out _).mono ?_
  rintro e v1 ⟨rfl, hb1⟩
  have hs1 := Blk.below hs0 hb1 (Blk.lt hs0)
  have hb1 := sbelow_step hb0 hb1
  clear k0 k1 k2 k3 k4 k5 k6 k7 k8 k9 k10
  clear hs0 hb0
  have k0 : v1.cell? ⟨w.heap.size, 0, none⟩ = some (.int .u64 (a : Int)) := Blk.cell hs1 0
  have k1 : v1.cell? ⟨w.heap.size, 1, none⟩ = some (.int .u64 (b : Int)) := Blk.cell hs1 1
  have k2 : v1.cell? ⟨w.heap.size, 2, none⟩ = some (.int .u64 (c : Int)) := Blk.cell hs1 2
  have k3 : v1.cell? ⟨w.heap.size, 3, none⟩ = some (.int .u64 (d : Int)) := Blk.cell hs1 3
  have k4 : v1.cell? ⟨w.heap.size, 4, none⟩ = some (.string (bs nm)) := Blk.cell hs1 4
  have k5 : v1.cell? ⟨w.heap.size, 5, none⟩ = some (.int .i64 st) := Blk.cell hs1 5
  have k6 : v1.cell? ⟨w.heap.size, 6, none⟩ = some (.int .i64 sq) := Blk.cell hs1 6
  have k7 : v1.cell? ⟨w.heap.size, 7, none⟩ = some (.int .i64 kd) := Blk.cell hs1 7
  have k8 : v1.cell? ⟨w.heap.size, 8, none⟩ = some (.bool sh) := Blk.cell hs1 8
  have k9 : v1.cell? ⟨w.heap.size, 9, none⟩ = some (.int .i64 x) := Blk.cell hs1 9
  have k10 : v1.cell? ⟨w.heap.size, 10, none⟩ = some (.int .i64 y) := Blk.cell hs1 10
  go_wp2_with fail
  refine (H2.out _).mono ?_
  rintro e v2 ⟨rfl, hb2⟩
  have hs2 := Blk.below hs1 hb2 (Blk.lt hs1)
  have hb2 := sbelow_step hb1 hb2
  clear k0 k1 k2 k3 k4 k5 k6 k7 k8 k9 k10
  clear hs1 hb1
  go_wp2_with fail
  have hz : Below v2.heap.size v2 v2.drew := (Below.refl _ _).drew
  have hs3 : SB v2 w.heap.size a b c d nm st sq kd sh x y := hs2
  go_region_held3 (fun w' => w'.cell? ⟨w.heap.size, 0, none⟩ = some (.int .u64 (a : Int)) ∧ w'.cell? ⟨w.heap.size, 1, none⟩ = some (.int .u64 (b : Int)) ∧ w'.cell? ⟨w.heap.size, 2, none⟩ = some (.int .u64 (c : Int)) ∧ w'.cell? ⟨w.heap.size, 3, none⟩ = some (.int .u64 (d : Int)) ∧ w'.cell? ⟨w.heap.size, 4, none⟩ = some (.string (bs nm)) ∧ w'.cell? ⟨w.heap.size, 5, none⟩ = some (.int .i64 st) ∧ w'.cell? ⟨w.heap.size, 6, none⟩ = some (.int .i64 sq) ∧ w'.cell? ⟨w.heap.size, 7, none⟩ = some (.int .i64 kd) ∧ w'.cell? ⟨w.heap.size, 8, none⟩ = some (.bool sh) ∧ w'.cell? ⟨w.heap.size, 9, none⟩ = some (.int .i64 x) ∧ w'.cell? ⟨w.heap.size, 10, none⟩ = some (.int .i64 y) ∧ Below v2.heap.size v2 w') (first | (with_reducible exact keepAll hs3 hz) | (with_reducible exact keepAll hs3 (hz.trans (Below.mono (by assumption) hz.size)))) (first
    | (go_at_call 13
       ((with_reducible refine (H3.out _).mono ?_); rintro e w5 ⟨rfl, hy⟩)
       have hz := hz.trans (hy.mono hz.size))
    | (go_at_call 14
       ((with_reducible refine (H4.out _).mono ?_); rintro e w5 ⟨rfl, hy⟩)
       have hz := hz.trans (hy.mono hz.size))
    | (go_at_call 10
       ((with_reducible refine (known9_any _).mono ?_); rintro e w5 ⟨rfl, hy⟩)
       have hz := hz.trans (hy.mono hz.size)))
  all_goals
    go_wp2_with fail
    go_returns
    exact ⟨rfl, sbelow_step hb2 hz⟩
set_option maxRecDepth 100000 in
set_option maxHeartbeats 8000000 in
theorem spanrecReads_walk (l : List UInt8) (p : Int) (hs : l.length ≤ 140737488351232) (hp : -9223372036854775808 ≤ p ∧ p ≤ 9223372036854775807) (w : World) :
    Calls Try.prog 4 #[.string (bs l), .int .i64 p] w fun e w' => e = .returned (.bool true) ∧ Below w.heap.size w w' := by
  by_cases hl : (l.length : Int) > 2000
  · go_enter Try.func4, Try.ntmps4
    go_wp2_with fail
    refine (known9_any _).mono ?_
    rintro r v1 ⟨rfl, hb1⟩
    go_wp2_with fail
    go_returns
    exact ⟨rfl, hb1⟩
  obtain ⟨s, q, r, hr⟩ : ∃ s q r, readS l p = (s, q, r) := ⟨_, _, _, rfl⟩
  obtain ⟨a, b, c, d, nm, st, sq, kd, sh, x, y⟩ := s
  have HR := hid hr
  have H1 := hid fun w => spread_at l p w hs hp HR
  have H2 := hid fun w => rspread_at l p w hs hp HR
  have hg := sp_guard
  have he : ∀ w : World, (binOp .eql 26 (.agg #[.int .u64 (a : Int), .int .u64 (b : Int), .int .u64 (c : Int), .int .u64 (d : Int), .string (bs nm), .int .i64 st, .int .i64 sq, .int .i64 kd, .bool sh, .int .i64 x, .int .i64 y]) (.agg #[.int .u64 (a : Int), .int .u64 (b : Int), .int .u64 (c : Int), .int .u64 (d : Int), .string (bs nm), .int .i64 st, .int .i64 sq, .int .i64 kd, .bool sh, .int .i64 x, .int .i64 y])).run Try.prog w = .ok (.bool true) w := fun w => sp_eql w a b c d nm st sq kd sh x y
  clear hr
  go_enter Try.func4, Try.ntmps4
  go_wp2_with fail
  refine (H1.out _).mono ?_
  rintro e v1 ⟨rfl, hb1⟩
  have hb2 := sbelow_step hb1 (sbelow_new v1 (.cells #[.int .u64 (a : Int), .int .u64 (b : Int), .int .u64 (c : Int), .int .u64 (d : Int), .string (bs nm), .int .i64 st, .int .i64 sq, .int .i64 kd, .bool sh, .int .i64 x, .int .i64 y] 26))
  have hs1 : Blk (v1.alloc (.cells #[.int .u64 (a : Int), .int .u64 (b : Int), .int .u64 (c : Int), .int .u64 (d : Int), .string (bs nm), .int .i64 st, .int .i64 sq, .int .i64 kd, .bool sh, .int .i64 x, .int .i64 y] 26)) v1.heap.size 26 #[.int .u64 (a : Int), .int .u64 (b : Int), .int .u64 (c : Int), .int .u64 (d : Int), .string (bs nm), .int .i64 st, .int .i64 sq, .int .i64 kd, .bool sh, .int .i64 x, .int .i64 y] := Blk.new _ _ _
  clear hb1
  go_upto_region 4 with (fail)
  generalize v1.alloc (.cells #[.int .u64 (a : Int), .int .u64 (b : Int), .int .u64 (c : Int), .int .u64 (d : Int), .string (bs nm), .int .i64 st, .int .i64 sq, .int .i64 kd, .bool sh, .int .i64 x, .int .i64 y] 26) = v2 at *
  go_wp2_with fail
  refine (H2.out _).mono ?_
  rintro e v3 ⟨rfl, hb3⟩
  have hb4 := sbelow_step (sbelow_step hb2 hb3) (sbelow_new v3 (.cells #[.int .u64 (a : Int), .int .u64 (b : Int), .int .u64 (c : Int), .int .u64 (d : Int), .string (bs nm), .int .i64 st, .int .i64 sq, .int .i64 kd, .bool sh, .int .i64 x, .int .i64 y] 26))
  have hs2 := Blk.alloc (Blk.below hs1 hb3 (Blk.lt hs1)) (.cells #[.int .u64 (a : Int), .int .u64 (b : Int), .int .u64 (c : Int), .int .u64 (d : Int), .string (bs nm), .int .i64 st, .int .i64 sq, .int .i64 kd, .bool sh, .int .i64 x, .int .i64 y] 26)
  have hs3 : Blk (v3.alloc (.cells #[.int .u64 (a : Int), .int .u64 (b : Int), .int .u64 (c : Int), .int .u64 (d : Int), .string (bs nm), .int .i64 st, .int .i64 sq, .int .i64 kd, .bool sh, .int .i64 x, .int .i64 y] 26)) v3.heap.size 26 #[.int .u64 (a : Int), .int .u64 (b : Int), .int .u64 (c : Int), .int .u64 (d : Int), .string (bs nm), .int .i64 st, .int .i64 sq, .int .i64 kd, .bool sh, .int .i64 x, .int .i64 y] := Blk.new _ _ _
  clear hb2 hb3 hs1
  go_upto_region 5 with (fail)
  generalize v3.alloc (.cells #[.int .u64 (a : Int), .int .u64 (b : Int), .int .u64 (c : Int), .int .u64 (d : Int), .string (bs nm), .int .i64 st, .int .i64 sq, .int .i64 kd, .bool sh, .int .i64 x, .int .i64 y] 26) = v4 at *
  have k0 : v4.cell? ⟨v1.heap.size, 0, none⟩ = some (.int .u64 (a : Int)) := Blk.cell hs2 0
  have k1 : v4.cell? ⟨v1.heap.size, 1, none⟩ = some (.int .u64 (b : Int)) := Blk.cell hs2 1
  have k2 : v4.cell? ⟨v1.heap.size, 2, none⟩ = some (.int .u64 (c : Int)) := Blk.cell hs2 2
  have k3 : v4.cell? ⟨v1.heap.size, 3, none⟩ = some (.int .u64 (d : Int)) := Blk.cell hs2 3
  have k4 : v4.cell? ⟨v1.heap.size, 4, none⟩ = some (.string (bs nm)) := Blk.cell hs2 4
  have k5 : v4.cell? ⟨v1.heap.size, 5, none⟩ = some (.int .i64 st) := Blk.cell hs2 5
  have k6 : v4.cell? ⟨v1.heap.size, 6, none⟩ = some (.int .i64 sq) := Blk.cell hs2 6
  have k7 : v4.cell? ⟨v1.heap.size, 7, none⟩ = some (.int .i64 kd) := Blk.cell hs2 7
  have k8 : v4.cell? ⟨v1.heap.size, 8, none⟩ = some (.bool sh) := Blk.cell hs2 8
  have k9 : v4.cell? ⟨v1.heap.size, 9, none⟩ = some (.int .i64 x) := Blk.cell hs2 9
  have k10 : v4.cell? ⟨v1.heap.size, 10, none⟩ = some (.int .i64 y) := Blk.cell hs2 10
  have q0 : v4.cell? ⟨v3.heap.size, 0, none⟩ = some (.int .u64 (a : Int)) := Blk.cell hs3 0
  have q1 : v4.cell? ⟨v3.heap.size, 1, none⟩ = some (.int .u64 (b : Int)) := Blk.cell hs3 1
  have q2 : v4.cell? ⟨v3.heap.size, 2, none⟩ = some (.int .u64 (c : Int)) := Blk.cell hs3 2
  have q3 : v4.cell? ⟨v3.heap.size, 3, none⟩ = some (.int .u64 (d : Int)) := Blk.cell hs3 3
  have q4 : v4.cell? ⟨v3.heap.size, 4, none⟩ = some (.string (bs nm)) := Blk.cell hs3 4
  have q5 : v4.cell? ⟨v3.heap.size, 5, none⟩ = some (.int .i64 st) := Blk.cell hs3 5
  have q6 : v4.cell? ⟨v3.heap.size, 6, none⟩ = some (.int .i64 sq) := Blk.cell hs3 6
  have q7 : v4.cell? ⟨v3.heap.size, 7, none⟩ = some (.int .i64 kd) := Blk.cell hs3 7
  have q8 : v4.cell? ⟨v3.heap.size, 8, none⟩ = some (.bool sh) := Blk.cell hs3 8
  have q9 : v4.cell? ⟨v3.heap.size, 9, none⟩ = some (.int .i64 x) := Blk.cell hs3 9
  have q10 : v4.cell? ⟨v3.heap.size, 10, none⟩ = some (.int .i64 y) := Blk.cell hs3 10
  go_wp2_with fail
  refine (known9_any _).mono ?_
  rintro e v5 ⟨rfl, hb5⟩
  clear k0 k1 k2 k3 k4 k5 k6 k7 k8 k9 k10
  clear q0 q1 q2 q3 q4 q5 q6 q7 q8 q9 q10
  go_wp2_with fail
  go_returns
  exact ⟨rfl, sbelow_step hb4 hb5⟩
set_option maxRecDepth 100000 in
set_option maxHeartbeats 16000000 in
theorem spanrecBack_walk (a b c d : Nat) (nm : List UInt8) (st sq kd : Int) (sh : Bool) (x y : Int) (la lb : List UInt8) (hs : nm.length ≤ 140737488351232) (wd : Hid (a < 18446744073709551616 ∧ b < 18446744073709551616 ∧ c < 18446744073709551616 ∧ d < 18446744073709551616)) (ha : la.length ≤ 140737488351232) (hb : lb.length ≤ 140737488351232) (w : World) :
    Calls Try.prog 5 #[.agg #[.int .u64 (a : Int), .int .u64 (b : Int), .int .u64 (c : Int), .int .u64 (d : Int), .string (bs nm), .int .i64 st, .int .i64 sq, .int .i64 kd, .bool sh, .int .i64 x, .int .i64 y], .string (bs la), .string (bs lb)] w fun e w' => e = .returned (.bool true) ∧ Below w.heap.size w w' := by
  by_cases hcase : nm.length ≤ 400 ∧ la.length ≤ 1000 ∧ lb.length ≤ 1000
  rotate_left
  · have go : ∀ (h1 : 400 < nm.length ∨ nm.length ≤ 400 ∧ 1000 < la.length ∨ nm.length ≤ 400 ∧ la.length ≤ 1000 ∧ 1000 < lb.length), Calls Try.prog 5 #[.agg #[.int .u64 (a : Int), .int .u64 (b : Int), .int .u64 (c : Int), .int .u64 (d : Int), .string (bs nm), .int .i64 st, .int .i64 sq, .int .i64 kd, .bool sh, .int .i64 x, .int .i64 y], .string (bs la), .string (bs lb)] w fun e w' => e = .returned (.bool true) ∧ Below w.heap.size w w' := by
      rintro (h1 | ⟨h1, h2⟩ | ⟨h1, h2, h3⟩)
      all_goals
        have hb0 := sbelow_new w (.cells #[.int .u64 (a : Int), .int .u64 (b : Int), .int .u64 (c : Int), .int .u64 (d : Int), .string (bs nm), .int .i64 st, .int .i64 sq, .int .i64 kd, .bool sh, .int .i64 x, .int .i64 y] 26)
        have hs0 : Blk (w.alloc (.cells #[.int .u64 (a : Int), .int .u64 (b : Int), .int .u64 (c : Int), .int .u64 (d : Int), .string (bs nm), .int .i64 st, .int .i64 sq, .int .i64 kd, .bool sh, .int .i64 x, .int .i64 y] 26)) w.heap.size 26 #[.int .u64 (a : Int), .int .u64 (b : Int), .int .u64 (c : Int), .int .u64 (d : Int), .string (bs nm), .int .i64 st, .int .i64 sq, .int .i64 kd, .bool sh, .int .i64 x, .int .i64 y] := Blk.new _ _ _
        go_enter Try.func5, Try.ntmps5
        go_upto_region 1 with (fail)
        generalize w.alloc (.cells #[.int .u64 (a : Int), .int .u64 (b : Int), .int .u64 (c : Int), .int .u64 (d : Int), .string (bs nm), .int .i64 st, .int .i64 sq, .int .i64 kd, .bool sh, .int .i64 x, .int .i64 y] 26) = v0 at *
        have k0 : v0.cell? ⟨w.heap.size, 0, none⟩ = some (.int .u64 (a : Int)) := Blk.cell hs0 0
        have k1 : v0.cell? ⟨w.heap.size, 1, none⟩ = some (.int .u64 (b : Int)) := Blk.cell hs0 1
        have k2 : v0.cell? ⟨w.heap.size, 2, none⟩ = some (.int .u64 (c : Int)) := Blk.cell hs0 2
        have k3 : v0.cell? ⟨w.heap.size, 3, none⟩ = some (.int .u64 (d : Int)) := Blk.cell hs0 3
        have k4 : v0.cell? ⟨w.heap.size, 4, none⟩ = some (.string (bs nm)) := Blk.cell hs0 4
        have k5 : v0.cell? ⟨w.heap.size, 5, none⟩ = some (.int .i64 st) := Blk.cell hs0 5
        have k6 : v0.cell? ⟨w.heap.size, 6, none⟩ = some (.int .i64 sq) := Blk.cell hs0 6
        have k7 : v0.cell? ⟨w.heap.size, 7, none⟩ = some (.int .i64 kd) := Blk.cell hs0 7
        have k8 : v0.cell? ⟨w.heap.size, 8, none⟩ = some (.bool sh) := Blk.cell hs0 8
        have k9 : v0.cell? ⟨w.heap.size, 9, none⟩ = some (.int .i64 x) := Blk.cell hs0 9
        have k10 : v0.cell? ⟨w.heap.size, 10, none⟩ = some (.int .i64 y) := Blk.cell hs0 10
        go_wp2_with fail
        refine (known9_any _).mono ?_
        rintro r v1 ⟨rfl, hb1⟩
        go_wp2_with fail
        go_returns
        exact ⟨rfl, sbelow_step hb0 hb1⟩
    exact go (by omega)
  obtain ⟨hnm, hla, hlb⟩ := hcase
  obtain ⟨t, r, hw⟩ : ∃ t r, writeS ⟨a, b, c, d, nm, st, sq, kd, sh, x, y⟩ = (t, r) := ⟨_, _, rfl⟩
  have HW := hid hw
  have H1 := hid fun w => spwrite_at a b c d nm st sq kd sh x y w hs wd HW
  obtain ⟨s2, q2, r2, hr2⟩ : ∃ s q r, readS lb 0 = (s, q, r) := ⟨_, _, _, rfl⟩
  obtain ⟨a2, b2, c2, d2, nm2, st2, sq2, kd2, sh2, x2, y2⟩ := s2
  have HR2 := hid hr2
  have H3 := hid fun w => spread_at lb 0 w hb (by omega) HR2
  have hg := sp_guard
  have hne : ∀ w : World, (binOp .neq 26 (.agg #[.int .u64 (a : Int), .int .u64 (b : Int), .int .u64 (c : Int), .int .u64 (d : Int), .string (bs nm), .int .i64 st, .int .i64 sq, .int .i64 kd, .bool sh, .int .i64 x, .int .i64 y]) (.agg #[.int .u64 (a : Int), .int .u64 (b : Int), .int .u64 (c : Int), .int .u64 (d : Int), .string (bs nm), .int .i64 st, .int .i64 sq, .int .i64 kd, .bool sh, .int .i64 x, .int .i64 y])).run Try.prog w = .ok (.bool false) w := fun w => sp_neq w a b c d nm st sq kd sh x y
  by_cases hr : r = 0
  · subst hr
    have hc : chkS ⟨a, b, c, d, nm, st, sq, kd, sh, x, y⟩ = 0 := by
      by_cases hc : chkS ⟨a, b, c, d, nm, st, sq, kd, sh, x, y⟩ = 0
      · exact hc
      · rw [writeS, if_neg hc] at hw
        simp only [Prod.mk.injEq] at hw
        exact hw.2
    have ht : bytesS ⟨a, b, c, d, nm, st, sq, kd, sh, x, y⟩ = t := by
      rw [writeS, if_pos hc] at hw
      simp only [Prod.mk.injEq] at hw
      exact hw.1
    have hrd := readS_bytesS la lb ⟨a, b, c, d, nm, st, sq, kd, sh, x, y⟩ hc wd.out
    rw [ht] at hrd
    have htl := bytesS_len ⟨a, b, c, d, nm, st, sq, kd, sh, x, y⟩ hc
    rw [ht] at htl
    obtain ⟨htl, _⟩ := htl
    have HRD := hid hrd
    have H2 := hid fun w => spread_at (la ++ (t ++ lb)) la.length w (by simp only [List.length_append]; omega) (by omega) HRD
    clear hw hc ht hrd
    have u1 : ¬ 9223372036854775807 < la.length + t.length := by omega
    have u2 : ¬ 9223372036854775807 < la.length + t.length + lb.length := by omega
    have hsum : IntKind.i64.wrap ((la.length : Int) + (t.length : Int)) = (la.length : Int) + t.length := IntWalk.i64_in _ (by omega)
    by_cases hr2z : r2 = 0
    · subst hr2z
      obtain ⟨_, z1, z2, z3, z4, z5⟩ := readS_back hr2
      obtain ⟨m, rfl⟩ := Int.eq_ofNat_of_zero_le (show 0 ≤ q2 by omega)
      have hnm2 := nameB_len (chkS_ok z4).2.1
      simp only at hnm2
      have hseg : seg lb 0 (m : Int) = lb.take m := by unfold seg; simp
      have H4 := hid fun w => spwrite_at a2 b2 c2 d2 nm2 st2 sq2 kd2 sh2 x2 y2 w (by omega) (hid z3) (hid (show writeS ⟨a2, b2, c2, d2, nm2, st2, sq2, kd2, sh2, x2, y2⟩ = (lb.take m, 0) by rw [writeS, if_pos z4, z5, hseg]))
      have hmle : m ≤ lb.length := by omega
      have hext : (bs lb).extract 0 m = bs (lb.take m) := by rw [bs_extract]; simp
      clear z1 z2 z3 z4 z5 hr2 hseg
      have hb0 := sbelow_new w (.cells #[.int .u64 (a : Int), .int .u64 (b : Int), .int .u64 (c : Int), .int .u64 (d : Int), .string (bs nm), .int .i64 st, .int .i64 sq, .int .i64 kd, .bool sh, .int .i64 x, .int .i64 y] 26)
      have hs0 : Blk (w.alloc (.cells #[.int .u64 (a : Int), .int .u64 (b : Int), .int .u64 (c : Int), .int .u64 (d : Int), .string (bs nm), .int .i64 st, .int .i64 sq, .int .i64 kd, .bool sh, .int .i64 x, .int .i64 y] 26)) w.heap.size 26 #[.int .u64 (a : Int), .int .u64 (b : Int), .int .u64 (c : Int), .int .u64 (d : Int), .string (bs nm), .int .i64 st, .int .i64 sq, .int .i64 kd, .bool sh, .int .i64 x, .int .i64 y] := Blk.new _ _ _
      go_enter Try.func5, Try.ntmps5
      go_upto_region 1 with (fail)
      generalize w.alloc (.cells #[.int .u64 (a : Int), .int .u64 (b : Int), .int .u64 (c : Int), .int .u64 (d : Int), .string (bs nm), .int .i64 st, .int .i64 sq, .int .i64 kd, .bool sh, .int .i64 x, .int .i64 y] 26) = v0 at *
      have k0 : v0.cell? ⟨w.heap.size, 0, none⟩ = some (.int .u64 (a : Int)) := Blk.cell hs0 0
      have k1 : v0.cell? ⟨w.heap.size, 1, none⟩ = some (.int .u64 (b : Int)) := Blk.cell hs0 1
      have k2 : v0.cell? ⟨w.heap.size, 2, none⟩ = some (.int .u64 (c : Int)) := Blk.cell hs0 2
      have k3 : v0.cell? ⟨w.heap.size, 3, none⟩ = some (.int .u64 (d : Int)) := Blk.cell hs0 3
      have k4 : v0.cell? ⟨w.heap.size, 4, none⟩ = some (.string (bs nm)) := Blk.cell hs0 4
      have k5 : v0.cell? ⟨w.heap.size, 5, none⟩ = some (.int .i64 st) := Blk.cell hs0 5
      have k6 : v0.cell? ⟨w.heap.size, 6, none⟩ = some (.int .i64 sq) := Blk.cell hs0 6
      have k7 : v0.cell? ⟨w.heap.size, 7, none⟩ = some (.int .i64 kd) := Blk.cell hs0 7
      have k8 : v0.cell? ⟨w.heap.size, 8, none⟩ = some (.bool sh) := Blk.cell hs0 8
      have k9 : v0.cell? ⟨w.heap.size, 9, none⟩ = some (.int .i64 x) := Blk.cell hs0 9
      have k10 : v0.cell? ⟨w.heap.size, 10, none⟩ = some (.int .i64 y) := Blk.cell hs0 10
      go_wp2_with fail
      refine (H1.out _).mono ?_
      rintro e v1 ⟨rfl, hb1⟩
      have hs1 := Blk.below hs0 hb1 (Blk.lt hs0)
      have hb1 := sbelow_step hb0 hb1
      clear k0 k1 k2 k3 k4 k5 k6 k7 k8 k9 k10
      clear hs0 hb0
      go_wp2_with fail
      refine (H2.out _).mono ?_
      rintro e v2 ⟨rfl, hb2⟩
      have hb3 := sbelow_step (sbelow_step hb1 hb2) (sbelow_new v2 (.cells #[.int .u64 (a : Int), .int .u64 (b : Int), .int .u64 (c : Int), .int .u64 (d : Int), .string (bs nm), .int .i64 st, .int .i64 sq, .int .i64 kd, .bool sh, .int .i64 x, .int .i64 y] 26))
      have hs2 := Blk.alloc (Blk.below hs1 hb2 (Blk.lt hs1)) (.cells #[.int .u64 (a : Int), .int .u64 (b : Int), .int .u64 (c : Int), .int .u64 (d : Int), .string (bs nm), .int .i64 st, .int .i64 sq, .int .i64 kd, .bool sh, .int .i64 x, .int .i64 y] 26)
      have hs3 : Blk (v2.alloc (.cells #[.int .u64 (a : Int), .int .u64 (b : Int), .int .u64 (c : Int), .int .u64 (d : Int), .string (bs nm), .int .i64 st, .int .i64 sq, .int .i64 kd, .bool sh, .int .i64 x, .int .i64 y] 26)) v2.heap.size 26 #[.int .u64 (a : Int), .int .u64 (b : Int), .int .u64 (c : Int), .int .u64 (d : Int), .string (bs nm), .int .i64 st, .int .i64 sq, .int .i64 kd, .bool sh, .int .i64 x, .int .i64 y] := Blk.new _ _ _
      clear hb1 hb2 hs1
      go_upto_region 6 with (fail)
      generalize v2.alloc (.cells #[.int .u64 (a : Int), .int .u64 (b : Int), .int .u64 (c : Int), .int .u64 (d : Int), .string (bs nm), .int .i64 st, .int .i64 sq, .int .i64 kd, .bool sh, .int .i64 x, .int .i64 y] 26) = v3 at *
      have k0 : v3.cell? ⟨w.heap.size, 0, none⟩ = some (.int .u64 (a : Int)) := Blk.cell hs2 0
      have k1 : v3.cell? ⟨w.heap.size, 1, none⟩ = some (.int .u64 (b : Int)) := Blk.cell hs2 1
      have k2 : v3.cell? ⟨w.heap.size, 2, none⟩ = some (.int .u64 (c : Int)) := Blk.cell hs2 2
      have k3 : v3.cell? ⟨w.heap.size, 3, none⟩ = some (.int .u64 (d : Int)) := Blk.cell hs2 3
      have k4 : v3.cell? ⟨w.heap.size, 4, none⟩ = some (.string (bs nm)) := Blk.cell hs2 4
      have k5 : v3.cell? ⟨w.heap.size, 5, none⟩ = some (.int .i64 st) := Blk.cell hs2 5
      have k6 : v3.cell? ⟨w.heap.size, 6, none⟩ = some (.int .i64 sq) := Blk.cell hs2 6
      have k7 : v3.cell? ⟨w.heap.size, 7, none⟩ = some (.int .i64 kd) := Blk.cell hs2 7
      have k8 : v3.cell? ⟨w.heap.size, 8, none⟩ = some (.bool sh) := Blk.cell hs2 8
      have k9 : v3.cell? ⟨w.heap.size, 9, none⟩ = some (.int .i64 x) := Blk.cell hs2 9
      have k10 : v3.cell? ⟨w.heap.size, 10, none⟩ = some (.int .i64 y) := Blk.cell hs2 10
      have q0 : v3.cell? ⟨v2.heap.size, 0, none⟩ = some (.int .u64 (a : Int)) := Blk.cell hs3 0
      have q1 : v3.cell? ⟨v2.heap.size, 1, none⟩ = some (.int .u64 (b : Int)) := Blk.cell hs3 1
      have q2 : v3.cell? ⟨v2.heap.size, 2, none⟩ = some (.int .u64 (c : Int)) := Blk.cell hs3 2
      have q3 : v3.cell? ⟨v2.heap.size, 3, none⟩ = some (.int .u64 (d : Int)) := Blk.cell hs3 3
      have q4 : v3.cell? ⟨v2.heap.size, 4, none⟩ = some (.string (bs nm)) := Blk.cell hs3 4
      have q5 : v3.cell? ⟨v2.heap.size, 5, none⟩ = some (.int .i64 st) := Blk.cell hs3 5
      have q6 : v3.cell? ⟨v2.heap.size, 6, none⟩ = some (.int .i64 sq) := Blk.cell hs3 6
      have q7 : v3.cell? ⟨v2.heap.size, 7, none⟩ = some (.int .i64 kd) := Blk.cell hs3 7
      have q8 : v3.cell? ⟨v2.heap.size, 8, none⟩ = some (.bool sh) := Blk.cell hs3 8
      have q9 : v3.cell? ⟨v2.heap.size, 9, none⟩ = some (.int .i64 x) := Blk.cell hs3 9
      have q10 : v3.cell? ⟨v2.heap.size, 10, none⟩ = some (.int .i64 y) := Blk.cell hs3 10
      have hbA := hb3
      go_wp2_with fail
      clear k0 k1 k2 k3 k4 k5 k6 k7 k8 k9 k10
      clear q0 q1 q2 q3 q4 q5 q6 q7 q8 q9 q10
      clear hs2 hs3 hb3
      refine (H3.out _).mono ?_
      rintro e v5 ⟨rfl, hb5⟩
      have hbB := sbelow_step (sbelow_step hbA hb5) (sbelow_new v5 (.cells #[.int .u64 (a2 : Int), .int .u64 (b2 : Int), .int .u64 (c2 : Int), .int .u64 (d2 : Int), .string (bs nm2), .int .i64 st2, .int .i64 sq2, .int .i64 kd2, .bool sh2, .int .i64 x2, .int .i64 y2] 26))
      have hsB : Blk (v5.alloc (.cells #[.int .u64 (a2 : Int), .int .u64 (b2 : Int), .int .u64 (c2 : Int), .int .u64 (d2 : Int), .string (bs nm2), .int .i64 st2, .int .i64 sq2, .int .i64 kd2, .bool sh2, .int .i64 x2, .int .i64 y2] 26)) v5.heap.size 26 #[.int .u64 (a2 : Int), .int .u64 (b2 : Int), .int .u64 (c2 : Int), .int .u64 (d2 : Int), .string (bs nm2), .int .i64 st2, .int .i64 sq2, .int .i64 kd2, .bool sh2, .int .i64 x2, .int .i64 y2] := Blk.new _ _ _
      clear hbA hb5
      go_upto_region 9 with (fail)
      generalize v5.alloc (.cells #[.int .u64 (a2 : Int), .int .u64 (b2 : Int), .int .u64 (c2 : Int), .int .u64 (d2 : Int), .string (bs nm2), .int .i64 st2, .int .i64 sq2, .int .i64 kd2, .bool sh2, .int .i64 x2, .int .i64 y2] 26) = v6 at *
      have k0 : v6.cell? ⟨v5.heap.size, 0, none⟩ = some (.int .u64 (a2 : Int)) := Blk.cell hsB 0
      have k1 : v6.cell? ⟨v5.heap.size, 1, none⟩ = some (.int .u64 (b2 : Int)) := Blk.cell hsB 1
      have k2 : v6.cell? ⟨v5.heap.size, 2, none⟩ = some (.int .u64 (c2 : Int)) := Blk.cell hsB 2
      have k3 : v6.cell? ⟨v5.heap.size, 3, none⟩ = some (.int .u64 (d2 : Int)) := Blk.cell hsB 3
      have k4 : v6.cell? ⟨v5.heap.size, 4, none⟩ = some (.string (bs nm2)) := Blk.cell hsB 4
      have k5 : v6.cell? ⟨v5.heap.size, 5, none⟩ = some (.int .i64 st2) := Blk.cell hsB 5
      have k6 : v6.cell? ⟨v5.heap.size, 6, none⟩ = some (.int .i64 sq2) := Blk.cell hsB 6
      have k7 : v6.cell? ⟨v5.heap.size, 7, none⟩ = some (.int .i64 kd2) := Blk.cell hsB 7
      have k8 : v6.cell? ⟨v5.heap.size, 8, none⟩ = some (.bool sh2) := Blk.cell hsB 8
      have k9 : v6.cell? ⟨v5.heap.size, 9, none⟩ = some (.int .i64 x2) := Blk.cell hsB 9
      have k10 : v6.cell? ⟨v5.heap.size, 10, none⟩ = some (.int .i64 y2) := Blk.cell hsB 10
      go_wp2_with fail
      refine (H4.out _).mono ?_
      rintro e v7 ⟨rfl, hb7⟩
      have hbC := sbelow_step hbB hb7
      clear k0 k1 k2 k3 k4 k5 k6 k7 k8 k9 k10
      clear hbB hb7 hsB
      go_wp2_with fail
      refine (known9_any _).mono ?_
      rintro e v8 ⟨rfl, hb8⟩
      go_wp2_with fail
      go_returns
      exact ⟨rfl, sbelow_step hbC hb8⟩
    · have hb2' : (r2 != 0) = true := by simpa using hr2z
      clear hr2z hr2
      have hb0 := sbelow_new w (.cells #[.int .u64 (a : Int), .int .u64 (b : Int), .int .u64 (c : Int), .int .u64 (d : Int), .string (bs nm), .int .i64 st, .int .i64 sq, .int .i64 kd, .bool sh, .int .i64 x, .int .i64 y] 26)
      have hs0 : Blk (w.alloc (.cells #[.int .u64 (a : Int), .int .u64 (b : Int), .int .u64 (c : Int), .int .u64 (d : Int), .string (bs nm), .int .i64 st, .int .i64 sq, .int .i64 kd, .bool sh, .int .i64 x, .int .i64 y] 26)) w.heap.size 26 #[.int .u64 (a : Int), .int .u64 (b : Int), .int .u64 (c : Int), .int .u64 (d : Int), .string (bs nm), .int .i64 st, .int .i64 sq, .int .i64 kd, .bool sh, .int .i64 x, .int .i64 y] := Blk.new _ _ _
      go_enter Try.func5, Try.ntmps5
      go_upto_region 1 with (fail)
      generalize w.alloc (.cells #[.int .u64 (a : Int), .int .u64 (b : Int), .int .u64 (c : Int), .int .u64 (d : Int), .string (bs nm), .int .i64 st, .int .i64 sq, .int .i64 kd, .bool sh, .int .i64 x, .int .i64 y] 26) = v0 at *
      have k0 : v0.cell? ⟨w.heap.size, 0, none⟩ = some (.int .u64 (a : Int)) := Blk.cell hs0 0
      have k1 : v0.cell? ⟨w.heap.size, 1, none⟩ = some (.int .u64 (b : Int)) := Blk.cell hs0 1
      have k2 : v0.cell? ⟨w.heap.size, 2, none⟩ = some (.int .u64 (c : Int)) := Blk.cell hs0 2
      have k3 : v0.cell? ⟨w.heap.size, 3, none⟩ = some (.int .u64 (d : Int)) := Blk.cell hs0 3
      have k4 : v0.cell? ⟨w.heap.size, 4, none⟩ = some (.string (bs nm)) := Blk.cell hs0 4
      have k5 : v0.cell? ⟨w.heap.size, 5, none⟩ = some (.int .i64 st) := Blk.cell hs0 5
      have k6 : v0.cell? ⟨w.heap.size, 6, none⟩ = some (.int .i64 sq) := Blk.cell hs0 6
      have k7 : v0.cell? ⟨w.heap.size, 7, none⟩ = some (.int .i64 kd) := Blk.cell hs0 7
      have k8 : v0.cell? ⟨w.heap.size, 8, none⟩ = some (.bool sh) := Blk.cell hs0 8
      have k9 : v0.cell? ⟨w.heap.size, 9, none⟩ = some (.int .i64 x) := Blk.cell hs0 9
      have k10 : v0.cell? ⟨w.heap.size, 10, none⟩ = some (.int .i64 y) := Blk.cell hs0 10
      go_wp2_with fail
      refine (H1.out _).mono ?_
      rintro e v1 ⟨rfl, hb1⟩
      have hs1 := Blk.below hs0 hb1 (Blk.lt hs0)
      have hb1 := sbelow_step hb0 hb1
      clear k0 k1 k2 k3 k4 k5 k6 k7 k8 k9 k10
      clear hs0 hb0
      go_wp2_with fail
      refine (H2.out _).mono ?_
      rintro e v2 ⟨rfl, hb2⟩
      have hb3 := sbelow_step (sbelow_step hb1 hb2) (sbelow_new v2 (.cells #[.int .u64 (a : Int), .int .u64 (b : Int), .int .u64 (c : Int), .int .u64 (d : Int), .string (bs nm), .int .i64 st, .int .i64 sq, .int .i64 kd, .bool sh, .int .i64 x, .int .i64 y] 26))
      have hs2 := Blk.alloc (Blk.below hs1 hb2 (Blk.lt hs1)) (.cells #[.int .u64 (a : Int), .int .u64 (b : Int), .int .u64 (c : Int), .int .u64 (d : Int), .string (bs nm), .int .i64 st, .int .i64 sq, .int .i64 kd, .bool sh, .int .i64 x, .int .i64 y] 26)
      have hs3 : Blk (v2.alloc (.cells #[.int .u64 (a : Int), .int .u64 (b : Int), .int .u64 (c : Int), .int .u64 (d : Int), .string (bs nm), .int .i64 st, .int .i64 sq, .int .i64 kd, .bool sh, .int .i64 x, .int .i64 y] 26)) v2.heap.size 26 #[.int .u64 (a : Int), .int .u64 (b : Int), .int .u64 (c : Int), .int .u64 (d : Int), .string (bs nm), .int .i64 st, .int .i64 sq, .int .i64 kd, .bool sh, .int .i64 x, .int .i64 y] := Blk.new _ _ _
      clear hb1 hb2 hs1
      go_upto_region 6 with (fail)
      generalize v2.alloc (.cells #[.int .u64 (a : Int), .int .u64 (b : Int), .int .u64 (c : Int), .int .u64 (d : Int), .string (bs nm), .int .i64 st, .int .i64 sq, .int .i64 kd, .bool sh, .int .i64 x, .int .i64 y] 26) = v3 at *
      have k0 : v3.cell? ⟨w.heap.size, 0, none⟩ = some (.int .u64 (a : Int)) := Blk.cell hs2 0
      have k1 : v3.cell? ⟨w.heap.size, 1, none⟩ = some (.int .u64 (b : Int)) := Blk.cell hs2 1
      have k2 : v3.cell? ⟨w.heap.size, 2, none⟩ = some (.int .u64 (c : Int)) := Blk.cell hs2 2
      have k3 : v3.cell? ⟨w.heap.size, 3, none⟩ = some (.int .u64 (d : Int)) := Blk.cell hs2 3
      have k4 : v3.cell? ⟨w.heap.size, 4, none⟩ = some (.string (bs nm)) := Blk.cell hs2 4
      have k5 : v3.cell? ⟨w.heap.size, 5, none⟩ = some (.int .i64 st) := Blk.cell hs2 5
      have k6 : v3.cell? ⟨w.heap.size, 6, none⟩ = some (.int .i64 sq) := Blk.cell hs2 6
      have k7 : v3.cell? ⟨w.heap.size, 7, none⟩ = some (.int .i64 kd) := Blk.cell hs2 7
      have k8 : v3.cell? ⟨w.heap.size, 8, none⟩ = some (.bool sh) := Blk.cell hs2 8
      have k9 : v3.cell? ⟨w.heap.size, 9, none⟩ = some (.int .i64 x) := Blk.cell hs2 9
      have k10 : v3.cell? ⟨w.heap.size, 10, none⟩ = some (.int .i64 y) := Blk.cell hs2 10
      have q0 : v3.cell? ⟨v2.heap.size, 0, none⟩ = some (.int .u64 (a : Int)) := Blk.cell hs3 0
      have q1 : v3.cell? ⟨v2.heap.size, 1, none⟩ = some (.int .u64 (b : Int)) := Blk.cell hs3 1
      have q2 : v3.cell? ⟨v2.heap.size, 2, none⟩ = some (.int .u64 (c : Int)) := Blk.cell hs3 2
      have q3 : v3.cell? ⟨v2.heap.size, 3, none⟩ = some (.int .u64 (d : Int)) := Blk.cell hs3 3
      have q4 : v3.cell? ⟨v2.heap.size, 4, none⟩ = some (.string (bs nm)) := Blk.cell hs3 4
      have q5 : v3.cell? ⟨v2.heap.size, 5, none⟩ = some (.int .i64 st) := Blk.cell hs3 5
      have q6 : v3.cell? ⟨v2.heap.size, 6, none⟩ = some (.int .i64 sq) := Blk.cell hs3 6
      have q7 : v3.cell? ⟨v2.heap.size, 7, none⟩ = some (.int .i64 kd) := Blk.cell hs3 7
      have q8 : v3.cell? ⟨v2.heap.size, 8, none⟩ = some (.bool sh) := Blk.cell hs3 8
      have q9 : v3.cell? ⟨v2.heap.size, 9, none⟩ = some (.int .i64 x) := Blk.cell hs3 9
      have q10 : v3.cell? ⟨v2.heap.size, 10, none⟩ = some (.int .i64 y) := Blk.cell hs3 10
      have hbA := hb3
      go_wp2_with fail
      clear k0 k1 k2 k3 k4 k5 k6 k7 k8 k9 k10
      clear q0 q1 q2 q3 q4 q5 q6 q7 q8 q9 q10
      clear hs2 hs3 hb3
      refine (H3.out _).mono ?_
      rintro e v5 ⟨rfl, hb5⟩
      have hbB := sbelow_step (sbelow_step hbA hb5) (sbelow_new v5 (.cells #[.int .u64 (a2 : Int), .int .u64 (b2 : Int), .int .u64 (c2 : Int), .int .u64 (d2 : Int), .string (bs nm2), .int .i64 st2, .int .i64 sq2, .int .i64 kd2, .bool sh2, .int .i64 x2, .int .i64 y2] 26))
      have hsB : Blk (v5.alloc (.cells #[.int .u64 (a2 : Int), .int .u64 (b2 : Int), .int .u64 (c2 : Int), .int .u64 (d2 : Int), .string (bs nm2), .int .i64 st2, .int .i64 sq2, .int .i64 kd2, .bool sh2, .int .i64 x2, .int .i64 y2] 26)) v5.heap.size 26 #[.int .u64 (a2 : Int), .int .u64 (b2 : Int), .int .u64 (c2 : Int), .int .u64 (d2 : Int), .string (bs nm2), .int .i64 st2, .int .i64 sq2, .int .i64 kd2, .bool sh2, .int .i64 x2, .int .i64 y2] := Blk.new _ _ _
      clear hbA hb5
      go_upto_region 9 with (fail)
      generalize v5.alloc (.cells #[.int .u64 (a2 : Int), .int .u64 (b2 : Int), .int .u64 (c2 : Int), .int .u64 (d2 : Int), .string (bs nm2), .int .i64 st2, .int .i64 sq2, .int .i64 kd2, .bool sh2, .int .i64 x2, .int .i64 y2] 26) = v6 at *
      go_wp2_with fail
      refine (known9_any _).mono ?_
      rintro e v7 ⟨rfl, hb7⟩
      go_wp2_with fail
      go_returns
      exact ⟨rfl, sbelow_step hbB hb7⟩
  · have hbr : (r == 0) = false := by simpa using hr
    clear hr hw
    by_cases hr2z : r2 = 0
    · subst hr2z
      obtain ⟨_, z1, z2, z3, z4, z5⟩ := readS_back hr2
      obtain ⟨m, rfl⟩ := Int.eq_ofNat_of_zero_le (show 0 ≤ q2 by omega)
      have hnm2 := nameB_len (chkS_ok z4).2.1
      simp only at hnm2
      have hseg : seg lb 0 (m : Int) = lb.take m := by unfold seg; simp
      have H4 := hid fun w => spwrite_at a2 b2 c2 d2 nm2 st2 sq2 kd2 sh2 x2 y2 w (by omega) (hid z3) (hid (show writeS ⟨a2, b2, c2, d2, nm2, st2, sq2, kd2, sh2, x2, y2⟩ = (lb.take m, 0) by rw [writeS, if_pos z4, z5, hseg]))
      have hmle : m ≤ lb.length := by omega
      have hext : (bs lb).extract 0 m = bs (lb.take m) := by rw [bs_extract]; simp
      clear z1 z2 z3 z4 z5 hr2 hseg
      have hb0 := sbelow_new w (.cells #[.int .u64 (a : Int), .int .u64 (b : Int), .int .u64 (c : Int), .int .u64 (d : Int), .string (bs nm), .int .i64 st, .int .i64 sq, .int .i64 kd, .bool sh, .int .i64 x, .int .i64 y] 26)
      have hs0 : Blk (w.alloc (.cells #[.int .u64 (a : Int), .int .u64 (b : Int), .int .u64 (c : Int), .int .u64 (d : Int), .string (bs nm), .int .i64 st, .int .i64 sq, .int .i64 kd, .bool sh, .int .i64 x, .int .i64 y] 26)) w.heap.size 26 #[.int .u64 (a : Int), .int .u64 (b : Int), .int .u64 (c : Int), .int .u64 (d : Int), .string (bs nm), .int .i64 st, .int .i64 sq, .int .i64 kd, .bool sh, .int .i64 x, .int .i64 y] := Blk.new _ _ _
      go_enter Try.func5, Try.ntmps5
      go_upto_region 1 with (fail)
      generalize w.alloc (.cells #[.int .u64 (a : Int), .int .u64 (b : Int), .int .u64 (c : Int), .int .u64 (d : Int), .string (bs nm), .int .i64 st, .int .i64 sq, .int .i64 kd, .bool sh, .int .i64 x, .int .i64 y] 26) = v0 at *
      have k0 : v0.cell? ⟨w.heap.size, 0, none⟩ = some (.int .u64 (a : Int)) := Blk.cell hs0 0
      have k1 : v0.cell? ⟨w.heap.size, 1, none⟩ = some (.int .u64 (b : Int)) := Blk.cell hs0 1
      have k2 : v0.cell? ⟨w.heap.size, 2, none⟩ = some (.int .u64 (c : Int)) := Blk.cell hs0 2
      have k3 : v0.cell? ⟨w.heap.size, 3, none⟩ = some (.int .u64 (d : Int)) := Blk.cell hs0 3
      have k4 : v0.cell? ⟨w.heap.size, 4, none⟩ = some (.string (bs nm)) := Blk.cell hs0 4
      have k5 : v0.cell? ⟨w.heap.size, 5, none⟩ = some (.int .i64 st) := Blk.cell hs0 5
      have k6 : v0.cell? ⟨w.heap.size, 6, none⟩ = some (.int .i64 sq) := Blk.cell hs0 6
      have k7 : v0.cell? ⟨w.heap.size, 7, none⟩ = some (.int .i64 kd) := Blk.cell hs0 7
      have k8 : v0.cell? ⟨w.heap.size, 8, none⟩ = some (.bool sh) := Blk.cell hs0 8
      have k9 : v0.cell? ⟨w.heap.size, 9, none⟩ = some (.int .i64 x) := Blk.cell hs0 9
      have k10 : v0.cell? ⟨w.heap.size, 10, none⟩ = some (.int .i64 y) := Blk.cell hs0 10
      go_wp2_with fail
      refine (H1.out _).mono ?_
      rintro e v1 ⟨rfl, hb1⟩
      have hbA := sbelow_step hb0 hb1
      clear k0 k1 k2 k3 k4 k5 k6 k7 k8 k9 k10
      clear hs0 hb0 hb1
      go_wp2_with fail
      refine (H3.out _).mono ?_
      rintro e v5 ⟨rfl, hb5⟩
      have hbB := sbelow_step (sbelow_step hbA hb5) (sbelow_new v5 (.cells #[.int .u64 (a2 : Int), .int .u64 (b2 : Int), .int .u64 (c2 : Int), .int .u64 (d2 : Int), .string (bs nm2), .int .i64 st2, .int .i64 sq2, .int .i64 kd2, .bool sh2, .int .i64 x2, .int .i64 y2] 26))
      have hsB : Blk (v5.alloc (.cells #[.int .u64 (a2 : Int), .int .u64 (b2 : Int), .int .u64 (c2 : Int), .int .u64 (d2 : Int), .string (bs nm2), .int .i64 st2, .int .i64 sq2, .int .i64 kd2, .bool sh2, .int .i64 x2, .int .i64 y2] 26)) v5.heap.size 26 #[.int .u64 (a2 : Int), .int .u64 (b2 : Int), .int .u64 (c2 : Int), .int .u64 (d2 : Int), .string (bs nm2), .int .i64 st2, .int .i64 sq2, .int .i64 kd2, .bool sh2, .int .i64 x2, .int .i64 y2] := Blk.new _ _ _
      clear hbA hb5
      go_upto_region 9 with (fail)
      generalize v5.alloc (.cells #[.int .u64 (a2 : Int), .int .u64 (b2 : Int), .int .u64 (c2 : Int), .int .u64 (d2 : Int), .string (bs nm2), .int .i64 st2, .int .i64 sq2, .int .i64 kd2, .bool sh2, .int .i64 x2, .int .i64 y2] 26) = v6 at *
      have k0 : v6.cell? ⟨v5.heap.size, 0, none⟩ = some (.int .u64 (a2 : Int)) := Blk.cell hsB 0
      have k1 : v6.cell? ⟨v5.heap.size, 1, none⟩ = some (.int .u64 (b2 : Int)) := Blk.cell hsB 1
      have k2 : v6.cell? ⟨v5.heap.size, 2, none⟩ = some (.int .u64 (c2 : Int)) := Blk.cell hsB 2
      have k3 : v6.cell? ⟨v5.heap.size, 3, none⟩ = some (.int .u64 (d2 : Int)) := Blk.cell hsB 3
      have k4 : v6.cell? ⟨v5.heap.size, 4, none⟩ = some (.string (bs nm2)) := Blk.cell hsB 4
      have k5 : v6.cell? ⟨v5.heap.size, 5, none⟩ = some (.int .i64 st2) := Blk.cell hsB 5
      have k6 : v6.cell? ⟨v5.heap.size, 6, none⟩ = some (.int .i64 sq2) := Blk.cell hsB 6
      have k7 : v6.cell? ⟨v5.heap.size, 7, none⟩ = some (.int .i64 kd2) := Blk.cell hsB 7
      have k8 : v6.cell? ⟨v5.heap.size, 8, none⟩ = some (.bool sh2) := Blk.cell hsB 8
      have k9 : v6.cell? ⟨v5.heap.size, 9, none⟩ = some (.int .i64 x2) := Blk.cell hsB 9
      have k10 : v6.cell? ⟨v5.heap.size, 10, none⟩ = some (.int .i64 y2) := Blk.cell hsB 10
      go_wp2_with fail
      refine (H4.out _).mono ?_
      rintro e v7 ⟨rfl, hb7⟩
      have hbC := sbelow_step hbB hb7
      clear k0 k1 k2 k3 k4 k5 k6 k7 k8 k9 k10
      clear hbB hb7 hsB
      go_wp2_with fail
      refine (known9_any _).mono ?_
      rintro e v8 ⟨rfl, hb8⟩
      go_wp2_with fail
      go_returns
      exact ⟨rfl, sbelow_step hbC hb8⟩
    · have hb2' : (r2 != 0) = true := by simpa using hr2z
      clear hr2z hr2
      have hb0 := sbelow_new w (.cells #[.int .u64 (a : Int), .int .u64 (b : Int), .int .u64 (c : Int), .int .u64 (d : Int), .string (bs nm), .int .i64 st, .int .i64 sq, .int .i64 kd, .bool sh, .int .i64 x, .int .i64 y] 26)
      have hs0 : Blk (w.alloc (.cells #[.int .u64 (a : Int), .int .u64 (b : Int), .int .u64 (c : Int), .int .u64 (d : Int), .string (bs nm), .int .i64 st, .int .i64 sq, .int .i64 kd, .bool sh, .int .i64 x, .int .i64 y] 26)) w.heap.size 26 #[.int .u64 (a : Int), .int .u64 (b : Int), .int .u64 (c : Int), .int .u64 (d : Int), .string (bs nm), .int .i64 st, .int .i64 sq, .int .i64 kd, .bool sh, .int .i64 x, .int .i64 y] := Blk.new _ _ _
      go_enter Try.func5, Try.ntmps5
      go_upto_region 1 with (fail)
      generalize w.alloc (.cells #[.int .u64 (a : Int), .int .u64 (b : Int), .int .u64 (c : Int), .int .u64 (d : Int), .string (bs nm), .int .i64 st, .int .i64 sq, .int .i64 kd, .bool sh, .int .i64 x, .int .i64 y] 26) = v0 at *
      have k0 : v0.cell? ⟨w.heap.size, 0, none⟩ = some (.int .u64 (a : Int)) := Blk.cell hs0 0
      have k1 : v0.cell? ⟨w.heap.size, 1, none⟩ = some (.int .u64 (b : Int)) := Blk.cell hs0 1
      have k2 : v0.cell? ⟨w.heap.size, 2, none⟩ = some (.int .u64 (c : Int)) := Blk.cell hs0 2
      have k3 : v0.cell? ⟨w.heap.size, 3, none⟩ = some (.int .u64 (d : Int)) := Blk.cell hs0 3
      have k4 : v0.cell? ⟨w.heap.size, 4, none⟩ = some (.string (bs nm)) := Blk.cell hs0 4
      have k5 : v0.cell? ⟨w.heap.size, 5, none⟩ = some (.int .i64 st) := Blk.cell hs0 5
      have k6 : v0.cell? ⟨w.heap.size, 6, none⟩ = some (.int .i64 sq) := Blk.cell hs0 6
      have k7 : v0.cell? ⟨w.heap.size, 7, none⟩ = some (.int .i64 kd) := Blk.cell hs0 7
      have k8 : v0.cell? ⟨w.heap.size, 8, none⟩ = some (.bool sh) := Blk.cell hs0 8
      have k9 : v0.cell? ⟨w.heap.size, 9, none⟩ = some (.int .i64 x) := Blk.cell hs0 9
      have k10 : v0.cell? ⟨w.heap.size, 10, none⟩ = some (.int .i64 y) := Blk.cell hs0 10
      go_wp2_with fail
      refine (H1.out _).mono ?_
      rintro e v1 ⟨rfl, hb1⟩
      have hbA := sbelow_step hb0 hb1
      clear k0 k1 k2 k3 k4 k5 k6 k7 k8 k9 k10
      clear hs0 hb0 hb1
      go_wp2_with fail
      refine (H3.out _).mono ?_
      rintro e v5 ⟨rfl, hb5⟩
      have hbB := sbelow_step (sbelow_step hbA hb5) (sbelow_new v5 (.cells #[.int .u64 (a2 : Int), .int .u64 (b2 : Int), .int .u64 (c2 : Int), .int .u64 (d2 : Int), .string (bs nm2), .int .i64 st2, .int .i64 sq2, .int .i64 kd2, .bool sh2, .int .i64 x2, .int .i64 y2] 26))
      have hsB : Blk (v5.alloc (.cells #[.int .u64 (a2 : Int), .int .u64 (b2 : Int), .int .u64 (c2 : Int), .int .u64 (d2 : Int), .string (bs nm2), .int .i64 st2, .int .i64 sq2, .int .i64 kd2, .bool sh2, .int .i64 x2, .int .i64 y2] 26)) v5.heap.size 26 #[.int .u64 (a2 : Int), .int .u64 (b2 : Int), .int .u64 (c2 : Int), .int .u64 (d2 : Int), .string (bs nm2), .int .i64 st2, .int .i64 sq2, .int .i64 kd2, .bool sh2, .int .i64 x2, .int .i64 y2] := Blk.new _ _ _
      clear hbA hb5
      go_upto_region 9 with (fail)
      generalize v5.alloc (.cells #[.int .u64 (a2 : Int), .int .u64 (b2 : Int), .int .u64 (c2 : Int), .int .u64 (d2 : Int), .string (bs nm2), .int .i64 st2, .int .i64 sq2, .int .i64 kd2, .bool sh2, .int .i64 x2, .int .i64 y2] 26) = v6 at *
      go_wp2_with fail
      refine (known9_any _).mono ?_
      rintro e v7 ⟨rfl, hb7⟩
      go_wp2_with fail
      go_returns
      exact ⟨rfl, sbelow_step hbB hb7⟩
end Go.Proofs.Ytgpioafkahoahaa
