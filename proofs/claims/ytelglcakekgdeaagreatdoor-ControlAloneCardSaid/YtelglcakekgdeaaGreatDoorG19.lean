/- Texts put together: Re Rg Rh Ri Rj Qa Qb. -/
import Derived.Test.YtelglcakekgdeaaGreatDoorG18
import Derived.Deep.RegionHeld3
import Derived.StillTailTactics
import Derived.Deep.LoopGhost
import Derived.Test.YtelglcakekgdeaaGreatDoorG15
import Derived.Test.YtelglcakekgdeaaGreatDoorG06
import Derived.Laws.StructEq
import Derived.BigQuiet
namespace Go.Proofs.YtelglcakekgdeaaGreatDoor
set_option linter.unusedVariables false
set_option linter.unusedSimpArgs false
open Go.RowKit Go.Joins

theorem fstK_none {hit : Ru → Bool} {U : List Ru} {i : Nat} {u : Ru} (hu : U[i]? = some u) (ho : fstK hit U i = none) : fstK hit U (i + 1) = if hit u = true then some i else none := by
  rw [fstK, hu]
  simp only [ho]
theorem fstK_some {hit : Ru → Bool} {U : List Ru} {i j : Nat} {u : Ru} (hu : U[i]? = some u) (ho : fstK hit U i = some j) : fstK hit U (i + 1) = if hit u = true ∧ kat rkR U j < u.rank then some i else some j := by
  rw [fstK, hu]
  simp only [ho]
  by_cases h1 : hit u = true <;> by_cases h2 : kat rkR U j < u.rank <;> simp [h1, h2]
theorem rank_cell {w : World} {N : Nat → Prop} {b o : Nat} {U : List Ru} (h : GX encR 10 w N (some ⟨b, o, none⟩) U) {i : Nat} {u : Ru} (hu : U[i]? = some u) : w.cell? ⟨b, o + i * 10, none⟩ = some (.int .i64 u.rank) ∧ w.cell? ⟨b, o + i * 10 + 1, none⟩ = some (.slice u.xa u.xn u.xc) ∧ w.cell? ⟨b, o + i * 10 + 2, none⟩ = some (.string (bs u.tg)) ∧ w.cell? ⟨b, o + i * 10 + 3, none⟩ = some (.int .i64 u.ap) ∧ w.cell? ⟨b, o + i * 10 + 4, none⟩ = some (.int .i64 u.st) ∧ w.cell? ⟨b, o + i * 10 + 5, none⟩ = some (.int .i64 u.dp) ∧ w.cell? ⟨b, o + i * 10 + 6, none⟩ = some (.int .i64 u.dt) ∧ w.cell? ⟨b, o + i * 10 + 7, none⟩ = some (.int .i64 u.mp) ∧ w.cell? ⟨b, o + i * 10 + 8, none⟩ = some (.string (bs u.mi)) ∧ w.cell? ⟨b, o + i * 10 + 9, none⟩ = some (.int .i64 u.sm) := by
  obtain ⟨hi, rfl⟩ := List.getElem?_eq_some_iff.1 hu
  obtain ⟨b', o', e, _, h2⟩ := h i hi
  injection e with e
  injection e with e1 e2
  subst e1
  subst e2
  exact ⟨h2 0 (by omega), h2 1 (by omega), h2 2 (by omega), h2 3 (by omega), h2 4 (by omega), h2 5 (by omega), h2 6 (by omega), h2 7 (by omega), h2 8 (by omega), h2 9 (by omega)⟩
theorem GX.some_of {w : World} {N : Nat → Prop} {A : Option Addr} {U : List Ru} (h : GX encR 10 w N A U) {i : Nat} (hi : i < U.length) : ∃ b o, A = some ⟨b, o, none⟩ ∧ N b := by
  obtain ⟨b, o, e, h1, _⟩ := h i hi
  exact ⟨b, o, e, h1⟩
end Go.Proofs.YtelglcakekgdeaaGreatDoor
namespace Go.Proofs.YtelglcakekgdeaaGreatDoor
set_option linter.unusedVariables false
set_option linter.unusedSimpArgs false
open Go.RowKit Go.Joins

theorem rwithin_any (n p q : Int) (w : World) {z : Bool} (H : Hid ((decide (p ≤ n) && decide (n ≤ q)) = z)) :
    Calls Tryz.prog 49 #[.int .i64 n, .int .i64 p, .int .i64 q] w fun e w' => e = .returned (.bool z) ∧ w = w' := by
  by_cases h1 : p ≤ n
  all_goals by_cases h2 : n ≤ q
  all_goals
    go_enter Tryz.func49, Tryz.ntmps49
    go_wp2_with fail
    go_ret
    exact ⟨by rw [← H.out]; simp [h1, h2], rfl⟩
theorem ispart_any (n : Int) (w : World) {z : Bool} (H : Hid (inPct n = z)) :
    Calls Tryz.prog 67 #[.int .i64 n] w fun e w' => e = .returned (.bool z) ∧ w = w' := by
  have HW := hid (fun w2 => rwithin_any n 0 100 w2 H)
  go_enter Tryz.func67, Tryz.ntmps67
  go_wp2_with fail
  refine (HW.out _).mono ?_
  rintro e w1 ⟨rfl, rfl⟩
  go_wp2_with fail
  go_ret
  exact ⟨rfl, rfl⟩
theorem part_any (n : Int) (w : World) {z : Bool} (H : Hid (inPct n = z)) :
    Calls Tryz.prog 57 #[.int .i64 n] w fun e w' => e = .returned (.bool z) ∧ w = w' := by
  by_cases h1 : 0 ≤ n
  all_goals by_cases h2 : n ≤ 100
  all_goals
    go_enter Tryz.func57, Tryz.ntmps57
    go_wp2_with fail
    go_ret
    exact ⟨by rw [← H.out]; simp [inPct, h1, h2], rfl⟩
theorem unused_any (a b : Int) (w : World) {z : Bool} (H : Hid ((decide (a = 0) && decide (b = 0)) = z)) :
    Calls Tryz.prog 68 #[.int .i64 a, .int .i64 b] w fun e w' => e = .returned (.bool z) ∧ w = w' := by
  by_cases h1 : a = 0
  all_goals by_cases h2 : b = 0
  all_goals
    have d1 : decide (a = 0) = decide (a = 0) := rfl
    go_enter Tryz.func68, Tryz.ntmps68
    go_wp2_with fail
    go_ret
    exact ⟨by rw [← H.out]; simp [h1, h2], rfl⟩
/-- names: not too many, and none is too long. -/
def fewN (l : List (List UInt8)) : Bool := decide (l.length ≤ 20) && l.all fun e => decide (e.length ≤ 400)
set_option maxHeartbeats 4000000 in
theorem in_any (A : Option Addr) (cap : Nat) (l : List (List UInt8)) (v : List UInt8) (N : Nat → Prop) (w : World) (hR : STexts w N A l) (hl : l.length ≤ 9223372036854775807) {z : Bool} (H : Hid (inN l v = z)) :
    Calls Tryz.prog 56 #[.slice A l.length cap, .string (bs v)] w fun e w' => e = .returned (.bool z) ∧ w = w' := by
  have HR := hid hR
  clear hR
  go_enter Tryz.func56, Tryz.ntmps56
  go_wp2_with fail
  go_loop [5] (fun i => ∃ k : Nat, k ≤ l.length ∧ i = .int .i64 k ∧ Hid (inN (l.take k) v = false)) (fun i => l.length - (intOf i).toNat)
  case atStart => exact ⟨0, by omega, rfl, hid (by simp [inN, memB])⟩
  case round =>
    obtain ⟨k, hk, rfl, HW⟩ := hrel
    by_cases hlt : k < l.length
    · obtain ⟨ad, rfl, hB, hc⟩ := HR.out k hlt
      by_cases he : (l[k] == v) = true
      · have HE := hid (show inN l v = true by
          rw [inN, memB, List.contains_iff_mem]
          exact (eq_of_beq he) ▸ List.getElem_mem hlt)
        go_wp2_with fail
        go_ret
        exact ⟨by rw [← H.out, HE.out]; rfl, rfl⟩
      · have he' : (l[k] == v) = false := by simpa using he
        have HE := hid (show inN (l.take (k + 1)) v = false by
          have h1 := HW.out
          rw [Bool.eq_false_iff] at h1 ⊢
          intro h2
          have h1 : v ∉ l.take k := fun hm => h1 (List.contains_iff_mem.2 hm)
          rw [inN, memB, List.contains_iff_mem] at h2
          rw [← List.take_append_getElem hlt, List.mem_append] at h2
          rcases h2 with h2 | h2
          · exact h1 h2
          · rw [List.mem_singleton] at h2
            rw [← h2] at he'
            simp at he')
        clear he
        go_wp2_with fail
        go_round
        case rel => exact ⟨k + 1, by omega, by go_num, hid HE.out⟩
        case measure => simp [intOf]; omega
    · obtain rfl : k = l.length := by omega
      have HE := hid (show inN l v = false by have := HW.out; rw [List.take_length] at this; exact this)
      go_wp2_with fail
      go_ret
      exact ⟨by rw [← H.out, HE.out]; rfl, rfl⟩
end Go.Proofs.YtelglcakekgdeaaGreatDoor
namespace Go.Proofs.YtelglcakekgdeaaGreatDoor
set_option linter.unusedVariables false
set_option linter.unusedSimpArgs false
open Go.RowKit Go.Joins

set_option maxRecDepth 100000 in
set_option maxHeartbeats 16000000 in
theorem inranges_any (u : Ru) (w : World) {z : Bool} (H : Hid (rngR u.sem = z)) :
    Calls Tryz.prog 52 #[.agg #[.int .i64 u.rank, .slice u.xa u.xn u.xc, .string (bs u.tg), .int .i64 u.ap, .int .i64 u.st, .int .i64 u.dp, .int .i64 u.dt, .int .i64 u.mp, .string (bs u.mi), .int .i64 u.sm]] w fun e w' => e = .returned (.bool z) ∧ Below w.heap.size w w' := by
  have hb0 := enew w (.cells #[.int .i64 u.rank, .slice u.xa u.xn u.xc, .string (bs u.tg), .int .i64 u.ap, .int .i64 u.st, .int .i64 u.dp, .int .i64 u.dt, .int .i64 u.mp, .string (bs u.mi), .int .i64 u.sm] 72)
  have hr0 := BR.new w u
  have HC := hid (show rngR u.sem = (inPct u.ap && (inPct u.dp && (inPct u.mp && (inPct u.sm && (((decide (400 ≤ u.st) && decide (u.st ≤ 599)) || (decide (u.ap = 0) && decide (u.st = 0))) && ((decide (1 ≤ u.dt) && decide (u.dt ≤ 50)) || (decide (u.dp = 0) && decide (u.dt = 0)))))))) from rfl)
  obtain ⟨z1, hz1⟩ : ∃ z, inPct u.ap = z := ⟨_, rfl⟩
  obtain ⟨z2, hz2⟩ : ∃ z, inPct u.dp = z := ⟨_, rfl⟩
  obtain ⟨z3, hz3⟩ : ∃ z, inPct u.mp = z := ⟨_, rfl⟩
  obtain ⟨z4, hz4⟩ : ∃ z, inPct u.sm = z := ⟨_, rfl⟩
  obtain ⟨z5, hz5⟩ : ∃ z, (decide (400 ≤ u.st) && decide (u.st ≤ 599)) = z := ⟨_, rfl⟩
  obtain ⟨z6, hz6⟩ : ∃ z, (decide (u.ap = 0) && decide (u.st = 0)) = z := ⟨_, rfl⟩
  obtain ⟨z7, hz7⟩ : ∃ z, (decide (1 ≤ u.dt) && decide (u.dt ≤ 50)) = z := ⟨_, rfl⟩
  obtain ⟨z8, hz8⟩ : ∃ z, (decide (u.dp = 0) && decide (u.dt = 0)) = z := ⟨_, rfl⟩
  have C1 := hid (fun w2 => ispart_any u.ap w2 (hid hz1))
  have C2 := hid (fun w2 => ispart_any u.dp w2 (hid hz2))
  have C3 := hid (fun w2 => ispart_any u.mp w2 (hid hz3))
  have C4 := hid (fun w2 => ispart_any u.sm w2 (hid hz4))
  have C5 := hid (fun w2 => rwithin_any u.st 400 599 w2 (hid hz5))
  have C6 := hid (fun w2 => unused_any u.ap u.st w2 (hid hz6))
  have C7 := hid (fun w2 => rwithin_any u.dt 1 50 w2 (hid hz7))
  have C8 := hid (fun w2 => unused_any u.dp u.dt w2 (hid hz8))
  rw [hz1, hz2, hz3, hz4, hz5, hz6, hz7, hz8] at HC
  clear hz1 hz2 hz3 hz4 hz5 hz6 hz7 hz8
  go_enter Tryz.func52, Tryz.ntmps52
  go_upto_region 1 with (fail)
  generalize w.alloc (.cells #[.int .i64 u.rank, .slice u.xa u.xn u.xc, .string (bs u.tg), .int .i64 u.ap, .int .i64 u.st, .int .i64 u.dp, .int .i64 u.dt, .int .i64 u.mp, .string (bs u.mi), .int .i64 u.sm] 72) = v0 at *
  have HB := hid hb0
  clear hb0
  obtain ⟨r0, r1, r2, r3, r4, r5, r6, r7, r8, r9⟩ := hr0.cells
  clear hr0 r0 r1 r2 r8
  cases z1
  · go_wp2_with (first
      | (with_reducible refine (C1.out _).mono ?_
         rintro e wq ⟨rfl, rfl⟩)
      | (with_reducible refine (C2.out _).mono ?_
         rintro e wq ⟨rfl, rfl⟩)
      | (with_reducible refine (C3.out _).mono ?_
         rintro e wq ⟨rfl, rfl⟩)
      | (with_reducible refine (C4.out _).mono ?_
         rintro e wq ⟨rfl, rfl⟩)
      | (with_reducible refine (C5.out _).mono ?_
         rintro e wq ⟨rfl, rfl⟩)
      | (with_reducible refine (C6.out _).mono ?_
         rintro e wq ⟨rfl, rfl⟩)
      | (with_reducible refine (C7.out _).mono ?_
         rintro e wq ⟨rfl, rfl⟩)
      | (with_reducible refine (C8.out _).mono ?_
         rintro e wq ⟨rfl, rfl⟩))
    go_returns
    exact ⟨by rw [← H.out, HC.out]; simp, HB.out⟩
  cases z2
  · go_wp2_with (first
      | (with_reducible refine (C1.out _).mono ?_
         rintro e wq ⟨rfl, rfl⟩)
      | (with_reducible refine (C2.out _).mono ?_
         rintro e wq ⟨rfl, rfl⟩)
      | (with_reducible refine (C3.out _).mono ?_
         rintro e wq ⟨rfl, rfl⟩)
      | (with_reducible refine (C4.out _).mono ?_
         rintro e wq ⟨rfl, rfl⟩)
      | (with_reducible refine (C5.out _).mono ?_
         rintro e wq ⟨rfl, rfl⟩)
      | (with_reducible refine (C6.out _).mono ?_
         rintro e wq ⟨rfl, rfl⟩)
      | (with_reducible refine (C7.out _).mono ?_
         rintro e wq ⟨rfl, rfl⟩)
      | (with_reducible refine (C8.out _).mono ?_
         rintro e wq ⟨rfl, rfl⟩))
    go_returns
    exact ⟨by rw [← H.out, HC.out]; simp, HB.out⟩
  cases z3
  · go_wp2_with (first
      | (with_reducible refine (C1.out _).mono ?_
         rintro e wq ⟨rfl, rfl⟩)
      | (with_reducible refine (C2.out _).mono ?_
         rintro e wq ⟨rfl, rfl⟩)
      | (with_reducible refine (C3.out _).mono ?_
         rintro e wq ⟨rfl, rfl⟩)
      | (with_reducible refine (C4.out _).mono ?_
         rintro e wq ⟨rfl, rfl⟩)
      | (with_reducible refine (C5.out _).mono ?_
         rintro e wq ⟨rfl, rfl⟩)
      | (with_reducible refine (C6.out _).mono ?_
         rintro e wq ⟨rfl, rfl⟩)
      | (with_reducible refine (C7.out _).mono ?_
         rintro e wq ⟨rfl, rfl⟩)
      | (with_reducible refine (C8.out _).mono ?_
         rintro e wq ⟨rfl, rfl⟩))
    go_returns
    exact ⟨by rw [← H.out, HC.out]; simp, HB.out⟩
  cases z4
  · go_wp2_with (first
      | (with_reducible refine (C1.out _).mono ?_
         rintro e wq ⟨rfl, rfl⟩)
      | (with_reducible refine (C2.out _).mono ?_
         rintro e wq ⟨rfl, rfl⟩)
      | (with_reducible refine (C3.out _).mono ?_
         rintro e wq ⟨rfl, rfl⟩)
      | (with_reducible refine (C4.out _).mono ?_
         rintro e wq ⟨rfl, rfl⟩)
      | (with_reducible refine (C5.out _).mono ?_
         rintro e wq ⟨rfl, rfl⟩)
      | (with_reducible refine (C6.out _).mono ?_
         rintro e wq ⟨rfl, rfl⟩)
      | (with_reducible refine (C7.out _).mono ?_
         rintro e wq ⟨rfl, rfl⟩)
      | (with_reducible refine (C8.out _).mono ?_
         rintro e wq ⟨rfl, rfl⟩))
    go_returns
    exact ⟨by rw [← H.out, HC.out]; simp, HB.out⟩
  cases z5
  · cases z6
    · go_wp2_with (first
        | (with_reducible refine (C1.out _).mono ?_
           rintro e wq ⟨rfl, rfl⟩)
        | (with_reducible refine (C2.out _).mono ?_
           rintro e wq ⟨rfl, rfl⟩)
        | (with_reducible refine (C3.out _).mono ?_
           rintro e wq ⟨rfl, rfl⟩)
        | (with_reducible refine (C4.out _).mono ?_
           rintro e wq ⟨rfl, rfl⟩)
        | (with_reducible refine (C5.out _).mono ?_
           rintro e wq ⟨rfl, rfl⟩)
        | (with_reducible refine (C6.out _).mono ?_
           rintro e wq ⟨rfl, rfl⟩)
        | (with_reducible refine (C7.out _).mono ?_
           rintro e wq ⟨rfl, rfl⟩)
        | (with_reducible refine (C8.out _).mono ?_
           rintro e wq ⟨rfl, rfl⟩))
      go_returns
      exact ⟨by rw [← H.out, HC.out]; simp, HB.out⟩
    · cases z7
      · cases z8
        all_goals
          go_wp2_with (first
            | (with_reducible refine (C1.out _).mono ?_
               rintro e wq ⟨rfl, rfl⟩)
            | (with_reducible refine (C2.out _).mono ?_
               rintro e wq ⟨rfl, rfl⟩)
            | (with_reducible refine (C3.out _).mono ?_
               rintro e wq ⟨rfl, rfl⟩)
            | (with_reducible refine (C4.out _).mono ?_
               rintro e wq ⟨rfl, rfl⟩)
            | (with_reducible refine (C5.out _).mono ?_
               rintro e wq ⟨rfl, rfl⟩)
            | (with_reducible refine (C6.out _).mono ?_
               rintro e wq ⟨rfl, rfl⟩)
            | (with_reducible refine (C7.out _).mono ?_
               rintro e wq ⟨rfl, rfl⟩)
            | (with_reducible refine (C8.out _).mono ?_
               rintro e wq ⟨rfl, rfl⟩))
          go_returns
          exact ⟨by rw [← H.out, HC.out]; simp, HB.out⟩
      · go_wp2_with (first
          | (with_reducible refine (C1.out _).mono ?_
             rintro e wq ⟨rfl, rfl⟩)
          | (with_reducible refine (C2.out _).mono ?_
             rintro e wq ⟨rfl, rfl⟩)
          | (with_reducible refine (C3.out _).mono ?_
             rintro e wq ⟨rfl, rfl⟩)
          | (with_reducible refine (C4.out _).mono ?_
             rintro e wq ⟨rfl, rfl⟩)
          | (with_reducible refine (C5.out _).mono ?_
             rintro e wq ⟨rfl, rfl⟩)
          | (with_reducible refine (C6.out _).mono ?_
             rintro e wq ⟨rfl, rfl⟩)
          | (with_reducible refine (C7.out _).mono ?_
             rintro e wq ⟨rfl, rfl⟩)
          | (with_reducible refine (C8.out _).mono ?_
             rintro e wq ⟨rfl, rfl⟩))
        go_returns
        exact ⟨by rw [← H.out, HC.out]; simp, HB.out⟩
  · cases z7
    · cases z8
      all_goals
        go_wp2_with (first
          | (with_reducible refine (C1.out _).mono ?_
             rintro e wq ⟨rfl, rfl⟩)
          | (with_reducible refine (C2.out _).mono ?_
             rintro e wq ⟨rfl, rfl⟩)
          | (with_reducible refine (C3.out _).mono ?_
             rintro e wq ⟨rfl, rfl⟩)
          | (with_reducible refine (C4.out _).mono ?_
             rintro e wq ⟨rfl, rfl⟩)
          | (with_reducible refine (C5.out _).mono ?_
             rintro e wq ⟨rfl, rfl⟩)
          | (with_reducible refine (C6.out _).mono ?_
             rintro e wq ⟨rfl, rfl⟩)
          | (with_reducible refine (C7.out _).mono ?_
             rintro e wq ⟨rfl, rfl⟩)
          | (with_reducible refine (C8.out _).mono ?_
             rintro e wq ⟨rfl, rfl⟩))
        go_returns
        exact ⟨by rw [← H.out, HC.out]; simp, HB.out⟩
    · go_wp2_with (first
        | (with_reducible refine (C1.out _).mono ?_
           rintro e wq ⟨rfl, rfl⟩)
        | (with_reducible refine (C2.out _).mono ?_
           rintro e wq ⟨rfl, rfl⟩)
        | (with_reducible refine (C3.out _).mono ?_
           rintro e wq ⟨rfl, rfl⟩)
        | (with_reducible refine (C4.out _).mono ?_
           rintro e wq ⟨rfl, rfl⟩)
        | (with_reducible refine (C5.out _).mono ?_
           rintro e wq ⟨rfl, rfl⟩)
        | (with_reducible refine (C6.out _).mono ?_
           rintro e wq ⟨rfl, rfl⟩)
        | (with_reducible refine (C7.out _).mono ?_
           rintro e wq ⟨rfl, rfl⟩)
        | (with_reducible refine (C8.out _).mono ?_
           rintro e wq ⟨rfl, rfl⟩))
      go_returns
      exact ⟨by rw [← H.out, HC.out]; simp, HB.out⟩
end Go.Proofs.YtelglcakekgdeaaGreatDoor
namespace Go.Proofs.YtelglcakekgdeaaGreatDoor
set_option linter.unusedVariables false
set_option linter.unusedSimpArgs false
open Go.RowKit Go.Joins

/-- What is said of a rule's predicates. -/
def chkL (l : List Pd) : Int := if 4 < l.length then 8 else fltR l
set_option maxRecDepth 100000 in
set_option maxHeartbeats 4000000 in
theorem checkpreds_any (A : Option Addr) (c : Nat) (l : List Pd) (w : World) (hl : PX w (· < w.heap.size) A l) (hln : l.length ≤ 9223372036854775807) (hsm : smallP l) {z : Int} (H : Hid (chkL l = z)) :
    Calls Tryz.prog 50 #[.slice A l.length c] w fun e w' => e = .returned (.int .i64 z) ∧ Below w.heap.size w w' := by
  have HR := hid hl
  have HSM := hid hsm
  clear hl hsm
  by_cases h4 : 4 < l.length
  · have hd : decide ((4 : Int) < ((l.length : Nat) : Int)) = true := decide_eq_true (by omega)
    have HC := hid (show chkL l = 8 by rw [chkL, if_pos h4])
    clear h4
    go_enter Tryz.func50, Tryz.ntmps50
    go_wp2_with fail
    go_returns
    exact ⟨by rw [← H.out, HC.out]; rfl, Below.refl _ _⟩
  · have hd : decide ((4 : Int) < ((l.length : Nat) : Int)) = false := decide_eq_false (by omega)
    have HC := hid (show chkL l = fltR l by rw [chkL, if_neg h4])
    clear h4
    go_enter Tryz.func50, Tryz.ntmps50
    go_wp2_with fail
    clear hd
    go_loopw [11] (fun i wr => ∃ k : Nat, k ≤ l.length ∧ i = .int .i64 k ∧ Hid (fltR l = fltR (l.drop k) ∧ Below w.heap.size w wr)) (fun i _ => l.length - (intOf i).toNat)
    case atStart => exact ⟨0, by omega, rfl, hid ⟨by rw [List.drop_zero], Below.refl _ _⟩⟩
    case round =>
      obtain ⟨k, hk, rfl, HW⟩ := hrel
      by_cases hlt : k < l.length
      · obtain ⟨bb, o, rfl, hB, c0, c1, c2⟩ := (HR.out.up HW.out.2) k hlt
        have HF := hid (fltR_drop l k hlt)
        obtain ⟨hs0, hs1⟩ := HSM.out.at_ hlt
        generalize l[k] = y at *
        obtain ⟨yk, yn, yv⟩ := y
        simp only at c0 c1 c2 HF hs0 hs1
        have hki : decide ((k : Int) < ((l.length : Nat) : Int)) = true := by simp; omega
        have hb1 := estep HW.out.2 (enew wr (.cells #[.int .i64 yk, .string (bs yn), .string (bs yv)] 83))
        have hp1 := BP.new wr yk yn yv
        obtain ⟨zz, hz⟩ : ∃ zz, cE yk yn yv = zz := ⟨_, rfl⟩
        have HZ := hid hz
        have HM := hid (fun w2 => pcheck_any yk yn yv w2 hs0 hs1 HZ)
        clear hz
        go_upto_region 6 with (fail)
        clear c0 c1 c2
        generalize wr.alloc (.cells #[.int .i64 yk, .string (bs yn), .string (bs yv)] 83) = v1 at *
        obtain ⟨c0, c1, c2⟩ := hp1.cells
        go_wp2_with fail
        refine (HM.out _).mono ?_
        rintro e w1 ⟨rfl, hb2⟩
        have hb3 := hid (estep hb1 hb2)
        clear hb1 hb2 hp1 c0 c1 c2
        by_cases e0 : zz = 0
        · subst e0
          have HFF := hid (show fltR (l.drop k) = fltR (l.drop (k + 1)) by rw [HF.out, HZ.out]; rfl)
          go_wp2_with fail
          go_roundw
          case rel => exact ⟨k + 1, by omega, by go_num, hid ⟨by rw [HW.out.1, HFF.out], hb3.out⟩⟩
          case measure => simp [intOf]; omega
        · have hd0 : decide (zz = 0) = false := decide_eq_false e0
          have hd1 : (!decide (zz = 0)) = true := by rw [hd0]; rfl
          have HFF := hid (show fltR (l.drop k) = zz by rw [HF.out, if_pos (by rw [HZ.out]; exact e0), HZ.out])
          go_wp2_with fail
          go_returns
          exact ⟨by rw [← H.out, HC.out, HW.out.1, HFF.out]; rfl, hb3.out⟩
      · obtain rfl : k = l.length := by omega
        have hki : decide (((l.length : Nat) : Int) < ((l.length : Nat) : Int)) = false := by simp
        have HFF := hid (show fltR l = 0 by rw [HW.out.1, List.drop_length]; rfl)
        go_wp2_with fail
        go_returns
        exact ⟨by rw [← H.out, HC.out, HFF.out]; rfl, HW.out.2⟩
end Go.Proofs.YtelglcakekgdeaaGreatDoor
namespace Go.Proofs.YtelglcakekgdeaaGreatDoor
set_option linter.unusedVariables false
set_option linter.unusedSimpArgs false
open Go.RowKit Go.Joins

theorem stx_up {w w' : World} {A : Option Addr} {l : List (List UInt8)} (h : STexts w (· < w.heap.size) A l) (hb : Below w.heap.size w w') : STexts w' (· < w'.heap.size) A l := by
  intro k hk
  obtain ⟨ad, e, h1, h2⟩ := (STexts.below h hb) k hk
  exact ⟨ad, e, Nat.lt_of_lt_of_le h1 hb.size, h2⟩
/-- What is said of a rule, in the order in which it is said. -/
theorem chkR_eq (r : Rs) (names : List (List UInt8)) {zr zt zm zi : Bool} {ze : Int} (h1 : (decide (0 ≤ r.rank) && decide (r.rank ≤ 99)) = zr) (h2 : chkL r.ps = ze) (h3 : inN names r.tg = zt) (h4 : inN names r.mi = zm) (h5 : rngR r = zi) :
    chkR r names = if zr = false then 12 else if ze ≠ 0 then ze else if zt = false ∨ (r.mi ≠ [] ∧ zm = false) then 7 else if zi = false then 12 else if 0 < r.mp ∧ r.mi = [] then 9 else 0 := by
  subst h1 h2 h3 h4 h5
  have h1 : ((decide (0 ≤ r.rank) && decide (r.rank ≤ 99)) = false) ↔ (r.rank < 0 ∨ 99 < r.rank) := by
    rw [Bool.and_eq_false_iff, decide_eq_false_iff_not, decide_eq_false_iff_not]; omega
  rw [chkR]
  by_cases hr : r.rank < 0 ∨ 99 < r.rank
  · rw [if_pos hr, if_pos (h1.2 hr)]
  · rw [if_neg hr, if_neg (fun h => hr (h1.1 h))]
    by_cases h4 : 4 < r.ps.length
    · rw [chkL, if_pos h4, if_pos (by omega), if_pos h4]
    · rw [chkL, if_neg h4, if_neg h4]
set_option maxRecDepth 100000 in
set_option maxHeartbeats 16000000 in
theorem rcheck_any (u : Ru) (A : Option Addr) (cap : Nat) (names : List (List UInt8)) (w : World) (hu : UV w u) (hs : okRs u.sem) (hN : STexts w (· < w.heap.size) A names) (hl : names.length ≤ 9223372036854775807) {z : Int} (H : Hid (chkR u.sem names = z)) :
    Calls Tryz.prog 36 #[.agg #[.int .i64 u.rank, .slice u.xa u.xn u.xc, .string (bs u.tg), .int .i64 u.ap, .int .i64 u.st, .int .i64 u.dp, .int .i64 u.dt, .int .i64 u.mp, .string (bs u.mi), .int .i64 u.sm], .slice A names.length cap] w fun e w' => e = .returned (.int .i64 z) ∧ Below w.heap.size w w' := by
  have hnot := enot
  have hb0 := enew w (.cells #[.int .i64 u.rank, .slice u.xa u.xn u.xc, .string (bs u.tg), .int .i64 u.ap, .int .i64 u.st, .int .i64 u.dp, .int .i64 u.dt, .int .i64 u.mp, .string (bs u.mi), .int .i64 u.sm] 72)
  have hr0 := BR.new w u
  have hN0 := stx_up hN hb0
  obtain ⟨hn, hpx, -, -, hl9⟩ := (hu.up hb0).out
  have CI := hid (fun w2 z (hz : Hid (rngR u.sem = z)) => inranges_any u w2 hz)
  have CP := hid (fun w2 (h2 : PX w2 (· < w2.heap.size) u.xa u.ps) z (hz : Hid (chkL u.ps = z)) => checkpreds_any u.xa u.xc u.ps w2 h2 hl9 hs.1 hz)
  clear hu hs hN
  rw [← hn] at CP
  clear hn hl9
  obtain ⟨rk, xa, xn, xc, ps, tg, ap, st, dp, dt, mp, mi, sm⟩ := u
  simp only [Ru.sem] at H CI CP hb0 hr0 hN0 hpx ⊢
  obtain ⟨zr, hzr⟩ : ∃ z, (decide (0 ≤ rk) && decide (rk ≤ 99)) = z := ⟨_, rfl⟩
  obtain ⟨ze, hze⟩ : ∃ z, chkL ps = z := ⟨_, rfl⟩
  obtain ⟨zt, hzt⟩ : ∃ z, inN names tg = z := ⟨_, rfl⟩
  obtain ⟨zm, hzm⟩ : ∃ z, inN names mi = z := ⟨_, rfl⟩
  obtain ⟨zi, hzi⟩ : ∃ z, rngR ⟨rk, ps, tg, ap, st, dp, dt, mp, mi, sm⟩ = z := ⟨_, rfl⟩
  have CR := hid (fun w2 => rwithin_any rk 0 99 w2 (hid hzr))
  have CT := hid (fun w2 (h2 : STexts w2 (· < w2.heap.size) A names) => (contains_any A cap names tg _ w2 h2 hl).mono fun e w' ⟨h1, h3⟩ => (⟨by rw [← hzt]; exact h1, h3⟩ : e = Ending.returned (.bool zt) ∧ w2 = w'))
  have CM := hid (fun w2 (h2 : STexts w2 (· < w2.heap.size) A names) => (contains_any A cap names mi _ w2 h2 hl).mono fun e w' ⟨h1, h3⟩ => (⟨by rw [← hzm]; exact h1, h3⟩ : e = Ending.returned (.bool zm) ∧ w2 = w'))
  have CI2 := hid (fun w2 => CI.out w2 _ (hid hzi))
  have CP2 := hid (fun w2 h2 => CP.out w2 h2 _ (hid hze))
  have HC := hid (chkR_eq ⟨rk, ps, tg, ap, st, dp, dt, mp, mi, sm⟩ names hzr hze hzt hzm hzi)
  simp only at HC
  clear CI CP hzr hze hzt hzm hzi
  have HB := hid hb0
  clear hb0
  go_enter Tryz.func36, Tryz.ntmps36
  go_upto_region 1 with (fail)
  generalize w.alloc (.cells #[.int .i64 rk, .slice xa xn xc, .string (bs tg), .int .i64 ap, .int .i64 st, .int .i64 dp, .int .i64 dt, .int .i64 mp, .string (bs mi), .int .i64 sm] 72) = v0 at *
  obtain ⟨r0, r1, r2, r3, r4, r5, r6, r7, r8, r9⟩ := hr0.cells
  cases zr
  · clear r1 r2 r3 r4 r5 r6 r7 r8 r9 hpx hN0
    go_wp2_with fail
    refine (CR.out _).mono ?_
    rintro e w1 ⟨rfl, rfl⟩
    go_wp2_with fail
    go_returns
    exact ⟨by rw [← H.out, HC.out]; rfl, HB.out⟩
  go_wp2_with fail
  refine (CR.out _).mono ?_
  rintro e w1 ⟨rfl, rfl⟩
  clear r0 r2 r3 r4 r5 r6 r7 r8 r9
  go_wp2_with fail
  refine (CP2.out _ hpx).mono ?_
  rintro e w1 ⟨rfl, hb1⟩
  have hN1 := stx_up hN0 hb1
  obtain ⟨r0, r1, r2, r3, r4, r5, r6, r7, r8, r9⟩ := (hr0.up hb1).cells
  have HB1 := hid (estep HB.out hb1)
  by_cases e0 : ze = 0
  case neg =>
    have hd0 : decide (ze = 0) = false := decide_eq_false e0
    have hd1 : (!decide (ze = 0)) = true := by rw [hd0]; rfl
    have HE := hid e0
    clear r0 r1 r2 r3 r4 r5 r6 r7 r8 r9
    go_wp2_with fail
    go_returns
    exact ⟨by rw [← H.out, HC.out, if_neg (by simp), if_pos HE.out]; rfl, HB1.out⟩
  subst e0
  clear r0 r1 r3 r4 r5 r6 r7 r8 r9
  go_wp2_with fail
  refine (CT.out _ hN1).mono ?_
  rintro e w1 ⟨rfl, rfl⟩
  cases zt
  · have HZ := hid (show z = 7 by rw [← H.out, HC.out]; simp)
    go_wp2_with fail
    go_returns
    exact ⟨by rw [HZ.out]; rfl, HB1.out⟩
  clear r2
  by_cases hm : mi = []
  · subst hm
    have c4 : (ByteArray.mk #[]) = bs [] := rfl
    obtain ⟨r0, r1, r2, r3, r4, r5, r6, r7, r8, r9⟩ := (hr0.up hb1).cells
    go_wp2_with fail
    refine (CI2.out _).mono ?_
    rintro e w2 ⟨rfl, hb2⟩
    have HB2 := hid (estep HB1.out hb2)
    clear r0 r1 r2 r3 r4 r5 r6 r7 r8 r9
    obtain ⟨-, -, -, -, -, -, -, r7, r8, -⟩ := ((hr0.up hb1).up hb2).cells
    cases zi
    · have HZ := hid (show z = 12 by rw [← H.out, HC.out]; simp)
      go_wp2_with fail
      go_returns
      exact ⟨by rw [HZ.out]; rfl, HB2.out⟩
    by_cases hp : 0 < mp
    · have hd2 : decide (0 < mp) = true := decide_eq_true hp
      have HZ := hid (show z = 9 by rw [← H.out, HC.out]; simp [hp])
      go_wp2_with fail
      go_returns
      exact ⟨by rw [HZ.out]; rfl, HB2.out⟩
    · have hd2 : decide (0 < mp) = false := decide_eq_false hp
      have HZ := hid (show z = 0 by rw [← H.out, HC.out]; simp [hp])
      go_wp2_with fail
      go_returns
      exact ⟨by rw [HZ.out]; rfl, HB2.out⟩
  · have c4 : (ByteArray.mk #[]) = bs [] := rfl
    have hmd : mi.isEmpty = false := by cases mi with
      | nil => exact absurd rfl hm
      | cons => rfl
    have hme : (!mi.isEmpty) = true := by rw [hmd]; rfl
    obtain ⟨r0, r1, r2, r3, r4, r5, r6, r7, r8, r9⟩ := (hr0.up hb1).cells
    go_wp2_with fail
    refine (CM.out _ hN1).mono ?_
    rintro e w1 ⟨rfl, rfl⟩
    cases zm
    · have HZ := hid (show z = 7 by rw [← H.out, HC.out]; simp [hm])
      go_wp2_with fail
      go_returns
      exact ⟨by rw [HZ.out]; rfl, HB1.out⟩
    go_wp2_with fail
    refine (CI2.out _).mono ?_
    rintro e w2 ⟨rfl, hb2⟩
    have HB2 := hid (estep HB1.out hb2)
    clear r0 r1 r2 r3 r4 r5 r6 r7 r8 r9
    obtain ⟨-, -, -, -, -, -, -, r7, r8, -⟩ := ((hr0.up hb1).up hb2).cells
    cases zi
    · have HZ := hid (show z = 12 by rw [← H.out, HC.out]; simp)
      go_wp2_with fail
      go_returns
      exact ⟨by rw [HZ.out]; rfl, HB2.out⟩
    by_cases hp : 0 < mp
    · have hd2 : decide (0 < mp) = true := decide_eq_true hp
      have HZ := hid (show z = 0 by rw [← H.out, HC.out]; simp [hp, hm])
      go_wp2_with fail
      go_returns
      exact ⟨by rw [HZ.out]; rfl, HB2.out⟩
    · have hd2 : decide (0 < mp) = false := decide_eq_false hp
      have HZ := hid (show z = 0 by rw [← H.out, HC.out]; simp [hp])
      go_wp2_with fail
      go_returns
      exact ⟨by rw [HZ.out]; rfl, HB2.out⟩
end Go.Proofs.YtelglcakekgdeaaGreatDoor
namespace Go.Proofs.YtelglcakekgdeaaGreatDoor
set_option linter.unusedVariables false
set_option linter.unusedSimpArgs false
open Go.RowKit Go.Joins

theorem pd_guard (op : BinOp) (p q : Operand) (xs ys : Array Value) (w : World) : (eqGuard op 83 p q (.agg xs) (.agg ys)).run Tryz.prog w = .ok () w := run_eqGuard_agg w op _ p q xs ys (by kernel_rfl)
theorem pd_eqIn (w : World) (k : Int) (n v : List UInt8) : (Op.equalIn 10000 83 (.agg #[.int .i64 k, .string (bs n), .string (bs v)]) (.agg #[.int .i64 k, .string (bs n), .string (bs v)])).run Tryz.prog w = .ok true w := by
  have us2 := Tryz.underlying3
  have as2 := Tryz.isAgg3
  have zs2 := Tryz.sizeOf3
  have us4 := Tryz.underlying9
  have as4 := Tryz.isAgg9
  have zs4 := Tryz.sizeOf9
  rw [show (10000 : Nat) = 9999 + 1 from rfl, run_equalIn_agg w 9999 _ _ _ (by kernel_rfl) (by kernel_rfl)]
  simp only [Program.fieldsOf, Tryz.underlying83]
  go_simp
theorem pd_neq (w : World) (k : Int) (n v : List UInt8) : (binOp .neq 83 (.agg #[.int .i64 k, .string (bs n), .string (bs v)]) (.agg #[.int .i64 k, .string (bs n), .string (bs v)])).run Tryz.prog w = .ok (.bool false) w := by
  rw [run_neq_struct, pd_eqIn]; rfl
set_option maxRecDepth 100000 in
set_option maxHeartbeats 1600000 in
theorem psame_any (A1 A2 : Option Addr) (c1 c2 : Nat) (L : List Pd) (w : World) (h1 : PX w (· < w.heap.size) A1 L) (h2 : PX w (· < w.heap.size) A2 L) (hl : L.length ≤ 9223372036854775807) :
    Calls Tryz.prog 45 #[.slice A1 L.length c1, .slice A2 L.length c2] w fun e w' => e = .returned (.bool true) ∧ Below w.heap.size w w' := by
  have G1 := hid h1
  have G2 := hid h2
  have hg := pd_guard
  clear h1 h2
  go_enter Tryz.func45, Tryz.ntmps45
  go_wp2_with fail
  go_loopw [5] (fun i wr => ∃ k : Nat, k ≤ L.length ∧ i = .int .i64 k ∧ Hid (Below w.heap.size w wr)) (fun i _ => L.length - (intOf i).toNat)
  case atStart => exact ⟨0, by omega, rfl, hid (Below.refl _ _)⟩
  case round =>
    obtain ⟨k, hk, rfl, HW⟩ := hrel
    by_cases hlt : k < L.length
    · obtain ⟨b1, o1, rfl, hB1, r0, r1, r2⟩ := (G1.out.up HW.out) k hlt
      obtain ⟨b2, o2, rfl, hB2, d0, d1, d2⟩ := (G2.out.up HW.out) k hlt
      generalize L[k] = s at *
      obtain ⟨a, n, v⟩ := s
      simp only at r0 r1 r2 d0 d1 d2
      have hki : decide ((k : Int) < ((L.length : Nat) : Int)) = true := by simp; omega
      have hne : ∀ w : World, (binOp .neq 83 (.agg #[.int .i64 a, .string (bs n), .string (bs v)]) (.agg #[.int .i64 a, .string (bs n), .string (bs v)])).run Tryz.prog w = .ok (.bool false) w := fun w => pd_neq w a n v
      go_wp2_with fail
      go_quiet (fail)
      go_wp2_with fail
      go_roundw
      case rel => exact ⟨k + 1, by omega, by go_num, hid (below_drewN HW.out _)⟩
      case measure => simp [intOf]; omega
    · obtain rfl : k = L.length := by omega
      go_wp2_with fail
      go_returns
      exact ⟨rfl, HW.out⟩
set_option maxRecDepth 100000 in
set_option maxHeartbeats 4000000 in
theorem one_any (u v : Ru) (w : World) (he : u.sem = v.sem) (hu : UV w u) (hv : UV w v) :
    Calls Tryz.prog 30 #[.agg #[.int .i64 u.rank, .slice u.xa u.xn u.xc, .string (bs u.tg), .int .i64 u.ap, .int .i64 u.st, .int .i64 u.dp, .int .i64 u.dt, .int .i64 u.mp, .string (bs u.mi), .int .i64 u.sm], .agg #[.int .i64 v.rank, .slice v.xa v.xn v.xc, .string (bs v.tg), .int .i64 v.ap, .int .i64 v.st, .int .i64 v.dp, .int .i64 v.dt, .int .i64 v.mp, .string (bs v.mi), .int .i64 v.sm]] w fun e w' => e = .returned (.bool true) ∧ Below w.heap.size w w' := by
  obtain ⟨rk, xa, xn, xc, ps, tg, ap, st, dp, dt, mp, mi, sm⟩ := u
  obtain ⟨rk', ya, yn, yc, ps', tg', ap', st', dp', dt', mp', mi', sm'⟩ := v
  simp only [Ru.sem, Rs.mk.injEq] at he
  obtain ⟨rfl, rfl, rfl, rfl, rfl, rfl, rfl, rfl, rfl, rfl⟩ := he
  obtain ⟨hn1, hx1, -, -, hl9⟩ := hu.out
  obtain ⟨hn2, hx2, -, -, -⟩ := hv.out
  simp only at hn1 hx1 hl9 hn2 hx2 ⊢
  subst hn1 hn2
  have HS := hid (fun w2 (h1 : PX w2 (· < w2.heap.size) xa ps) (h2 : PX w2 (· < w2.heap.size) ya ps) => psame_any xa ya xc yc ps w2 h1 h2 hl9)
  have hb1 := enew w (.cells #[.int .i64 rk, .slice xa ps.length xc, .string (bs tg), .int .i64 ap, .int .i64 st, .int .i64 dp, .int .i64 dt, .int .i64 mp, .string (bs mi), .int .i64 sm] 72)
  have hb0 := estep hb1 (enew _ (.cells #[.int .i64 rk, .slice ya ps.length yc, .string (bs tg), .int .i64 ap, .int .i64 st, .int .i64 dp, .int .i64 dt, .int .i64 mp, .string (bs mi), .int .i64 sm] 72))
  have hr0 := (BR.new w ⟨rk, xa, ps.length, xc, ps, tg, ap, st, dp, dt, mp, mi, sm⟩).up (enew _ (.cells #[.int .i64 rk, .slice ya ps.length yc, .string (bs tg), .int .i64 ap, .int .i64 st, .int .i64 dp, .int .i64 dt, .int .i64 mp, .string (bs mi), .int .i64 sm] 72))
  have hs0 := BR.new (w.alloc (.cells #[.int .i64 rk, .slice xa ps.length xc, .string (bs tg), .int .i64 ap, .int .i64 st, .int .i64 dp, .int .i64 dt, .int .i64 mp, .string (bs mi), .int .i64 sm] 72)) ⟨rk, ya, ps.length, yc, ps, tg, ap, st, dp, dt, mp, mi, sm⟩
  rw [World.size_alloc] at hs0
  have HX1 := hid (hx1.up hb0)
  have HX2 := hid (hx2.up hb0)
  clear hu hv hx1 hx2 hb1
  go_enter Tryz.func30, Tryz.ntmps30
  go_wp2_with fail
  refine (HS.out _ HX1.out HX2.out).mono ?_
  rintro e w1 ⟨rfl, hb2⟩
  have hr1 := hr0.up hb2
  have hs1 := hs0.up hb2
  clear hr0 hs0
  obtain ⟨r0, r1, r2, r3, r4, r5, r6, r7, r8, r9⟩ := hr1.cells
  obtain ⟨d0, d1, d2, d3, d4, d5, d6, d7, d8, d9⟩ := hs1.cells
  have HB := hid (estep hb0 hb2)
  clear hb0 hb2
  go_wp2_with fail
  go_returns
  exact ⟨rfl, HB.out⟩
set_option maxRecDepth 100000 in
set_option maxHeartbeats 16000000 in
theorem rsame_any (A B : Option Addr) (c d : Nat) (U V : List Ru) (w : World) (he : U.map Ru.sem = V.map Ru.sem) (hU : GX encR 10 w (· < w.heap.size) A U) (hP : RP w (· < w.heap.size) U) (hV : GX encR 10 w (· < w.heap.size) B V) (hQ : RP w (· < w.heap.size) V) (hl : U.length ≤ 1000000) :
    Calls Tryz.prog 20 #[.slice A U.length c, .slice B V.length d] w fun e w' => e = .returned (.bool true) ∧ Below w.heap.size w w' := by
  have hnot := enot
  have hUV : V.length = U.length := by have := congrArg List.length he; simpa using this.symm
  have HE := hid (fun (k : Nat) (u v : Ru) (h1 : U[k]? = some u) (h2 : V[k]? = some v) => show u.sem = v.sem by
    have := congrArg (fun l : List Rs => l[k]?) he
    simp only [List.getElem?_map, h1, h2] at this
    exact Option.some.inj this)
  have H0 := hid (And.intro hU (And.intro hP (And.intro hV hQ)))
  have HL := hid hUV
  rw [hUV]
  clear hU hP hV hQ hUV he
  generalize hnU : U.length = n at *
  have HNU := hid hnU
  clear hnU
  go_enter Tryz.func20, Tryz.ntmps20
  go_wp2_with fail
  go_loopg [5] n (fun g1 vi wr => ∃ i : Nat, vi = .int .i64 i ∧ i ≤ n ∧ n - i ≤ g1 ∧ Hid (Below w.heap.size w wr))
  case atStart => exact ⟨0, rfl, by omega, by omega, Below.refl _ _⟩
  case round =>
    obtain ⟨i, rfl, hin, hgk, HB⟩ := hrel
    by_cases hlt : i < n
    · have hltz : (i : Int) < (n : Int) := by omega
      have hltd : decide ((i : Int) < (n : Int)) = true := decide_eq_true hltz
      have hi0 : (0 : Int) ≤ (i : Int) := by omega
      have hiU : i < U.length := by have := HNU.out; omega
      have hiV : i < V.length := by have := HNU.out; have := HL.out; omega
      obtain ⟨u, hu⟩ : ∃ u, U[i]? = some u := ⟨_, List.getElem?_eq_getElem hiU⟩
      obtain ⟨v, hv⟩ : ∃ v, V[i]? = some v := ⟨_, List.getElem?_eq_getElem hiV⟩
      have hEq := HE.out i u v hu hv
      have hum : u ∈ U := List.mem_of_getElem? hu
      have hvm : v ∈ V := List.mem_of_getElem? hv
      obtain ⟨bb, oo, rfl, -⟩ := H0.out.1.some_of hiU
      obtain ⟨bc, oc, rfl, -⟩ := H0.out.2.2.1.some_of hiV
      have hUr := H0.out.1.up HB.out
      have hVr := H0.out.2.2.1.up HB.out
      have HHU := hid (fun (w2 : World) (hb2 : Below wr.heap.size wr w2) => one_any u v w2 hEq (UV.up (UV.up (H0.out.2.1 u hum) HB.out) hb2) (UV.up (UV.up (H0.out.2.2.2 v hvm) HB.out) hb2))
      obtain ⟨r0, r1, r2, r3, r4, r5, r6, r7, r8, r9⟩ := rank_cell hUr hu
      obtain ⟨d0, d1, d2, d3, d4, d5, d6, d7, d8, d9⟩ := rank_cell hVr hv
      have R0 := BW.cell r0
      have R1 := BW.cell r1
      have R2 := BW.cell r2
      have R3 := BW.cell r3
      have R4 := BW.cell r4
      have R5 := BW.cell r5
      have R6 := BW.cell r6
      have R7 := BW.cell r7
      have R8 := BW.cell r8
      have R9 := BW.cell r9
      have D0 := BW.cell d0
      have D1 := BW.cell d1
      have D2 := BW.cell d2
      have D3 := BW.cell d3
      have D4 := BW.cell d4
      have D5 := BW.cell d5
      have D6 := BW.cell d6
      have D7 := BW.cell d7
      have D8 := BW.cell d8
      have D9 := BW.cell d9
      clear r0 r1 r2 r3 r4 r5 r6 r7 r8 r9 d0 d1 d2 d3 d4 d5 d6 d7 d8 d9 hUr hVr hu hv hEq hum hvm
      go_upto_region 6 with (fail)
      refine wp_region_bw (by kernel_rfl) (by kernel_rfl) ?_
      repeat (go_big_quiet_step ((go_at_call 30; exact calls_bw (HHU.out _ (BW.h _)))))
      refine wpQuiet_nil ?_
      rintro _ ⟨pq, rfl⟩
      clear R0 R1 R2 R3 R4 R5 R6 R7 R8 R9 D0 D1 D2 D3 D4 D5 D6 D7 D8 D9
      have HB2 := hid (estep HB.out pq.h)
      go_wp2_with fail
      go_roundg (n - (i + 1))
      case measure => omega
      case rel => exact ⟨i + 1, by go_num, by omega, by omega, HB2.out⟩
    · obtain rfl : i = n := by omega
      have hltd : decide ((i : Int) < (i : Int)) = false := by simp
      go_wp2_with fail
      go_returns
      exact ⟨rfl, HB.out⟩
end Go.Proofs.YtelglcakekgdeaaGreatDoor
namespace Go.Proofs.YtelglcakekgdeaaGreatDoor
set_option linter.unusedVariables false
set_option linter.unusedSimpArgs false
open Go.RowKit Go.Joins

def fewR1 (r : Rs) : Bool := fewP r.ps && decide (r.tg.length + r.mi.length ≤ 400)
theorem fewRu_eq {l : List Rs} (h : l.length ≤ 40) : fewRu l = l.all fewR1 := by
  rw [fewRu, decide_eq_true h, Bool.true_and]; rfl
theorem fewRu_big {l : List Rs} (h : ¬ l.length ≤ 40) : fewRu l = false := by
  rw [fewRu, decide_eq_false h, Bool.false_and]
theorem all_up {α : Type} {p : α → Bool} {l : List α} {k : Nat} {x : α} (hx : l[k]? = some x) (h : (l.take k).all p = true) (hp : p x = true) : (l.take (k + 1)).all p = true := by
  obtain ⟨hk, rfl⟩ := List.getElem?_eq_some_iff.1 hx
  rw [List.take_add_one, List.all_append, h, List.getElem?_eq_getElem hk]
  simp [hp]
theorem all_off {α : Type} {p : α → Bool} {l : List α} {k : Nat} {x : α} (hx : l[k]? = some x) (hp : p x = false) : l.all p = false := by
  rw [List.all_eq_false]
  exact ⟨x, List.mem_of_getElem? hx, by simp [hp]⟩
theorem map_at' {U : List Ru} {i : Nat} {u : Ru} (hu : U[i]? = some u) : (U.map Ru.sem)[i]? = some u.sem := by
  rw [List.getElem?_map, hu]; rfl
end Go.Proofs.YtelglcakekgdeaaGreatDoor
