/- Texts put together: Rq. -/
import Derived.Test.YtelglcakekgdeaaGreatDoorG21
import Derived.Test.YtelglcakekgdeaaGreatDoorG02
import Derived.Test.YtelglcakekgdeaaGreatDoorG07
import Derived.Lib.Small
namespace Go.Proofs.YtelglcakekgdeaaGreatDoor
set_option linter.unusedVariables false
set_option linter.unusedSimpArgs false
open Go.RowKit Go.Sort Go.Proofs

def cRk (x y : Ru) : Int := Lib.compareInt y.rank x.rank
theorem cRk_lt (x y : Ru) : cRk x y < 0 ↔ y.rank < x.rank := by
  unfold cRk Lib.compareInt
  split
  · constructor <;> intro h <;> omega
  · split
    · constructor <;> intro h <;> omega
    · constructor <;> intro h <;> omega
set_option maxRecDepth 100000 in
set_option maxHeartbeats 4000000 in
theorem order1_any (w : World) (x y : Ru) :
    Calls Tryz.prog 41 #[.agg (encR x).toArray, .agg (encR y).toArray] w fun e w' => e = .returned (.int .i64 (cRk x y)) ∧ ∃ q os, w' = Sort.grow (w.drewN q) os := by
  show Calls Tryz.prog 41 #[.agg #[.int .i64 x.rank, x.x, .string (bs x.tg), .int .i64 x.ap, .int .i64 x.st, .int .i64 x.dp, .int .i64 x.dt, .int .i64 x.mp, .string (bs x.mi), .int .i64 x.sm], .agg #[.int .i64 y.rank, y.x, .string (bs y.tg), .int .i64 y.ap, .int .i64 y.st, .int .i64 y.dp, .int .i64 y.dt, .int .i64 y.mp, .string (bs y.mi), .int .i64 y.sm]] w _
  have hw : (w.alloc (.cells #[.int .i64 x.rank, x.x, .string (bs x.tg), .int .i64 x.ap, .int .i64 x.st, .int .i64 x.dp, .int .i64 x.dt, .int .i64 x.mp, .string (bs x.mi), .int .i64 x.sm] 72)).alloc (.cells #[.int .i64 y.rank, y.x, .string (bs y.tg), .int .i64 y.ap, .int .i64 y.st, .int .i64 y.dp, .int .i64 y.dt, .int .i64 y.mp, .string (bs y.mi), .int .i64 y.sm] 72) = Sort.grow (w.drewN 0) #[.cells #[.int .i64 x.rank, x.x, .string (bs x.tg), .int .i64 x.ap, .int .i64 x.st, .int .i64 x.dp, .int .i64 x.dt, .int .i64 x.mp, .string (bs x.mi), .int .i64 x.sm] 72, .cells #[.int .i64 y.rank, y.x, .string (bs y.tg), .int .i64 y.ap, .int .i64 y.st, .int .i64 y.dp, .int .i64 y.dt, .int .i64 y.mp, .string (bs y.mi), .int .i64 y.sm] 72] := by
    rw [alloc_eq_grow, alloc_eq_grow, grow_grow]; rfl
  have HW := hid hw
  clear hw
  have k0 : ((w.alloc (.cells #[.int .i64 x.rank, x.x, .string (bs x.tg), .int .i64 x.ap, .int .i64 x.st, .int .i64 x.dp, .int .i64 x.dt, .int .i64 x.mp, .string (bs x.mi), .int .i64 x.sm] 72)).alloc (.cells #[.int .i64 y.rank, y.x, .string (bs y.tg), .int .i64 y.ap, .int .i64 y.st, .int .i64 y.dp, .int .i64 y.dt, .int .i64 y.mp, .string (bs y.mi), .int .i64 y.sm] 72)).cell? ⟨w.heap.size, 0, none⟩ = some (.int .i64 x.rank) := Bk.cell ((Bk.new _ _ _).alloc _) 0
  have k1 : ((w.alloc (.cells #[.int .i64 x.rank, x.x, .string (bs x.tg), .int .i64 x.ap, .int .i64 x.st, .int .i64 x.dp, .int .i64 x.dt, .int .i64 x.mp, .string (bs x.mi), .int .i64 x.sm] 72)).alloc (.cells #[.int .i64 y.rank, y.x, .string (bs y.tg), .int .i64 y.ap, .int .i64 y.st, .int .i64 y.dp, .int .i64 y.dt, .int .i64 y.mp, .string (bs y.mi), .int .i64 y.sm] 72)).cell? ⟨w.heap.size + 1, 0, none⟩ = some (.int .i64 y.rank) := by
    have := Bk.cell (Bk.new (w.alloc (.cells #[.int .i64 x.rank, x.x, .string (bs x.tg), .int .i64 x.ap, .int .i64 x.st, .int .i64 x.dp, .int .i64 x.dt, .int .i64 x.mp, .string (bs x.mi), .int .i64 x.sm] 72)) 72 #[.int .i64 y.rank, y.x, .string (bs y.tg), .int .i64 y.ap, .int .i64 y.st, .int .i64 y.dp, .int .i64 y.dt, .int .i64 y.mp, .string (bs y.mi), .int .i64 y.sm]) 0
    rw [World.size_alloc] at this
    exact this
  unfold Ru.x at *
  go_enter Tryz.func41, Tryz.ntmps41
  go_upto_region 1 with (fail)
  generalize (w.alloc (.cells #[.int .i64 x.rank, .slice x.xa x.xn x.xc, .string (bs x.tg), .int .i64 x.ap, .int .i64 x.st, .int .i64 x.dp, .int .i64 x.dt, .int .i64 x.mp, .string (bs x.mi), .int .i64 x.sm] 72)).alloc (.cells #[.int .i64 y.rank, .slice y.xa y.xn y.xc, .string (bs y.tg), .int .i64 y.ap, .int .i64 y.st, .int .i64 y.dp, .int .i64 y.dt, .int .i64 y.mp, .string (bs y.mi), .int .i64 y.sm] 72) = v0 at *
  go_wp2_with fail
  refine (Tryz.cmp_Compare_int y.rank x.rank _).mono ?_
  rintro e w1 ⟨rfl, rfl⟩
  go_wp2_with fail
  go_returns
  exact ⟨rfl, 0, _, HW.out⟩
theorem cmpR : CmpP Tryz.prog encR (fun u : Ru => u.rank) 41 cRk where
  e := fun _ _ => by kernel_rfl
  c := order1_any
  lt := cRk_lt
theorem insR (g cap n a b : Nat) (pre X post : List Ru) (ha : a = pre.length) (hb : b = pre.length + X.length) (hn : n = pre.length + X.length + post.length) (hsz : n ≤ 1000000) (w : World) (hW : GW encR 10 w g 0 (pre ++ X ++ post)) :
    Calls Tryz.prog 69 #[.slice (some ⟨g, 0, none⟩) n cap, .int .i64 a, .int .i64 b, .func (.func 41) #[] #[]] w fun e w' => e = .returned (.tuple #[]) ∧ ∃ Z : List Ru, (Z.length = X.length ∧ Srt rkR Z ∧ Eqv rkR X Z) ∧ GW encR 10 w' g 0 (pre ++ Z ++ post) ∧ Onl g w w' :=
  insertion_any (P := Tryz.prog) sortP sortF.f78 encR_len encR_one cmpR g 0 cap n a b pre X post ha hb hn hsz w hW
theorem mergeR (g cap n a m b : Nat) (pre X Y post : List Ru) (hX : 0 < X.length) (hY : 0 < Y.length) (ha : a = pre.length) (hm : m = a + X.length) (hb : b = m + Y.length) (hn : n = b + post.length) (hsz : n ≤ 1000000) (sX : Srt rkR X) (sY : Srt rkR Y) (w : World) (hW : GW encR 10 w g 0 (pre ++ X ++ Y ++ post)) :
    Calls Tryz.prog 70 #[.slice (some ⟨g, 0, none⟩) n cap, .int .i64 a, .int .i64 m, .int .i64 b, .func (.func 41) #[] #[]] w fun e w' => e = .returned (.tuple #[]) ∧ ∃ Z : List Ru, (Z.length = X.length + Y.length ∧ Srt rkR Z ∧ Eqv rkR (X ++ Y) Z) ∧ GW encR 10 w' g 0 (pre ++ Z ++ post) ∧ Onl g w w' :=
  symMerge_all (P := Tryz.prog) sortP sortF encR_len encR_one cmpR g 0 cap n hsz (X.length + Y.length) a m b pre X Y post (Nat.le_refl _) hX hY ha hm hb hn sX sY w hW
theorem half_srt {C : List Ru} (h1 : Srt rkR (C.take 20)) (h : C.length ≤ 20) : Srt rkR C := by rwa [List.take_of_length_le h] at h1
set_option maxRecDepth 100000 in
set_option maxHeartbeats 8000000 in
theorem stable_any (g cap n : Nat) (L : List Ru) (hn : n = L.length) (h40 : n ≤ 40) (w : World) (hW : GW encR 10 w g 0 L) :
    Calls Tryz.prog 53 #[.slice (some ⟨g, 0, none⟩) n cap, .int .i64 n, .func (.func 41) #[] #[]] w fun e w' => e = .returned (.tuple #[]) ∧ GW encR 10 w' g 0 (ordB rkR L) ∧ Onl g w w' := by
  have HW := hid hW
  have HN := hid hn
  clear hW hn
  go_enter Tryz.func53, Tryz.ntmps53
  go_wp2_with fail
  go_loopg [7, 8] n (fun g1 va vb wr => ∃ (a : Nat) (C : List Ru), va = .int .i64 a ∧ vb = .int .i64 ((a + 20 : Nat) : Int) ∧ (a = 0 ∨ a = 20 ∨ a = 40) ∧ a ≤ n ∧ n - a ≤ g1 ∧ Hid (C.length = n ∧ Eqv rkR L C ∧ Srt rkR ((C.take 20).take a) ∧ Srt rkR ((C.drop 20).take (a - 20)) ∧ GW encR 10 wr g 0 C ∧ Onl g w wr))
  case atStart => exact ⟨0, L, rfl, rfl, Or.inl rfl, by omega, by omega, ⟨HN.out.symm, Eqv.refl _, by simpa using srt_nil, by simpa using srt_nil, HW.out, Onl.refl _ _⟩⟩
  case round =>
    obtain ⟨a, C, rfl, rfl, ha, han, hg1, HI⟩ := hrel
    by_cases hlt : a + 20 ≤ n
    · have hltz : ((a + 20 : Nat) : Int) ≤ (n : Int) := by omega
      obtain ⟨e1, e2, e3, e4, e5, e6⟩ := HI.out
      have hC : C = C.take a ++ (C.drop a).take 20 ++ C.drop (a + 20) := by
        rw [List.append_assoc, ← List.drop_drop, List.take_append_drop, List.take_append_drop]
      have hi := insR g cap n a (a + 20) (C.take a) ((C.drop a).take 20) (C.drop (a + 20)) (by simp; omega) (by simp; omega) (by simp; omega) (by omega) wr (by rw [← hC]; exact e5)
      have HINS := hid hi
      have HCC := hid hC
      clear hi hC e1 e2 e3 e4 e5
      obtain ⟨b, hb⟩ : ∃ b, a + 20 = b := ⟨_, rfl⟩
      rw [hb] at hltz HINS ⊢
      have HB := hid hb
      clear hb
      go_wp2_with fail
      refine HINS.out.mono ?_
      rintro e w2 ⟨rfl, Z, ⟨z1, z2, z3⟩, hg2, ho2⟩
      have H2 := hid (And.intro z1 (And.intro z2 (And.intro z3 (And.intro hg2 (e6.trans ho2)))))
      clear z1 z2 z3 hg2 ho2 e6
      have hbn : b ≤ n := by omega
      go_wp2_with fail
      go_roundg (n - b)
      case measure => have := HB.out; omega
      case rel =>
        obtain ⟨e1, e2, e3, e4, e5, e6⟩ := HI.out
        obtain ⟨z1, z2, z3, hg2, ho2⟩ := H2.out
        have hb := HB.out
        have hZl : Z.length = 20 := by rw [z1]; simp; omega
        refine ⟨b, C.take a ++ Z ++ C.drop (a + 20), rfl, by go_num, by omega, hbn, by omega, ⟨by simp; omega, ?_, ?_, ?_, by rw [hb]; exact hg2, ho2⟩⟩
        · refine e2.trans ?_
          have h3 := (Eqv.refl (key := rkR) (C.take a)).append (z3.append (Eqv.refl (key := rkR) (C.drop (a + 20))))
          have hC := HCC.out
          rw [List.append_assoc] at hC
          rw [← hC] at h3
          rw [List.append_assoc]; exact h3
        · rcases ha with rfl | rfl | rfl
          · have : ([] : List Ru) ++ Z ++ C.drop 20 = Z ++ C.drop 20 := rfl
            rw [List.take_zero, this, List.take_append_of_le_length (by omega), List.take_of_length_le (l := Z) (by omega), List.take_of_length_le (by omega)]; exact z2
          · rw [List.append_assoc, List.take_append_of_le_length (by simp; omega), List.take_take, List.take_take]
            rw [List.take_take] at e3
            have h20 : min (min b 20) 20 = 20 := by omega
            rw [h20]; simpa using e3
          · omega
        · rcases ha with rfl | rfl | rfl
          · rw [show b - 20 = 0 by omega, List.take_zero]; exact srt_nil
          · have h1 : (C.take 20 ++ Z ++ C.drop (20 + 20)).drop 20 = Z ++ C.drop 40 := by
              rw [List.append_assoc, List.drop_append_of_le_length (by simp; omega), List.drop_of_length_le (by simp; omega)]; rfl
            rw [h1, List.take_append_of_le_length (by omega), List.take_of_length_le (by omega)]; exact z2
          · omega
    · have hltz : ¬ ((a + 20 : Nat) : Int) ≤ (n : Int) := by omega
      obtain ⟨e1, e2, e3, e4, e5, e6⟩ := HI.out
      have hC : C = C.take a ++ C.drop a ++ [] := by rw [List.append_nil, List.take_append_drop]
      have hi := insR g cap n a n (C.take a) (C.drop a) [] (by simp; omega) (by simp; omega) (by simp; omega) (by omega) wr (by rw [← hC]; exact e5)
      have HINS := hid hi
      have HCC := hid hC
      clear hi hC e1 e2 e3 e4 e5
      obtain ⟨b, hb⟩ : ∃ b, a + 20 = b := ⟨_, rfl⟩
      rw [hb] at hltz ⊢
      have HB := hid hb
      clear hb
      go_wp2_with fail
      refine HINS.out.mono ?_
      rintro e w2 ⟨rfl, Z, ⟨z1, z2, z3⟩, hg2, ho2⟩
      have HD : Hid (∃ D : List Ru, D.length = n ∧ Eqv rkR L D ∧ Srt rkR (D.take 20) ∧ Srt rkR (D.drop 20) ∧ GW encR 10 w2 g 0 D ∧ Onl g w w2) := by
        obtain ⟨e1, e2, e3, e4, e5, _⟩ := HI.out
        have hb := HB.out
        refine ⟨C.take a ++ Z, by simp at z1 ⊢; omega, ?_, ?_, ?_, by simpa using hg2, e6.trans ho2⟩
        · refine e2.trans ?_
          have h3 := (Eqv.refl (key := rkR) (C.take a)).append z3
          rwa [List.take_append_drop] at h3
        · rcases ha with rfl | rfl | rfl
          · have h1 : C.take 0 ++ Z = Z := by simp
            rw [h1]
            exact z2.sublist (List.take_sublist _ _)
          · rw [List.take_append_of_le_length (by simp; omega), List.take_take]
            rw [List.take_take] at e3
            simpa using e3
          · rw [List.take_append_of_le_length (by simp; omega), List.take_take]
            rw [List.take_take] at e3
            simpa using e3
        · rcases ha with rfl | rfl | rfl
          · have h1 : (C.take 0 ++ Z).drop 20 = [] := by rw [List.drop_of_length_le]; simp at z1 ⊢; omega
            rw [h1]; exact srt_nil
          · have h1 : (C.take 20 ++ Z).drop 20 = Z := by
              rw [List.drop_append_of_le_length (by simp; omega), List.drop_of_length_le (by simp; omega)]; rfl
            rw [h1]; exact z2
          · have hZ0 : Z = [] := List.eq_nil_of_length_eq_zero (by simp at z1; omega)
            rw [hZ0, List.append_nil, List.take_of_length_le (by omega)]
            rwa [List.take_of_length_le (by simp; omega)] at e4
      obtain ⟨D, HDD⟩ := HD.out
      have HDH := hid HDD
      clear HDD HD z1 z2 z3 hg2 ho2 e6 HI HCC HINS
      go_wp2_with fail
      go_loopg [6] 40 (fun g1 vs wr => ∃ (s : Nat) (C : List Ru), vs = .int .i64 s ∧ (s = 20 ∨ s = 40) ∧ 40 - s ≤ g1 ∧ Hid (C.length = n ∧ Eqv rkR L C ∧ (s = 20 → Srt rkR (C.take 20) ∧ Srt rkR (C.drop 20)) ∧ (s = 40 → Srt rkR C) ∧ GW encR 10 wr g 0 C ∧ Onl g w wr))
      case atStart =>
        obtain ⟨f1, f2, f3, f4, f5, f6⟩ := HDH.out
        exact ⟨20, D, rfl, Or.inl rfl, by omega, ⟨f1, f2, fun _ => ⟨f3, f4⟩, fun h => absurd h (by omega), f5, f6⟩⟩
      case round =>
        obtain ⟨s, C, rfl, hs, hg1, HI⟩ := hrel
        by_cases hlt : s < n
        · obtain rfl : s = 20 := by
            rcases hs with h | h
            · exact h
            · omega
          have hltz : (20 : Int) < (n : Int) := by omega
          have hltz2 : ((20 : Nat) : Int) < (n : Int) := by omega
          go_wp2_with fail
          go_loopg [7, 8] 40 (fun g2 va vb wr2 => ∃ (a : Nat) (E : List Ru), va = .int .i64 a ∧ vb = .int .i64 ((a + 40 : Nat) : Int) ∧ (a = 0 ∨ (a = 40 ∧ n = 40)) ∧ 40 - a ≤ g2 ∧ Hid (E.length = n ∧ Eqv rkR L E ∧ (a = 0 → Srt rkR (E.take 20) ∧ Srt rkR (E.drop 20)) ∧ (a = 40 → Srt rkR E) ∧ GW encR 10 wr2 g 0 E ∧ Onl g w wr2))
          case atStart =>
            obtain ⟨f1, f2, f3, f4, f5, f6⟩ := HI.out
            exact ⟨0, C, rfl, rfl, Or.inl rfl, by omega, ⟨f1, f2, fun _ => f3 (by trivial), fun h => absurd h (by omega), f5, f6⟩⟩
          case round =>
            obtain ⟨a, E, rfl, rfl, ha, hg2, HJ⟩ := hrel
            by_cases ha0 : a = 0
            · subst ha0
              obtain ⟨f1, f2, f3, f4, f5, f6⟩ := HJ.out
              have hE : E = [] ++ E.take 20 ++ E.drop 20 ++ [] := by rw [List.append_nil, List.nil_append, List.take_append_drop]
              have hm := mergeR g cap n 0 20 n [] (E.take 20) (E.drop 20) [] (by simp; omega) (by simp; omega) rfl (by simp; omega) (by simp; omega) (by simp) (by omega) (f3 rfl).1 (f3 rfl).2 wr (by rw [← hE]; exact f5)
              rw [List.take_append_drop] at hm
              have HM := hid hm
              have HL := hid (show (E.take 20).length + (E.drop 20).length = n by simp; omega)
              clear hm hE f1 f2 f3 f4 f5 f6
              by_cases h40' : 40 ≤ n
              · obtain rfl : n = 40 := by omega
                have hltq : (40 : Int) ≤ ((40 : Nat) : Int) := by omega
                go_wp2_with fail
                refine HM.out.mono ?_
                rintro e w3 ⟨rfl, Z, ⟨z1, z2, z3⟩, hg3, ho3⟩
                have H3 := hid (And.intro z1 (And.intro z2 (And.intro z3 (And.intro hg3 ho3))))
                clear z1 z2 z3 hg3 ho3
                go_wp2_with fail
                go_roundg 0
                case measure => omega
                case rel =>
                  obtain ⟨f1, f2, f3, f4, f5, f6⟩ := HJ.out
                  obtain ⟨z1, z2, z3, hg3, ho3⟩ := H3.out
                  exact ⟨40, Z, rfl, rfl, Or.inr ⟨rfl, by trivial⟩, by omega, ⟨by rw [z1]; exact HL.out, f2.trans z3, fun h => absurd h (by omega), fun _ => z2, by simpa using hg3, f6.trans ho3⟩⟩
              · have hltq : ¬ (40 : Int) ≤ (n : Int) := by omega
                go_wp2_with fail
                refine HM.out.mono ?_
                rintro e w3 ⟨rfl, Z, ⟨z1, z2, z3⟩, hg3, ho3⟩
                have H3 := hid (And.intro z1 (And.intro z2 (And.intro z3 (And.intro hg3 ho3))))
                clear z1 z2 z3 hg3 ho3
                go_wp2_with fail
                go_roundg 0
                case measure => omega
                case rel =>
                  obtain ⟨f1, f2, f3, f4, f5, f6⟩ := HJ.out
                  obtain ⟨z1, z2, z3, hg3, ho3⟩ := H3.out
                  exact ⟨40, Z, rfl, Or.inr rfl, by omega, ⟨by rw [z1]; exact HL.out, f2.trans z3, fun h => absurd h (by omega), fun _ => z2, by simpa using hg3, f6.trans ho3⟩⟩
            · obtain ⟨rfl, rfl⟩ : a = 40 ∧ n = 40 := by omega
              have hltq : ¬ (80 : Int) ≤ ((40 : Nat) : Int) := by omega
              go_wp2_with fail
              go_roundg 0
              case measure => omega
              case rel =>
                obtain ⟨f1, f2, f3, f4, f5, f6⟩ := HJ.out
                exact ⟨40, E, rfl, Or.inr rfl, by omega, ⟨f1, f2, fun h => absurd h (by omega), fun _ => f4 (by trivial), f5, f6⟩⟩
        · have hltz : ¬ (s : Int) < (n : Int) := by omega
          have HO : Hid (GW encR 10 wr g 0 (ordB rkR L) ∧ Onl g w wr) := by
            obtain ⟨f1, f2, f3, f4, f5, f6⟩ := HI.out
            have hsr : Srt rkR C := by
              rcases hs with h | h
              · exact half_srt (f3 h).1 (by omega)
              · exact f4 h
            rw [← ordB_of hsr f2]
            exact ⟨f5, f6⟩
          go_wp2_with fail
          go_end0
          exact ⟨rfl, HO.out.1, HO.out.2⟩
set_option maxHeartbeats 1600000 in
theorem sortStable_any (g cap n : Nat) (L : List Ru) (hn : n = L.length) (h40 : n ≤ 40) (w : World) (hW : GW encR 10 w g 0 L) :
    Calls Tryz.prog 40 #[.slice (some ⟨g, 0, none⟩) n cap, .func (.func 41) #[] #[]] w fun e w' => e = .returned (.tuple #[]) ∧ GW encR 10 w' g 0 (ordB rkR L) ∧ Onl g w w' := by
  have HS := hid (stable_any g cap n L hn h40 w hW)
  clear hW hn
  go_enter Tryz.func40, Tryz.ntmps40
  go_wp2_with fail
  refine HS.out.mono ?_
  rintro e w1 ⟨rfl, h1, h2⟩
  go_wp2_with fail
  go_end0
  exact ⟨rfl, h1, h2⟩
end Go.Proofs.YtelglcakekgdeaaGreatDoor
