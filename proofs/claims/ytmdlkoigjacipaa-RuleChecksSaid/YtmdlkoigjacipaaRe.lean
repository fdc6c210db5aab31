import Derived.Test.YtmdlkoigjacipaaRf
import Derived.Deep.RegionHeld3
import Derived.StillTailTactics
import Derived.Deep.LoopGhost
namespace Go.Proofs.Ytmdlkoigjacipaa
set_option linter.unusedVariables false
set_option linter.unusedSimpArgs false
open Go.RowKit Go.Joins

theorem fstK_none {hit : Ru → Bool} {U : List Ru} {i : Nat} {u : Ru} (hu : U[i]? = some u) (ho : fstK hit U i = none) : fstK hit U (i + 1) = if hit u = true then some i else none := by
  rw [fstK, hu]
  simp only [ho]
theorem fstK_some {hit : Ru → Bool} {U : List Ru} {i j : Nat} {u : Ru} (hu : U[i]? = some u) (ho : fstK hit U i = some j) : fstK hit U (i + 1) = if hit u = true ∧ kat rkR U j < u.rank then some i else some j := by
  rw [fstK, hu]
  simp only [ho]
  by_cases h1 : hit u = true <;> by_cases h2 : kat rkR U j < u.rank <;> simp [h1, h2]
theorem rank_cell {w : World} {N : Nat → Prop} {b o : Nat} {U : List Ru} (h : GX encR 10 w N (some ⟨b, o, none⟩) U) {i : Nat} {u : Ru} (hu : U[i]? = some u) : w.cell? ⟨b, o + i * 10, none⟩ = some (.int .i64 u.rank) ∧ w.cell? ⟨b, o + i * 10 + 1, none⟩ = some (.slice u.xa u.xn u.xc) ∧ w.cell? ⟨b, o + i * 10 + 2, none⟩ = some (.string (bs u.tg)) ∧ w.cell? ⟨b, o + i * 10 + 3, none⟩ = some (.int .i64 u.ap) ∧ w.cell? ⟨b, o + i * 10 + 4, none⟩ = some (.int .i64 u.st) ∧ w.cell? ⟨b, o + i * 10 + 5, none⟩ = some (.int .i64 u.dp) ∧ w.cell? ⟨b, o + i * 10 + 6, none⟩ = some (.int .i64 u.dt) ∧ w.cell? ⟨b, o + i * 10 + 7, none⟩ = some (.int .i64 u.mp) ∧ w.cell? ⟨b, o + i * 10 + 8, none⟩ = some (.string (bs u.mi)) ∧ w.cell? ⟨b, o + i * 10 + 9, none⟩ = some (.int .i64 u.sm) := by
  obtain ⟨hi, rfl⟩ := List.getElem?_eq_some_iff.1 hu
  obtain ⟨b', o', e, _, h2⟩ := h i hi
  injection e with e
  injection e with e1 e2
  subst e1
  subst e2
  exact ⟨h2 0 (by omega), h2 1 (by omega), h2 2 (by omega), h2 3 (by omega), h2 4 (by omega), h2 5 (by omega), h2 6 (by omega), h2 7 (by omega), h2 8 (by omega), h2 9 (by omega)⟩
theorem GX.some_of {w : World} {N : Nat → Prop} {A : Option Addr} {U : List Ru} (h : GX encR 10 w N A U) {i : Nat} (hi : i < U.length) : ∃ b o, A = some ⟨b, o, none⟩ ∧ N b := by
  obtain ⟨b, o, e, h1, _⟩ := h i hi
  exact ⟨b, o, e, h1⟩
set_option maxRecDepth 100000 in
set_option maxHeartbeats 16000000 in
theorem first_any (A : Option Addr) (c : Nat) (U : List Ru) (m h p b : List UInt8) (x : Value) (L : List Hd) (w : World) (hU : GX encR 10 w (· < w.heap.size) A U) (hP : RP w (· < w.heap.size) U) (hl9 : U.length ≤ 1000000) (hx : HV w x L) (hL : L.length ≤ 1000000) {q : Option Nat} (H : Hid (fstK (fun u => allE u.ps m h p L) U U.length = q)) :
    Calls Try.prog 28 #[.slice A U.length c, .agg #[.string (bs m), .string (bs h), .string (bs p), x, .string (bs b)]] w fun e w' => e = .returned (.int .i64 (fstI q)) ∧ Below w.heap.size w w' := by
  have hnot := enot
  have hb0 := enew w (.cells #[.string (bs m), .string (bs h), .string (bs p), x, .string (bs b)] 31)
  have hq0 := BQ.new w m h p x b
  have hx0 := hx.up hb0
  have hU0 := hU.up hb0
  have hP0 := hP.up hb0
  have HH := hid (fun (w2 : World) (u : Ru) (hm : u ∈ U) (hu : UV w2 u) (h2 : HV w2 x L) (z : Bool) (hz : Hid (allE u.ps m h p L = z)) => hits_any u m h p b x L w2 hu h2 hL hz)
  clear hx hU hP
  generalize hnU : U.length = n at *
  have HNU := hid hnU
  clear hnU
  go_enter Try.func28, Try.ntmps28
  go_upto_region 1 with (fail)
  generalize w.alloc (.cells #[.string (bs m), .string (bs h), .string (bs p), x, .string (bs b)] 31) = v0 at *
  have H0 := hid (And.intro hb0 (And.intro hq0 (And.intro hx0 (And.intro hU0 hP0))))
  clear hb0 hq0 hx0 hU0 hP0
  go_wp2_with fail
  go_loopg [5, 10] n (fun g1 vf vi wr => ∃ i : Nat, vi = .int .i64 i ∧ vf = .int .i64 (fstI (fstK (fun u => allE u.ps m h p L) U i)) ∧ i ≤ n ∧ n - i ≤ g1 ∧ Hid (Below v0.heap.size v0 wr))
  case atStart => exact ⟨0, rfl, rfl, by omega, by omega, Below.refl _ _⟩
  case round =>
    obtain ⟨i, rfl, rfl, hin, hgk, HB⟩ := hrel
    by_cases hlt : i < n
    · have hltz : (i : Int) < (n : Int) := by omega
      have hltd : decide ((i : Int) < (n : Int)) = true := decide_eq_true hltz
      have hi0 : (0 : Int) ≤ (i : Int) := by omega
      have hiU : i < U.length := by have := HNU.out; omega
      obtain ⟨u, hu⟩ : ∃ u, U[i]? = some u := ⟨_, List.getElem?_eq_getElem hiU⟩
      have hum : u ∈ U := List.mem_of_getElem? hu
      obtain ⟨bb, oo, rfl, -⟩ := H0.out.2.2.2.1.some_of hiU
      have hUr := H0.out.2.2.2.1.up HB.out
      obtain ⟨z, hz⟩ : ∃ z, allE u.ps m h p L = z := ⟨_, rfl⟩
      have HHU := hid (fun (w2 : World) (hb2 : Below v0.heap.size v0 w2) => HH.out w2 u hum (UV.up (H0.out.2.2.2.2 u hum) hb2) (H0.out.2.2.1.up hb2) z (hid hz))
      have HUU := hid hu
      have HZ := hid hz
      obtain ⟨q, hq⟩ : ∃ q, fstK (fun u => allE u.ps m h p L) U i = q := ⟨_, rfl⟩
      have HQ := hid hq
      rw [hq]
      obtain ⟨r0, r1, r2, r3, r4, r5, r6, r7, r8, r9⟩ := rank_cell hUr hu
      cases q with
      | none =>
        have hf1 : decide (fstI none < 0) = true := rfl
        have HF0 := hid (show fstI none = fstI none from rfl)
        revert HF0
        generalize hff : fstI none = f0 at hf1 ⊢
        intro HF0
        have HF1 := hid hff
        clear hff HF0
        have hbE := enew wr (.cells #[.int .i64 u.rank, .slice u.xa u.xn u.xc, .string (bs u.tg), .int .i64 u.ap, .int .i64 u.st, .int .i64 u.dp, .int .i64 u.dt, .int .i64 u.mp, .string (bs u.mi), .int .i64 u.sm] 39)
        have hrE := BR.new wr u
        have hbT := HB.out.trans (hbE.mono HB.out.size)
        have hqT := H0.out.2.1.up hbT
        go_upto_region 5 with (fail)
        clear r0 r1 r2 r3 r4 r5 r6 r7 r8 r9
        generalize wr.alloc (.cells #[.int .i64 u.rank, .slice u.xa u.xn u.xc, .string (bs u.tg), .int .i64 u.ap, .int .i64 u.st, .int .i64 u.dp, .int .i64 u.dt, .int .i64 u.mp, .string (bs u.mi), .int .i64 u.sm] 39) = v1 at *
        obtain ⟨r0, r1, r2, r3, r4, r5, r6, r7, r8, r9⟩ := hrE.cells
        obtain ⟨q0, q1, q2, q3, q4⟩ := hqT.cells
        have HT := hid hbT
        clear hbE hrE hbT hqT
        have R0 := BW.cell r0
        have R1 := BW.cell r1
        have R2 := BW.cell r2
        have R3 := BW.cell r3
        have R4 := BW.cell r4
        have R5 := BW.cell r5
        have R6 := BW.cell r6
        have R7 := BW.cell r7
        have R8 := BW.cell r8
        have R9 := BW.cell r9
        have Q0 := BW.cell q0
        have Q1 := BW.cell q1
        have Q2 := BW.cell q2
        have Q3 := BW.cell q3
        have Q4 := BW.cell q4
        clear r0 r1 r2 r3 r4 r5 r6 r7 r8 r9 q0 q1 q2 q3 q4
        refine wp_region_bw (by kernel_rfl) (by kernel_rfl) ?_
        repeat (go_big_quiet_step ((go_at_call 23; exact calls_bw (HHU.out _ (estep HT.out (BW.h _))))))
        refine wpQuiet_nil ?_
        rintro _ ⟨pq, rfl⟩
        clear R0 R1 R2 R3 R4 R5 R6 R7 R8 R9 Q0 Q1 Q2 Q3 Q4
        have HB2 := hid (estep HT.out pq.h)
        cases z
        · go_wp2_with fail
          go_roundg (n - (i + 1))
          case measure => omega
          case rel => exact ⟨i + 1, by go_num, by rw [fstK_none HUU.out HQ.out, if_neg (by rw [HZ.out]; simp)]; exact congrArg _ HF1.out.symm, by omega, by omega, HB2.out⟩
        · go_wp2_with fail
          go_roundg (n - (i + 1))
          case measure => omega
          case rel => exact ⟨i + 1, by go_num, by rw [fstK_none HUU.out HQ.out, if_pos HZ.out]; rfl, by omega, by omega, HB2.out⟩
      | some j =>
        obtain ⟨hji, hjU⟩ := fstK_lt hq
        obtain ⟨v, hv⟩ : ∃ v, U[j]? = some v := ⟨_, List.getElem?_eq_getElem hjU⟩
        have hrj := (rank_cell hUr hv).1
        have hkj := kat_eq (key := rkR) hv
        have HKJ := hid hkj
        have hj0 : (0 : Int) ≤ (j : Int) := by omega
        have hjn : (j : Int) < (n : Int) := by omega
        have hjd : decide ((j : Int) < 0) = false := decide_eq_false (by omega)
        clear hv hkj
        simp only [show fstI (some j) = (j : Int) from rfl]
        by_cases hrk : v.rank < u.rank
        · have hrd : decide (v.rank < u.rank) = true := decide_eq_true hrk
          have HRK := hid hrk
          clear hrk
          have hbE := enew wr (.cells #[.int .i64 u.rank, .slice u.xa u.xn u.xc, .string (bs u.tg), .int .i64 u.ap, .int .i64 u.st, .int .i64 u.dp, .int .i64 u.dt, .int .i64 u.mp, .string (bs u.mi), .int .i64 u.sm] 39)
          have hrE := BR.new wr u
          have hbT := HB.out.trans (hbE.mono HB.out.size)
          have hqT := H0.out.2.1.up hbT
          have hrj2 : (wr.alloc (.cells #[.int .i64 u.rank, .slice u.xa u.xn u.xc, .string (bs u.tg), .int .i64 u.ap, .int .i64 u.st, .int .i64 u.dp, .int .i64 u.dt, .int .i64 u.mp, .string (bs u.mi), .int .i64 u.sm] 39)).cell? ⟨bb, oo + j * 10, none⟩ = some (.int .i64 v.rank) := (hbE.cell (p := ⟨bb, oo + j * 10, none⟩) (lt_of_cell (a := ⟨bb, oo + j * 10, none⟩) hrj)).trans hrj
          clear hrj
          go_upto_region 5 with (fail)
          clear r0 r1 r2 r3 r4 r5 r6 r7 r8 r9
          generalize wr.alloc (.cells #[.int .i64 u.rank, .slice u.xa u.xn u.xc, .string (bs u.tg), .int .i64 u.ap, .int .i64 u.st, .int .i64 u.dp, .int .i64 u.dt, .int .i64 u.mp, .string (bs u.mi), .int .i64 u.sm] 39) = v1 at *
          obtain ⟨r0, r1, r2, r3, r4, r5, r6, r7, r8, r9⟩ := hrE.cells
          obtain ⟨q0, q1, q2, q3, q4⟩ := hqT.cells
          have HT := hid hbT
          clear hbE hrE hbT hqT
          have R0 := BW.cell r0
          have R1 := BW.cell r1
          have R2 := BW.cell r2
          have R3 := BW.cell r3
          have R4 := BW.cell r4
          have R5 := BW.cell r5
          have R6 := BW.cell r6
          have R7 := BW.cell r7
          have R8 := BW.cell r8
          have R9 := BW.cell r9
          have Q0 := BW.cell q0
          have Q1 := BW.cell q1
          have Q2 := BW.cell q2
          have Q3 := BW.cell q3
          have Q4 := BW.cell q4
          have RJ := BW.cell hrj2
          clear r0 r1 r2 r3 r4 r5 r6 r7 r8 r9 q0 q1 q2 q3 q4 hrj2
          refine wp_region_bw (by kernel_rfl) (by kernel_rfl) ?_
          repeat (go_big_quiet_step ((go_at_call 23; exact calls_bw (HHU.out _ (estep HT.out (BW.h _))))))
          refine wpQuiet_nil ?_
          rintro _ ⟨pq, rfl⟩
          clear R0 R1 R2 R3 R4 R5 R6 R7 R8 R9 Q0 Q1 Q2 Q3 Q4 RJ
          have HB2 := hid (estep HT.out pq.h)
          cases z
          · go_wp2_with fail
            go_roundg (n - (i + 1))
            case measure => omega
            case rel => exact ⟨i + 1, by go_num, by rw [fstK_some HUU.out HQ.out, if_neg (by rw [HZ.out]; simp)]; rfl, by omega, by omega, HB2.out⟩
          · go_wp2_with fail
            go_roundg (n - (i + 1))
            case measure => omega
            case rel => exact ⟨i + 1, by go_num, by rw [fstK_some HUU.out HQ.out, if_pos ⟨HZ.out, by rw [HKJ.out]; exact HRK.out⟩]; rfl, by omega, by omega, HB2.out⟩
        · have hrd : decide (v.rank < u.rank) = false := decide_eq_false hrk
          have HRK := hid hrk
          clear hrk
          have hbE := enew wr (.cells #[.int .i64 u.rank, .slice u.xa u.xn u.xc, .string (bs u.tg), .int .i64 u.ap, .int .i64 u.st, .int .i64 u.dp, .int .i64 u.dt, .int .i64 u.mp, .string (bs u.mi), .int .i64 u.sm] 39)
          have hrE := BR.new wr u
          have hbT := HB.out.trans (hbE.mono HB.out.size)
          have hqT := H0.out.2.1.up hbT
          have hrj2 : (wr.alloc (.cells #[.int .i64 u.rank, .slice u.xa u.xn u.xc, .string (bs u.tg), .int .i64 u.ap, .int .i64 u.st, .int .i64 u.dp, .int .i64 u.dt, .int .i64 u.mp, .string (bs u.mi), .int .i64 u.sm] 39)).cell? ⟨bb, oo + j * 10, none⟩ = some (.int .i64 v.rank) := (hbE.cell (p := ⟨bb, oo + j * 10, none⟩) (lt_of_cell (a := ⟨bb, oo + j * 10, none⟩) hrj)).trans hrj
          clear hrj
          go_upto_region 5 with (fail)
          clear r0 r1 r2 r3 r4 r5 r6 r7 r8 r9
          generalize wr.alloc (.cells #[.int .i64 u.rank, .slice u.xa u.xn u.xc, .string (bs u.tg), .int .i64 u.ap, .int .i64 u.st, .int .i64 u.dp, .int .i64 u.dt, .int .i64 u.mp, .string (bs u.mi), .int .i64 u.sm] 39) = v1 at *
          obtain ⟨r0, r1, r2, r3, r4, r5, r6, r7, r8, r9⟩ := hrE.cells
          obtain ⟨q0, q1, q2, q3, q4⟩ := hqT.cells
          have HT := hid hbT
          clear hbE hrE hbT hqT
          have R0 := BW.cell r0
          have R1 := BW.cell r1
          have R2 := BW.cell r2
          have R3 := BW.cell r3
          have R4 := BW.cell r4
          have R5 := BW.cell r5
          have R6 := BW.cell r6
          have R7 := BW.cell r7
          have R8 := BW.cell r8
          have R9 := BW.cell r9
          have Q0 := BW.cell q0
          have Q1 := BW.cell q1
          have Q2 := BW.cell q2
          have Q3 := BW.cell q3
          have Q4 := BW.cell q4
          have RJ := BW.cell hrj2
          clear r0 r1 r2 r3 r4 r5 r6 r7 r8 r9 q0 q1 q2 q3 q4 hrj2
          refine wp_region_bw (by kernel_rfl) (by kernel_rfl) ?_
          repeat (go_big_quiet_step ((go_at_call 23; exact calls_bw (HHU.out _ (estep HT.out (BW.h _))))))
          refine wpQuiet_nil ?_
          rintro _ ⟨pq, rfl⟩
          clear R0 R1 R2 R3 R4 R5 R6 R7 R8 R9 Q0 Q1 Q2 Q3 Q4 RJ
          have HB2 := hid (estep HT.out pq.h)
          go_wp2_with fail
          go_roundg (n - (i + 1))
          case measure => omega
          case rel => exact ⟨i + 1, by go_num, by rw [fstK_some HUU.out HQ.out, if_neg (fun h => absurd h.2 (by rw [HKJ.out]; exact Int.not_lt.2 HRK.out))]; rfl, by omega, by omega, HB2.out⟩
    · obtain rfl : i = n := by omega
      have hltz : ¬ (i : Int) < (i : Int) := by omega
      have hltd : decide ((i : Int) < (i : Int)) = false := decide_eq_false hltz
      have HF := hid (show fstK (fun u => allE u.ps m h p L) U i = q from H.out)
      go_wp2_with fail
      go_returns
      exact ⟨by rw [HF.out]; rfl, estep H0.out.1 HB.out⟩
set_option maxRecDepth 100000 in
set_option maxHeartbeats 16000000 in
theorem rfirst_any (A : Option Addr) (c : Nat) (U : List Ru) (m h p b : List UInt8) (x : Value) (L : List Hd) (w : World) (hU : GX encR 10 w (· < w.heap.size) A U) (hP : RP w (· < w.heap.size) U) (hS : ∀ u ∈ U, smallP u.ps) (hpl : p.length ≤ 140737488351232) (hl9 : U.length ≤ 1000000) (hx : HV w x L) (hL : L.length ≤ 1000000) {q : Option Nat} (H : Hid (fstK (fun u => allE u.ps m h p L) U U.length = q)) :
    Calls Try.prog 29 #[.slice A U.length c, .agg #[.string (bs m), .string (bs h), .string (bs p), x, .string (bs b)]] w fun e w' => e = .returned (.int .i64 (fstI q)) ∧ Below w.heap.size w w' := by
  have hnot := enot
  have hb0 := enew w (.cells #[.string (bs m), .string (bs h), .string (bs p), x, .string (bs b)] 31)
  have hq0 := BQ.new w m h p x b
  have hx0 := hx.up hb0
  have hU0 := hU.up hb0
  have hP0 := hP.up hb0
  have HH := hid (fun (w2 : World) (u : Ru) (hm : u ∈ U) (hu : UV w2 u) (h2 : HV w2 x L) (z : Bool) (hz : Hid (allE u.ps m h p L = z)) => rhits_any u m h p b x L w2 hu (hS u hm) h2 hL hpl hz)
  clear hx hU hP hS hpl
  generalize hnU : U.length = n at *
  have HNU := hid hnU
  clear hnU
  go_enter Try.func29, Try.ntmps29
  go_upto_region 1 with (fail)
  generalize w.alloc (.cells #[.string (bs m), .string (bs h), .string (bs p), x, .string (bs b)] 31) = v0 at *
  have H0 := hid (And.intro hb0 (And.intro hq0 (And.intro hx0 (And.intro hU0 hP0))))
  clear hb0 hq0 hx0 hU0 hP0
  go_wp2_with fail
  go_loopg [5, 6] n (fun g1 vf vi wr => ∃ i : Nat, vi = .int .i64 i ∧ vf = .int .i64 (fstI (fstK (fun u => allE u.ps m h p L) U i)) ∧ i ≤ n ∧ n - i ≤ g1 ∧ Hid (Below v0.heap.size v0 wr))
  case atStart => exact ⟨0, rfl, rfl, by omega, by omega, Below.refl _ _⟩
  case round =>
    obtain ⟨i, rfl, rfl, hin, hgk, HB⟩ := hrel
    by_cases hlt : i < n
    · have hltz : (i : Int) < (n : Int) := by omega
      have hltd : decide ((i : Int) < (n : Int)) = true := decide_eq_true hltz
      have hi0 : (0 : Int) ≤ (i : Int) := by omega
      have hiU : i < U.length := by have := HNU.out; omega
      obtain ⟨u, hu⟩ : ∃ u, U[i]? = some u := ⟨_, List.getElem?_eq_getElem hiU⟩
      have hum : u ∈ U := List.mem_of_getElem? hu
      obtain ⟨bb, oo, rfl, -⟩ := H0.out.2.2.2.1.some_of hiU
      have hUr := H0.out.2.2.2.1.up HB.out
      obtain ⟨z, hz⟩ : ∃ z, allE u.ps m h p L = z := ⟨_, rfl⟩
      have HHU := hid (fun (w2 : World) (hb2 : Below v0.heap.size v0 w2) => HH.out w2 u hum (UV.up (H0.out.2.2.2.2 u hum) hb2) (H0.out.2.2.1.up hb2) z (hid hz))
      have HUU := hid hu
      have HZ := hid hz
      obtain ⟨q, hq⟩ : ∃ q, fstK (fun u => allE u.ps m h p L) U i = q := ⟨_, rfl⟩
      have HQ := hid hq
      rw [hq]
      obtain ⟨r0, r1, r2, r3, r4, r5, r6, r7, r8, r9⟩ := rank_cell hUr hu
      obtain ⟨q0, q1, q2, q3, q4⟩ := (H0.out.2.1.up HB.out).cells
      clear hz hu hum
      have R0 := BW.cell r0
      have R1 := BW.cell r1
      have R2 := BW.cell r2
      have R3 := BW.cell r3
      have R4 := BW.cell r4
      have R5 := BW.cell r5
      have R6 := BW.cell r6
      have R7 := BW.cell r7
      have R8 := BW.cell r8
      have R9 := BW.cell r9
      have Q0 := BW.cell q0
      have Q1 := BW.cell q1
      have Q2 := BW.cell q2
      have Q3 := BW.cell q3
      have Q4 := BW.cell q4
      clear r0 r1 r2 r3 r4 r5 r6 r7 r8 r9 q0 q1 q2 q3 q4
      cases z with
      | false =>
        go_upto_region 5 with (fail)
        refine wp_region_bw (by kernel_rfl) (by kernel_rfl) ?_
        repeat (go_big_quiet_step ((go_at_call 24; exact calls_bw (HHU.out _ (estep HB.out (BW.h _))))))
        refine wpQuiet_nil ?_
        rintro _ ⟨pq, rfl⟩
        clear R0 R1 R2 R3 R4 R5 R6 R7 R8 R9 Q0 Q1 Q2 Q3 Q4
        have HB2 := hid (estep HB.out pq.h)
        go_wp2_with fail
        go_roundg (n - (i + 1))
        case measure => omega
        case rel => exact ⟨i + 1, by go_num, by cases q with
          | none => rw [fstK_none HUU.out HQ.out, if_neg (by rw [HZ.out]; simp)]
          | some j => rw [fstK_some HUU.out HQ.out, if_neg (by rw [HZ.out]; simp)], by omega, by omega, HB2.out⟩
      | true =>
        cases q with
        | none =>
          have hf1 : decide (fstI none < 0) = true := rfl
          generalize hff : fstI none = f0 at hf1 ⊢
          clear hff
          go_upto_region 5 with (fail)
          refine wp_region_bw (by kernel_rfl) (by kernel_rfl) ?_
          repeat (go_big_quiet_step ((go_at_call 24; exact calls_bw (HHU.out _ (estep HB.out (BW.h _))))))
          refine wpQuiet_nil ?_
          rintro _ ⟨pq, rfl⟩
          clear R0 R1 R2 R3 R4 R5 R6 R7 R8 R9 Q0 Q1 Q2 Q3 Q4
          have HB2 := hid (estep HB.out pq.h)
          go_wp2_with fail
          go_roundg (n - (i + 1))
          case measure => omega
          case rel => exact ⟨i + 1, by go_num, by rw [fstK_none HUU.out HQ.out, if_pos HZ.out]; rfl, by omega, by omega, HB2.out⟩
        | some j =>
          obtain ⟨hji, hjU⟩ := fstK_lt hq
          obtain ⟨v, hv⟩ : ∃ v, U[j]? = some v := ⟨_, List.getElem?_eq_getElem hjU⟩
          have hrj := BW.cell (rank_cell hUr hv).1
          have hkj := kat_eq (key := rkR) hv
          have HKJ := hid hkj
          have hj0 : (0 : Int) ≤ (j : Int) := by omega
          have hjn : (j : Int) < (n : Int) := by omega
          have hjd : decide ((j : Int) < 0) = false := decide_eq_false (by omega)
          clear hv hkj
          simp only [show fstI (some j) = (j : Int) from rfl]
          by_cases hrk : v.rank < u.rank
          · have hrd : decide (v.rank < u.rank) = true := decide_eq_true hrk
            have HRK := hid hrk
            clear hrk
            go_upto_region 5 with (fail)
            refine wp_region_bw (by kernel_rfl) (by kernel_rfl) ?_
            repeat (go_big_quiet_step ((go_at_call 24; exact calls_bw (HHU.out _ (estep HB.out (BW.h _))))))
            refine wpQuiet_nil ?_
            rintro _ ⟨pq, rfl⟩
            clear R0 R1 R2 R3 R4 R5 R6 R7 R8 R9 Q0 Q1 Q2 Q3 Q4
            have HB2 := hid (estep HB.out pq.h)
            go_wp2_with fail
            go_roundg (n - (i + 1))
            case measure => omega
            case rel => exact ⟨i + 1, by go_num, by rw [fstK_some HUU.out HQ.out, if_pos ⟨HZ.out, by rw [HKJ.out]; exact HRK.out⟩]; rfl, by omega, by omega, HB2.out⟩
          · have hrd : decide (v.rank < u.rank) = false := decide_eq_false hrk
            have HRK := hid (show u.rank ≤ v.rank by omega)
            clear hrk
            go_upto_region 5 with (fail)
            refine wp_region_bw (by kernel_rfl) (by kernel_rfl) ?_
            repeat (go_big_quiet_step ((go_at_call 24; exact calls_bw (HHU.out _ (estep HB.out (BW.h _))))))
            refine wpQuiet_nil ?_
            rintro _ ⟨pq, rfl⟩
            clear R0 R1 R2 R3 R4 R5 R6 R7 R8 R9 Q0 Q1 Q2 Q3 Q4
            have HB2 := hid (estep HB.out pq.h)
            go_wp2_with fail
            go_roundg (n - (i + 1))
            case measure => omega
            case rel => exact ⟨i + 1, by go_num, by rw [fstK_some HUU.out HQ.out, if_neg (fun h => absurd h.2 (by rw [HKJ.out]; exact Int.not_lt.2 HRK.out))]; rfl, by omega, by omega, HB2.out⟩
    · obtain rfl : i = n := by omega
      have hltz : ¬ (i : Int) < (i : Int) := by omega
      have hltd : decide ((i : Int) < (i : Int)) = false := decide_eq_false hltz
      have HF := hid (show fstK (fun u => allE u.ps m h p L) U i = q from H.out)
      go_wp2_with fail
      go_returns
      exact ⟨by rw [HF.out]; rfl, estep H0.out.1 HB.out⟩
end Go.Proofs.Ytmdlkoigjacipaa
