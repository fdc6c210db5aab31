/- Texts put together: Re Rg Rh Ri Rj Rl Qa Qb. -/
import Derived.Test.YtgkegpdmidcmoaaG17
import Derived.Deep.RegionHeld3
import Derived.StillTailTactics
import Derived.Deep.LoopGhost
import Derived.Test.YtgkegpdmidcmoaaG14
import Derived.Test.YtgkegpdmidcmoaaG05
import Derived.Laws.StructEq
import Derived.BigQuiet
namespace Go.Proofs.Ytgkegpdmidcmoaa
set_option linter.unusedVariables false
set_option linter.unusedSimpArgs false
open Go.RowKit Go.Joins

theorem fstK_none {hit : Ru → Bool} {U : List Ru} {i : Nat} {u : Ru} (hu : U[i]? = some u) (ho : fstK hit U i = none) : fstK hit U (i + 1) = if hit u = true then some i else none := by
  rw [fstK, hu]
  simp only [ho]
theorem fstK_some {hit : Ru → Bool} {U : List Ru} {i j : Nat} {u : Ru} (hu : U[i]? = some u) (ho : fstK hit U i = some j) : fstK hit U (i + 1) = if hit u = true ∧ kat rkR U j < u.rank then some i else some j := by
  rw [fstK, hu]
  simp only [ho]
  by_cases h1 : hit u = true <;> by_cases h2 : kat rkR U j < u.rank <;> simp [h1, h2]
theorem rank_cell {w : World} {N : Nat → Prop} {b o : Nat} {U : List Ru} (h : GX encR 10 w N (some ⟨b, o, none⟩) U) {i : Nat} {u : Ru} (hu : U[i]? = some u) : w.cell? ⟨b, o + i * 10, none⟩ = some (.int .i64 u.rank) ∧ w.cell? ⟨b, o + i * 10 + 1, none⟩ = some (.slice u.xa u.xn u.xc) ∧ w.cell? ⟨b, o + i * 10 + 2, none⟩ = some (.string (bs u.tg)) ∧ w.cell? ⟨b, o + i * 10 + 3, none⟩ = some (.int .i64 u.ap) ∧ w.cell? ⟨b, o + i * 10 + 4, none⟩ = some (.int .i64 u.st) ∧ w.cell? ⟨b, o + i * 10 + 5, none⟩ = some (.int .i64 u.dp) ∧ w.cell? ⟨b, o + i * 10 + 6, none⟩ = some (.int .i64 u.dt) ∧ w.cell? ⟨b, o + i * 10 + 7, none⟩ = some (.int .i64 u.mp) ∧ w.cell? ⟨b, o + i * 10 + 8, none⟩ = some (.string (bs u.mi)) ∧ w.cell? ⟨b, o + i * 10 + 9, none⟩ = some (.int .i64 u.sm) := by
  obtain ⟨hi, rfl⟩ := List.getElem?_eq_some_iff.1 hu
  obtain ⟨b', o', e, _, h2⟩ := h i hi
  injection e with e
  injection e with e1 e2
  subst e1
  subst e2
  exact ⟨h2 0 (by omega), h2 1 (by omega), h2 2 (by omega), h2 3 (by omega), h2 4 (by omega), h2 5 (by omega), h2 6 (by omega), h2 7 (by omega), h2 8 (by omega), h2 9 (by omega)⟩
theorem GX.some_of {w : World} {N : Nat → Prop} {A : Option Addr} {U : List Ru} (h : GX encR 10 w N A U) {i : Nat} (hi : i < U.length) : ∃ b o, A = some ⟨b, o, none⟩ ∧ N b := by
  obtain ⟨b, o, e, h1, _⟩ := h i hi
  exact ⟨b, o, e, h1⟩
end Go.Proofs.Ytgkegpdmidcmoaa
namespace Go.Proofs.Ytgkegpdmidcmoaa
set_option linter.unusedVariables false
set_option linter.unusedSimpArgs false
open Go.RowKit Go.Joins

/-- names: not too many, and none is too long. -/
def fewN (l : List (List UInt8)) : Bool := decide (l.length ≤ 20) && l.all fun e => decide (e.length ≤ 400)
end Go.Proofs.Ytgkegpdmidcmoaa
namespace Go.Proofs.Ytgkegpdmidcmoaa
set_option linter.unusedVariables false
set_option linter.unusedSimpArgs false
open Go.RowKit Go.Joins

end Go.Proofs.Ytgkegpdmidcmoaa
namespace Go.Proofs.Ytgkegpdmidcmoaa
set_option linter.unusedVariables false
set_option linter.unusedSimpArgs false
open Go.RowKit Go.Joins

/-- What is said of a rule's predicates. -/
def chkL (l : List Pd) : Int := if 4 < l.length then 8 else fltR l
end Go.Proofs.Ytgkegpdmidcmoaa
namespace Go.Proofs.Ytgkegpdmidcmoaa
set_option linter.unusedVariables false
set_option linter.unusedSimpArgs false
open Go.RowKit Go.Joins

theorem stx_up {w w' : World} {A : Option Addr} {l : List (List UInt8)} (h : STexts w (· < w.heap.size) A l) (hb : Below w.heap.size w w') : STexts w' (· < w'.heap.size) A l := by
  intro k hk
  obtain ⟨ad, e, h1, h2⟩ := (STexts.below h hb) k hk
  exact ⟨ad, e, Nat.lt_of_lt_of_le h1 hb.size, h2⟩
/-- What is said of a rule, in the order in which it is said. -/
theorem chkR_eq (r : Rs) (names : List (List UInt8)) {zr zt zm zi : Bool} {ze : Int} (h1 : (decide (0 ≤ r.rank) && decide (r.rank ≤ 99)) = zr) (h2 : chkL r.ps = ze) (h3 : inN names r.tg = zt) (h4 : inN names r.mi = zm) (h5 : rngR r = zi) :
    chkR r names = if zr = false then 12 else if ze ≠ 0 then ze else if zt = false ∨ (r.mi ≠ [] ∧ zm = false) then 7 else if zi = false then 12 else if 0 < r.mp ∧ r.mi = [] then 9 else 0 := by
  subst h1 h2 h3 h4 h5
  have h1 : ((decide (0 ≤ r.rank) && decide (r.rank ≤ 99)) = false) ↔ (r.rank < 0 ∨ 99 < r.rank) := by
    rw [Bool.and_eq_false_iff, decide_eq_false_iff_not, decide_eq_false_iff_not]; omega
  rw [chkR]
  by_cases hr : r.rank < 0 ∨ 99 < r.rank
  · rw [if_pos hr, if_pos (h1.2 hr)]
  · rw [if_neg hr, if_neg (fun h => hr (h1.1 h))]
    by_cases h4 : 4 < r.ps.length
    · rw [chkL, if_pos h4, if_pos (by omega), if_pos h4]
    · rw [chkL, if_neg h4, if_neg h4]
end Go.Proofs.Ytgkegpdmidcmoaa
namespace Go.Proofs.Ytgkegpdmidcmoaa
set_option linter.unusedVariables false
set_option linter.unusedSimpArgs false
open Go.RowKit Go.Joins

end Go.Proofs.Ytgkegpdmidcmoaa
namespace Go.Proofs.Ytgkegpdmidcmoaa
set_option linter.unusedVariables false
set_option linter.unusedSimpArgs false
open Go.RowKit Go.Joins

theorem pd_guard (op : BinOp) (p q : Operand) (xs ys : Array Value) (w : World) : (eqGuard op 69 p q (.agg xs) (.agg ys)).run Try.prog w = .ok () w := run_eqGuard_agg w op _ p q xs ys (by kernel_rfl)
theorem pd_eqIn (w : World) (k : Int) (n v : List UInt8) : (Op.equalIn 10000 69 (.agg #[.int .i64 k, .string (bs n), .string (bs v)]) (.agg #[.int .i64 k, .string (bs n), .string (bs v)])).run Try.prog w = .ok true w := by
  have us2 := Try.underlying3
  have as2 := Try.isAgg3
  have zs2 := Try.sizeOf3
  have us4 := Try.underlying9
  have as4 := Try.isAgg9
  have zs4 := Try.sizeOf9
  rw [show (10000 : Nat) = 9999 + 1 from rfl, run_equalIn_agg w 9999 _ _ _ (by kernel_rfl) (by kernel_rfl)]
  simp only [Program.fieldsOf, Try.underlying69]
  go_simp
theorem pd_neq (w : World) (k : Int) (n v : List UInt8) : (binOp .neq 69 (.agg #[.int .i64 k, .string (bs n), .string (bs v)]) (.agg #[.int .i64 k, .string (bs n), .string (bs v)])).run Try.prog w = .ok (.bool false) w := by
  rw [run_neq_struct, pd_eqIn]; rfl
end Go.Proofs.Ytgkegpdmidcmoaa
namespace Go.Proofs.Ytgkegpdmidcmoaa
set_option linter.unusedVariables false
set_option linter.unusedSimpArgs false
open Go.RowKit Go.Joins

def fewR1 (r : Rs) : Bool := fewP r.ps && decide (r.tg.length + r.mi.length ≤ 400)
theorem fewRu_eq {l : List Rs} (h : l.length ≤ 40) : fewRu l = l.all fewR1 := by
  rw [fewRu, decide_eq_true h, Bool.true_and]; rfl
theorem fewRu_big {l : List Rs} (h : ¬ l.length ≤ 40) : fewRu l = false := by
  rw [fewRu, decide_eq_false h, Bool.false_and]
theorem all_up {α : Type} {p : α → Bool} {l : List α} {k : Nat} {x : α} (hx : l[k]? = some x) (h : (l.take k).all p = true) (hp : p x = true) : (l.take (k + 1)).all p = true := by
  obtain ⟨hk, rfl⟩ := List.getElem?_eq_some_iff.1 hx
  rw [List.take_add_one, List.all_append, h, List.getElem?_eq_getElem hk]
  simp [hp]
theorem all_off {α : Type} {p : α → Bool} {l : List α} {k : Nat} {x : α} (hx : l[k]? = some x) (hp : p x = false) : l.all p = false := by
  rw [List.all_eq_false]
  exact ⟨x, List.mem_of_getElem? hx, by simp [hp]⟩
theorem map_at' {U : List Ru} {i : Nat} {u : Ru} (hu : U[i]? = some u) : (U.map Ru.sem)[i]? = some u.sem := by
  rw [List.getElem?_map, hu]; rfl
set_option maxRecDepth 100000 in
set_option maxHeartbeats 16000000 in
theorem rufew_any (A : Option Addr) (c : Nat) (U : List Ru) (w : World) (hU : GX encR 10 w (· < w.heap.size) A U) (hP : RP w (· < w.heap.size) U) (hs : ∀ u ∈ U, okRs u.sem) (hl9 : U.length ≤ 9223372036854775807) {z : Bool} (H : Hid (fewRu (U.map Ru.sem) = z)) :
    Calls Try.prog 26 #[.slice A U.length c] w fun e w' => e = .returned (.bool z) ∧ Below w.heap.size w w' := by
  have hnot := enot
  have H0 := hid (And.intro hU (And.intro hP hs))
  clear hU hP hs
  by_cases h40 : U.length ≤ 40
  · have hd : decide ((40 : Int) < ((U.length : Nat) : Int)) = false := decide_eq_false (by omega)
    have HC := hid (fewRu_eq (l := U.map Ru.sem) (by rw [List.length_map]; exact h40))
    generalize hnU : U.length = n at *
    have HNU := hid hnU
    clear hnU
    go_enter Try.func26, Try.ntmps26
    go_wp2_with fail
    clear hd
    go_loopg [3] n (fun g1 vi wr => ∃ i : Nat, vi = .int .i64 i ∧ i ≤ n ∧ n - i ≤ g1 ∧ Hid (((U.map Ru.sem).take i).all fewR1 = true ∧ Below w.heap.size w wr))
    case atStart => exact ⟨0, rfl, by omega, by omega, hid ⟨by simp, Below.refl _ _⟩⟩
    case round =>
      obtain ⟨i, rfl, hin, hgk, HW⟩ := hrel
      by_cases hlt : i < n
      · have hltz : (i : Int) < (n : Int) := by omega
        have hltd : decide ((i : Int) < (n : Int)) = true := decide_eq_true hltz
        have hi0 : (0 : Int) ≤ (i : Int) := by omega
        have hiU : i < U.length := by have := HNU.out; omega
        obtain ⟨u, hu⟩ : ∃ u, U[i]? = some u := ⟨_, List.getElem?_eq_getElem hiU⟩
        have hum : u ∈ U := List.mem_of_getElem? hu
        have HM := hid (map_at' hu)
        obtain ⟨bb, oo, rfl, -⟩ := H0.out.1.some_of hiU
        have hUr := H0.out.1.up HW.out.2
        obtain ⟨r0, r1, r2, r3, r4, r5, r6, r7, r8, r9⟩ := rank_cell hUr hu
        obtain ⟨o1, o2, o3, o4⟩ := H0.out.2.2 u hum
        obtain ⟨zf, hzf⟩ : ∃ z, fewP u.ps = z := ⟨_, rfl⟩
        have HPF := hid (fun w2 (hb : Below wr.heap.size wr w2) => by
          have hv : UV w2 u := UV.up (UV.up (H0.out.2.1 u hum) HW.out.2) hb
          obtain ⟨hn, hpx, -, -, hp9⟩ := hv.out
          have := pfew_any u.xa u.xc u.ps w2 hpx hp9 o1 (hid hzf)
          rw [← hn] at this
          exact this)
        have HZ := hid hzf
        have hl2 : u.tg.length ≤ 140737488351232 := o2
        have hl8 : u.mi.length ≤ 140737488351232 := o3
        have hadd : IntKind.i64.wrap ((u.tg.length : Int) + (u.mi.length : Int)) = (u.tg.length : Int) + (u.mi.length : Int) := IntWalk.i64_in _ (by omega)
        have R1 := BW.cell r1
        have R2 := BW.cell r2
        have R8 := BW.cell r8
        clear r0 r1 r2 r3 r4 r5 r6 r7 r8 r9 hUr hum hu o1 o2 o3 o4 hzf
        cases zf with
        | false =>
          have HE := hid (show z = false by
            rw [← H.out, HC.out]
            exact all_off HM.out (by unfold fewR1; rw [show u.sem.ps = u.ps from rfl, HZ.out]; rfl))
          clear hl2 hl8 hadd
          go_upto_region 6 with (fail)
          refine wp_region_bw (by kernel_rfl) (by kernel_rfl) ?_
          repeat (go_big_quiet_step ((go_at_call 34; exact calls_bw (HPF.out _ (BW.h _)))))
          refine wpQuiet_nil ?_
          rintro _ ⟨pq, rfl⟩
          clear R1 R2 R8
          have HB2 := hid (estep HW.out.2 pq.h)
          go_wp2_with fail
          go_returns
          exact ⟨by rw [HE.out]; rfl, HB2.out⟩
        | true =>
          by_cases hle : u.tg.length + u.mi.length ≤ 400
          · have hd : decide ((400 : Int) < (u.tg.length : Int) + (u.mi.length : Int)) = false := decide_eq_false (by omega)
            have HO := hid (show fewR1 u.sem = true by unfold fewR1; rw [show u.sem.ps = u.ps from rfl, HZ.out]; exact decide_eq_true hle)
            clear hle
            go_upto_region 6 with (fail)
            refine wp_region_bw (by kernel_rfl) (by kernel_rfl) ?_
            repeat (go_big_quiet_step ((go_at_call 34; exact calls_bw (HPF.out _ (BW.h _)))))
            refine wpQuiet_nil ?_
            rintro _ ⟨pq, rfl⟩
            clear R1 R2 R8
            have HB2 := hid (estep HW.out.2 pq.h)
            go_wp2_with fail
            go_roundg (n - (i + 1))
            case measure => omega
            case rel => exact ⟨i + 1, by go_num, by omega, by omega, hid ⟨all_up HM.out HW.out.1 HO.out, HB2.out⟩⟩
          · have hd : decide ((400 : Int) < (u.tg.length : Int) + (u.mi.length : Int)) = true := decide_eq_true (by omega)
            have HE := hid (show z = false by
              rw [← H.out, HC.out]
              exact all_off HM.out (by unfold fewR1; rw [decide_eq_false (show ¬ (u.sem.tg.length + u.sem.mi.length ≤ 400) from hle), Bool.and_false]))
            clear hle
            go_upto_region 6 with (fail)
            refine wp_region_bw (by kernel_rfl) (by kernel_rfl) ?_
            repeat (go_big_quiet_step ((go_at_call 34; exact calls_bw (HPF.out _ (BW.h _)))))
            refine wpQuiet_nil ?_
            rintro _ ⟨pq, rfl⟩
            clear R1 R2 R8
            have HB2 := hid (estep HW.out.2 pq.h)
            go_wp2_with fail
            go_returns
            exact ⟨by rw [HE.out]; rfl, HB2.out⟩
      · obtain rfl : i = n := by omega
        have hkd : decide ((i : Int) < (i : Int)) = false := by simp
        have HE := hid (show z = true by
          rw [← H.out, HC.out]
          have := HW.out.1
          rwa [List.take_of_length_le (by rw [List.length_map]; have := HNU.out; omega)] at this)
        go_wp2_with fail
        go_returns
        exact ⟨by rw [HE.out]; rfl, HW.out.2⟩
  · have hd : decide ((40 : Int) < ((U.length : Nat) : Int)) = true := decide_eq_true (by omega)
    have HE := hid (show z = false by rw [← H.out]; exact fewRu_big (by rw [List.length_map]; exact h40))
    go_enter Try.func26, Try.ntmps26
    go_wp2_with fail
    go_returns
    exact ⟨by rw [HE.out]; rfl, Below.refl _ _⟩
end Go.Proofs.Ytgkegpdmidcmoaa
