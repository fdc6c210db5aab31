import Derived.Test.YtmdlkoigjacipaaRl
import Derived.Test.YtmdlkoigjacipaaRb
namespace Go.Proofs.Ytmdlkoigjacipaa
set_option linter.unusedVariables false
set_option linter.unusedSimpArgs false
open Go.RowKit Go.Joins

def k12a : Ru := ⟨1, none, 0, 0, [], [97], 0, 0, 0, 0, 0, [], 0⟩
def k12b (g : Nat) : Ru := ⟨5, some ⟨g, 0, none⟩, 1, 1, [⟨2, [], [120]⟩], [98], 0, 0, 0, 0, 0, [], 0⟩
def k12c : Ru := ⟨5, none, 0, 0, [], [99], 0, 0, 0, 0, 0, [], 0⟩
def k12U (g : Nat) : List Ru := [k12a, k12b g, k12c]
def k12C (g : Nat) : Array Value := #[.int .i64 1, .slice none 0 0, .string (bs [97]), .int .i64 0, .int .i64 0, .int .i64 0, .int .i64 0, .int .i64 0, .string (bs []), .int .i64 0, .int .i64 5, .slice (some ⟨g, 0, none⟩) 1 1, .string (bs [98]), .int .i64 0, .int .i64 0, .int .i64 0, .int .i64 0, .int .i64 0, .string (bs []), .int .i64 0, .int .i64 5, .slice none 0 0, .string (bs [99]), .int .i64 0, .int .i64 0, .int .i64 0, .int .i64 0, .int .i64 0, .string (bs []), .int .i64 0]
theorem k12_row (g i j : Nat) (hi : i < 3) (hj : j < 10) : (k12C g)[i * 10 + j]? = (encR ((k12U g)[i]'hi))[j]? := by
  match i, hi, j, hj with
  | 0, _, 0, _ => rfl
  | 0, _, 1, _ => rfl
  | 0, _, 2, _ => rfl
  | 0, _, 3, _ => rfl
  | 0, _, 4, _ => rfl
  | 0, _, 5, _ => rfl
  | 0, _, 6, _ => rfl
  | 0, _, 7, _ => rfl
  | 0, _, 8, _ => rfl
  | 0, _, 9, _ => rfl
  | 1, _, 0, _ => rfl
  | 1, _, 1, _ => rfl
  | 1, _, 2, _ => rfl
  | 1, _, 3, _ => rfl
  | 1, _, 4, _ => rfl
  | 1, _, 5, _ => rfl
  | 1, _, 6, _ => rfl
  | 1, _, 7, _ => rfl
  | 1, _, 8, _ => rfl
  | 1, _, 9, _ => rfl
  | 2, _, 0, _ => rfl
  | 2, _, 1, _ => rfl
  | 2, _, 2, _ => rfl
  | 2, _, 3, _ => rfl
  | 2, _, 4, _ => rfl
  | 2, _, 5, _ => rfl
  | 2, _, 6, _ => rfl
  | 2, _, 7, _ => rfl
  | 2, _, 8, _ => rfl
  | 2, _, 9, _ => rfl
theorem k12_rv (w : World) (g gp : Nat) (h : Bk w g 39 (k12C gp)) (hp : Bk w gp 23 #[.int .i64 2, .string (bs []), .string (bs [120])]) (hg : g < w.heap.size) (hgp : gp < w.heap.size) : RV w (.slice (some ⟨g, 0, none⟩) 3 3) (k12U gp) := by
  refine ⟨some ⟨g, 0, none⟩, 3, rfl, fun i hi => ⟨g, 0, rfl, hg, fun j hj => ?_⟩, fun u hu => ?_, by simp, by simp [k12U], by simp [k12U]⟩
  · rw [Nat.zero_add, Bk.cell h]
    exact k12_row gp i j hi hj
  · simp only [k12U, List.mem_cons, List.mem_nil_iff, or_false] at hu
    rcases hu with rfl | rfl | rfl
    · exact PV.nil _ _
    · refine ⟨some ⟨gp, 0, none⟩, 1, rfl, fun k hk => ?_, by simp, by simp [k12b], by simp [k12b]⟩
      match k, hk with
      | 0, _ => exact ⟨gp, 0, rfl, hgp, Bk.cell hp 0, Bk.cell hp 1, Bk.cell hp 2⟩
    · exact PV.nil _ _
theorem k12_ord (g : Nat) : ordB rkS ((k12U g).map Ru.sem) = [(k12b 0).sem, k12c.sem, k12a.sem] := by
  show ordB rkS [k12a.sem, (k12b 0).sem, k12c.sem] = _
  decide +kernel
set_option maxRecDepth 100000 in
set_option maxHeartbeats 16000000 in
theorem known12_any (w : World) : Calls Try.prog 19 #[] w fun e w' => e = .returned (.bool true) ∧ Below w.heap.size w w' := by
  have hnot := enot
  have c0 : (ByteArray.mk #[]) = bs [] := rfl
  have c1 : (ByteArray.mk #[97]) = bs [97] := rfl
  have c2 : (ByteArray.mk #[98]) = bs [98] := rfl
  have c3 : (ByteArray.mk #[99]) = bs [99] := rfl
  have c4 : (ByteArray.mk #[120]) = bs [120] := rfl
  have hb0 := enew w (.cells #[.int .i64 2, .string (bs []), .string (bs [120])] 23)
  have hp0 := Bk.new w 23 #[.int .i64 2, .string (bs []), .string (bs [120])]
  have hb1 := enew (w.alloc (.cells #[.int .i64 2, .string (bs []), .string (bs [120])] 23)) (.cells #[.int .i64 1, .slice none 0 0, .string (bs [97]), .int .i64 0, .int .i64 0, .int .i64 0, .int .i64 0, .int .i64 0, .string (bs []), .int .i64 0, .int .i64 5, .slice (some ⟨w.heap.size, 0, none⟩) 1 1, .string (bs [98]), .int .i64 0, .int .i64 0, .int .i64 0, .int .i64 0, .int .i64 0, .string (bs []), .int .i64 0, .int .i64 5, .slice none 0 0, .string (bs [99]), .int .i64 0, .int .i64 0, .int .i64 0, .int .i64 0, .int .i64 0, .string (bs []), .int .i64 0] 39)
  have hk1 := Bk.new (w.alloc (.cells #[.int .i64 2, .string (bs []), .string (bs [120])] 23)) 39 #[.int .i64 1, .slice none 0 0, .string (bs [97]), .int .i64 0, .int .i64 0, .int .i64 0, .int .i64 0, .int .i64 0, .string (bs []), .int .i64 0, .int .i64 5, .slice (some ⟨w.heap.size, 0, none⟩) 1 1, .string (bs [98]), .int .i64 0, .int .i64 0, .int .i64 0, .int .i64 0, .int .i64 0, .string (bs []), .int .i64 0, .int .i64 5, .slice none 0 0, .string (bs [99]), .int .i64 0, .int .i64 0, .int .i64 0, .int .i64 0, .int .i64 0, .string (bs []), .int .i64 0]
  rw [World.size_alloc] at hk1
  have hp1 := hp0.up hb1
  have hg : w.heap.size + 1 < ((w.alloc (.cells #[.int .i64 2, .string (bs []), .string (bs [120])] 23)).alloc (.cells #[.int .i64 1, .slice none 0 0, .string (bs [97]), .int .i64 0, .int .i64 0, .int .i64 0, .int .i64 0, .int .i64 0, .string (bs []), .int .i64 0, .int .i64 5, .slice (some ⟨w.heap.size, 0, none⟩) 1 1, .string (bs [98]), .int .i64 0, .int .i64 0, .int .i64 0, .int .i64 0, .int .i64 0, .string (bs []), .int .i64 0, .int .i64 5, .slice none 0 0, .string (bs [99]), .int .i64 0, .int .i64 0, .int .i64 0, .int .i64 0, .int .i64 0, .string (bs []), .int .i64 0] 39)).heap.size := by simp
  have hgp : w.heap.size < ((w.alloc (.cells #[.int .i64 2, .string (bs []), .string (bs [120])] 23)).alloc (.cells #[.int .i64 1, .slice none 0 0, .string (bs [97]), .int .i64 0, .int .i64 0, .int .i64 0, .int .i64 0, .int .i64 0, .string (bs []), .int .i64 0, .int .i64 5, .slice (some ⟨w.heap.size, 0, none⟩) 1 1, .string (bs [98]), .int .i64 0, .int .i64 0, .int .i64 0, .int .i64 0, .int .i64 0, .string (bs []), .int .i64 0, .int .i64 5, .slice none 0 0, .string (bs [99]), .int .i64 0, .int .i64 0, .int .i64 0, .int .i64 0, .int .i64 0, .string (bs []), .int .i64 0] 39)).heap.size := by simp; omega
  have hv := k12_rv _ _ _ hk1 hp1 hg hgp
  have hB := hid (estep hb0 hb1)
  have hU : GX encR 10 ((w.alloc (.cells #[.int .i64 2, .string (bs []), .string (bs [120])] 23)).alloc (.cells #[.int .i64 1, .slice none 0 0, .string (bs [97]), .int .i64 0, .int .i64 0, .int .i64 0, .int .i64 0, .int .i64 0, .string (bs []), .int .i64 0, .int .i64 5, .slice (some ⟨w.heap.size, 0, none⟩) 1 1, .string (bs [98]), .int .i64 0, .int .i64 0, .int .i64 0, .int .i64 0, .int .i64 0, .string (bs []), .int .i64 0, .int .i64 5, .slice none 0 0, .string (bs [99]), .int .i64 0, .int .i64 0, .int .i64 0, .int .i64 0, .int .i64 0, .string (bs []), .int .i64 0] 39)) (· < ((w.alloc (.cells #[.int .i64 2, .string (bs []), .string (bs [120])] 23)).alloc (.cells #[.int .i64 1, .slice none 0 0, .string (bs [97]), .int .i64 0, .int .i64 0, .int .i64 0, .int .i64 0, .int .i64 0, .string (bs []), .int .i64 0, .int .i64 5, .slice (some ⟨w.heap.size, 0, none⟩) 1 1, .string (bs [98]), .int .i64 0, .int .i64 0, .int .i64 0, .int .i64 0, .int .i64 0, .string (bs []), .int .i64 0, .int .i64 5, .slice none 0 0, .string (bs [99]), .int .i64 0, .int .i64 0, .int .i64 0, .int .i64 0, .int .i64 0, .string (bs []), .int .i64 0] 39)).heap.size) (some ⟨w.heap.size + 1, 0, none⟩) (k12U w.heap.size) := by
    obtain ⟨A, c, e, h, -⟩ := hv
    injection e with e
    exact e ▸ h
  have hP : RP ((w.alloc (.cells #[.int .i64 2, .string (bs []), .string (bs [120])] 23)).alloc (.cells #[.int .i64 1, .slice none 0 0, .string (bs [97]), .int .i64 0, .int .i64 0, .int .i64 0, .int .i64 0, .int .i64 0, .string (bs []), .int .i64 0, .int .i64 5, .slice (some ⟨w.heap.size, 0, none⟩) 1 1, .string (bs [98]), .int .i64 0, .int .i64 0, .int .i64 0, .int .i64 0, .int .i64 0, .string (bs []), .int .i64 0, .int .i64 5, .slice none 0 0, .string (bs [99]), .int .i64 0, .int .i64 0, .int .i64 0, .int .i64 0, .int .i64 0, .string (bs []), .int .i64 0] 39)) (· < ((w.alloc (.cells #[.int .i64 2, .string (bs []), .string (bs [120])] 23)).alloc (.cells #[.int .i64 1, .slice none 0 0, .string (bs [97]), .int .i64 0, .int .i64 0, .int .i64 0, .int .i64 0, .int .i64 0, .string (bs []), .int .i64 0, .int .i64 5, .slice (some ⟨w.heap.size, 0, none⟩) 1 1, .string (bs [98]), .int .i64 0, .int .i64 0, .int .i64 0, .int .i64 0, .int .i64 0, .string (bs []), .int .i64 0, .int .i64 5, .slice none 0 0, .string (bs [99]), .int .i64 0, .int .i64 0, .int .i64 0, .int .i64 0, .int .i64 0, .string (bs []), .int .i64 0] 39)).heap.size) (k12U w.heap.size) := by
    obtain ⟨A, c, e, h, h2, -⟩ := hv
    exact h2
  clear hb0 hp0 hb1 hk1 hp1 hg hgp
  go_enter Try.func19, Try.ntmps19
  go_upto_region 2 with (fail)
  generalize (w.alloc (.cells #[.int .i64 2, .string (bs []), .string (bs [120])] 23)).alloc (.cells #[.int .i64 1, .slice none 0 0, .string (bs [97]), .int .i64 0, .int .i64 0, .int .i64 0, .int .i64 0, .int .i64 0, .string (bs []), .int .i64 0, .int .i64 5, .slice (some ⟨w.heap.size, 0, none⟩) 1 1, .string (bs [98]), .int .i64 0, .int .i64 0, .int .i64 0, .int .i64 0, .int .i64 0, .string (bs []), .int .i64 0, .int .i64 5, .slice none 0 0, .string (bs [99]), .int .i64 0, .int .i64 0, .int .i64 0, .int .i64 0, .int .i64 0, .string (bs []), .int .i64 0] 39) = w0 at *
  go_wp2_with fail
  refine (order_any _ _ _ hv (by simp [k12U]) (by simp [k12U, k12a, k12b, k12c])).mono ?_
  rintro e w1 ⟨y, V, rfl, ⟨hV, hVe⟩, hb1⟩
  rw [k12_ord] at hVe
  obtain ⟨v1, v2, v3, rfl⟩ : ∃ v1 v2 v3, V = [v1, v2, v3] := by
    match V, hVe with
    | [a, b, c], _ => exact ⟨a, b, c, rfl⟩
    | [], h => simp at h
    | [_], h => simp at h
    | [_, _], h => simp at h
    | _ :: _ :: _ :: _ :: _, h => simp at h
  simp only [List.map_cons, List.map_nil, List.cons.injEq, and_true] at hVe
  obtain ⟨e1, e2, e3⟩ := hVe
  obtain ⟨A, c, rfl, hX, -⟩ := hV
  obtain ⟨bb, oo, rfl, -⟩ := hX.some_of (i := 0) (by simp)
  obtain ⟨-, -, t1, -⟩ := rank_cell hX (i := 0) rfl
  obtain ⟨-, -, t2, -⟩ := rank_cell hX (i := 1) rfl
  obtain ⟨-, -, t3, -⟩ := rank_cell hX (i := 2) rfl
  rw [show v1.tg = [98] from congrArg Rs.tg e1] at t1
  rw [show v2.tg = [99] from congrArg Rs.tg e2] at t2
  rw [show v3.tg = [97] from congrArg Rs.tg e3] at t3
  have HU1 := hid (hU.up hb1)
  have HP1 := hid (hP.up hb1)
  have HB1 := hid (estep hB.out hb1)
  have HFI := hid (fun (w2 : World) (h2 : Below w1.heap.size w1 w2) (h : List UInt8) (q : Option Nat) (hq : Hid (fstK (fun u => allE u.ps [] h [] []) (k12U w.heap.size) 3 = q)) => first_any _ 3 (k12U w.heap.size) [] h [] [] (.slice none 0 0) [] w2 (HU1.out.up h2) (HP1.out.up h2) (by simp [k12U]) ⟨none, 0, rfl, fun k hk => absurd hk (by simp)⟩ (by simp) hq)
  have HF1 : Hid (∀ (w2 : World), Below w1.heap.size w1 w2 → Calls Try.prog 28 #[.slice (some ⟨w.heap.size + 1, 0, none⟩) 3 3, .agg #[.string (bs []), .string (bs [120]), .string (bs []), .slice none 0 0, .string (bs [])]] w2 fun e w' => e = .returned (.int .i64 1) ∧ Below w2.heap.size w2 w') := hid (fun w2 h2 => HFI.out w2 h2 [120] (some 1) (hid rfl))
  have HF2 : Hid (∀ (w2 : World), Below w1.heap.size w1 w2 → Calls Try.prog 28 #[.slice (some ⟨w.heap.size + 1, 0, none⟩) 3 3, .agg #[.string (bs []), .string (bs []), .string (bs []), .slice none 0 0, .string (bs [])]] w2 fun e w' => e = .returned (.int .i64 2) ∧ Below w2.heap.size w2 w') := hid (fun w2 h2 => HFI.out w2 h2 [] (some 2) (hid rfl))
  have HF3 : Hid (∀ (w2 : World), Calls Try.prog 28 #[.slice none 0 0, .agg #[.string (bs []), .string (bs []), .string (bs []), .slice none 0 0, .string (bs [])]] w2 fun e w' => e = .returned (.int .i64 (-1)) ∧ Below w2.heap.size w2 w') := hid (fun w2 => first_any none 0 [] [] [] [] [] (.slice none 0 0) [] w2 (fun i hi => absurd hi (by simp)) (fun u hu => absurd hu (by simp)) (by simp) ⟨none, 0, rfl, fun k hk => absurd hk (by simp)⟩ (by simp) (q := none) (hid rfl))
  have HHT : Hid (∀ (w2 : World), Calls Try.prog 23 #[.agg #[.int .i64 1, .slice none 0 0, .string (bs [97]), .int .i64 0, .int .i64 0, .int .i64 0, .int .i64 0, .int .i64 0, .string (bs []), .int .i64 0], .agg #[.string (bs []), .string (bs []), .string (bs []), .slice none 0 0, .string (bs [])]] w2 fun e w' => e = .returned (.bool true) ∧ Below w2.heap.size w2 w') := hid (fun w2 => hits_any k12a [] [] [] [] (.slice none 0 0) [] w2 (PV.nil _ _) ⟨none, 0, rfl, fun k hk => absurd hk (by simp)⟩ (by simp) (hid rfl))
  have HCK : Hid (∀ (w2 : World) (A : Option Addr) (names : List (List UInt8)) (hN : STexts w2 (· < w2.heap.size) A names) (z : Int) (hl : names.length ≤ 1) (hz : Hid (chkR k12a.sem names = z)), Calls Try.prog 20 #[.agg #[.int .i64 1, .slice none 0 0, .string (bs [97]), .int .i64 0, .int .i64 0, .int .i64 0, .int .i64 0, .int .i64 0, .string (bs []), .int .i64 0], .slice A names.length names.length] w2 fun e w' => e = .returned (.int .i64 z) ∧ Below w2.heap.size w2 w') := hid (fun w2 A names hN z hl hz => rcheck_any k12a A names.length names w2 (PV.nil _ _) ⟨by simp [smallP, k12a, Ru.sem], by simp [k12a, Ru.sem], by simp [k12a, Ru.sem], by simp [k12a, Ru.sem]⟩ hN (by omega) hz)
  clear hX e1 e2 e3 hU hP hv
  go_upto_region 3 with (fail)
  go_wp2_with fail
  refine (HF1.out _ (Below.refl _ _)).mono ?_
  rintro e w2 ⟨rfl, hb2⟩
  have HB2 := hid hb2
  clear hb2 t1 t2 t3
  go_wp2_with fail
  refine (HF2.out _ HB2.out).mono ?_
  rintro e w3 ⟨rfl, hb3⟩
  have HB3 := hid (estep HB2.out hb3)
  clear hb3
  go_wp2_with fail
  refine (HF3.out _).mono ?_
  rintro e w4 ⟨rfl, hb4⟩
  have HB4 := hid (estep HB3.out hb4)
  clear hb4
  have hrow : GX encR 10 w4 (· < w4.heap.size) (some ⟨w.heap.size + 1, 0, none⟩) (k12U w.heap.size) := HU1.out.up HB4.out
  obtain ⟨r0, r1, r2, r3, r4, r5, r6, r7, r8, r9⟩ := rank_cell hrow (i := 0) (u := k12a) rfl
  simp only [k12a, Nat.zero_mul, Nat.zero_add] at r0 r1 r2 r3 r4 r5 r6 r7 r8 r9
  clear hrow
  go_wp2_with fail
  refine (HHT.out _).mono ?_
  rintro e w5 ⟨rfl, hb5⟩
  have HB5 := hid (estep HB4.out hb5)
  clear hb5 r0 r1 r2 r3 r4 r5 r6 r7 r8 r9
  have hrow : GX encR 10 w5 (· < w5.heap.size) (some ⟨w.heap.size + 1, 0, none⟩) (k12U w.heap.size) := HU1.out.up HB5.out
  obtain ⟨r0, r1, r2, r3, r4, r5, r6, r7, r8, r9⟩ := rank_cell hrow (i := 0) (u := k12a) rfl
  simp only [k12a, Nat.zero_mul, Nat.zero_add] at r0 r1 r2 r3 r4 r5 r6 r7 r8 r9
  clear hrow
  have hbN := enew w5 (.cells #[.string (bs [97])] 9)
  have hkN := Bk.new w5 9 #[.string (bs [97])]
  have hSN : STexts (w5.alloc (.cells #[.string (bs [97])] 9)) (· < (w5.alloc (.cells #[.string (bs [97])] 9)).heap.size) (some ⟨w5.heap.size, 0, none⟩) [[97]] := fun k hk => by
    match k, hk with
    | 0, _ => exact ⟨⟨w5.heap.size, 0, none⟩, rfl, by simp, Bk.cell hkN 0⟩
  have HB6 := hid (estep HB5.out hbN)
  clear hbN hkN
  go_wp2_with fail
  refine (HCK.out _ (some ⟨w5.heap.size, 0, none⟩) [[97]] hSN 0 (by simp) (hid (by decide +kernel))).mono ?_
  rintro e w7 ⟨rfl, hb7⟩
  have HB7 := hid (estep HB6.out hb7)
  clear hb7 hSN r0 r1 r2 r3 r4 r5 r6 r7 r8 r9
  have hrow : GX encR 10 w7 (· < w7.heap.size) (some ⟨w.heap.size + 1, 0, none⟩) (k12U w.heap.size) := HU1.out.up HB7.out
  obtain ⟨r0, r1, r2, r3, r4, r5, r6, r7, r8, r9⟩ := rank_cell hrow (i := 0) (u := k12a) rfl
  simp only [k12a, Nat.zero_mul, Nat.zero_add] at r0 r1 r2 r3 r4 r5 r6 r7 r8 r9
  clear hrow
  go_wp2_with fail
  refine (HCK.out _ none [] (fun k hk => absurd hk (by simp)) 7 (by simp) (hid (by decide +kernel))).mono ?_
  rintro e w8 ⟨rfl, hb8⟩
  have HB8 := hid (estep HB7.out hb8)
  go_wp2_with fail
  go_returns
  exact ⟨rfl, estep HB1.out HB8.out⟩
end Go.Proofs.Ytmdlkoigjacipaa
