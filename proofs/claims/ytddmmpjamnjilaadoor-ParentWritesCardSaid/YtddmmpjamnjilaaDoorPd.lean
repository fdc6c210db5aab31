import Derived.Test.YtddmmpjamnjilaaDoorPc
namespace Go.Proofs.YtddmmpjamnjilaaDoor
set_option linter.unusedVariables false
set_option linter.unusedSimpArgs false
open Go.RowKit Go.Joins

/-- The first k pieces are as they must be, and these are their numbers. -/
def Up (l : List UInt8) (k : Int) (c0 c1 c2 c3 c4 : Nat) : Prop :=
  (1 ≤ k → pcOk l 0 2 true = true ∧ c0 = (pc l 0 2).1) ∧ (2 ≤ k → pcOk l 3 16 false = true ∧ c1 = (pc l 3 16).1) ∧ (3 ≤ k → pcOk l 19 16 true = true ∧ c2 = (pc l 19 16).1) ∧ (4 ≤ k → pcOk l 36 16 true = true ∧ c3 = (pc l 36 16).1) ∧ (5 ≤ k → pcOk l 53 2 false = true ∧ c4 = (pc l 53 2).1)
def offP (k : Int) : Nat := if k = 0 then 0 else if k = 1 then 3 else if k = 2 then 19 else if k = 3 then 36 else if k = 4 then 53 else 55
theorem pcOk_no {l : List UInt8} {a n : Nat} {m : Bool} (h : ¬ (pc l a n).2 = 0) : pcOk l a n m = false := by rw [pcOk, decide_eq_false h]; rfl
theorem pcOk_no2 {l : List UInt8} {a n : Nat} (h : ¬ l[a + n]? = some 45) : pcOk l a n true = false := by rw [pcOk, decide_eq_false h]; simp
theorem pcOk_yes {l : List UInt8} {a n : Nat} (h : (pc l a n).2 = 0) (h2 : l[a + n]? = some 45) : pcOk l a n true = true := by rw [pcOk, decide_eq_true h, decide_eq_true h2]; rfl
theorem pcOk_yes2 {l : List UInt8} {a n : Nat} (h : (pc l a n).2 = 0) : pcOk l a n false = true := by rw [pcOk, decide_eq_true h]; rfl
theorem cutOk_no0 {l : List UInt8} (h : pcOk l 0 2 true = false) : cutOk l = false := by rw [cutOk, h]; rfl
theorem cutOk_no1 {l : List UInt8} (h : pcOk l 3 16 false = false) : cutOk l = false := by rw [cutOk, h]; simp
theorem cutOk_no2 {l : List UInt8} (h : pcOk l 19 16 true = false) : cutOk l = false := by rw [cutOk, h]; simp
theorem cutOk_no3 {l : List UInt8} (h : pcOk l 36 16 true = false) : cutOk l = false := by rw [cutOk, h]; simp
theorem cutOk_no4 {l : List UInt8} (h : pcOk l 53 2 false = false) : cutOk l = false := by rw [cutOk, h]; simp
/-- What cut answers: the numbers, where all pieces are as they must be. -/
def cutV (l : List UInt8) (e : Ending) : Prop := ∃ c0 c1 c2 c3 c4 : Nat, ∃ r : List UInt8, e = .returned (.tuple #[.agg #[.int .u64 c0, .int .u64 c1, .int .u64 c2, .int .u64 c3, .int .u64 c4], .string (bs r), .bool (decide (55 ≤ l.length) && cutOk l)]) ∧
  ((decide (55 ≤ l.length) && cutOk l) = true → c0 = (pc l 0 2).1 ∧ c1 = (pc l 3 16).1 ∧ c2 = (pc l 19 16).1 ∧ c3 = (pc l 36 16).1 ∧ c4 = (pc l 53 2).1 ∧ r = l.drop 55)
theorem cutV_no {l : List UInt8} {c0 c1 c2 c3 c4 : Nat} (h : (decide (55 ≤ l.length) && cutOk l) = false) : cutV l (.returned (.tuple #[.agg #[.int .u64 c0, .int .u64 c1, .int .u64 c2, .int .u64 c3, .int .u64 c4], .string (bs []), .bool false])) :=
  ⟨c0, c1, c2, c3, c4, [], by rw [h], fun h' => by rw [h] at h'; cases h'⟩
theorem idx7_0 (w : World) : (Instr.index 60 (.agg #[.int .i64 2, .string (bs [45]), .int .i64 16, .string (bs []), .int .i64 16, .string (bs [45]), .int .i64 16, .string (bs [45]), .int .i64 2, .string (bs [])]) (.int .i64 0)).run Tryd.prog w = .ok (.agg #[.int .i64 2, .string (bs [45])]) w := by kernel_rfl
theorem idx7_1 (w : World) : (Instr.index 60 (.agg #[.int .i64 2, .string (bs [45]), .int .i64 16, .string (bs []), .int .i64 16, .string (bs [45]), .int .i64 16, .string (bs [45]), .int .i64 2, .string (bs [])]) (.int .i64 1)).run Tryd.prog w = .ok (.agg #[.int .i64 16, .string (bs [])]) w := by kernel_rfl
theorem idx7_2 (w : World) : (Instr.index 60 (.agg #[.int .i64 2, .string (bs [45]), .int .i64 16, .string (bs []), .int .i64 16, .string (bs [45]), .int .i64 16, .string (bs [45]), .int .i64 2, .string (bs [])]) (.int .i64 2)).run Tryd.prog w = .ok (.agg #[.int .i64 16, .string (bs [45])]) w := by kernel_rfl
theorem idx7_3 (w : World) : (Instr.index 60 (.agg #[.int .i64 2, .string (bs [45]), .int .i64 16, .string (bs []), .int .i64 16, .string (bs [45]), .int .i64 16, .string (bs [45]), .int .i64 2, .string (bs [])]) (.int .i64 3)).run Tryd.prog w = .ok (.agg #[.int .i64 16, .string (bs [45])]) w := by kernel_rfl
theorem idx7_4 (w : World) : (Instr.index 60 (.agg #[.int .i64 2, .string (bs [45]), .int .i64 16, .string (bs []), .int .i64 16, .string (bs [45]), .int .i64 16, .string (bs [45]), .int .i64 2, .string (bs [])]) (.int .i64 4)).run Tryd.prog w = .ok (.agg #[.int .i64 2, .string (bs [])]) w := by kernel_rfl
theorem cp_gen (s p : List UInt8) (w : World) : Calls Tryd.prog 55 #[.string (bs s), .string (bs p)] w fun e w' => e = .returned (.tuple #[.string (bs (Lib.trimPrefix s p)), .bool (Lib.hasPrefix s p)]) ∧ w' = w :=
  (lib_cutPrefix s p w).mono fun e w' ⟨a, b⟩ => ⟨a, b.symm⟩
set_option maxRecDepth 100000 in
set_option maxHeartbeats 4000000 in
theorem parcut_any (l : List UInt8) (w : World) (hs : l.length ≤ 140737488351232) (HT : Hid (Pce w)) :
    Calls Tryd.prog 31 #[.string (bs l)] w fun e w' => cutV l e ∧ Below w.heap.size w w' := by
  by_cases hl : (l.length : Int) < 55
  · have HF := hid (show (decide (55 ≤ l.length) && cutOk l) = false by rw [decide_eq_false (by omega)]; rfl)
    go_enter Tryd.func31, Tryd.ntmps31
    go_wp2_with fail
    go_returns
    exact ⟨cutV_no HF.out, by go_grown⟩
  have t0 : w.cell? ⟨0, 0, none⟩ = some (.int .i64 2) := HT.out.cell 0
  have t1 : w.cell? ⟨0, 1, none⟩ = some (.string (bs [45])) := HT.out.cell 1
  have t2 : w.cell? ⟨0, 2, none⟩ = some (.int .i64 16) := HT.out.cell 2
  have t3 : w.cell? ⟨0, 3, none⟩ = some (.string (bs [])) := HT.out.cell 3
  have t4 : w.cell? ⟨0, 4, none⟩ = some (.int .i64 16) := HT.out.cell 4
  have t5 : w.cell? ⟨0, 5, none⟩ = some (.string (bs [45])) := HT.out.cell 5
  have t6 : w.cell? ⟨0, 6, none⟩ = some (.int .i64 16) := HT.out.cell 6
  have t7 : w.cell? ⟨0, 7, none⟩ = some (.string (bs [45])) := HT.out.cell 7
  have t8 : w.cell? ⟨0, 8, none⟩ = some (.int .i64 2) := HT.out.cell 8
  have t9 : w.cell? ⟨0, 9, none⟩ = some (.string (bs [])) := HT.out.cell 9
  have hg0 := lt_of_cell t0
  go_enter Tryd.func31, Tryd.ntmps31
  go_wp2_with fail
  clear t0 t1 t2 t3 t4 t5 t6 t7 t8 t9 hg0 HT
  go_loopw [0, 16] (fun s0 i wr => ∃ k : Int, ∃ c0 c1 c2 c3 c4 : Nat, ∃ s' : List UInt8, (k = 0 ∨ k = 1 ∨ k = 2 ∨ k = 3 ∨ k = 4 ∨ k = 5) ∧ i = .int .i64 k ∧ s0 = .string (bs s') ∧ Hid (s' = l.drop (offP k) ∧ Up l k c0 c1 c2 c3 c4 ∧ Below w.heap.size w wr) ∧ C5 wr w.heap.size (.int .u64 c0) (.int .u64 c1) (.int .u64 c2) (.int .u64 c3) (.int .u64 c4)) (fun _ i _ => (5 - intOf i).toNat)
  case atStart => exact ⟨0, 0, 0, 0, 0, 0, l, by omega, rfl, rfl, hid ⟨rfl, ⟨fun h => absurd h (by omega), fun h => absurd h (by omega), fun h => absurd h (by omega), fun h => absurd h (by omega), fun h => absurd h (by omega)⟩, by go_grown⟩, C5.new _ _ _ _ _ _ _⟩
  case round =>
    obtain ⟨k, c0, c1, c2, c3, c4, s', hk, rfl, rfl, HU, hc⟩ := hrel
    have HC := hid hc
    obtain ⟨k0, k1, k2, k3, k4, f0, f1, f2, f3, f4⟩ := hc
    have hg1 : w.heap.size < wr.heap.size := lt_of_cell k0
    rcases hk with rfl | rfl | rfl | rfl | rfl | rfl
    · have hS : s' = l.drop 0 := by rw [HU.out.1]; rfl
      have hlen : s'.length = l.length - 0 := by rw [hS, List.length_drop]
      have hn1 : 2 ≤ s'.length := by omega
      have hn2 : (2 : Int) ≤ (s'.length : Int) := by omega
      have hn3 : s'.length ≤ 140737488351232 := by omega
      have hn4 : (s'.take 2).length ≤ 140737488351232 := by rw [List.length_take]; omega
      obtain ⟨x, ex, hp⟩ : ∃ x ex, unhexS (s'.take 2) = (x, ex) := ⟨_, _, rfl⟩
      have HPC := hid (show pc l 0 2 = (x, ex) by rw [pc, ← hS]; exact hp)
      have HX := hid hp
      have x1 : (bs s').extract 0 2 = bs (s'.take 2) := by rw [bs_extract]; simp
      have x2 : (bs s').extract 2 s'.length = bs (s'.drop 2) := by rw [bs_extract, List.take_of_length_le (by simp)]
      have HAT := hid (show (s'.drop 2)[0]? = l[2]? by rw [hS, List.drop_drop, List.getElem?_drop])
      have HD1 := hid (show s'.drop 3 = l.drop 3 by rw [hS, List.drop_drop])
      clear hp hS hlen
      have hix := idx7_0
      by_cases e0 : ex = 0
      rotate_left
      · have hb : (ex != 0) = true := by simpa using e0
        have HF := hid (show (decide (55 ≤ l.length) && cutOk l) = false by rw [cutOk_no0 (pcOk_no (by rw [HPC.out]; exact e0))]; simp)
        clear e0
        go_wp2_with fail
        refine (unhex_at _ _ hn4 HX).mono ?_
        rintro e w1 ⟨rfl, rfl⟩
        go_wp2_with fail
        go_quiet ((go_at_call 55; exact Calls.quiet_of_same (cp_gen (s'.drop 2) [45] _)))
        go_wp2_with fail
        (try simp only [Exit.inBlock, Exit.then])
        refine bodyPost_ret (by simp [results, Tryd.results31, go_sem, hg1, k0, k1, k2, k3, k4, f0, f1, f2, f3, f4]; try rfl) rfl ?_
        exact ⟨cutV_no HF.out, by have := HU.out.2.2; go_grown; all_goals (refine below_drewN ?_ _; go_grown)⟩
      subst e0
      by_cases e1 : (s'.drop 2)[0]? = some 45
      rotate_left
      · have HM := hid e1
        have HF := hid (show (decide (55 ≤ l.length) && cutOk l) = false by rw [cutOk_no0 (pcOk_no2 (by rw [← HAT.out]; exact e1))]; simp)
        clear e1
        go_wp2_with fail
        refine (unhex_at _ _ hn4 HX).mono ?_
        rintro e w1 ⟨rfl, rfl⟩
        go_wp2_with fail
        go_quiet ((go_at_call 55; exact Calls.quiet_of_same (cp_miss _ _ HM)))
        go_wp2_with fail
        (try simp only [Exit.inBlock, Exit.then])
        refine bodyPost_ret (by simp [results, Tryd.results31, go_sem, hg1, k0, k1, k2, k3, k4, f0, f1, f2, f3, f4]; try rfl) rfl ?_
        exact ⟨cutV_no HF.out, by have := HU.out.2.2; go_grown; all_goals (refine below_drewN ?_ _; go_grown)⟩
      have HM := hid e1
      clear e1
      have HO := hid (show pcOk l 0 2 true = true from pcOk_yes (by rw [HPC.out]) (by rw [← HAT.out]; exact HM.out))
      go_wp2_with fail
      refine (unhex_at _ _ hn4 HX).mono ?_
      rintro e w1 ⟨rfl, rfl⟩
      go_wp2_with fail
      go_quiet ((go_at_call 55; exact Calls.quiet_of_same (cp_hit _ _ HM)))
      go_wp2_with fail
      go_roundw
      case rel =>
        have hw := (Below.refl wr.heap.size wr).alloc (Nat.le_refl _)
        refine ⟨1, x, c1, c2, c3, c4, s'.drop 3, by omega, rfl, rfl, hid ⟨HD1.out, ⟨fun _ => ⟨HO.out, by rw [HPC.out]⟩, fun h => absurd h (by omega), fun h => absurd h (by omega), fun h => absurd h (by omega), fun h => absurd h (by omega)⟩, ?_⟩, ?_⟩
        · have := HU.out.2.2; go_grown; all_goals (refine below_drewN ?_ _; go_grown)
        · exact C5.set0 (HC.out.below (by go_grown; all_goals (refine below_drewN ?_ _; go_grown))) _
      case measure => simp [intOf]
    · have hS : s' = l.drop 3 := by rw [HU.out.1]; rfl
      have hlen : s'.length = l.length - 3 := by rw [hS, List.length_drop]
      have hn1 : 16 ≤ s'.length := by omega
      have hn2 : (16 : Int) ≤ (s'.length : Int) := by omega
      have hn3 : s'.length ≤ 140737488351232 := by omega
      have hn4 : (s'.take 16).length ≤ 140737488351232 := by rw [List.length_take]; omega
      obtain ⟨x, ex, hp⟩ : ∃ x ex, unhexS (s'.take 16) = (x, ex) := ⟨_, _, rfl⟩
      have HPC := hid (show pc l 3 16 = (x, ex) by rw [pc, ← hS]; exact hp)
      have HX := hid hp
      have x1 : (bs s').extract 0 16 = bs (s'.take 16) := by rw [bs_extract]; simp
      have x2 : (bs s').extract 16 s'.length = bs (s'.drop 16) := by rw [bs_extract, List.take_of_length_le (by simp)]
      have HAT := hid (show (s'.drop 16)[0]? = l[19]? by rw [hS, List.drop_drop, List.getElem?_drop])
      have HD1 := hid (show s'.drop 16 = l.drop 19 by rw [hS, List.drop_drop])
      clear hp hS hlen
      have hix := idx7_1
      by_cases e0 : ex = 0
      rotate_left
      · have hb : (ex != 0) = true := by simpa using e0
        have HF := hid (show (decide (55 ≤ l.length) && cutOk l) = false by rw [cutOk_no1 (pcOk_no (by rw [HPC.out]; exact e0))]; simp)
        clear e0
        go_wp2_with fail
        refine (unhex_at _ _ hn4 HX).mono ?_
        rintro e w1 ⟨rfl, rfl⟩
        go_wp2_with fail
        go_quiet ((go_at_call 55; exact Calls.quiet_of_same (cp_gen (s'.drop 16) [] _)))
        go_wp2_with fail
        (try simp only [Exit.inBlock, Exit.then])
        refine bodyPost_ret (by simp [results, Tryd.results31, go_sem, hg1, k0, k1, k2, k3, k4, f0, f1, f2, f3, f4]; try rfl) rfl ?_
        exact ⟨cutV_no HF.out, by have := HU.out.2.2; go_grown; all_goals (refine below_drewN ?_ _; go_grown)⟩
      subst e0
      have HO := hid (show pcOk l 3 16 false = true from pcOk_yes2 (by rw [HPC.out]))
      go_wp2_with fail
      refine (unhex_at _ _ hn4 HX).mono ?_
      rintro e w1 ⟨rfl, rfl⟩
      go_wp2_with fail
      go_quiet ((go_at_call 55; exact Calls.quiet_of_same (cp_none _ _)))
      go_wp2_with fail
      go_roundw
      case rel =>
        have hw := (Below.refl wr.heap.size wr).alloc (Nat.le_refl _)
        refine ⟨2, c0, x, c2, c3, c4, s'.drop 16, by omega, rfl, rfl, hid ⟨HD1.out, ⟨fun _ => HU.out.2.1.1 (by omega), fun _ => ⟨HO.out, by rw [HPC.out]⟩, fun h => absurd h (by omega), fun h => absurd h (by omega), fun h => absurd h (by omega)⟩, ?_⟩, ?_⟩
        · have := HU.out.2.2; go_grown; all_goals (refine below_drewN ?_ _; go_grown)
        · exact C5.set1 (HC.out.below (by go_grown; all_goals (refine below_drewN ?_ _; go_grown))) _
      case measure => simp [intOf]
    · have hS : s' = l.drop 19 := by rw [HU.out.1]; rfl
      have hlen : s'.length = l.length - 19 := by rw [hS, List.length_drop]
      have hn1 : 16 ≤ s'.length := by omega
      have hn2 : (16 : Int) ≤ (s'.length : Int) := by omega
      have hn3 : s'.length ≤ 140737488351232 := by omega
      have hn4 : (s'.take 16).length ≤ 140737488351232 := by rw [List.length_take]; omega
      obtain ⟨x, ex, hp⟩ : ∃ x ex, unhexS (s'.take 16) = (x, ex) := ⟨_, _, rfl⟩
      have HPC := hid (show pc l 19 16 = (x, ex) by rw [pc, ← hS]; exact hp)
      have HX := hid hp
      have x1 : (bs s').extract 0 16 = bs (s'.take 16) := by rw [bs_extract]; simp
      have x2 : (bs s').extract 16 s'.length = bs (s'.drop 16) := by rw [bs_extract, List.take_of_length_le (by simp)]
      have HAT := hid (show (s'.drop 16)[0]? = l[35]? by rw [hS, List.drop_drop, List.getElem?_drop])
      have HD1 := hid (show s'.drop 17 = l.drop 36 by rw [hS, List.drop_drop])
      clear hp hS hlen
      have hix := idx7_2
      by_cases e0 : ex = 0
      rotate_left
      · have hb : (ex != 0) = true := by simpa using e0
        have HF := hid (show (decide (55 ≤ l.length) && cutOk l) = false by rw [cutOk_no2 (pcOk_no (by rw [HPC.out]; exact e0))]; simp)
        clear e0
        go_wp2_with fail
        refine (unhex_at _ _ hn4 HX).mono ?_
        rintro e w1 ⟨rfl, rfl⟩
        go_wp2_with fail
        go_quiet ((go_at_call 55; exact Calls.quiet_of_same (cp_gen (s'.drop 16) [45] _)))
        go_wp2_with fail
        (try simp only [Exit.inBlock, Exit.then])
        refine bodyPost_ret (by simp [results, Tryd.results31, go_sem, hg1, k0, k1, k2, k3, k4, f0, f1, f2, f3, f4]; try rfl) rfl ?_
        exact ⟨cutV_no HF.out, by have := HU.out.2.2; go_grown; all_goals (refine below_drewN ?_ _; go_grown)⟩
      subst e0
      by_cases e1 : (s'.drop 16)[0]? = some 45
      rotate_left
      · have HM := hid e1
        have HF := hid (show (decide (55 ≤ l.length) && cutOk l) = false by rw [cutOk_no2 (pcOk_no2 (by rw [← HAT.out]; exact e1))]; simp)
        clear e1
        go_wp2_with fail
        refine (unhex_at _ _ hn4 HX).mono ?_
        rintro e w1 ⟨rfl, rfl⟩
        go_wp2_with fail
        go_quiet ((go_at_call 55; exact Calls.quiet_of_same (cp_miss _ _ HM)))
        go_wp2_with fail
        (try simp only [Exit.inBlock, Exit.then])
        refine bodyPost_ret (by simp [results, Tryd.results31, go_sem, hg1, k0, k1, k2, k3, k4, f0, f1, f2, f3, f4]; try rfl) rfl ?_
        exact ⟨cutV_no HF.out, by have := HU.out.2.2; go_grown; all_goals (refine below_drewN ?_ _; go_grown)⟩
      have HM := hid e1
      clear e1
      have HO := hid (show pcOk l 19 16 true = true from pcOk_yes (by rw [HPC.out]) (by rw [← HAT.out]; exact HM.out))
      go_wp2_with fail
      refine (unhex_at _ _ hn4 HX).mono ?_
      rintro e w1 ⟨rfl, rfl⟩
      go_wp2_with fail
      go_quiet ((go_at_call 55; exact Calls.quiet_of_same (cp_hit _ _ HM)))
      go_wp2_with fail
      go_roundw
      case rel =>
        have hw := (Below.refl wr.heap.size wr).alloc (Nat.le_refl _)
        refine ⟨3, c0, c1, x, c3, c4, s'.drop 17, by omega, rfl, rfl, hid ⟨HD1.out, ⟨fun _ => HU.out.2.1.1 (by omega), fun _ => HU.out.2.1.2.1 (by omega), fun _ => ⟨HO.out, by rw [HPC.out]⟩, fun h => absurd h (by omega), fun h => absurd h (by omega)⟩, ?_⟩, ?_⟩
        · have := HU.out.2.2; go_grown; all_goals (refine below_drewN ?_ _; go_grown)
        · exact C5.set2 (HC.out.below (by go_grown; all_goals (refine below_drewN ?_ _; go_grown))) _
      case measure => simp [intOf]
    · have hS : s' = l.drop 36 := by rw [HU.out.1]; rfl
      have hlen : s'.length = l.length - 36 := by rw [hS, List.length_drop]
      have hn1 : 16 ≤ s'.length := by omega
      have hn2 : (16 : Int) ≤ (s'.length : Int) := by omega
      have hn3 : s'.length ≤ 140737488351232 := by omega
      have hn4 : (s'.take 16).length ≤ 140737488351232 := by rw [List.length_take]; omega
      obtain ⟨x, ex, hp⟩ : ∃ x ex, unhexS (s'.take 16) = (x, ex) := ⟨_, _, rfl⟩
      have HPC := hid (show pc l 36 16 = (x, ex) by rw [pc, ← hS]; exact hp)
      have HX := hid hp
      have x1 : (bs s').extract 0 16 = bs (s'.take 16) := by rw [bs_extract]; simp
      have x2 : (bs s').extract 16 s'.length = bs (s'.drop 16) := by rw [bs_extract, List.take_of_length_le (by simp)]
      have HAT := hid (show (s'.drop 16)[0]? = l[52]? by rw [hS, List.drop_drop, List.getElem?_drop])
      have HD1 := hid (show s'.drop 17 = l.drop 53 by rw [hS, List.drop_drop])
      clear hp hS hlen
      have hix := idx7_3
      by_cases e0 : ex = 0
      rotate_left
      · have hb : (ex != 0) = true := by simpa using e0
        have HF := hid (show (decide (55 ≤ l.length) && cutOk l) = false by rw [cutOk_no3 (pcOk_no (by rw [HPC.out]; exact e0))]; simp)
        clear e0
        go_wp2_with fail
        refine (unhex_at _ _ hn4 HX).mono ?_
        rintro e w1 ⟨rfl, rfl⟩
        go_wp2_with fail
        go_quiet ((go_at_call 55; exact Calls.quiet_of_same (cp_gen (s'.drop 16) [45] _)))
        go_wp2_with fail
        (try simp only [Exit.inBlock, Exit.then])
        refine bodyPost_ret (by simp [results, Tryd.results31, go_sem, hg1, k0, k1, k2, k3, k4, f0, f1, f2, f3, f4]; try rfl) rfl ?_
        exact ⟨cutV_no HF.out, by have := HU.out.2.2; go_grown; all_goals (refine below_drewN ?_ _; go_grown)⟩
      subst e0
      by_cases e1 : (s'.drop 16)[0]? = some 45
      rotate_left
      · have HM := hid e1
        have HF := hid (show (decide (55 ≤ l.length) && cutOk l) = false by rw [cutOk_no3 (pcOk_no2 (by rw [← HAT.out]; exact e1))]; simp)
        clear e1
        go_wp2_with fail
        refine (unhex_at _ _ hn4 HX).mono ?_
        rintro e w1 ⟨rfl, rfl⟩
        go_wp2_with fail
        go_quiet ((go_at_call 55; exact Calls.quiet_of_same (cp_miss _ _ HM)))
        go_wp2_with fail
        (try simp only [Exit.inBlock, Exit.then])
        refine bodyPost_ret (by simp [results, Tryd.results31, go_sem, hg1, k0, k1, k2, k3, k4, f0, f1, f2, f3, f4]; try rfl) rfl ?_
        exact ⟨cutV_no HF.out, by have := HU.out.2.2; go_grown; all_goals (refine below_drewN ?_ _; go_grown)⟩
      have HM := hid e1
      clear e1
      have HO := hid (show pcOk l 36 16 true = true from pcOk_yes (by rw [HPC.out]) (by rw [← HAT.out]; exact HM.out))
      go_wp2_with fail
      refine (unhex_at _ _ hn4 HX).mono ?_
      rintro e w1 ⟨rfl, rfl⟩
      go_wp2_with fail
      go_quiet ((go_at_call 55; exact Calls.quiet_of_same (cp_hit _ _ HM)))
      go_wp2_with fail
      go_roundw
      case rel =>
        have hw := (Below.refl wr.heap.size wr).alloc (Nat.le_refl _)
        refine ⟨4, c0, c1, c2, x, c4, s'.drop 17, by omega, rfl, rfl, hid ⟨HD1.out, ⟨fun _ => HU.out.2.1.1 (by omega), fun _ => HU.out.2.1.2.1 (by omega), fun _ => HU.out.2.1.2.2.1 (by omega), fun _ => ⟨HO.out, by rw [HPC.out]⟩, fun h => absurd h (by omega)⟩, ?_⟩, ?_⟩
        · have := HU.out.2.2; go_grown; all_goals (refine below_drewN ?_ _; go_grown)
        · exact C5.set3 (HC.out.below (by go_grown; all_goals (refine below_drewN ?_ _; go_grown))) _
      case measure => simp [intOf]
    · have hS : s' = l.drop 53 := by rw [HU.out.1]; rfl
      have hlen : s'.length = l.length - 53 := by rw [hS, List.length_drop]
      have hn1 : 2 ≤ s'.length := by omega
      have hn2 : (2 : Int) ≤ (s'.length : Int) := by omega
      have hn3 : s'.length ≤ 140737488351232 := by omega
      have hn4 : (s'.take 2).length ≤ 140737488351232 := by rw [List.length_take]; omega
      obtain ⟨x, ex, hp⟩ : ∃ x ex, unhexS (s'.take 2) = (x, ex) := ⟨_, _, rfl⟩
      have HPC := hid (show pc l 53 2 = (x, ex) by rw [pc, ← hS]; exact hp)
      have HX := hid hp
      have x1 : (bs s').extract 0 2 = bs (s'.take 2) := by rw [bs_extract]; simp
      have x2 : (bs s').extract 2 s'.length = bs (s'.drop 2) := by rw [bs_extract, List.take_of_length_le (by simp)]
      have HAT := hid (show (s'.drop 2)[0]? = l[55]? by rw [hS, List.drop_drop, List.getElem?_drop])
      have HD1 := hid (show s'.drop 2 = l.drop 55 by rw [hS, List.drop_drop])
      clear hp hS hlen
      have hix := idx7_4
      by_cases e0 : ex = 0
      rotate_left
      · have hb : (ex != 0) = true := by simpa using e0
        have HF := hid (show (decide (55 ≤ l.length) && cutOk l) = false by rw [cutOk_no4 (pcOk_no (by rw [HPC.out]; exact e0))]; simp)
        clear e0
        go_wp2_with fail
        refine (unhex_at _ _ hn4 HX).mono ?_
        rintro e w1 ⟨rfl, rfl⟩
        go_wp2_with fail
        go_quiet ((go_at_call 55; exact Calls.quiet_of_same (cp_gen (s'.drop 2) [] _)))
        go_wp2_with fail
        (try simp only [Exit.inBlock, Exit.then])
        refine bodyPost_ret (by simp [results, Tryd.results31, go_sem, hg1, k0, k1, k2, k3, k4, f0, f1, f2, f3, f4]; try rfl) rfl ?_
        exact ⟨cutV_no HF.out, by have := HU.out.2.2; go_grown; all_goals (refine below_drewN ?_ _; go_grown)⟩
      subst e0
      have HO := hid (show pcOk l 53 2 false = true from pcOk_yes2 (by rw [HPC.out]))
      go_wp2_with fail
      refine (unhex_at _ _ hn4 HX).mono ?_
      rintro e w1 ⟨rfl, rfl⟩
      go_wp2_with fail
      go_quiet ((go_at_call 55; exact Calls.quiet_of_same (cp_none _ _)))
      go_wp2_with fail
      go_roundw
      case rel =>
        have hw := (Below.refl wr.heap.size wr).alloc (Nat.le_refl _)
        refine ⟨5, c0, c1, c2, c3, x, s'.drop 2, by omega, rfl, rfl, hid ⟨HD1.out, ⟨fun _ => HU.out.2.1.1 (by omega), fun _ => HU.out.2.1.2.1 (by omega), fun _ => HU.out.2.1.2.2.1 (by omega), fun _ => HU.out.2.1.2.2.2.1 (by omega), fun _ => ⟨HO.out, by rw [HPC.out]⟩⟩, ?_⟩, ?_⟩
        · have := HU.out.2.2; go_grown; all_goals (refine below_drewN ?_ _; go_grown)
        · exact C5.set4 (HC.out.below (by go_grown; all_goals (refine below_drewN ?_ _; go_grown))) _
      case measure => simp [intOf]
    · have HF := hid (show (decide (55 ≤ l.length) && cutOk l) = true by
        obtain ⟨u0, u1, u2, u3, u4⟩ := HU.out.2.1
        rw [decide_eq_true (by omega), cutOk, (u0 (by omega)).1, (u1 (by omega)).1, (u2 (by omega)).1, (u3 (by omega)).1, (u4 (by omega)).1]; rfl)
      go_wp2_with fail
      (try simp only [Exit.inBlock, Exit.then])
      refine bodyPost_ret (by simp [results, Tryd.results31, go_sem, hg1, k0, k1, k2, k3, k4, f0, f1, f2, f3, f4]; try rfl) rfl ?_
      obtain ⟨u0, u1, u2, u3, u4⟩ := HU.out.2.1
      refine ⟨⟨c0, c1, c2, c3, c4, s', by rw [HF.out], fun _ => ⟨(u0 (by omega)).2, (u1 (by omega)).2, (u2 (by omega)).2, (u3 (by omega)).2, (u4 (by omega)).2, HU.out.1⟩⟩, ?_⟩
      have := HU.out.2.2
      go_grown
end Go.Proofs.YtddmmpjamnjilaaDoor
