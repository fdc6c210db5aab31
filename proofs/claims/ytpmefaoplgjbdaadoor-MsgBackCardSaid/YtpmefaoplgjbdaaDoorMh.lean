import Derived.Test.YtpmefaoplgjbdaaDoorMg
namespace Go.Proofs.YtpmefaoplgjbdaaDoor
set_option linter.unusedVariables false
set_option linter.unusedSimpArgs false
open Go.RowKit Go.Joins

theorem prefix_take {mark : List UInt8} : ∀ {l : List UInt8}, (l.take mark.length == mark) = mark.isPrefixOf l := fun {l} => by
  rw [Bool.eq_iff_iff, beq_iff_eq, List.isPrefixOf_iff_prefix, List.prefix_iff_eq_take]
  exact eq_comm
theorem prefix_short {mark l : List UInt8} (h : l.length < mark.length) : mark.isPrefixOf l = false := by
  cases hq : mark.isPrefixOf l with
  | false => rfl
  | true => have := (List.isPrefixOf_iff_prefix.1 hq).length_le; omega
set_option maxRecDepth 100000 in
set_option maxHeartbeats 1600000 in
theorem rcut_any (s mark : List UInt8) (hm : mark ≠ []) (hm2 : mark.length ≤ 2) (hl : s.length ≤ 100000) (w : World) :
    Calls Tryd.prog 38 #[.string (bs s), .string (bs mark)] w fun e w' => e = .returned (.tuple #[.string (bs (cutR mark s).1), .string (bs (cutR mark s).2.1), .bool (cutR mark s).2.2]) ∧ Below w.heap.size w w' := by
  have hm1 : 1 ≤ mark.length := List.length_pos_iff.2 hm
  have HM := hid hm
  clear hm
  go_enter Tryd.func38, Tryd.ntmps38
  go_wp2_with fail
  go_loop [7] (fun i => ∃ k : Nat, k ≤ s.length ∧ i = .int .i64 k ∧ Hid (∀ j, j < k → mark.isPrefixOf (s.drop j) = false)) (fun i => s.length - (intOf i).toNat)
  case atStart => exact ⟨0, by omega, rfl, hid (fun j hj => absurd hj (by omega))⟩
  case round =>
    obtain ⟨k, hk, rfl, HK⟩ := hrel
    have hadd : IntKind.i64.wrap ((k : Int) + (mark.length : Int)) = (k : Int) + (mark.length : Int) := IntWalk.i64_in _ (by omega)
    by_cases hlt : k + mark.length ≤ s.length
    · have hi0 : (0 : Int) ≤ (k : Int) := by omega
      have hi1 : (k : Int) ≤ (k : Int) + (mark.length : Int) := by omega
      have hi2 : (k : Int) + (mark.length : Int) ≤ (s.length : Int) := by omega
      have hi3 : (k : Int) ≤ (s.length : Int) := by omega
      have hi4 : (0 : Int) ≤ (k : Int) + (mark.length : Int) := by omega
      have hx : (bs s).extract k (k + mark.length) = bs ((s.drop k).take mark.length) := by rw [bs_extract]; congr 2; omega
      have hx1 : (bs s).extract 0 k = bs (s.take k) := by rw [bs_extract]; simp
      have hx2 : (bs s).extract (k + mark.length) s.length = bs (s.drop (k + mark.length)) := by rw [bs_extract, List.take_of_length_le (by simp)]
      have HX2 := hid hx2
      have hpt := prefix_take (mark := mark) (l := s.drop k)
      cases hp : mark.isPrefixOf (s.drop k)
      · have HP := hid hp
        rw [hp] at hpt
        clear hp
        go_wp2_with fail
        go_round
        case rel => exact ⟨k + 1, by omega, by go_num, hid (fun j hj => by
          by_cases e : j = k
          · subst e; exact HP.out
          · exact HK.out j (by omega))⟩
        case measure => simp [intOf]; omega
      · have HC := hid (show cutR mark s = (s.take k, s.drop (k + mark.length), true) by
          have := cutS_hit HM.out s k hp HK.out
          rw [cutR, this, if_pos rfl])
        rw [hp] at hpt
        clear hp
        go_wp2_with fail
        go_quiet (fail)
        go_wp2_with fail
        go_returns
        refine ⟨?_, below_drewN (Below.refl _ _) _⟩
        show Ending.returned (.tuple #[.string (bs (s.take k)), .string ((bs s).extract (k + mark.length) s.length), .bool true]) = _
        rw [HC.out, HX2.out]
    · have HC := hid (show cutR mark s = ([], [], false) by
        have := cutS_miss (sep := mark) s (fun j hj => by
          by_cases h : j < k
          · exact HK.out j h
          · exact prefix_short (by rw [List.length_drop]; omega))
        rw [cutR, this, if_neg (by simp)])
      have hnl : ¬ (k : Int) + (mark.length : Int) ≤ (s.length : Int) := by omega
      go_wp2_with fail
      go_returns
      exact ⟨by rw [HC.out]; rfl, Below.refl _ _⟩
theorem rhR_step (acc : List Hd) (s : List UInt8) (h : acc.length ≤ 16) : rhR (17 - acc.length) acc s = if (cutR [10] s).2.2 = false then ([], [], false)
    else if (cutR [10] s).1 = [] then (acc, (cutR [10] s).2.1, true)
    else if (cutR [58, 32] (cutR [10] s).1).2.2 = false then ([], [], false)
    else rhR (17 - (acc.length + 1)) (acc ++ [((cutR [58, 32] (cutR [10] s).1).1, (cutR [58, 32] (cutR [10] s).1).2.1)]) (cutR [10] s).2.1 := by
  have hr : ∀ sep x, (cutR sep x).2.2 = (cutS sep x).2.2 := fun sep x => by
    unfold cutR; split
    · rfl
    · rename_i h; simpa using h
  have hr1 : ∀ sep x, (cutS sep x).2.2 = true → cutR sep x = cutS sep x := fun sep x h => by rw [cutR, if_pos h]
  rw [show 17 - acc.length = (17 - (acc.length + 1)) + 1 from by omega, rhR, hr]
  cases h1 : (cutS [10] s).2.2 with
  | false => simp
  | true =>
    rw [hr1 _ _ h1]
    simp only [Bool.true_eq_false, if_false]
    split
    · rfl
    · rw [hr]
      cases h2 : (cutS [58, 32] (cutS [10] s).1).2.2 with
      | false => simp
      | true => rw [hr1 _ _ h2]
theorem cutR_len (sep s : List UInt8) : (cutR sep s).1.length ≤ s.length ∧ (cutR sep s).2.1.length ≤ s.length := by
  unfold cutR; split
  · exact cutS_len sep s
  · simp
set_option maxRecDepth 100000 in
set_option maxHeartbeats 4000000 in
theorem rheads_any (s : List UInt8) (hl : s.length ≤ 100000) (w : World) :
    Calls Tryd.prog 39 #[.string (bs s)] w fun e w' => (∃ v, e = .returned (.tuple #[v, .string (bs (rhR 17 [] s).2.1), .bool (rhR 17 [] s).2.2]) ∧ HB w' w.heap.size v (rhR 17 [] s).1) ∧ Below w.heap.size w w' := by
  have hnot := notB'
  go_enter Tryd.func39, Tryd.ntmps39
  go_wp2_with fail
  go_loopw [0, 5] (fun sv v wr => ∃ acc s', acc.length ≤ 17 ∧ sv = .string (bs s') ∧ Hid ((∃ A cap, v = .slice A acc.length cap) ∧ HB wr w.heap.size v acc ∧ Below w.heap.size w wr ∧ rhR (17 - acc.length) acc s' = rhR 17 [] s ∧ s'.length ≤ 100000)) (fun _ v _ => 17 - lenV v)
  case atStart => exact ⟨[], s, by simp, rfl, hid ⟨⟨none, 0, rfl⟩, HB.nil _ _, Below.refl _ _, rfl, hl⟩⟩
  case round =>
    obtain ⟨acc, s', h17, rfl, HW⟩ := hrel
    obtain ⟨⟨A, cap, rfl⟩, hown, hbw, hrh, hl'⟩ := HW.out
    have HRH := hid hrh
    have HO := hid (And.intro hown hbw)
    clear hown hrh hbw
    by_cases h16 : acc.length ≤ 16
    · have hle16 : (acc.length : Int) ≤ 16 := by omega
      have HST := hid (rhR_step acc s' h16)
      have HC1 := hid (fun w1 => rcut_any s' [10] (by simp) (by simp) hl' w1)
      have hln := cutR_len [10] s'
      generalize cutR [10] s' = c at *
      obtain ⟨line, behind, found⟩ := c
      have hl1 : line.length ≤ s'.length := hln.1
      have hl2 : behind.length ≤ s'.length := hln.2
      clear hln
      have c1 : (ByteArray.mk #[10]) = bs [10] := rfl
      have c2 : (ByteArray.mk #[58, 32]) = bs [58, 32] := rfl
      cases found
      · go_wp2_with fail
        refine (HC1.out _).mono ?_
        rintro e w1 ⟨rfl, hb1⟩
        go_wp2_with fail
        go_returns
        rw [← HRH.out, HST.out, if_pos trivial]
        exact ⟨⟨_, rfl, HB.nil _ _⟩, HO.out.2.trans (hb1.mono HO.out.2.size)⟩
      · by_cases h0 : line = []
        · subst h0
          go_wp2_with fail
          refine (HC1.out _).mono ?_
          rintro e w1 ⟨rfl, hb1⟩
          go_wp2_with fail
          go_returns
          rw [← HRH.out, HST.out, if_neg (by simp), if_pos trivial]
          exact ⟨⟨_, rfl, HO.out.1.below hb1⟩, HO.out.2.trans (hb1.mono HO.out.2.size)⟩
        · have hbe : (line == []) = false := by simpa using h0
          have H0 := hid h0
          clear h0
          have HLC := hid (fun w1 => rcut_any line [58, 32] (by simp) (by simp) (by omega) w1)
          generalize cutR [58, 32] line = c at *
          obtain ⟨nm, vl, named⟩ := c
          go_wp2_with fail
          refine (HC1.out _).mono ?_
          rintro e w1 ⟨rfl, hb1⟩
          have H1 := hid (And.intro (HO.out.1.below hb1) (HO.out.2.trans (hb1.mono HO.out.2.size)))
          clear hb1
          go_wp2_with fail
          refine (HLC.out _).mono ?_
          rintro e w2 ⟨rfl, hb2⟩
          have hsz : w.heap.size ≤ w1.heap.size := H1.out.2.size
          have H2 := hid (And.intro (H1.out.1.below hb2) (H1.out.2.trans (hb2.mono hsz)))
          clear hb2
          cases named
          · go_wp2_with fail
            go_returns
            rw [← HRH.out, HST.out, if_neg (by simp), if_neg H0.out, if_pos trivial]
            exact ⟨⟨_, rfl, HB.nil _ _⟩, H2.out.2⟩
          · have hsz2 : w.heap.size ≤ w2.heap.size := H2.out.2.size
            go_wp2_with (at_builtin; refine wpList_append_hd (W0 := w) rfl _ _ rfl w.heap.size _ acc (nm, vl) _ rfl (H2.out.1.alloc _) rfl ⟨by simp, by simp⟩ (by omega) (H2.out.2.alloc hsz2 _) (Nat.le_refl _) ?_)
            intro v' w3 hown hbel
            have HN := hid (And.intro hown hbel)
            obtain ⟨A3, cap3, hv3, _⟩ := hown.reads
            have HV := hid hv3
            clear hown hbel hv3
            go_wp2_with fail
            go_roundw
            case rel =>
              refine ⟨acc ++ [(nm, vl)], behind, by simp; omega, rfl, hid ⟨⟨A3, cap3, HV.out⟩, HN.out.1, HN.out.2, ?_, by omega⟩⟩
              rw [← HRH.out, HST.out, if_neg (by simp), if_neg H0.out, if_neg (by simp)]
              simp
            case measure => rw [HV.out]; simp [lenV]; omega
    · have hle16 : ¬ (acc.length : Int) ≤ 16 := by omega
      have h0 : 17 - acc.length = 0 := by omega
      have HZ := hid (show rhR 17 [] s = ([], [], false) by rw [← HRH.out, h0]; rfl)
      clear h0
      go_wp2_with fail
      go_returns
      rw [HZ.out]
      exact ⟨⟨_, rfl, HB.nil _ _⟩, HO.out.2⟩
end Go.Proofs.YtpmefaoplgjbdaaDoor
