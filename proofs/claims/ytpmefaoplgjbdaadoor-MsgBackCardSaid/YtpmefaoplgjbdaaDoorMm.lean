import Derived.Test.YtpmefaoplgjbdaaDoorMk
import Derived.Test.YtpmefaoplgjbdaaDoorMf
namespace Go.Proofs.YtpmefaoplgjbdaaDoor
set_option linter.unusedVariables false
set_option linter.unusedSimpArgs false
open Go.RowKit Go.Joins

def nF (l : List UInt8) : Int := l.foldl (fun n c => 10 * n + (c.toNat : Int) - 48) 0
theorem nF_take (l : List UInt8) (k : Nat) (h : k < l.length) : nF (l.take (k + 1)) = 10 * nF (l.take k) + (l[k].toNat : Int) - 48 := by
  rw [nF, nF, take_snoc _ _ h, List.foldl_append]; rfl
theorem nR_nF (l : List UInt8) : nR l = nF (l.take 3) := rfl
set_option maxRecDepth 100000 in
set_option maxHeartbeats 4000000 in
theorem rreadback_any (s : List UInt8) (hl : s.length ≤ 100000) (w : World) :
    Calls Tryd.prog 21 #[.string (bs s)] w fun e w' => (∃ A c, e = .returned (.tuple #[.agg #[.int .i64 (readP s).1.1, .slice A (readP s).1.2.1.length c, .string (bs (readP s).1.2.2)], .int .i64 (readP s).2]) ∧ HReads w' (· < w'.heap.size) A (readP s).1.2.1) ∧ Below w.heap.size w w' := by
  obtain ⟨line, beh, f1, e1⟩ : ∃ a b f, cutR [10] s = (a, b, f) := ⟨_, _, _, rfl⟩
  obtain ⟨L, b, ok, e4⟩ : ∃ a f b, rhR 17 [] beh = (a, f, b) := ⟨_, _, _, rfl⟩
  have l1 := cutR_len [10] s
  rw [e1] at l1
  have hline : line.length ≤ s.length := l1.1
  have hbeh : beh.length ≤ s.length := l1.2
  have l4 := rhR_small 17 [] beh 100000 (by omega) (by simp) (by simp)
  rw [e4] at l4
  have hL : L.length ≤ 17 := l4.1
  have hb : b.length ≤ 100000 := l4.2.1
  have HLs := hid (show ∀ x ∈ L, x.1.length ≤ 140737488351232 ∧ x.2.length ≤ 140737488351232 from fun x hx => by have := l4.2.2 x hx; omega)
  clear l1 l4
  have HP := hid (show readP s = if ok = true ∧ chkP (nR line) L b = 0 ∧ text3 (d3 (nR line).toNat) L b = s then ((nR line, L, b), 0) else (noP, 3) by
    rw [← readPR_eq, e1]; simp only [e4])
  have HE1' := hid e1
  have HE4' := hid e4
  clear e1 e4
  have hnot := notB'
  have h5 := hid (Three.new w (.int .i64 0) (.slice none 0 0) (.string (bs [])) 32)
  have hw1 := hid (below_new' w (.cells #[.int .i64 0, .slice none 0 0, .string (bs [])] 32))
  have c1 : (ByteArray.mk #[10]) = bs [10] := rfl
  go_enter Tryd.func21, Tryd.ntmps21
  go_wp2_with fail
  generalize hv1 : w.alloc (.cells #[.int .i64 0, .slice none 0 0, .string (ByteArray.mk #[])] 32) = v1 at *
  have HV1 := hid (show v1.heap.size = w.heap.size + 1 by rw [← hv1]; simp)
  have hv1' : w.alloc (.cells #[.int .i64 0, .slice none 0 0, .string (bs [])] 32) = v1 := hv1
  rw [hv1'] at h5 hw1
  clear hv1 hv1'
  have hC := rcut_any s [10] (by simp) (by simp) hl v1
  rw [HE1'.out] at hC
  refine hC.mono ?_
  rintro e w2 ⟨rfl, hb2⟩
  have H2 := hid hb2
  clear hb2 hC
  go_wp2_with fail
  go_loop [7, 8] (fun n0 i => ∃ (k : Nat) (n : Int), k ≤ line.length ∧ k ≤ 3 ∧ i = .int .i64 k ∧ n0 = .int .i64 n ∧ Hid (n = nF (line.take k) ∧ (k = 0 → n = 0) ∧ (k ≤ 1 → -48 ≤ n ∧ n ≤ 207) ∧ (k ≤ 2 → -528 ≤ n ∧ n ≤ 2277) ∧ -5328 ≤ n ∧ n ≤ 22977)) (fun _ i => 3 - (intOf i).toNat)
  case atStart => exact ⟨0, 0, by omega, by omega, rfl, rfl, hid ⟨rfl, by omega, by omega, by omega, by omega, by omega⟩⟩
  case round =>
    obtain ⟨k, n, hk, hk3, rfl, rfl, HK⟩ := hrel
    by_cases hlt : k < line.length ∧ k < 3
    · obtain ⟨hlt1, hlt2⟩ := hlt
      have hc := UInt8.toNat_lt line[k]
      have hn : -528 ≤ n ∧ n ≤ 2277 := HK.out.2.2.2.1 (by omega)
      have hmul : IntKind.i64.wrap (10 * n) = 10 * n := IntWalk.i64_in _ (by omega)
      have hc1 : IntKind.i64.wrap (line[k].toNat : Int) = (line[k].toNat : Int) := IntWalk.i64_in _ (by omega)
      have ha1 : IntKind.i64.wrap (10 * n + (line[k].toNat : Int)) = 10 * n + (line[k].toNat : Int) := IntWalk.i64_in _ (by omega)
      have ha2 : IntKind.i64.wrap (10 * n + (line[k].toNat : Int) - 48) = 10 * n + (line[k].toNat : Int) - 48 := IntWalk.i64_in _ (by omega)
      have hk3i : (k : Int) < 3 := by omega
      have HT := hid (nF_take line k hlt1)
      go_wp2_with fail
      go_round
      case rel =>
        have h0 := HK.out.2.1
        have h1 := HK.out.2.2.1
        exact ⟨k + 1, _, by omega, by omega, by go_num, rfl, hid ⟨by rw [HT.out, ← HK.out.1], by omega, fun h => by have := h0 (by omega); omega, fun h => by have := h1 (by omega); omega, by omega, by omega⟩⟩
      case measure => simp [intOf]; omega
    · have HN := hid (show n = nR line by
        rw [HK.out.1, nR_nF]
        by_cases h : k = 3
        · rw [h]
        · rw [List.take_of_length_le (by omega), List.take_of_length_le (by omega)])
      have hnb := HK.out.2.2.2.2
      have hguard : ¬ (k : Int) < (line.length : Int) ∨ ((k : Int) < (line.length : Int) ∧ ¬ (k : Int) < 3) := by omega
      clear hlt
      have hC := rheads_any beh (by omega) w2
      rw [HE4'.out] at hC
      have HC := hid hC
      clear hC
      rcases hguard with hg | ⟨hg, hg3⟩
      all_goals
        go_wp2_with fail
        refine HC.out.mono ?_
        rintro e w6 ⟨⟨v, rfl, hown⟩, hb2⟩
        obtain ⟨A, cap, rfl, hRr⟩ := hown.reads
        have H6 := hid (below_step' H2.out hb2)
        have HO6 := hid hown
        have hs56 : w2.heap.size ≤ w6.heap.size := hb2.size
        have hs15 : v1.heap.size ≤ w2.heap.size := H2.out.size
        clear hb2 hown hRr
        have hv1s := HV1.out
        have HF := hid (H6.out.alloc (by omega) (.cells #[.int .i64 n, .slice A L.length cap, .string (bs b)] 32))
        have HO7 := hid (HO6.out.alloc (.cells #[.int .i64 n, .slice A L.length cap, .string (bs b)] 32))
        have hrr : HReads (w6.alloc (.cells #[.int .i64 n, .slice A L.length cap, .string (bs b)] 32)) (· < (w6.alloc (.cells #[.int .i64 n, .slice A L.length cap, .string (bs b)] 32)).heap.size) A L := by
          obtain ⟨A2, c2, e, hr⟩ := HO7.out.reads
          injection e with e1 e2 e3
          subst e1
          exact hr.imp fun b hb => hb.2
        have hCK := rwriteback_any n A cap L b _ hrr (by omega) HLs.out (by omega)
        have h14 := hid (three_new w6 (.int .i64 n) (.slice A L.length cap) (.string (bs b)) 32)
        clear hrr hv1s
        obtain ⟨T, c, hwr⟩ : ∃ T c, wrP n L b = (T, c) := ⟨_, _, rfl⟩
        rw [hwr] at hCK
        have HWR := hid hwr
        have HCK := hid hCK
        clear hCK hwr
        go_wp2_with fail
        refine HCK.out.mono ?_
        rintro e w8 ⟨rfl, hb8⟩
        have hv1s := HV1.out
        have HF8 := hid (HF.out.trans (hb8.mono HF.out.size))
        have HO8 := hid (HO7.out.below hb8)
        obtain ⟨y0, y1, y2, _⟩ := keep_three h14.out hb8
        have hs8 : w6.heap.size + 1 ≤ w8.heap.size := by have := hb8.size; simpa using this
        have h58 := h5.out.below HF8.out (by omega)
        obtain ⟨⟨x0, x1, x2, k0, k1, k2⟩, hf⟩ := h58
        have q0 := hf 0
        have q1 := hf 1
        have q2 := hf 2
        clear hf hb8 hv1s
        by_cases hgood : ok = true ∧ c = 0 ∧ T = s
        · obtain ⟨rfl, rfl, rfl⟩ := hgood
          have HZ := hid (show readP T = ((n, L, b), 0) by
            have hw := HWR.out
            rw [wrP] at hw
            by_cases hc : chkP n L b = 0
            · rw [if_pos hc] at hw
              simp only [Prod.mk.injEq] at hw
              rw [HP.out, ← HN.out, if_pos ⟨rfl, hc, hw.1⟩]
            · rw [if_neg hc] at hw
              simp only [Prod.mk.injEq] at hw
              exact absurd hw.2 hc)
          obtain ⟨a0, a1, a2⟩ := three_set (.int .i64 n) (.slice A L.length cap) (.string (bs b)) k0 k1 k2
          have HA := hid (And.intro a0 (And.intro a1 a2))
          clear a0 a1 a2
          go_wp2_with fail
          (try simp only [Exit.inBlock, Exit.then])
          refine bodyPost_ret (by simp [results, Tryd.results21, go_sem, HA.out.1, HA.out.2.1, HA.out.2.2]; try rfl) rfl ?_
          rw [HZ.out]
          have hv1s := HV1.out
          have hown := HO8.out.sole (Sole.set3 w.heap.size w8 (.int .i64 n) (.slice A L.length cap) (.string (bs b))) (by omega)
          obtain ⟨A2, c2, e, hr⟩ := hown.reads
          injection e with e1 e2 e3
          subst e1
          exact ⟨⟨A, cap, rfl, hr.imp fun b hb => hb.2⟩, Sole.below (hw1.out.trans (HF8.out.mono (by omega))) (Sole.set3 _ _ _ _ _) (Nat.le_refl _) (by omega)⟩
        · have HZ := hid (show readP s = (noP, 3) by
            have hw := HWR.out
            rw [HP.out, if_neg]
            rintro ⟨h1, h2, h3⟩
            rw [← HN.out] at h2 h3
            rw [wrP, if_pos h2] at hw
            simp only [Prod.mk.injEq] at hw
            exact hgood ⟨h1, hw.2.symm, by rw [← hw.1]; exact h3⟩)
          obtain ⟨a0, a1, a2⟩ := three_set (.int .i64 0) (.slice none 0 0) (.string (ByteArray.mk #[])) k0 k1 k2
          have HA := hid (And.intro a0 (And.intro a1 a2))
          clear a0 a1 a2
          have hcase : ok = false ∨ (ok = true ∧ (c != 0) = true) ∨ (ok = true ∧ c = 0 ∧ (T == s) = false) := by
            cases ok
            · exact Or.inl rfl
            · by_cases hc : c = 0
              · exact Or.inr (Or.inr ⟨rfl, hc, by simpa using fun e => hgood ⟨rfl, hc, e⟩⟩)
              · exact Or.inr (Or.inl ⟨rfl, by simpa using hc⟩)
          clear hgood
          rcases hcase with rfl | ⟨rfl, hne⟩ | ⟨rfl, rfl, hts⟩
          all_goals
            go_wp2_with fail
            (try simp only [Exit.inBlock, Exit.then])
            refine bodyPost_ret (by simp [results, Tryd.results21, go_sem, HA.out.1, HA.out.2.1, HA.out.2.2]; try rfl) rfl ?_
            rw [HZ.out]
            have hv1s := HV1.out
            exact ⟨⟨none, 0, rfl, fun k hk => absurd hk (by simp [noP])⟩, Sole.below (hw1.out.trans (HF8.out.mono (by omega))) (Sole.set3 _ _ _ _ _) (Nat.le_refl _) (by omega)⟩
end Go.Proofs.YtpmefaoplgjbdaaDoor
