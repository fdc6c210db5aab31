import Derived.Test.YtpmefaoplgjbdaaDoorMi
namespace Go.Proofs.YtpmefaoplgjbdaaDoor
set_option linter.unusedVariables false
set_option linter.unusedSimpArgs false
open Go.RowKit Go.Joins

theorem rhR_small : ∀ (k : Nat) (acc : List Hd) (s : List UInt8) (N : Nat), s.length ≤ N → (∀ h ∈ acc, h.1.length ≤ N ∧ h.2.length ≤ N) → acc.length + k ≤ 17 → (rhR k acc s).1.length ≤ 17 ∧ (rhR k acc s).2.1.length ≤ N ∧ ∀ h ∈ (rhR k acc s).1, h.1.length ≤ N ∧ h.2.length ≤ N
  | 0, acc, s, N, h1, h2, h3 => ⟨by simp [rhR], by simp [rhR], by simp [rhR]⟩
  | k + 1, acc, s, N, h1, h2, h3 => by
    have a := cutS_len [10] s
    have b := cutS_len [58, 32] (cutS [10] s).1
    rw [rhR]
    split
    · exact ⟨by simp, by simp, by simp⟩
    · split
      · exact ⟨by simp only []; omega, by simp only []; omega, h2⟩
      · split
        · exact ⟨by simp, by simp, by simp⟩
        · refine rhR_small k _ _ N (by omega) (fun x hx => ?_) (by simp; omega)
          rcases List.mem_append.1 hx with hx | hx
          · exact h2 x hx
          · simp at hx; subst hx; exact ⟨by simp only []; omega, by simp only []; omega⟩
set_option maxRecDepth 100000 in
set_option maxHeartbeats 4000000 in
theorem rread_any (s : List UInt8) (hl : s.length ≤ 100000) (w : World) :
    Calls Tryd.prog 19 #[.string (bs s)] w fun e w' => (∃ A c, e = .returned (.tuple #[.agg #[.string (bs (readQ s).1.1), .string (bs (readQ s).1.2.1), .string (bs (readQ s).1.2.2.1), .slice A (readQ s).1.2.2.2.1.length c, .string (bs (readQ s).1.2.2.2.2)], .int .i64 (readQ s).2]) ∧ HReads w' (· < w'.heap.size) A (readQ s).1.2.2.2.1) ∧ Below w.heap.size w w' := by
  obtain ⟨line, beh, f1, e1⟩ : ∃ a b f, cutR [10] s = (a, b, f) := ⟨_, _, _, rfl⟩
  obtain ⟨m, more, f2, e2⟩ : ∃ a b f, cutR [32] line = (a, b, f) := ⟨_, _, _, rfl⟩
  obtain ⟨h, p, f3, e3⟩ : ∃ a b f, cutR [32] more = (a, b, f) := ⟨_, _, _, rfl⟩
  obtain ⟨L, b, ok, e4⟩ : ∃ a f b, rhR 17 [] beh = (a, f, b) := ⟨_, _, _, rfl⟩
  have l1 := cutR_len [10] s
  have l2 := cutR_len [32] line
  have l3 := cutR_len [32] more
  rw [e1] at l1
  rw [e2] at l2
  rw [e3] at l3
  have hline : line.length ≤ s.length := l1.1
  have hbeh : beh.length ≤ s.length := l1.2
  have hm : m.length ≤ line.length := l2.1
  have hmore : more.length ≤ line.length := l2.2
  have hh : h.length ≤ more.length := l3.1
  have hp : p.length ≤ more.length := l3.2
  have l4 := rhR_small 17 [] beh 100000 (by omega) (by simp) (by simp)
  rw [e4] at l4
  have hL : L.length ≤ 17 := l4.1
  have hb : b.length ≤ 100000 := l4.2.1
  have HLs := hid (show ∀ x ∈ L, x.1.length ≤ 140737488351232 ∧ x.2.length ≤ 140737488351232 from fun x hx => by have := l4.2.2 x hx; omega)
  clear l1 l2 l3 l4
  have HP := hid (show readQ s = if ok = true ∧ chkQ m h p L b = 0 ∧ textQ m h p L b = s then ((m, h, p, L, b), 0) else (noQ, 3) by
    have : partsR s = ((m, h, p, L, b), ok) := by simp only [partsR, e1, e2, e3, e4]
    rw [← readR_eq, this]; rfl)
  have HE1' := hid e1
  have HE2' := hid e2
  have HE3' := hid e3
  have HE4' := hid e4
  clear e1 e2 e3 e4
  have hnot := notB'
  have h5 := hid (Five.new w (.string (bs [])) (.string (bs [])) (.string (bs [])) (.slice none 0 0) (.string (bs [])) 24)
  have hw1 := hid (below_new' w (.cells #[.string (bs []), .string (bs []), .string (bs []), .slice none 0 0, .string (bs [])] 24))
  have c1 : (ByteArray.mk #[10]) = bs [10] := rfl
  have c2 : (ByteArray.mk #[32]) = bs [32] := rfl
  have c3 : (ByteArray.mk #[]) = bs [] := rfl
  go_enter Tryd.func19, Tryd.ntmps19
  go_wp2_with fail
  generalize hv1 : w.alloc (.cells #[.string (bs []), .string (bs []), .string (bs []), .slice none 0 0, .string (bs [])] 24) = v1 at *
  have HV1 := hid (show v1.heap.size = w.heap.size + 1 by rw [← hv1]; simp)
  clear hv1
  have hC := rcut_any s [10] (by simp) (by simp) hl v1
  rw [HE1'.out] at hC
  refine hC.mono ?_
  rintro e w2 ⟨rfl, hb2⟩
  have H2 := hid hb2
  clear hb2 hC
  go_wp2_with fail
  have hC := rcut_any line [32] (by simp) (by simp) (by omega) w2
  rw [HE2'.out] at hC
  refine hC.mono ?_
  rintro e w3 ⟨rfl, hb2⟩
  have H3 := hid (below_step' H2.out hb2)
  clear hb2 hC
  go_wp2_with fail
  have hC := rcut_any more [32] (by simp) (by simp) (by omega) w3
  rw [HE3'.out] at hC
  refine hC.mono ?_
  rintro e w4 ⟨rfl, hb2⟩
  have H4 := hid (below_step' H3.out hb2)
  clear hb2 hC
  go_wp2_with fail
  have hC := rheads_any beh (by omega) w4
  rw [HE4'.out] at hC
  refine hC.mono ?_
  rintro e w6 ⟨⟨v, rfl, hown⟩, hb2⟩
  obtain ⟨A, cap, rfl, hRr⟩ := hown.reads
  have H6 := hid (below_step' H4.out hb2)
  have HO6 := hid hown
  have hs56 : w4.heap.size ≤ w6.heap.size := hb2.size
  have hs15 : v1.heap.size ≤ w4.heap.size := H4.out.size
  clear hb2 hC hown hRr
  have hv1s := HV1.out
  have HF := hid (H6.out.alloc (by omega) (.cells #[.string (bs m), .string (bs h), .string (bs p), .slice A L.length cap, .string (bs b)] 24))
  have HO7 := hid (HO6.out.alloc (.cells #[.string (bs m), .string (bs h), .string (bs p), .slice A L.length cap, .string (bs b)] 24))
  have hrr : HReads (w6.alloc (.cells #[.string (bs m), .string (bs h), .string (bs p), .slice A L.length cap, .string (bs b)] 24)) (· < (w6.alloc (.cells #[.string (bs m), .string (bs h), .string (bs p), .slice A L.length cap, .string (bs b)] 24)).heap.size) A L := by
    obtain ⟨A2, c2, e, hr⟩ := HO7.out.reads
    injection e with e1 e2 e3
    subst e1
    exact hr.imp fun b hb => hb.2
  have hCK := rwrite_any m h p A cap L b _ hrr (by omega) HLs.out (by omega) (by omega) (by omega) (by omega)
  have h14 := hid (five_new w6 (.string (bs m)) (.string (bs h)) (.string (bs p)) (.slice A L.length cap) (.string (bs b)) 24)
  clear hrr hv1s
  obtain ⟨T, c, hwr⟩ : ∃ T c, wrQ m h p L b = (T, c) := ⟨_, _, rfl⟩
  rw [hwr] at hCK
  have HWR := hid hwr
  have HCK := hid hCK
  clear hCK hwr
  go_wp2_with fail
  refine HCK.out.mono ?_
  rintro e w8 ⟨rfl, hb8⟩
  have hv1s := HV1.out
  have HF8 := hid (HF.out.trans (hb8.mono HF.out.size))
  have HO8 := hid (HO7.out.below hb8)
  obtain ⟨y0, y1, y2, y3, y4, _⟩ := keep_five h14.out hb8
  have hs8 : w6.heap.size + 1 ≤ w8.heap.size := by have := hb8.size; simpa using this
  have h58 := h5.out.below HF8.out (by omega)
  obtain ⟨⟨x0, x1, x2, x3, x4, k0, k1, k2, k3, k4⟩, hf⟩ := h58
  have q0 := hf 0
  have q1 := hf 1
  have q2 := hf 2
  have q3 := hf 3
  have q4 := hf 4
  clear hf hb8 hv1s
  by_cases hgood : ok = true ∧ c = 0 ∧ T = s
  · obtain ⟨rfl, rfl, rfl⟩ := hgood
    have HZ := hid (show readQ T = ((m, h, p, L, b), 0) by
      have hw := HWR.out
      rw [wrQ] at hw
      by_cases hc : chkQ m h p L b = 0
      · rw [if_pos hc] at hw
        simp only [Prod.mk.injEq] at hw
        rw [HP.out, if_pos ⟨rfl, hc, hw.1⟩]
      · rw [if_neg hc] at hw
        simp only [Prod.mk.injEq] at hw
        exact absurd hw.2 hc)
    obtain ⟨a0, a1, a2, a3, a4⟩ := five_set (.string (bs m)) (.string (bs h)) (.string (bs p)) (.slice A L.length cap) (.string (bs b)) k0 k1 k2 k3 k4
    have HA := hid (And.intro a0 (And.intro a1 (And.intro a2 (And.intro a3 a4))))
    clear a0 a1 a2 a3 a4
    go_wp2_with fail
    (try simp only [Exit.inBlock, Exit.then])
    refine bodyPost_ret (by simp [results, Tryd.results19, go_sem, HA.out.1, HA.out.2.1, HA.out.2.2.1, HA.out.2.2.2.1, HA.out.2.2.2.2]; try rfl) rfl ?_
    rw [HZ.out]
    have hv1s := HV1.out
    have hown := HO8.out.sole (Sole.set5 w.heap.size w8 (.string (bs m)) (.string (bs h)) (.string (bs p)) (.slice A L.length cap) (.string (bs b))) (by omega)
    obtain ⟨A2, c2, e, hr⟩ := hown.reads
    injection e with e1 e2 e3
    subst e1
    exact ⟨⟨A, cap, rfl, hr.imp fun b hb => hb.2⟩, Sole.below (hw1.out.trans (HF8.out.mono (by omega))) (Sole.set5 _ _ _ _ _ _ _) (Nat.le_refl _) (by omega)⟩
  · have HZ := hid (show readQ s = (noQ, 3) by
      have hw := HWR.out
      rw [HP.out, if_neg]
      rintro ⟨h1, h2, h3⟩
      rw [wrQ, if_pos h2] at hw
      simp only [Prod.mk.injEq] at hw
      exact hgood ⟨h1, hw.2.symm, by rw [← hw.1]; exact h3⟩)
    obtain ⟨a0, a1, a2, a3, a4⟩ := five_set (.string (bs [])) (.string (bs [])) (.string (bs [])) (.slice none 0 0) (.string (bs [])) k0 k1 k2 k3 k4
    have HA := hid (And.intro a0 (And.intro a1 (And.intro a2 (And.intro a3 a4))))
    clear a0 a1 a2 a3 a4
    have hcase : ok = false ∨ (ok = true ∧ (c != 0) = true) ∨ (ok = true ∧ c = 0 ∧ (T == s) = false) := by
      cases ok
      · exact Or.inl rfl
      · by_cases hc : c = 0
        · exact Or.inr (Or.inr ⟨rfl, hc, by simpa using fun e => hgood ⟨rfl, hc, e⟩⟩)
        · exact Or.inr (Or.inl ⟨rfl, by simpa using hc⟩)
    clear hgood
    rcases hcase with rfl | ⟨rfl, hne⟩ | ⟨rfl, rfl, hts⟩
    all_goals
      go_wp2_with fail
      (try simp only [Exit.inBlock, Exit.then])
      refine bodyPost_ret (by simp [results, Tryd.results19, go_sem, HA.out.1, HA.out.2.1, HA.out.2.2.1, HA.out.2.2.2.1, HA.out.2.2.2.2]; try rfl) rfl ?_
      rw [HZ.out]
      have hv1s := HV1.out
      exact ⟨⟨none, 0, rfl, fun k hk => absurd hk (by simp [noQ])⟩, Sole.below (hw1.out.trans (HF8.out.mono (by omega))) (Sole.set5 _ _ _ _ _ _ _) (Nat.le_refl _) (by omega)⟩
end Go.Proofs.YtpmefaoplgjbdaaDoor
