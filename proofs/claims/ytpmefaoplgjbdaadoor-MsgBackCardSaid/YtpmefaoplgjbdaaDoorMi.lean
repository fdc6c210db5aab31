import Derived.Test.YtpmefaoplgjbdaaDoorMh
namespace Go.Proofs.YtpmefaoplgjbdaaDoor
set_option linter.unusedVariables false
set_option linter.unusedSimpArgs false
open Go.RowKit Go.Joins

theorem Sole.set5 (g : Nat) (w : World) (u0 u1 u2 u3 u4 : Value) : Sole g w (((((w.setCell ⟨g, 0, none⟩ u0).setCell ⟨g, 1, none⟩ u1).setCell ⟨g, 2, none⟩ u2).setCell ⟨g, 3, none⟩ u3).setCell ⟨g, 4, none⟩ u4) :=
  ((((Sole.set _ _ _ _).trans (Sole.set _ _ _ _)).trans (Sole.set _ _ _ _)).trans (Sole.set _ _ _ _)).trans (Sole.set _ _ _ _)
theorem Sole.set3 (g : Nat) (w : World) (u0 u1 u2 : Value) : Sole g w (((w.setCell ⟨g, 0, none⟩ u0).setCell ⟨g, 1, none⟩ u1).setCell ⟨g, 2, none⟩ u2) :=
  ((Sole.set _ _ _ _).trans (Sole.set _ _ _ _)).trans (Sole.set _ _ _ _)
theorem five_set {w : World} {g : Nat} (u0 u1 u2 u3 u4 : Value) {x0 x1 x2 x3 x4 : Value} (k0 : w.cell? ⟨g, 0, none⟩ = some x0) (k1 : w.cell? ⟨g, 1, none⟩ = some x1) (k2 : w.cell? ⟨g, 2, none⟩ = some x2) (k3 : w.cell? ⟨g, 3, none⟩ = some x3) (k4 : w.cell? ⟨g, 4, none⟩ = some x4) :
    (((((w.setCell ⟨g, 0, none⟩ u0).setCell ⟨g, 1, none⟩ u1).setCell ⟨g, 2, none⟩ u2).setCell ⟨g, 3, none⟩ u3).setCell ⟨g, 4, none⟩ u4).cell? ⟨g, 0, none⟩ = some u0 ∧
    (((((w.setCell ⟨g, 0, none⟩ u0).setCell ⟨g, 1, none⟩ u1).setCell ⟨g, 2, none⟩ u2).setCell ⟨g, 3, none⟩ u3).setCell ⟨g, 4, none⟩ u4).cell? ⟨g, 1, none⟩ = some u1 ∧
    (((((w.setCell ⟨g, 0, none⟩ u0).setCell ⟨g, 1, none⟩ u1).setCell ⟨g, 2, none⟩ u2).setCell ⟨g, 3, none⟩ u3).setCell ⟨g, 4, none⟩ u4).cell? ⟨g, 2, none⟩ = some u2 ∧
    (((((w.setCell ⟨g, 0, none⟩ u0).setCell ⟨g, 1, none⟩ u1).setCell ⟨g, 2, none⟩ u2).setCell ⟨g, 3, none⟩ u3).setCell ⟨g, 4, none⟩ u4).cell? ⟨g, 3, none⟩ = some u3 ∧
    (((((w.setCell ⟨g, 0, none⟩ u0).setCell ⟨g, 1, none⟩ u1).setCell ⟨g, 2, none⟩ u2).setCell ⟨g, 3, none⟩ u3).setCell ⟨g, 4, none⟩ u4).cell? ⟨g, 4, none⟩ = some u4 := by
  refine ⟨?_, ?_, ?_, ?_, ?_⟩ <;> go_simp
theorem three_set {w : World} {g : Nat} (u0 u1 u2 : Value) {x0 x1 x2 : Value} (k0 : w.cell? ⟨g, 0, none⟩ = some x0) (k1 : w.cell? ⟨g, 1, none⟩ = some x1) (k2 : w.cell? ⟨g, 2, none⟩ = some x2) :
    (((w.setCell ⟨g, 0, none⟩ u0).setCell ⟨g, 1, none⟩ u1).setCell ⟨g, 2, none⟩ u2).cell? ⟨g, 0, none⟩ = some u0 ∧
    (((w.setCell ⟨g, 0, none⟩ u0).setCell ⟨g, 1, none⟩ u1).setCell ⟨g, 2, none⟩ u2).cell? ⟨g, 1, none⟩ = some u1 ∧
    (((w.setCell ⟨g, 0, none⟩ u0).setCell ⟨g, 1, none⟩ u1).setCell ⟨g, 2, none⟩ u2).cell? ⟨g, 2, none⟩ = some u2 := by
  refine ⟨?_, ?_, ?_⟩ <;> go_simp
/-- A variable of five cells, and of three, free to be written. -/
def Five (w : World) (g : Nat) : Prop := (∃ x0 x1 x2 x3 x4, w.cell? ⟨g, 0, none⟩ = some x0 ∧ w.cell? ⟨g, 1, none⟩ = some x1 ∧ w.cell? ⟨g, 2, none⟩ = some x2 ∧ w.cell? ⟨g, 3, none⟩ = some x3 ∧ w.cell? ⟨g, 4, none⟩ = some x4) ∧ ∀ i, w.frozen? ⟨g, i, none⟩ = false
def Three (w : World) (g : Nat) : Prop := (∃ x0 x1 x2, w.cell? ⟨g, 0, none⟩ = some x0 ∧ w.cell? ⟨g, 1, none⟩ = some x1 ∧ w.cell? ⟨g, 2, none⟩ = some x2) ∧ ∀ i, w.frozen? ⟨g, i, none⟩ = false
theorem Five.below {w w' : World} {g B : Nat} (h : Five w g) (hb : Below B w w') (hg : g < B) : Five w' g := by
  obtain ⟨⟨x0, x1, x2, x3, x4, h0, h1, h2, h3, h4⟩, hf⟩ := h
  exact ⟨⟨x0, x1, x2, x3, x4, (hb.cell hg).trans h0, (hb.cell hg).trans h1, (hb.cell hg).trans h2, (hb.cell hg).trans h3, (hb.cell hg).trans h4⟩, fun i => (frozen_of_block (hb.block g hg)).trans (hf i)⟩
theorem Three.below {w w' : World} {g B : Nat} (h : Three w g) (hb : Below B w w') (hg : g < B) : Three w' g := by
  obtain ⟨⟨x0, x1, x2, h0, h1, h2⟩, hf⟩ := h
  exact ⟨⟨x0, x1, x2, (hb.cell hg).trans h0, (hb.cell hg).trans h1, (hb.cell hg).trans h2⟩, fun i => (frozen_of_block (hb.block g hg)).trans (hf i)⟩
theorem Five.new (w : World) (x0 x1 x2 x3 x4 : Value) (t : TypeId) : Five (w.alloc (.cells #[x0, x1, x2, x3, x4] t)) w.heap.size := ⟨⟨x0, x1, x2, x3, x4, five_new w x0 x1 x2 x3 x4 t⟩, fun i => by simp⟩
theorem Three.new (w : World) (x0 x1 x2 : Value) (t : TypeId) : Three (w.alloc (.cells #[x0, x1, x2] t)) w.heap.size := ⟨⟨x0, x1, x2, three_new w x0 x1 x2 t⟩, fun i => by simp⟩
theorem rhM_small : ∀ (k : Nat) (acc : List Hd) (s : List UInt8) (N : Nat), s.length ≤ N → (∀ h ∈ acc, h.1.length ≤ N ∧ h.2.length ≤ N) → acc.length ≤ 16 → (rhM k acc s).1.length ≤ 16 ∧ (rhM k acc s).2.2.length ≤ N ∧ ∀ h ∈ (rhM k acc s).1, h.1.length ≤ N ∧ h.2.length ≤ N
  | 0, acc, s, N, h1, h2, h3 => ⟨by simp [rhM], by simp [rhM], by simp [rhM]⟩
  | k + 1, acc, s, N, h1, h2, h3 => by
    have a := cutS_len [10] s
    have b := cutS_len [58, 32] (cutS [10] s).1
    rw [rhM]
    split
    · exact ⟨h3, by simp only []; omega, h2⟩
    · split
      · exact ⟨by simp, by simp only []; omega, by simp⟩
      · rename_i h
        refine rhM_small k _ _ N (by omega) (fun x hx => ?_) (by simp; omega)
        rcases List.mem_append.1 hx with hx | hx
        · exact h2 x hx
        · simp at hx; subst hx; exact ⟨by simp only []; omega, by simp only []; omega⟩
set_option maxRecDepth 100000 in
set_option maxHeartbeats 4000000 in
theorem read_any (s : List UInt8) (hl : s.length ≤ 100000) (w : World) (E : Env w) :
    Calls Tryd.prog 18 #[.string (bs s)] w fun e w' => (∃ A c, e = .returned (.tuple #[.agg #[.string (bs (readQ s).1.1), .string (bs (readQ s).1.2.1), .string (bs (readQ s).1.2.2.1), .slice A (readQ s).1.2.2.2.1.length c, .string (bs (readQ s).1.2.2.2.2)], .int .i64 (readQ s).2]) ∧ HReads w' (· < w'.heap.size) A (readQ s).1.2.2.2.1) ∧ Below w.heap.size w w' := by
  obtain ⟨m, s1, f1, e1⟩ : ∃ a b f, cutS [32] s = (a, b, f) := ⟨_, _, _, rfl⟩
  obtain ⟨h, s2, f2, e2⟩ : ∃ a b f, cutS [32] s1 = (a, b, f) := ⟨_, _, _, rfl⟩
  obtain ⟨p, s3, f3, e3⟩ : ∃ a b f, cutS [10] s2 = (a, b, f) := ⟨_, _, _, rfl⟩
  obtain ⟨L, ok, b, e4⟩ : ∃ a f b, rhM 17 [] s3 = (a, f, b) := ⟨_, _, _, rfl⟩
  have l1 := cutS_len [32] s
  have l2 := cutS_len [32] s1
  have l3 := cutS_len [10] s2
  rw [e1] at l1
  rw [e2] at l2
  rw [e3] at l3
  have hm : m.length ≤ s.length := l1.1
  have hs1 : s1.length ≤ s.length := l1.2
  have hh : h.length ≤ s1.length := l2.1
  have hs2 : s2.length ≤ s1.length := l2.2
  have hp : p.length ≤ s2.length := l3.1
  have hs3 : s3.length ≤ s2.length := l3.2
  have l4 := rhM_small 17 [] s3 100000 (by omega) (by simp) (by simp)
  rw [e4] at l4
  have hL : L.length ≤ 16 := l4.1
  have hb : b.length ≤ 100000 := l4.2.1
  have HLs := hid (show ∀ x ∈ L, x.1.length ≤ 140737488351232 ∧ x.2.length ≤ 140737488351232 from fun x hx => by have := l4.2.2 x hx; omega)
  clear l1 l2 l3 l4
  have HP := hid (show readQ s = if ok = true ∧ chkQ m h p L b = 0 then ((m, h, p, L, b), 0) else (noQ, 3) by
    have : partsM s = ((m, h, p, L, b), ok) := by simp only [partsM, e1, e2, e3, e4]
    rw [readQ, this]; rfl)
  have HE1' := hid e1
  have HE2' := hid e2
  have HE3' := hid e3
  have HE4' := hid e4
  clear e1 e2 e3 e4
  have hnot := notB'
  have h5 := hid (Five.new w (.string (bs [])) (.string (bs [])) (.string (bs [])) (.slice none 0 0) (.string (bs [])) 24)
  have hw1 := hid (below_new' w (.cells #[.string (bs []), .string (bs []), .string (bs []), .slice none 0 0, .string (bs [])] 24))
  have c1 : (ByteArray.mk #[10]) = bs [10] := rfl
  have c2 : (ByteArray.mk #[32]) = bs [32] := rfl
  have c3 : (ByteArray.mk #[]) = bs [] := rfl
  have HE := hid E
  clear E
  go_enter Tryd.func18, Tryd.ntmps18
  go_wp2_with fail
  generalize hv1 : w.alloc (.cells #[.string (bs []), .string (bs []), .string (bs []), .slice none 0 0, .string (bs [])] 24) = v1 at *
  have HV1 := hid (show v1.heap.size = w.heap.size + 1 by rw [← hv1]; simp)
  clear hv1
  have HE1 := hid (HE.out.later hw1.out)
  refine (cutter_any s v1).mono ?_
  rintro e w2 ⟨rfl, hsc, hb2⟩
  have H2 := hid (And.intro hsc hb2)
  clear hsc hb2
  go_wp2_with fail
  have hC := cut1_any v1.heap.size s [32] (by simp) v1 w2 HE1.out H2.out.2 (Nat.le_refl _) H2.out.1 hl
  rw [HE1'.out] at hC
  refine hC.mono ?_
  rintro e w3 ⟨rfl, hsc, hso⟩
  have H3 := hid (And.intro hsc (Sole.below H2.out.2 hso (Nat.le_refl _) H2.out.2.size))
  clear hsc hso hC
  go_wp2_with fail
  have hC := cut1_any v1.heap.size s1 [32] (by simp) v1 w3 HE1.out H3.out.2 (Nat.le_refl _) H3.out.1 (by omega)
  rw [HE2'.out] at hC
  refine hC.mono ?_
  rintro e w4 ⟨rfl, hsc, hso⟩
  have H4 := hid (And.intro hsc (Sole.below H3.out.2 hso (Nat.le_refl _) H3.out.2.size))
  clear hsc hso hC
  go_wp2_with fail
  have hC := cut1_any v1.heap.size s2 [10] (by simp) v1 w4 HE1.out H4.out.2 (Nat.le_refl _) H4.out.1 (by omega)
  rw [HE3'.out] at hC
  refine hC.mono ?_
  rintro e w5 ⟨rfl, hsc, hso⟩
  have H5 := hid (And.intro hsc (Sole.below H4.out.2 hso (Nat.le_refl _) H4.out.2.size))
  clear hsc hso hC
  go_wp2_with fail
  have hC := readheads_any v1.heap.size s3 v1 w5 HE1.out H5.out.2 (Nat.le_refl _) H5.out.1 (by omega)
  rw [HE4'.out] at hC
  refine hC.mono ?_
  rintro e w6 ⟨⟨v, rfl, hown⟩, hsc, hso⟩
  obtain ⟨A, cap, rfl, hRr⟩ := hown.reads
  have H6 := hid (And.intro hsc (Sole.below H5.out.2 hso (Nat.le_refl _) H5.out.2.size))
  have HO6 := hid hown
  have hs56 : w5.heap.size ≤ w6.heap.size := hso.size
  have hs15 : v1.heap.size ≤ w5.heap.size := H5.out.2.size
  clear hsc hso hC hown hRr
  go_wp2_with fail
  refine (cut2_any v1.heap.size b w6 H6.out.1).mono ?_
  rintro e w7 ⟨rfl, rfl⟩
  cases ok
  · have HZ := hid (show readQ s = (noQ, 3) by rw [HP.out, if_neg (by simp)])
    have hv1s := HV1.out
    have h56 := h5.out.below (H6.out.2.alloc (by omega) (.cells #[.string (bs m), .string (bs h), .string (bs p), .slice A L.length cap, .string (bs b)] 24)) (by omega)
    have HF := hid (H6.out.2.alloc (by omega) (.cells #[.string (bs m), .string (bs h), .string (bs p), .slice A L.length cap, .string (bs b)] 24))
    clear hv1s
    obtain ⟨⟨x0, x1, x2, x3, x4, k0, k1, k2, k3, k4⟩, hf⟩ := h56
    have q0 := hf 0
    have q1 := hf 1
    have q2 := hf 2
    have q3 := hf 3
    have q4 := hf 4
    clear hf
    obtain ⟨a0, a1, a2, a3, a4⟩ := five_set (.string (bs [])) (.string (bs [])) (.string (bs [])) (.slice none 0 0) (.string (bs [])) k0 k1 k2 k3 k4
    have HA := hid (And.intro a0 (And.intro a1 (And.intro a2 (And.intro a3 a4))))
    clear a0 a1 a2 a3 a4
    go_wp2_with fail
    (try simp only [Exit.inBlock, Exit.then])
    refine bodyPost_ret (by simp [results, Tryd.results18, go_sem, HA.out.1, HA.out.2.1, HA.out.2.2.1, HA.out.2.2.2.1, HA.out.2.2.2.2]; try rfl) rfl ?_
    rw [HZ.out]
    have hv1s := HV1.out
    refine ⟨⟨none, 0, rfl, fun k hk => absurd hk (by simp [noQ])⟩, Sole.below (hw1.out.trans (HF.out.mono (by omega))) (Sole.set5 _ _ _ _ _ _ _) (Nat.le_refl _) (by simp; omega)⟩
  · have hv1s := HV1.out
    have HF := hid (H6.out.2.alloc (by omega) (.cells #[.string (bs m), .string (bs h), .string (bs p), .slice A L.length cap, .string (bs b)] 24))
    have HO7 := hid (HO6.out.alloc (.cells #[.string (bs m), .string (bs h), .string (bs p), .slice A L.length cap, .string (bs b)] 24))
    have hrr : HReads (w6.alloc (.cells #[.string (bs m), .string (bs h), .string (bs p), .slice A L.length cap, .string (bs b)] 24)) (· < (w6.alloc (.cells #[.string (bs m), .string (bs h), .string (bs p), .slice A L.length cap, .string (bs b)] 24)).heap.size) A L := by
      obtain ⟨A2, c2, e, hr⟩ := HO7.out.reads
      injection e with e1 e2 e3
      subst e1
      exact hr.imp fun b hb => hb.2
    have HCK := hid (check_any m h p A cap L b _ hrr (by omega) HLs.out (by omega) (by omega) (by omega) (by omega))
    have h14 := hid (five_new w6 (.string (bs m)) (.string (bs h)) (.string (bs p)) (.slice A L.length cap) (.string (bs b)) 24)
    clear hrr hv1s
    generalize chkQ m h p L b = c at *
    go_wp2_with fail
    refine HCK.out.mono ?_
    rintro e w8 ⟨rfl, hb8⟩
    have hv1s := HV1.out
    have HF8 := hid (HF.out.trans (hb8.mono HF.out.size))
    have HO8 := hid (HO7.out.below hb8)
    obtain ⟨y0, y1, y2, y3, y4, _⟩ := keep_five h14.out hb8
    have hs8 : w6.heap.size + 1 ≤ w8.heap.size := by have := hb8.size; simpa using this
    have h58 := h5.out.below HF8.out (by omega)
    obtain ⟨⟨x0, x1, x2, x3, x4, k0, k1, k2, k3, k4⟩, hf⟩ := h58
    have q0 := hf 0
    have q1 := hf 1
    have q2 := hf 2
    have q3 := hf 3
    have q4 := hf 4
    clear hf hb8 hv1s
    by_cases hc : c = 0
    · subst hc
      have HZ := hid (show readQ s = ((m, h, p, L, b), 0) by rw [HP.out, if_pos ⟨trivial, rfl⟩])
      obtain ⟨a0, a1, a2, a3, a4⟩ := five_set (.string (bs m)) (.string (bs h)) (.string (bs p)) (.slice A L.length cap) (.string (bs b)) k0 k1 k2 k3 k4
      have HA := hid (And.intro a0 (And.intro a1 (And.intro a2 (And.intro a3 a4))))
      clear a0 a1 a2 a3 a4
      go_wp2_with fail
      (try simp only [Exit.inBlock, Exit.then])
      refine bodyPost_ret (by simp [results, Tryd.results18, go_sem, HA.out.1, HA.out.2.1, HA.out.2.2.1, HA.out.2.2.2.1, HA.out.2.2.2.2]; try rfl) rfl ?_
      rw [HZ.out]
      have hv1s := HV1.out
      have hown := HO8.out.sole (Sole.set5 w.heap.size w8 (.string (bs m)) (.string (bs h)) (.string (bs p)) (.slice A L.length cap) (.string (bs b))) (by omega)
      obtain ⟨A2, c2, e, hr⟩ := hown.reads
      injection e with e1 e2 e3
      subst e1
      exact ⟨⟨A, cap, rfl, hr.imp fun b hb => hb.2⟩, Sole.below (hw1.out.trans (HF8.out.mono (by omega))) (Sole.set5 _ _ _ _ _ _ _) (Nat.le_refl _) (by omega)⟩
    · have hne : (c != 0) = true := by simpa using hc
      have HZ := hid (show readQ s = (noQ, 3) by rw [HP.out, if_neg (fun h => hc h.2)])
      clear hc
      obtain ⟨a0, a1, a2, a3, a4⟩ := five_set (.string (bs [])) (.string (bs [])) (.string (bs [])) (.slice none 0 0) (.string (bs [])) k0 k1 k2 k3 k4
      have HA := hid (And.intro a0 (And.intro a1 (And.intro a2 (And.intro a3 a4))))
      clear a0 a1 a2 a3 a4
      go_wp2_with fail
      (try simp only [Exit.inBlock, Exit.then])
      refine bodyPost_ret (by simp [results, Tryd.results18, go_sem, HA.out.1, HA.out.2.1, HA.out.2.2.1, HA.out.2.2.2.1, HA.out.2.2.2.2]; try rfl) rfl ?_
      rw [HZ.out]
      have hv1s := HV1.out
      exact ⟨⟨none, 0, rfl, fun k hk => absurd hk (by simp [noQ])⟩, Sole.below (hw1.out.trans (HF8.out.mono (by omega))) (Sole.set5 _ _ _ _ _ _ _) (Nat.le_refl _) (by omega)⟩
end Go.Proofs.YtpmefaoplgjbdaaDoor
