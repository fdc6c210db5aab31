import Derived.Test.YtpmefaoplgjbdaaDoorMi
namespace Go.Proofs.YtpmefaoplgjbdaaDoor
set_option linter.unusedVariables false
set_option linter.unusedSimpArgs false
open Go.RowKit Go.Joins

theorem readP_good {s d s1 b : List UInt8} {f : Bool} {L : List Hd} {v : Int} (e1 : cutS [10] s = (d, s1, f)) (e2 : rhM 17 [] s1 = (L, true, b)) (hi : Lib.itoa v = d) (hc : chkP v L b = 0) : readP s = ((v, L, b), 0) := by
  obtain ⟨z1, z2, z3⟩ := chkP_ok hc
  obtain ⟨n, rfl⟩ := Int.eq_ofNat_of_zero_le (show 0 ≤ v by omega)
  rw [itoa_d3 (by omega) (by omega)] at hi
  subst hi
  rw [readP, e1]
  simp only [(stOf_d3 (show 100 ≤ n by omega) (show n ≤ 599 by omega)).1, e2]
  rw [if_pos ⟨trivial, z3⟩]
theorem readP_bad {s d s1 b : List UInt8} {f ok : Bool} {L : List Hd} (e1 : cutS [10] s = (d, s1, f)) (e2 : rhM 17 [] s1 = (L, ok, b)) (hbad : ¬ (ok = true ∧ ∃ v, Lib.atoiAll d = .ok v ∧ Lib.itoa v = d ∧ chkP v L b = 0)) : readP s = (noP, 3) := by
  rw [readP, e1]
  cases hs : stOf d with
  | none => simp only [hs]
  | some n =>
    simp only [hs, e2]
    obtain ⟨a, b1, b2⟩ := stOf_back hs
    rw [if_neg]
    rintro ⟨h1, h2⟩
    refine hbad ⟨h1, (n : Int), ?_, ?_, ?_⟩
    · rw [a]; exact (stOf_d3 b1 b2).2.1
    · rw [itoa_d3 b1 b2, a]
    · rw [chkP, if_neg (by omega)]; exact h2
set_option maxRecDepth 100000 in
set_option maxHeartbeats 4000000 in
theorem readback_any (s : List UInt8) (hl : s.length ≤ 100000) (w : World) (E : Env w) :
    Calls Tryd.prog 20 #[.string (bs s)] w fun e w' => (∃ A c, e = .returned (.tuple #[.agg #[.int .i64 (readP s).1.1, .slice A (readP s).1.2.1.length c, .string (bs (readP s).1.2.2)], .int .i64 (readP s).2]) ∧ HReads w' (· < w'.heap.size) A (readP s).1.2.1) ∧ Below w.heap.size w w' := by
  obtain ⟨d, s1, f1, e1⟩ : ∃ a b f, cutS [10] s = (a, b, f) := ⟨_, _, _, rfl⟩
  obtain ⟨L, ok, b, e4⟩ : ∃ a f b, rhM 17 [] s1 = (a, f, b) := ⟨_, _, _, rfl⟩
  have l1 := cutS_len [10] s
  rw [e1] at l1
  have hd : d.length ≤ s.length := l1.1
  have hs1 : s1.length ≤ s.length := l1.2
  have l4 := rhM_small 17 [] s1 100000 (by omega) (by simp) (by simp)
  rw [e4] at l4
  have hL : L.length ≤ 16 := l4.1
  have hb : b.length ≤ 100000 := l4.2.1
  have HLs := hid (show ∀ x ∈ L, x.1.length ≤ 140737488351232 ∧ x.2.length ≤ 140737488351232 from fun x hx => by have := l4.2.2 x hx; omega)
  clear l1 l4
  have HE1' := hid e1
  have HE4' := hid e4
  clear e1 e4
  have hnot := notB'
  have h5 := hid (Three.new w (.int .i64 0) (.slice none 0 0) (.string (bs [])) 32)
  have hw1 := hid (below_new' w (.cells #[.int .i64 0, .slice none 0 0, .string (bs [])] 32))
  have c1 : (ByteArray.mk #[10]) = bs [10] := rfl
  have c3 : (ByteArray.mk #[]) = bs [] := rfl
  have HE := hid E
  clear E
  go_enter Tryd.func20, Tryd.ntmps20
  go_wp2_with fail
  generalize hv1 : w.alloc (.cells #[.int .i64 0, .slice none 0 0, .string (bs [])] 32) = v1 at *
  have HV1 := hid (show v1.heap.size = w.heap.size + 1 by rw [← hv1]; simp)
  clear hv1
  have HE1 := hid (HE.out.later hw1.out)
  refine (cutter_any s v1).mono ?_
  rintro e w2 ⟨rfl, hsc, hb2⟩
  have H2 := hid (And.intro hsc hb2)
  clear hsc hb2
  go_wp2_with fail
  have hC := cut1_any v1.heap.size s [10] (by simp) v1 w2 HE1.out H2.out.2 (Nat.le_refl _) H2.out.1 hl
  rw [HE1'.out] at hC
  refine hC.mono ?_
  rintro e w3 ⟨rfl, hsc, hso⟩
  have H3 := hid (And.intro hsc (Sole.below H2.out.2 hso (Nat.le_refl _) H2.out.2.size))
  clear hsc hso hC
  go_wp2_with fail
  have hC := readheads_any v1.heap.size s1 v1 w3 HE1.out H3.out.2 (Nat.le_refl _) H3.out.1 (by omega)
  rw [HE4'.out] at hC
  refine hC.mono ?_
  rintro e w6 ⟨⟨v, rfl, hown⟩, hsc, hso⟩
  obtain ⟨A, cap, rfl, hRr⟩ := hown.reads
  have H6 := hid (And.intro hsc (Sole.below H3.out.2 hso (Nat.le_refl _) H3.out.2.size))
  have HO6 := hid hown
  have hs56 : w3.heap.size ≤ w6.heap.size := hso.size
  have hs15 : v1.heap.size ≤ w3.heap.size := H3.out.2.size
  clear hsc hso hC hown hRr
  go_wp2_with fail
  refine (lib_atoi d (by omega) w6 (HE1.out.later H6.out.2)).mono ?_
  rintro e w7 ⟨⟨v, r, rfl, hv1, hv2, hr⟩, hb7⟩
  have H7 := hid (And.intro (H6.out.1.below hb7 H6.out.1.lt) (below_step' H6.out.2 hb7))
  have HO7' := hid (HO6.out.below hb7)
  have hs67 : w6.heap.size ≤ w7.heap.size := hb7.size
  have HR := hid hr
  clear hb7 hr
  go_wp2_with fail
  refine (cut2_any v1.heap.size b w7 H7.out.1).mono ?_
  rintro e w8 ⟨rfl, rfl⟩
  have hv1s := HV1.out
  have HF := hid (H7.out.2.alloc (by omega) (.cells #[.int .i64 v, .slice A L.length cap, .string (bs b)] 32))
  have HO7 := hid (HO7'.out.alloc (.cells #[.int .i64 v, .slice A L.length cap, .string (bs b)] 32))
  have HR7 := hid (fun (wz : World) (hz : Below (w7.alloc (.cells #[.int .i64 v, .slice A L.length cap, .string (bs b)] 32)).heap.size (w7.alloc (.cells #[.int .i64 v, .slice A L.length cap, .string (bs b)] 32)) wz) => show HReads wz (· < wz.heap.size) A L by
    obtain ⟨A2, c2, e, hr⟩ := (HO7.out.below hz).reads
    injection e with e1 e2 e3
    subst e1
    exact hr.imp fun b hb => hb.2)
  have h14 := hid (three_new w7 (.int .i64 v) (.slice A L.length cap) (.string (bs b)) 32)
  have h5W := hid (fun (wz : World) (hz : Below (w7.alloc (.cells #[.int .i64 v, .slice A L.length cap, .string (bs b)] 32)).heap.size (w7.alloc (.cells #[.int .i64 v, .slice A L.length cap, .string (bs b)] 32)) wz) => h5.out.below (HF.out.trans (hz.mono HF.out.size)) (show w.heap.size < v1.heap.size by omega))
  have hsz7 : w.heap.size + 1 ≤ w7.heap.size := by omega
  clear hv1s
  have finish : ∀ wz : World, Below (w7.alloc (.cells #[.int .i64 v, .slice A L.length cap, .string (bs b)] 32)).heap.size (w7.alloc (.cells #[.int .i64 v, .slice A L.length cap, .string (bs b)] 32)) wz → Below w.heap.size w wz := fun wz hz => hw1.out.trans ((HF.out.trans (hz.mono HF.out.size)).mono (by have := HV1.out; omega))
  have HFin := hid finish
  clear finish
  cases ok
  · have HZ := hid (show readP s = (noP, 3) from readP_bad HE1'.out HE4'.out (by simp))
    obtain ⟨⟨x0, x1, x2, k0, k1, k2⟩, hf⟩ := h5W.out (w7.alloc (.cells #[.int .i64 v, .slice A L.length cap, .string (bs b)] 32)) (Below.refl _ _)
    have q0 := hf 0
    have q1 := hf 1
    have q2 := hf 2
    clear hf
    obtain ⟨a0, a1, a2⟩ := three_set (.int .i64 0) (.slice none 0 0) (.string (bs [])) k0 k1 k2
    have HA := hid (And.intro a0 (And.intro a1 a2))
    clear a0 a1 a2
    go_wp2_with fail
    (try simp only [Exit.inBlock, Exit.then])
    refine bodyPost_ret (by simp [results, Tryd.results20, go_sem, HA.out.1, HA.out.2.1, HA.out.2.2]; try rfl) rfl ?_
    rw [HZ.out]
    exact ⟨⟨none, 0, rfl, fun k hk => absurd hk (by simp [noP])⟩, Sole.below (HFin.out (w7.alloc (.cells #[.int .i64 v, .slice A L.length cap, .string (bs b)] 32)) (Below.refl _ _)) (Sole.set3 _ _ _ _ _) (Nat.le_refl _) (HFin.out (w7.alloc (.cells #[.int .i64 v, .slice A L.length cap, .string (bs b)] 32)) (Below.refl _ _)).size⟩
  · rcases HR.out with ⟨rfl, ha⟩ | ⟨⟨t, pv, rfl⟩, ha⟩
    · by_cases hi : Lib.itoa v = d
      · have hib : (d == Lib.itoa v) = true := by rw [hi]; simp
        have HI := hid hi
        have HIT := hid (fun (wz : World) (hz : Env wz) => lib_itoa v hv1 hv2 wz hz)
        have HCKW := hid (fun (wz : World) (hz : Below (w7.alloc (.cells #[.int .i64 v, .slice A L.length cap, .string (bs b)] 32)).heap.size (w7.alloc (.cells #[.int .i64 v, .slice A L.length cap, .string (bs b)] 32)) wz) => checkback_any v A cap L b wz (HR7.out wz hz) (by omega) HLs.out (by omega))
        generalize hcc : chkP v L b = c at *
        have HCC := hid hcc
        clear hi hcc
        generalize hio : Lib.itoa v = io at *
        have HIO := hid hio
        clear hio
        go_wp2_with fail
        refine (HIT.out _ (HE1.out.later HF.out)).mono ?_
        rintro e w9 ⟨rfl, hb9⟩
        obtain ⟨y0, y1, y2, _⟩ := keep_three h14.out hb9
        have HB9 := hid hb9
        clear hb9
        go_wp2_with fail
        refine (HCKW.out _ HB9.out).mono ?_
        rintro e w10 ⟨rfl, hb10⟩
        have HB10 := hid (below_step' HB9.out hb10)
        obtain ⟨z0, z1, z2, _⟩ := keep_three ⟨y0, y1, y2⟩ hb10
        clear hb10 y0 y1 y2
        by_cases hc : c = 0
        · subst hc
          have HZ := hid (show readP s = ((v, L, b), 0) from readP_good HE1'.out HE4'.out (by rw [HIO.out]; exact HI.out) HCC.out)
          obtain ⟨⟨x0, x1, x2, k0, k1, k2⟩, hf⟩ := h5W.out w10 HB10.out
          have q0 := hf 0
          have q1 := hf 1
          have q2 := hf 2
          clear hf
          obtain ⟨a0, a1, a2⟩ := three_set (.int .i64 v) (.slice A L.length cap) (.string (bs b)) k0 k1 k2
          have HA := hid (And.intro a0 (And.intro a1 a2))
          clear a0 a1 a2
          go_wp2_with fail
          (try simp only [Exit.inBlock, Exit.then])
          refine bodyPost_ret (by simp [results, Tryd.results20, go_sem, HA.out.1, HA.out.2.1, HA.out.2.2]; try rfl) rfl ?_
          rw [HZ.out]
          have hown := (HO7.out.below HB10.out).sole (Sole.set3 w.heap.size w10 (.int .i64 v) (.slice A L.length cap) (.string (bs b))) (by have := HV1.out; omega)
          obtain ⟨A2, c2, e, hr⟩ := hown.reads
          injection e with e1 e2 e3
          subst e1
          exact ⟨⟨A, cap, rfl, hr.imp fun b hb => hb.2⟩, Sole.below (HFin.out w10 HB10.out) (Sole.set3 _ _ _ _ _) (Nat.le_refl _) (HFin.out w10 HB10.out).size⟩
        · have hne : (c != 0) = true := by simpa using hc
          have HZ := hid (show readP s = (noP, 3) from readP_bad HE1'.out HE4'.out (by
            rintro ⟨_, v2, g1, g2, g3⟩
            rw [ha] at g1
            injection g1 with g1
            subst g1
            rw [HCC.out] at g3
            exact hc g3))
          clear hc
          obtain ⟨⟨x0, x1, x2, k0, k1, k2⟩, hf⟩ := h5W.out w10 HB10.out
          have q0 := hf 0
          have q1 := hf 1
          have q2 := hf 2
          clear hf
          obtain ⟨a0, a1, a2⟩ := three_set (.int .i64 0) (.slice none 0 0) (.string (bs [])) k0 k1 k2
          have HA := hid (And.intro a0 (And.intro a1 a2))
          clear a0 a1 a2
          go_wp2_with fail
          (try simp only [Exit.inBlock, Exit.then])
          refine bodyPost_ret (by simp [results, Tryd.results20, go_sem, HA.out.1, HA.out.2.1, HA.out.2.2]; try rfl) rfl ?_
          rw [HZ.out]
          exact ⟨⟨none, 0, rfl, fun k hk => absurd hk (by simp [noP])⟩, Sole.below (HFin.out w10 HB10.out) (Sole.set3 _ _ _ _ _) (Nat.le_refl _) (HFin.out w10 HB10.out).size⟩
      · have hib : (d == Lib.itoa v) = false := by simpa using fun e => hi e.symm
        have HZ := hid (show readP s = (noP, 3) from readP_bad HE1'.out HE4'.out (by
          rintro ⟨_, v2, g1, g2, g3⟩
          rw [ha] at g1
          injection g1 with g1
          subst g1
          exact hi g2))
        have HIT := hid (fun (wz : World) (hz : Env wz) => lib_itoa v hv1 hv2 wz hz)
        clear hi
        generalize Lib.itoa v = io at *
        go_wp2_with fail
        refine (HIT.out _ (HE1.out.later HF.out)).mono ?_
        rintro e w9 ⟨rfl, hb9⟩
        have HB9 := hid hb9
        clear hb9
        obtain ⟨⟨x0, x1, x2, k0, k1, k2⟩, hf⟩ := h5W.out w9 HB9.out
        have q0 := hf 0
        have q1 := hf 1
        have q2 := hf 2
        clear hf
        obtain ⟨a0, a1, a2⟩ := three_set (.int .i64 0) (.slice none 0 0) (.string (bs [])) k0 k1 k2
        have HA := hid (And.intro a0 (And.intro a1 a2))
        clear a0 a1 a2
        go_wp2_with fail
        (try simp only [Exit.inBlock, Exit.then])
        refine bodyPost_ret (by simp [results, Tryd.results20, go_sem, HA.out.1, HA.out.2.1, HA.out.2.2]; try rfl) rfl ?_
        rw [HZ.out]
        exact ⟨⟨none, 0, rfl, fun k hk => absurd hk (by simp [noP])⟩, Sole.below (HFin.out w9 HB9.out) (Sole.set3 _ _ _ _ _) (Nat.le_refl _) (HFin.out w9 HB9.out).size⟩
    · have HZ := hid (show readP s = (noP, 3) from readP_bad HE1'.out HE4'.out (by
        rintro ⟨_, v2, g1, g2, g3⟩
        exact ha v2 g1))
      obtain ⟨⟨x0, x1, x2, k0, k1, k2⟩, hf⟩ := h5W.out (w7.alloc (.cells #[.int .i64 v, .slice A L.length cap, .string (bs b)] 32)) (Below.refl _ _)
      have q0 := hf 0
      have q1 := hf 1
      have q2 := hf 2
      clear hf
      obtain ⟨a0, a1, a2⟩ := three_set (.int .i64 0) (.slice none 0 0) (.string (bs [])) k0 k1 k2
      have HA := hid (And.intro a0 (And.intro a1 a2))
      clear a0 a1 a2
      go_wp2_with fail
      (try simp only [Exit.inBlock, Exit.then])
      refine bodyPost_ret (by simp [results, Tryd.results20, go_sem, HA.out.1, HA.out.2.1, HA.out.2.2]; try rfl) rfl ?_
      rw [HZ.out]
      exact ⟨⟨none, 0, rfl, fun k hk => absurd hk (by simp [noP])⟩, Sole.below (HFin.out (w7.alloc (.cells #[.int .i64 v, .slice A L.length cap, .string (bs b)] 32)) (Below.refl _ _)) (Sole.set3 _ _ _ _ _) (Nat.le_refl _) (HFin.out (w7.alloc (.cells #[.int .i64 v, .slice A L.length cap, .string (bs b)] 32)) (Below.refl _ _)).size⟩
end Go.Proofs.YtpmefaoplgjbdaaDoor
