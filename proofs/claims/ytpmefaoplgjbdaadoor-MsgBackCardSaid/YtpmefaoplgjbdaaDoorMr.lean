import Derived.Test.YtpmefaoplgjbdaaDoorMo
namespace Go.Proofs.YtpmefaoplgjbdaaDoor
set_option linter.unusedVariables false
set_option linter.unusedSimpArgs false
open Go.RowKit Go.Joins

theorem qt_parts (x : Qt × Int) : ∃ m h p L b c, x = ((m, h, p, L, b), c) := by
  obtain ⟨⟨m, h, p, L, b⟩, c⟩ := x
  exact ⟨m, h, p, L, b, c, rfl⟩
theorem pt_parts (x : Pt × Int) : ∃ n L b c, x = ((n, L, b), c) := by
  obtain ⟨⟨n, L, b⟩, c⟩ := x
  exact ⟨n, L, b, c, rfl⟩
theorem readQ_small {s m h p b : List UInt8} {L : List Hd} {c : Int} (H : readQ s = ((m, h, p, L, b), c)) : m.length ≤ 8 ∧ h.length ≤ 32 ∧ p.length ≤ 64 ∧ Small L ∧ b.length ≤ 200 := by
  unfold readQ at H
  split at H
  · rename_i hc
    rw [Prod.mk.injEq] at H
    have h2 := hc.2
    rw [H.1] at h2
    exact lens_ok h2
  · simp only [noQ, Prod.mk.injEq] at H
    obtain ⟨⟨rfl, rfl, rfl, rfl, rfl⟩, _⟩ := H
    exact ⟨by simp, by simp, by simp, ⟨by simp, fun h hh => by simp at hh⟩, by simp⟩
theorem readP_small {s b : List UInt8} {L : List Hd} {n c : Int} (H : readP s = ((n, L, b), c)) : 0 ≤ n ∧ n ≤ 599 ∧ Small L ∧ b.length ≤ 200 := by
  by_cases h0 : (readP s).2 = 0
  · obtain ⟨n', L', b', h1, h2, h3, h4, _⟩ := readP_back s h0
    rw [h4] at H
    simp only [Prod.mk.injEq] at H
    obtain ⟨⟨rfl, rfl, rfl⟩, _⟩ := H
    obtain ⟨a, b⟩ := tailChk_ok h3
    exact ⟨by omega, by omega, small_of a, b⟩
  · have : readP s = (noP, 3) := by
      unfold readP at h0 ⊢
      split
      · rename_i n' he
        rw [he] at h0
        simp only at h0
        split
        · rename_i hc; rw [if_pos hc] at h0; exact absurd rfl h0
        · rfl
      · rfl
    rw [this] at H
    simp only [noP, Prod.mk.injEq] at H
    obtain ⟨⟨rfl, rfl, rfl⟩, _⟩ := H
    exact ⟨by omega, by omega, ⟨by simp, fun h hh => by simp at hh⟩, by simp⟩
theorem Small.big {L : List Hd} (h : Small L) : Go.Proofs.YtpmefaoplgjbdaaDoor.big L := fun x hx => by have := h.2 x hx; omega
set_option maxRecDepth 100000 in
set_option maxHeartbeats 4000000 in
theorem msgReads_walk (s : List UInt8) (hs : s.length ≤ 140737488351232) (w : World) (E : Env w) :
    Calls Tryd.prog 5 #[.string (bs s)] w fun e w' => e = .returned (.bool true) ∧ Below w.heap.size w w' := by
  have HE := hid E
  clear E
  by_cases hl : (s.length : Int) > 3000
  · go_enter Tryd.func5, Tryd.ntmps5
    go_wp2_with fail
    refine (known5_any _ HE.out).mono ?_
    rintro e w1 ⟨rfl, hb1⟩
    have HB := hid hb1
    clear hb1
    go_wp2_with fail
    go_ret
    exact ⟨rfl, HB.out⟩
  · obtain ⟨m, h, p, L, b, c, hq⟩ := qt_parts (readQ s)
    obtain ⟨n, K, d, f, hp⟩ := pt_parts (readP s)
    obtain ⟨_, _, _, sL, _⟩ := readQ_small hq
    obtain ⟨_, _, sK, _⟩ := readP_small hp
    have lL := sL.1
    have lK := sK.1
    clear sL sK
    have HQ := hid hq
    have HP := hid hp
    have hl' : s.length ≤ 100000 := by omega
    clear hq hp hs
    go_enter Tryd.func5, Tryd.ntmps5
    go_wp2_with fail
    refine (read_at s hl' w HE.out HQ).mono ?_
    rintro e w1 ⟨⟨A1, k1, rfl, hr1⟩, hb1⟩
    have hn1 := below_new' w1 (.cells #[.string (bs m), .string (bs h), .string (bs p), .slice A1 L.length k1, .string (bs b)] 24)
    have H1 := hid (And.intro (hr1.later' hn1) (And.intro (show F5 _ _ _ _ _ _ _ from five_new w1 (.string (bs m)) (.string (bs h)) (.string (bs p)) (.slice A1 L.length k1) (.string (bs b)) 24) (below_step' hb1 hn1)))
    clear hr1 hb1 hn1
    go_wp2_with fail
    generalize w1.alloc (.cells #[.string (bs m), .string (bs h), .string (bs p), .slice A1 L.length k1, .string (bs b)] 24) = v1 at *
    refine (rread_at s hl' v1 HQ).mono ?_
    rintro e w2 ⟨⟨A2, k2, rfl, hr2⟩, hb2⟩
    have hn2 := below_new' w2 (.cells #[.string (bs m), .string (bs h), .string (bs p), .slice A2 L.length k2, .string (bs b)] 24)
    have H2 := hid (And.intro (hr2.later' hn2) (And.intro (show F5 _ _ _ _ _ _ _ from five_new w2 (.string (bs m)) (.string (bs h)) (.string (bs p)) (.slice A2 L.length k2) (.string (bs b)) 24) (below_step' hb2 hn2)))
    clear hr2 hb2 hn2
    go_wp2_with fail
    generalize w2.alloc (.cells #[.string (bs m), .string (bs h), .string (bs p), .slice A2 L.length k2, .string (bs b)] 24) = v2 at *
    refine (readback_at s hl' v2 ((HE.out.later H1.out.2.2).later H2.out.2.2) HP).mono ?_
    rintro e w3 ⟨⟨A3, k3, rfl, hr3⟩, hb3⟩
    have hn3 := below_new' w3 (.cells #[.int .i64 n, .slice A3 K.length k3, .string (bs d)] 32)
    have H3 := hid (And.intro (hr3.later' hn3) (And.intro (show F3 _ _ _ _ _ from three_new w3 (.int .i64 n) (.slice A3 K.length k3) (.string (bs d)) 32) (below_step' hb3 hn3)))
    clear hr3 hb3 hn3
    go_wp2_with fail
    generalize w3.alloc (.cells #[.int .i64 n, .slice A3 K.length k3, .string (bs d)] 32) = v3 at *
    refine (rreadback_at s hl' v3 HP).mono ?_
    rintro e w4 ⟨⟨A4, k4, rfl, hr4⟩, hb4⟩
    have hn4 := below_new' w4 (.cells #[.int .i64 n, .slice A4 K.length k4, .string (bs d)] 32)
    have H4 := hid (And.intro (hr4.later' hn4) (And.intro (show F3 _ _ _ _ _ from three_new w4 (.int .i64 n) (.slice A4 K.length k4) (.string (bs d)) 32) (below_step' hb4 hn4)))
    clear hr4 hb4 hn4
    have B24 := hid (below_step' H3.out.2.2 H4.out.2.2)
    have B14 := hid (below_step' H2.out.2.2 B24.out)
    obtain ⟨y0, y1, y2, y3, y4⟩ := H1.out.2.1.later B14.out
    obtain ⟨z0, z1, z2, z3, z4⟩ := H2.out.2.1.later B24.out
    go_wp2_with fail
    generalize w4.alloc (.cells #[.int .i64 n, .slice A4 K.length k4, .string (bs d)] 32) = v4 at *
    refine (same5_any m h p A1 A2 k1 k2 L b v4 (H1.out.1.later' B14.out) (H2.out.1.later' B24.out) (by omega)).mono ?_
    rintro e w5 ⟨rfl, hb5⟩
    clear y0 y1 y2 y3 y4 z0 z1 z2 z3 z4
    obtain ⟨p0, p1, p2⟩ := (H3.out.2.1.later H4.out.2.2).later hb5
    obtain ⟨q0, q1, q2⟩ := H4.out.2.1.later hb5
    have H5 := hid (And.intro ((H3.out.1.later' H4.out.2.2).later' hb5) (And.intro (H4.out.1.later' hb5) (below_step' (below_step' H1.out.2.2 B14.out) hb5)))
    clear hb5
    go_wp2_with fail
    refine (same3_any n A3 A4 k3 k4 K d w5 H5.out.1 H5.out.2.1 (by omega)).mono ?_
    rintro e w6 ⟨rfl, hb6⟩
    have H6 := hid (below_step' H5.out.2.2 hb6)
    clear hb6 p0 p1 p2 q0 q1 q2
    go_wp2_with fail
    refine (known5_any _ (HE.out.later H6.out)).mono ?_
    rintro e w7 ⟨rfl, hb7⟩
    have H7 := hid (below_step' H6.out hb7)
    clear hb7
    go_wp2_with fail
    go_ret
    exact ⟨rfl, H7.out⟩
end Go.Proofs.YtpmefaoplgjbdaaDoor
