import Derived.Test.YtpmefaoplgjbdaaDoorMr
namespace Go.Proofs.YtpmefaoplgjbdaaDoor
set_option linter.unusedVariables false
set_option linter.unusedSimpArgs false
open Go.RowKit Go.Joins

theorem fewQ_len {m h p : List UInt8} {L : List Hd} {b : List UInt8} (hf : fewQ m h p L b = true) : L.length ≤ 1000000 := by
  simp only [fewQ, Bool.and_eq_true, decide_eq_true_eq] at hf
  omega
theorem fewOk_len {L : List Hd} (hf : fewOk L = true) : L.length ≤ 1000000 := by
  simp only [fewOk, Bool.and_eq_true, decide_eq_true_eq] at hf
  omega
theorem wrQ_cases (m h p : List UInt8) (L : List Hd) (b : List UInt8) : (∃ T, T.length ≤ 100000 ∧ Hid (wrQ m h p L b = (T, 0) ∧ readQ T = ((m, h, p, L, b), 0))) ∨ ∃ c, c ≠ 0 ∧ Hid (wrQ m h p L b = ([], c)) := by
  by_cases hc : chkQ m h p L b = 0
  · refine Or.inl ⟨textQ m h p L b, ?_, hid ⟨by rw [wrQ, if_pos hc], readQ_text (m, h, p, L, b) hc⟩⟩
    obtain ⟨a1, a2, a3, a4, a5⟩ := lens_ok hc
    have := tailT_len a4 a5
    simp only [textQ, List.length_append, List.length_cons, List.length_nil]
    omega
  · exact Or.inr ⟨chkQ m h p L b, hc, hid (by rw [wrQ, if_neg hc])⟩
theorem wrP_cases (n : Int) (L : List Hd) (b : List UInt8) : (∃ T, T.length ≤ 100000 ∧ Hid (wrP n L b = (T, 0) ∧ readP T = ((n, L, b), 0))) ∨ ∃ c, c ≠ 0 ∧ Hid (wrP n L b = ([], c)) := by
  by_cases hc : chkP n L b = 0
  · obtain ⟨h1, h2, h3⟩ := chkP_ok hc
    obtain ⟨k, rfl⟩ : ∃ k : Nat, n = (k : Int) := ⟨n.toNat, by omega⟩
    have hr := readP_text k L b (by omega) (by omega) h3
    obtain ⟨a1, a2⟩ := tailChk_ok h3
    have := tailT_len (small_of a1) a2
    refine Or.inl ⟨text3 (d3 k) L b, ?_, hid ⟨by rw [wrP, if_pos hc, Int.toNat_natCast], hr⟩⟩
    simp only [text3, d3, List.length_append, List.length_cons, List.length_nil]
    omega
  · exact Or.inr ⟨chkP n L b, hc, hid (by rw [wrP, if_neg hc])⟩
theorem rdQ_cases (s : List UInt8) : ∃ m h p L b c, Hid (readQ s = ((m, h, p, L, b), c)) ∧ m.length ≤ 8 ∧ h.length ≤ 32 ∧ p.length ≤ 64 ∧ Hid (Small L) ∧ L.length ≤ 16 ∧ b.length ≤ 200 ∧ (c ≠ 0 ∨ (c = 0 ∧ Hid (wrQ m h p L b = (s, 0)))) := by
  obtain ⟨m, h, p, L, b, c, hq⟩ := qt_parts (readQ s)
  obtain ⟨a1, a2, a3, a4, a5⟩ := readQ_small hq
  refine ⟨m, h, p, L, b, c, hid hq, a1, a2, a3, hid a4, a4.1, a5, ?_⟩
  by_cases hc : c = 0
  · refine Or.inr ⟨hc, hid ?_⟩
    have := readQ_back s (by rw [hq]; exact hc)
    rw [hq] at this
    obtain ⟨b1, b2⟩ := this
    unfold wrQ
    rw [if_pos (show chkQ m h p L b = 0 from b1)]
    rw [show textQ m h p L b = s from b2]
  · exact Or.inl hc
theorem rdP_cases (s : List UInt8) : ∃ n L b c, Hid (readP s = ((n, L, b), c)) ∧ 0 ≤ n ∧ n ≤ 599 ∧ Hid (Small L) ∧ L.length ≤ 16 ∧ b.length ≤ 200 ∧ (c ≠ 0 ∨ (c = 0 ∧ Hid (wrP n L b = (s, 0)))) := by
  obtain ⟨n, L, b, c, hq⟩ := pt_parts (readP s)
  obtain ⟨a1, a2, a4, a5⟩ := readP_small hq
  refine ⟨n, L, b, c, hid hq, a1, a2, hid a4, a4.1, a5, ?_⟩
  by_cases hc : c = 0
  · refine Or.inr ⟨hc, hid ?_⟩
    obtain ⟨k, L', b', h1, h2, h3, h4, h5⟩ := readP_back s (by rw [hq]; exact hc)
    rw [hq] at h4
    simp only [Prod.mk.injEq] at h4
    obtain ⟨⟨rfl, rfl, rfl⟩, _⟩ := h4
    unfold wrP
    have hk : chkP (k : Int) L b = 0 := by rw [chkP, if_neg (by omega)]; exact h3
    rw [if_pos hk, Int.toNat_natCast, h5]
  · exact Or.inl hc
set_option maxRecDepth 100000 in
set_option maxHeartbeats 16000000 in
theorem msgBack_walk (m h p : List UInt8) (A : Option Addr) (cap : Nat) (L : List Hd) (b : List UInt8) (n : Int) (A2 : Option Addr) (cap2 : Nat) (K : List Hd) (d s : List UInt8) (w : World) (E : Env w)
    (hR : HReads w (· < w.heap.size) A L) (hK : HReads w (· < w.heap.size) A2 K) (lL : L.length ≤ 9223372036854775807) (lK : K.length ≤ 9223372036854775807) (gL : big L) (gK : big K)
    (hm : m.length ≤ 140737488351232) (hh : h.length ≤ 140737488351232) (hp : p.length ≤ 140737488351232) (hb : b.length ≤ 140737488351232) (hd : d.length ≤ 140737488351232) (hs : s.length ≤ 140737488351232) :
    Calls Tryd.prog 6 #[.agg #[.string (bs m), .string (bs h), .string (bs p), .slice A L.length cap, .string (bs b)], .agg #[.int .i64 n, .slice A2 K.length cap2, .string (bs d)], .string (bs s)] w fun e w' => e = .returned (.bool true) ∧ Below w.heap.size w w' := by
  have hA := below_new' w (.cells #[.string (bs m), .string (bs h), .string (bs p), .slice A L.length cap, .string (bs b)] 24)
  have hB := below_new' (w.alloc (.cells #[.string (bs m), .string (bs h), .string (bs p), .slice A L.length cap, .string (bs b)] 24)) (.cells #[.int .i64 n, .slice A2 K.length cap2, .string (bs d)] 32)
  have hf5 := F5.later (five_new w (.string (bs m)) (.string (bs h)) (.string (bs p)) (.slice A L.length cap) (.string (bs b)) 24) hB
  have hf3 := (show F3 _ _ _ _ _ from three_new (w.alloc (.cells #[.string (bs m), .string (bs h), .string (bs p), .slice A L.length cap, .string (bs b)] 24)) (.int .i64 n) (.slice A2 K.length cap2) (.string (bs d)) 32)
  simp only [World.size_alloc] at hf3
  have H0 := hid (And.intro ((hR.later' hA).later' hB) (And.intro ((hK.later' hA).later' hB) (And.intro hf5 (And.intro hf3 (And.intro (below_step' hA hB) (E.later (below_step' hA hB)))))))
  have HL := hid gL
  have HK := hid gK
  clear hA hB hf5 hf3 hR hK E gL gK
  cases hf : fewQ m h p L b
  · have HF := hid hf
    clear hf
    go_enter Tryd.func6, Tryd.ntmps6
    go_wp2_with fail
    generalize (w.alloc (.cells #[.string (bs m), .string (bs h), .string (bs p), .slice A L.length cap, .string (bs b)] 24)).alloc (.cells #[.int .i64 n, .slice A2 K.length cap2, .string (bs d)] 32) = v0 at *
    refine (fewq_any m h p A cap L b v0 H0.out.1 (by omega) HL.out hm hh hp hb).mono ?_
    rintro e w1 ⟨rfl, hb1⟩
    rw [HF.out]
    have HB := hid hb1
    clear hb1
    go_wp2_with fail
    refine (known5_any _ (H0.out.2.2.2.2.2.later HB.out)).mono ?_
    rintro e w9 ⟨rfl, hb1⟩
    have HB := hid (below_step' HB.out hb1)
    clear hb1
    go_wp2_with fail
    go_ret
    exact ⟨rfl, below_step' H0.out.2.2.2.2.1 HB.out⟩
  · have lL : L.length ≤ 1000000 := fewQ_len hf
    have HF := hid hf
    clear hf
    by_cases hd2 : (d.length : Int) > 2000
    · go_enter Tryd.func6, Tryd.ntmps6
      go_wp2_with fail
      generalize (w.alloc (.cells #[.string (bs m), .string (bs h), .string (bs p), .slice A L.length cap, .string (bs b)] 24)).alloc (.cells #[.int .i64 n, .slice A2 K.length cap2, .string (bs d)] 32) = v0 at *
      refine (fewq_any m h p A cap L b v0 H0.out.1 (by omega) HL.out hm hh hp hb).mono ?_
      rintro e w1 ⟨rfl, hb1⟩
      rw [HF.out]
      obtain ⟨p0, p1, p2⟩ := H0.out.2.2.2.1.later hb1
      have HB := hid hb1
      clear hb1
      go_wp2_with fail
      refine (known5_any _ (H0.out.2.2.2.2.2.later HB.out)).mono ?_
      rintro e w9 ⟨rfl, hb1⟩
      have HB := hid (below_step' HB.out hb1)
      clear hb1
      go_wp2_with fail
      go_ret
      exact ⟨rfl, below_step' H0.out.2.2.2.2.1 HB.out⟩
    · cases hg : fewOk K
      · have HG := hid hg
        clear hg
        go_enter Tryd.func6, Tryd.ntmps6
        go_wp2_with fail
        generalize (w.alloc (.cells #[.string (bs m), .string (bs h), .string (bs p), .slice A L.length cap, .string (bs b)] 24)).alloc (.cells #[.int .i64 n, .slice A2 K.length cap2, .string (bs d)] 32) = v0 at *
        refine (fewq_any m h p A cap L b v0 H0.out.1 (by omega) HL.out hm hh hp hb).mono ?_
        rintro e w1 ⟨rfl, hb1⟩
        rw [HF.out]
        obtain ⟨p0, p1, p2⟩ := H0.out.2.2.2.1.later hb1
        have HB := hid hb1
        clear hb1
        go_wp2_with fail
        refine (few_any A2 cap2 K w1 (H0.out.2.1.later' HB.out) (by omega) HK.out).mono ?_
        rintro e w2 ⟨rfl, hb1⟩
        rw [HG.out]
        have HB := hid (below_step' HB.out hb1)
        clear hb1 p0 p1 p2
        go_wp2_with fail
        refine (known5_any _ (H0.out.2.2.2.2.2.later HB.out)).mono ?_
        rintro e w9 ⟨rfl, hb1⟩
        have HB := hid (below_step' HB.out hb1)
        clear hb1
        go_wp2_with fail
        go_ret
        exact ⟨rfl, below_step' H0.out.2.2.2.2.1 HB.out⟩
      · have lK : K.length ≤ 1000000 := fewOk_len hg
        have HG := hid hg
        clear hg
        by_cases hs2 : (s.length : Int) > 3000
        · go_enter Tryd.func6, Tryd.ntmps6
          go_wp2_with fail
          generalize (w.alloc (.cells #[.string (bs m), .string (bs h), .string (bs p), .slice A L.length cap, .string (bs b)] 24)).alloc (.cells #[.int .i64 n, .slice A2 K.length cap2, .string (bs d)] 32) = v0 at *
          refine (fewq_any m h p A cap L b v0 H0.out.1 (by omega) HL.out hm hh hp hb).mono ?_
          rintro e w1 ⟨rfl, hb1⟩
          rw [HF.out]
          obtain ⟨p0, p1, p2⟩ := H0.out.2.2.2.1.later hb1
          have HB := hid hb1
          clear hb1
          go_wp2_with fail
          refine (few_any A2 cap2 K w1 (H0.out.2.1.later' HB.out) (by omega) HK.out).mono ?_
          rintro e w2 ⟨rfl, hb1⟩
          rw [HG.out]
          have HB := hid (below_step' HB.out hb1)
          clear hb1 p0 p1 p2
          go_wp2_with fail
          refine (known5_any _ (H0.out.2.2.2.2.2.later HB.out)).mono ?_
          rintro e w9 ⟨rfl, hb1⟩
          have HB := hid (below_step' HB.out hb1)
          clear hb1
          go_wp2_with fail
          go_ret
          exact ⟨rfl, below_step' H0.out.2.2.2.2.1 HB.out⟩
        · have hs3 : s.length ≤ 100000 := by omega
          have hwq := wrQ_cases m h p L b
          have hwp := wrP_cases n K d
          obtain ⟨m2, h2, p2, L2, b2, c2, RQ, lm2, lh2, lp2, SL2, lL2, lb2, hcq⟩ := rdQ_cases s
          obtain ⟨n3, L3, b3, c3, RP, ln3, ln4, SL3, lL3, lb3, hcp⟩ := rdP_cases s
          go_enter Tryd.func6, Tryd.ntmps6
          go_wp2_with fail
          generalize (w.alloc (.cells #[.string (bs m), .string (bs h), .string (bs p), .slice A L.length cap, .string (bs b)] 24)).alloc (.cells #[.int .i64 n, .slice A2 K.length cap2, .string (bs d)] 32) = v0 at *
          refine (fewq_any m h p A cap L b v0 H0.out.1 (by omega) HL.out hm hh hp hb).mono ?_
          rintro e w1 ⟨rfl, hb1⟩
          rw [HF.out]
          obtain ⟨p0, p1, p2⟩ := H0.out.2.2.2.1.later hb1
          have HB := hid hb1
          clear hb1
          go_wp2_with fail
          refine (few_any A2 cap2 K w1 (H0.out.2.1.later' HB.out) (by omega) HK.out).mono ?_
          rintro e w2 ⟨rfl, hb1⟩
          rw [HG.out]
          have HB := hid (below_step' HB.out hb1)
          clear hb1 p0 p1 p2
          obtain ⟨q0, q1, q2, q3, q4⟩ := H0.out.2.2.1.later HB.out
          rcases hwq with ⟨T, hT, HT⟩ | ⟨c, hc, HT⟩
          · go_wp2_with fail
            refine (write_at m h p A cap L b w2 (H0.out.1.later' HB.out) lL HL.out ⟨hm, hh, hp, hb⟩ (hid HT.out.1)).mono ?_
            rintro e w3 ⟨rfl, hb1⟩
            clear q0 q1 q2 q3 q4
            have HB := hid (below_step' HB.out hb1)
            clear hb1
            go_wp2_with fail
            refine (read_at T hT w3 (H0.out.2.2.2.2.2.later HB.out) (hid HT.out.2)).mono ?_
            rintro e w4 ⟨⟨X, k, rfl, hr1⟩, hb1⟩
            have hn1 := below_new' w4 (.cells #[.string (bs m), .string (bs h), .string (bs p), .slice X L.length k, .string (bs b)] 24)
            have HX := hid (And.intro (hr1.later' hn1) (show F5 _ _ _ _ _ _ _ from five_new w4 (.string (bs m)) (.string (bs h)) (.string (bs p)) (.slice X L.length k) (.string (bs b)) 24))
            have HB := hid (below_step' (below_step' HB.out hb1) hn1)
            clear hr1 hb1 hn1
            obtain ⟨q0, q1, q2, q3, q4⟩ := H0.out.2.2.1.later HB.out
            obtain ⟨y0, y1, y2, y3, y4⟩ := HX.out.2
            go_wp2_with fail
            generalize w4.alloc (.cells #[.string (bs m), .string (bs h), .string (bs p), .slice X L.length k, .string (bs b)] 24) = v4 at *
            refine (same5_any m h p X A k cap L b v4 HX.out.1 (H0.out.1.later' HB.out) (by omega)).mono ?_
            rintro e w5 ⟨rfl, hb1⟩
            clear q0 q1 q2 q3 q4 y0 y1 y2 y3 y4
            have HB := hid (below_step' HB.out hb1)
            clear hb1
            obtain ⟨p0, p1, p2⟩ := H0.out.2.2.2.1.later HB.out
            rcases hwp with ⟨U, hU, HU⟩ | ⟨u, hu, HU⟩
            · go_wp2_with fail
              refine (writeback_at n A2 cap2 K d w5 (H0.out.2.1.later' HB.out) lK HK.out hd (H0.out.2.2.2.2.2.later HB.out) (hid HU.out.1)).mono ?_
              rintro e w6 ⟨rfl, hb1⟩
              clear p0 p1 p2
              have HB := hid (below_step' HB.out hb1)
              clear hb1
              go_wp2_with fail
              refine (readback_at U hU w6 (H0.out.2.2.2.2.2.later HB.out) (hid HU.out.2)).mono ?_
              rintro e w7 ⟨⟨Y, l, rfl, hr1⟩, hb1⟩
              have hn1 := below_new' w7 (.cells #[.int .i64 n, .slice Y K.length l, .string (bs d)] 32)
              have HY := hid (And.intro (hr1.later' hn1) (show F3 _ _ _ _ _ from three_new w7 (.int .i64 n) (.slice Y K.length l) (.string (bs d)) 32))
              have HB := hid (below_step' (below_step' HB.out hb1) hn1)
              clear hr1 hb1 hn1
              obtain ⟨p0, p1, p2⟩ := H0.out.2.2.2.1.later HB.out
              obtain ⟨y0, y1, y2⟩ := HY.out.2
              go_wp2_with fail
              generalize w7.alloc (.cells #[.int .i64 n, .slice Y K.length l, .string (bs d)] 32) = v7 at *
              refine (same3_any n Y A2 l cap2 K d v7 HY.out.1 (H0.out.2.1.later' HB.out) (by omega)).mono ?_
              rintro e w8 ⟨rfl, hb1⟩
              clear p0 p1 p2 y0 y1 y2
              have HB := hid (below_step' HB.out hb1)
              clear hb1
              go_wp2_with fail
              refine (read_at s hs3 w8 (H0.out.2.2.2.2.2.later HB.out) RQ).mono ?_
              rintro e w10 ⟨⟨Z, kz, rfl, hr1⟩, hb1⟩
              have hn1 := below_new' w10 (.cells #[.string (bs m2), .string (bs h2), .string (bs p2), .slice Z L2.length kz, .string (bs b2)] 24)
              have HZ := hid (And.intro (hr1.later' hn1) (show F5 _ _ _ _ _ _ _ from five_new w10 (.string (bs m2)) (.string (bs h2)) (.string (bs p2)) (.slice Z L2.length kz) (.string (bs b2)) 24))
              have HB := hid (below_step' (below_step' HB.out hb1) hn1)
              clear hr1 hb1 hn1
              rcases hcq with hcq | ⟨rfl, HW⟩
              · go_wp2_with fail
                generalize w10.alloc (.cells #[.string (bs m2), .string (bs h2), .string (bs p2), .slice Z L2.length kz, .string (bs b2)] 24) = v10 at *
                go_wp2_with fail
                refine (readback_at s hs3 v10 (H0.out.2.2.2.2.2.later HB.out) RP).mono ?_
                rintro e w12 ⟨⟨V, kv, rfl, hr1⟩, hb1⟩
                have hn1 := below_new' w12 (.cells #[.int .i64 n3, .slice V L3.length kv, .string (bs b3)] 32)
                have HV := hid (And.intro (hr1.later' hn1) (show F3 _ _ _ _ _ from three_new w12 (.int .i64 n3) (.slice V L3.length kv) (.string (bs b3)) 32))
                have HB := hid (below_step' (below_step' HB.out hb1) hn1)
                clear hr1 hb1 hn1
                rcases hcp with hcp | ⟨rfl, HW2⟩
                · go_wp2_with fail
                  generalize w12.alloc (.cells #[.int .i64 n3, .slice V L3.length kv, .string (bs b3)] 32) = v12 at *
                  refine (known5_any _ (H0.out.2.2.2.2.2.later HB.out)).mono ?_
                  rintro e w9 ⟨rfl, hb1⟩
                  have HB := hid (below_step' HB.out hb1)
                  clear hb1
                  go_wp2_with fail
                  go_ret
                  exact ⟨rfl, below_step' H0.out.2.2.2.2.1 HB.out⟩
                · obtain ⟨y0, y1, y2⟩ := HV.out.2
                  go_wp2_with fail
                  generalize w12.alloc (.cells #[.int .i64 n3, .slice V L3.length kv, .string (bs b3)] 32) = v12 at *
                  refine (writeback_at n3 V kv L3 b3 v12 HV.out.1 (by omega) SL3.out.big (by omega) (H0.out.2.2.2.2.2.later HB.out) HW2).mono ?_
                  rintro e w13 ⟨rfl, hb1⟩
                  clear y0 y1 y2
                  have HB := hid (below_step' HB.out hb1)
                  clear hb1
                  go_wp2_with fail
                  refine (known5_any _ (H0.out.2.2.2.2.2.later HB.out)).mono ?_
                  rintro e w9 ⟨rfl, hb1⟩
                  have HB := hid (below_step' HB.out hb1)
                  clear hb1
                  go_wp2_with fail
                  go_ret
                  exact ⟨rfl, below_step' H0.out.2.2.2.2.1 HB.out⟩
              · obtain ⟨y0, y1, y2, y3, y4⟩ := HZ.out.2
                go_wp2_with fail
                generalize w10.alloc (.cells #[.string (bs m2), .string (bs h2), .string (bs p2), .slice Z L2.length kz, .string (bs b2)] 24) = v10 at *
                refine (write_at m2 h2 p2 Z kz L2 b2 v10 HZ.out.1 (by omega) SL2.out.big ⟨by omega, by omega, by omega, by omega⟩ HW).mono ?_
                rintro e w11 ⟨rfl, hb1⟩
                clear y0 y1 y2 y3 y4
                have HB := hid (below_step' HB.out hb1)
                clear hb1
                go_wp2_with fail
                refine (readback_at s hs3 w11 (H0.out.2.2.2.2.2.later HB.out) RP).mono ?_
                rintro e w12 ⟨⟨V, kv, rfl, hr1⟩, hb1⟩
                have hn1 := below_new' w12 (.cells #[.int .i64 n3, .slice V L3.length kv, .string (bs b3)] 32)
                have HV := hid (And.intro (hr1.later' hn1) (show F3 _ _ _ _ _ from three_new w12 (.int .i64 n3) (.slice V L3.length kv) (.string (bs b3)) 32))
                have HB := hid (below_step' (below_step' HB.out hb1) hn1)
                clear hr1 hb1 hn1
                rcases hcp with hcp | ⟨rfl, HW2⟩
                · go_wp2_with fail
                  generalize w12.alloc (.cells #[.int .i64 n3, .slice V L3.length kv, .string (bs b3)] 32) = v12 at *
                  refine (known5_any _ (H0.out.2.2.2.2.2.later HB.out)).mono ?_
                  rintro e w9 ⟨rfl, hb1⟩
                  have HB := hid (below_step' HB.out hb1)
                  clear hb1
                  go_wp2_with fail
                  go_ret
                  exact ⟨rfl, below_step' H0.out.2.2.2.2.1 HB.out⟩
                · obtain ⟨y0, y1, y2⟩ := HV.out.2
                  go_wp2_with fail
                  generalize w12.alloc (.cells #[.int .i64 n3, .slice V L3.length kv, .string (bs b3)] 32) = v12 at *
                  refine (writeback_at n3 V kv L3 b3 v12 HV.out.1 (by omega) SL3.out.big (by omega) (H0.out.2.2.2.2.2.later HB.out) HW2).mono ?_
                  rintro e w13 ⟨rfl, hb1⟩
                  clear y0 y1 y2
                  have HB := hid (below_step' HB.out hb1)
                  clear hb1
                  go_wp2_with fail
                  refine (known5_any _ (H0.out.2.2.2.2.2.later HB.out)).mono ?_
                  rintro e w9 ⟨rfl, hb1⟩
                  have HB := hid (below_step' HB.out hb1)
                  clear hb1
                  go_wp2_with fail
                  go_ret
                  exact ⟨rfl, below_step' H0.out.2.2.2.2.1 HB.out⟩
            · go_wp2_with fail
              refine (writeback_at n A2 cap2 K d w5 (H0.out.2.1.later' HB.out) lK HK.out hd (H0.out.2.2.2.2.2.later HB.out) HU).mono ?_
              rintro e w6 ⟨rfl, hb1⟩
              clear p0 p1 p2
              have HB := hid (below_step' HB.out hb1)
              clear hb1
              go_wp2_with fail
              refine (read_at s hs3 w6 (H0.out.2.2.2.2.2.later HB.out) RQ).mono ?_
              rintro e w10 ⟨⟨Z, kz, rfl, hr1⟩, hb1⟩
              have hn1 := below_new' w10 (.cells #[.string (bs m2), .string (bs h2), .string (bs p2), .slice Z L2.length kz, .string (bs b2)] 24)
              have HZ := hid (And.intro (hr1.later' hn1) (show F5 _ _ _ _ _ _ _ from five_new w10 (.string (bs m2)) (.string (bs h2)) (.string (bs p2)) (.slice Z L2.length kz) (.string (bs b2)) 24))
              have HB := hid (below_step' (below_step' HB.out hb1) hn1)
              clear hr1 hb1 hn1
              rcases hcq with hcq | ⟨rfl, HW⟩
              · go_wp2_with fail
                generalize w10.alloc (.cells #[.string (bs m2), .string (bs h2), .string (bs p2), .slice Z L2.length kz, .string (bs b2)] 24) = v10 at *
                go_wp2_with fail
                refine (readback_at s hs3 v10 (H0.out.2.2.2.2.2.later HB.out) RP).mono ?_
                rintro e w12 ⟨⟨V, kv, rfl, hr1⟩, hb1⟩
                have hn1 := below_new' w12 (.cells #[.int .i64 n3, .slice V L3.length kv, .string (bs b3)] 32)
                have HV := hid (And.intro (hr1.later' hn1) (show F3 _ _ _ _ _ from three_new w12 (.int .i64 n3) (.slice V L3.length kv) (.string (bs b3)) 32))
                have HB := hid (below_step' (below_step' HB.out hb1) hn1)
                clear hr1 hb1 hn1
                rcases hcp with hcp | ⟨rfl, HW2⟩
                · go_wp2_with fail
                  generalize w12.alloc (.cells #[.int .i64 n3, .slice V L3.length kv, .string (bs b3)] 32) = v12 at *
                  refine (known5_any _ (H0.out.2.2.2.2.2.later HB.out)).mono ?_
                  rintro e w9 ⟨rfl, hb1⟩
                  have HB := hid (below_step' HB.out hb1)
                  clear hb1
                  go_wp2_with fail
                  go_ret
                  exact ⟨rfl, below_step' H0.out.2.2.2.2.1 HB.out⟩
                · obtain ⟨y0, y1, y2⟩ := HV.out.2
                  go_wp2_with fail
                  generalize w12.alloc (.cells #[.int .i64 n3, .slice V L3.length kv, .string (bs b3)] 32) = v12 at *
                  refine (writeback_at n3 V kv L3 b3 v12 HV.out.1 (by omega) SL3.out.big (by omega) (H0.out.2.2.2.2.2.later HB.out) HW2).mono ?_
                  rintro e w13 ⟨rfl, hb1⟩
                  clear y0 y1 y2
                  have HB := hid (below_step' HB.out hb1)
                  clear hb1
                  go_wp2_with fail
                  refine (known5_any _ (H0.out.2.2.2.2.2.later HB.out)).mono ?_
                  rintro e w9 ⟨rfl, hb1⟩
                  have HB := hid (below_step' HB.out hb1)
                  clear hb1
                  go_wp2_with fail
                  go_ret
                  exact ⟨rfl, below_step' H0.out.2.2.2.2.1 HB.out⟩
              · obtain ⟨y0, y1, y2, y3, y4⟩ := HZ.out.2
                go_wp2_with fail
                generalize w10.alloc (.cells #[.string (bs m2), .string (bs h2), .string (bs p2), .slice Z L2.length kz, .string (bs b2)] 24) = v10 at *
                refine (write_at m2 h2 p2 Z kz L2 b2 v10 HZ.out.1 (by omega) SL2.out.big ⟨by omega, by omega, by omega, by omega⟩ HW).mono ?_
                rintro e w11 ⟨rfl, hb1⟩
                clear y0 y1 y2 y3 y4
                have HB := hid (below_step' HB.out hb1)
                clear hb1
                go_wp2_with fail
                refine (readback_at s hs3 w11 (H0.out.2.2.2.2.2.later HB.out) RP).mono ?_
                rintro e w12 ⟨⟨V, kv, rfl, hr1⟩, hb1⟩
                have hn1 := below_new' w12 (.cells #[.int .i64 n3, .slice V L3.length kv, .string (bs b3)] 32)
                have HV := hid (And.intro (hr1.later' hn1) (show F3 _ _ _ _ _ from three_new w12 (.int .i64 n3) (.slice V L3.length kv) (.string (bs b3)) 32))
                have HB := hid (below_step' (below_step' HB.out hb1) hn1)
                clear hr1 hb1 hn1
                rcases hcp with hcp | ⟨rfl, HW2⟩
                · go_wp2_with fail
                  generalize w12.alloc (.cells #[.int .i64 n3, .slice V L3.length kv, .string (bs b3)] 32) = v12 at *
                  refine (known5_any _ (H0.out.2.2.2.2.2.later HB.out)).mono ?_
                  rintro e w9 ⟨rfl, hb1⟩
                  have HB := hid (below_step' HB.out hb1)
                  clear hb1
                  go_wp2_with fail
                  go_ret
                  exact ⟨rfl, below_step' H0.out.2.2.2.2.1 HB.out⟩
                · obtain ⟨y0, y1, y2⟩ := HV.out.2
                  go_wp2_with fail
                  generalize w12.alloc (.cells #[.int .i64 n3, .slice V L3.length kv, .string (bs b3)] 32) = v12 at *
                  refine (writeback_at n3 V kv L3 b3 v12 HV.out.1 (by omega) SL3.out.big (by omega) (H0.out.2.2.2.2.2.later HB.out) HW2).mono ?_
                  rintro e w13 ⟨rfl, hb1⟩
                  clear y0 y1 y2
                  have HB := hid (below_step' HB.out hb1)
                  clear hb1
                  go_wp2_with fail
                  refine (known5_any _ (H0.out.2.2.2.2.2.later HB.out)).mono ?_
                  rintro e w9 ⟨rfl, hb1⟩
                  have HB := hid (below_step' HB.out hb1)
                  clear hb1
                  go_wp2_with fail
                  go_ret
                  exact ⟨rfl, below_step' H0.out.2.2.2.2.1 HB.out⟩
          · go_wp2_with fail
            refine (write_at m h p A cap L b w2 (H0.out.1.later' HB.out) lL HL.out ⟨hm, hh, hp, hb⟩ HT).mono ?_
            rintro e w3 ⟨rfl, hb1⟩
            clear q0 q1 q2 q3 q4
            have HB := hid (below_step' HB.out hb1)
            clear hb1
            obtain ⟨p0, p1, p2⟩ := H0.out.2.2.2.1.later HB.out
            rcases hwp with ⟨U, hU, HU⟩ | ⟨u, hu, HU⟩
            · go_wp2_with fail
              refine (writeback_at n A2 cap2 K d w3 (H0.out.2.1.later' HB.out) lK HK.out hd (H0.out.2.2.2.2.2.later HB.out) (hid HU.out.1)).mono ?_
              rintro e w6 ⟨rfl, hb1⟩
              clear p0 p1 p2
              have HB := hid (below_step' HB.out hb1)
              clear hb1
              go_wp2_with fail
              refine (readback_at U hU w6 (H0.out.2.2.2.2.2.later HB.out) (hid HU.out.2)).mono ?_
              rintro e w7 ⟨⟨Y, l, rfl, hr1⟩, hb1⟩
              have hn1 := below_new' w7 (.cells #[.int .i64 n, .slice Y K.length l, .string (bs d)] 32)
              have HY := hid (And.intro (hr1.later' hn1) (show F3 _ _ _ _ _ from three_new w7 (.int .i64 n) (.slice Y K.length l) (.string (bs d)) 32))
              have HB := hid (below_step' (below_step' HB.out hb1) hn1)
              clear hr1 hb1 hn1
              obtain ⟨p0, p1, p2⟩ := H0.out.2.2.2.1.later HB.out
              obtain ⟨y0, y1, y2⟩ := HY.out.2
              go_wp2_with fail
              generalize w7.alloc (.cells #[.int .i64 n, .slice Y K.length l, .string (bs d)] 32) = v7 at *
              refine (same3_any n Y A2 l cap2 K d v7 HY.out.1 (H0.out.2.1.later' HB.out) (by omega)).mono ?_
              rintro e w8 ⟨rfl, hb1⟩
              clear p0 p1 p2 y0 y1 y2
              have HB := hid (below_step' HB.out hb1)
              clear hb1
              go_wp2_with fail
              refine (read_at s hs3 w8 (H0.out.2.2.2.2.2.later HB.out) RQ).mono ?_
              rintro e w10 ⟨⟨Z, kz, rfl, hr1⟩, hb1⟩
              have hn1 := below_new' w10 (.cells #[.string (bs m2), .string (bs h2), .string (bs p2), .slice Z L2.length kz, .string (bs b2)] 24)
              have HZ := hid (And.intro (hr1.later' hn1) (show F5 _ _ _ _ _ _ _ from five_new w10 (.string (bs m2)) (.string (bs h2)) (.string (bs p2)) (.slice Z L2.length kz) (.string (bs b2)) 24))
              have HB := hid (below_step' (below_step' HB.out hb1) hn1)
              clear hr1 hb1 hn1
              rcases hcq with hcq | ⟨rfl, HW⟩
              · go_wp2_with fail
                generalize w10.alloc (.cells #[.string (bs m2), .string (bs h2), .string (bs p2), .slice Z L2.length kz, .string (bs b2)] 24) = v10 at *
                go_wp2_with fail
                refine (readback_at s hs3 v10 (H0.out.2.2.2.2.2.later HB.out) RP).mono ?_
                rintro e w12 ⟨⟨V, kv, rfl, hr1⟩, hb1⟩
                have hn1 := below_new' w12 (.cells #[.int .i64 n3, .slice V L3.length kv, .string (bs b3)] 32)
                have HV := hid (And.intro (hr1.later' hn1) (show F3 _ _ _ _ _ from three_new w12 (.int .i64 n3) (.slice V L3.length kv) (.string (bs b3)) 32))
                have HB := hid (below_step' (below_step' HB.out hb1) hn1)
                clear hr1 hb1 hn1
                rcases hcp with hcp | ⟨rfl, HW2⟩
                · go_wp2_with fail
                  generalize w12.alloc (.cells #[.int .i64 n3, .slice V L3.length kv, .string (bs b3)] 32) = v12 at *
                  refine (known5_any _ (H0.out.2.2.2.2.2.later HB.out)).mono ?_
                  rintro e w9 ⟨rfl, hb1⟩
                  have HB := hid (below_step' HB.out hb1)
                  clear hb1
                  go_wp2_with fail
                  go_ret
                  exact ⟨rfl, below_step' H0.out.2.2.2.2.1 HB.out⟩
                · obtain ⟨y0, y1, y2⟩ := HV.out.2
                  go_wp2_with fail
                  generalize w12.alloc (.cells #[.int .i64 n3, .slice V L3.length kv, .string (bs b3)] 32) = v12 at *
                  refine (writeback_at n3 V kv L3 b3 v12 HV.out.1 (by omega) SL3.out.big (by omega) (H0.out.2.2.2.2.2.later HB.out) HW2).mono ?_
                  rintro e w13 ⟨rfl, hb1⟩
                  clear y0 y1 y2
                  have HB := hid (below_step' HB.out hb1)
                  clear hb1
                  go_wp2_with fail
                  refine (known5_any _ (H0.out.2.2.2.2.2.later HB.out)).mono ?_
                  rintro e w9 ⟨rfl, hb1⟩
                  have HB := hid (below_step' HB.out hb1)
                  clear hb1
                  go_wp2_with fail
                  go_ret
                  exact ⟨rfl, below_step' H0.out.2.2.2.2.1 HB.out⟩
              · obtain ⟨y0, y1, y2, y3, y4⟩ := HZ.out.2
                go_wp2_with fail
                generalize w10.alloc (.cells #[.string (bs m2), .string (bs h2), .string (bs p2), .slice Z L2.length kz, .string (bs b2)] 24) = v10 at *
                refine (write_at m2 h2 p2 Z kz L2 b2 v10 HZ.out.1 (by omega) SL2.out.big ⟨by omega, by omega, by omega, by omega⟩ HW).mono ?_
                rintro e w11 ⟨rfl, hb1⟩
                clear y0 y1 y2 y3 y4
                have HB := hid (below_step' HB.out hb1)
                clear hb1
                go_wp2_with fail
                refine (readback_at s hs3 w11 (H0.out.2.2.2.2.2.later HB.out) RP).mono ?_
                rintro e w12 ⟨⟨V, kv, rfl, hr1⟩, hb1⟩
                have hn1 := below_new' w12 (.cells #[.int .i64 n3, .slice V L3.length kv, .string (bs b3)] 32)
                have HV := hid (And.intro (hr1.later' hn1) (show F3 _ _ _ _ _ from three_new w12 (.int .i64 n3) (.slice V L3.length kv) (.string (bs b3)) 32))
                have HB := hid (below_step' (below_step' HB.out hb1) hn1)
                clear hr1 hb1 hn1
                rcases hcp with hcp | ⟨rfl, HW2⟩
                · go_wp2_with fail
                  generalize w12.alloc (.cells #[.int .i64 n3, .slice V L3.length kv, .string (bs b3)] 32) = v12 at *
                  refine (known5_any _ (H0.out.2.2.2.2.2.later HB.out)).mono ?_
                  rintro e w9 ⟨rfl, hb1⟩
                  have HB := hid (below_step' HB.out hb1)
                  clear hb1
                  go_wp2_with fail
                  go_ret
                  exact ⟨rfl, below_step' H0.out.2.2.2.2.1 HB.out⟩
                · obtain ⟨y0, y1, y2⟩ := HV.out.2
                  go_wp2_with fail
                  generalize w12.alloc (.cells #[.int .i64 n3, .slice V L3.length kv, .string (bs b3)] 32) = v12 at *
                  refine (writeback_at n3 V kv L3 b3 v12 HV.out.1 (by omega) SL3.out.big (by omega) (H0.out.2.2.2.2.2.later HB.out) HW2).mono ?_
                  rintro e w13 ⟨rfl, hb1⟩
                  clear y0 y1 y2
                  have HB := hid (below_step' HB.out hb1)
                  clear hb1
                  go_wp2_with fail
                  refine (known5_any _ (H0.out.2.2.2.2.2.later HB.out)).mono ?_
                  rintro e w9 ⟨rfl, hb1⟩
                  have HB := hid (below_step' HB.out hb1)
                  clear hb1
                  go_wp2_with fail
                  go_ret
                  exact ⟨rfl, below_step' H0.out.2.2.2.2.1 HB.out⟩
            · go_wp2_with fail
              refine (writeback_at n A2 cap2 K d w3 (H0.out.2.1.later' HB.out) lK HK.out hd (H0.out.2.2.2.2.2.later HB.out) HU).mono ?_
              rintro e w6 ⟨rfl, hb1⟩
              clear p0 p1 p2
              have HB := hid (below_step' HB.out hb1)
              clear hb1
              go_wp2_with fail
              refine (read_at s hs3 w6 (H0.out.2.2.2.2.2.later HB.out) RQ).mono ?_
              rintro e w10 ⟨⟨Z, kz, rfl, hr1⟩, hb1⟩
              have hn1 := below_new' w10 (.cells #[.string (bs m2), .string (bs h2), .string (bs p2), .slice Z L2.length kz, .string (bs b2)] 24)
              have HZ := hid (And.intro (hr1.later' hn1) (show F5 _ _ _ _ _ _ _ from five_new w10 (.string (bs m2)) (.string (bs h2)) (.string (bs p2)) (.slice Z L2.length kz) (.string (bs b2)) 24))
              have HB := hid (below_step' (below_step' HB.out hb1) hn1)
              clear hr1 hb1 hn1
              rcases hcq with hcq | ⟨rfl, HW⟩
              · go_wp2_with fail
                generalize w10.alloc (.cells #[.string (bs m2), .string (bs h2), .string (bs p2), .slice Z L2.length kz, .string (bs b2)] 24) = v10 at *
                go_wp2_with fail
                refine (readback_at s hs3 v10 (H0.out.2.2.2.2.2.later HB.out) RP).mono ?_
                rintro e w12 ⟨⟨V, kv, rfl, hr1⟩, hb1⟩
                have hn1 := below_new' w12 (.cells #[.int .i64 n3, .slice V L3.length kv, .string (bs b3)] 32)
                have HV := hid (And.intro (hr1.later' hn1) (show F3 _ _ _ _ _ from three_new w12 (.int .i64 n3) (.slice V L3.length kv) (.string (bs b3)) 32))
                have HB := hid (below_step' (below_step' HB.out hb1) hn1)
                clear hr1 hb1 hn1
                rcases hcp with hcp | ⟨rfl, HW2⟩
                · go_wp2_with fail
                  generalize w12.alloc (.cells #[.int .i64 n3, .slice V L3.length kv, .string (bs b3)] 32) = v12 at *
                  refine (known5_any _ (H0.out.2.2.2.2.2.later HB.out)).mono ?_
                  rintro e w9 ⟨rfl, hb1⟩
                  have HB := hid (below_step' HB.out hb1)
                  clear hb1
                  go_wp2_with fail
                  go_ret
                  exact ⟨rfl, below_step' H0.out.2.2.2.2.1 HB.out⟩
                · obtain ⟨y0, y1, y2⟩ := HV.out.2
                  go_wp2_with fail
                  generalize w12.alloc (.cells #[.int .i64 n3, .slice V L3.length kv, .string (bs b3)] 32) = v12 at *
                  refine (writeback_at n3 V kv L3 b3 v12 HV.out.1 (by omega) SL3.out.big (by omega) (H0.out.2.2.2.2.2.later HB.out) HW2).mono ?_
                  rintro e w13 ⟨rfl, hb1⟩
                  clear y0 y1 y2
                  have HB := hid (below_step' HB.out hb1)
                  clear hb1
                  go_wp2_with fail
                  refine (known5_any _ (H0.out.2.2.2.2.2.later HB.out)).mono ?_
                  rintro e w9 ⟨rfl, hb1⟩
                  have HB := hid (below_step' HB.out hb1)
                  clear hb1
                  go_wp2_with fail
                  go_ret
                  exact ⟨rfl, below_step' H0.out.2.2.2.2.1 HB.out⟩
              · obtain ⟨y0, y1, y2, y3, y4⟩ := HZ.out.2
                go_wp2_with fail
                generalize w10.alloc (.cells #[.string (bs m2), .string (bs h2), .string (bs p2), .slice Z L2.length kz, .string (bs b2)] 24) = v10 at *
                refine (write_at m2 h2 p2 Z kz L2 b2 v10 HZ.out.1 (by omega) SL2.out.big ⟨by omega, by omega, by omega, by omega⟩ HW).mono ?_
                rintro e w11 ⟨rfl, hb1⟩
                clear y0 y1 y2 y3 y4
                have HB := hid (below_step' HB.out hb1)
                clear hb1
                go_wp2_with fail
                refine (readback_at s hs3 w11 (H0.out.2.2.2.2.2.later HB.out) RP).mono ?_
                rintro e w12 ⟨⟨V, kv, rfl, hr1⟩, hb1⟩
                have hn1 := below_new' w12 (.cells #[.int .i64 n3, .slice V L3.length kv, .string (bs b3)] 32)
                have HV := hid (And.intro (hr1.later' hn1) (show F3 _ _ _ _ _ from three_new w12 (.int .i64 n3) (.slice V L3.length kv) (.string (bs b3)) 32))
                have HB := hid (below_step' (below_step' HB.out hb1) hn1)
                clear hr1 hb1 hn1
                rcases hcp with hcp | ⟨rfl, HW2⟩
                · go_wp2_with fail
                  generalize w12.alloc (.cells #[.int .i64 n3, .slice V L3.length kv, .string (bs b3)] 32) = v12 at *
                  refine (known5_any _ (H0.out.2.2.2.2.2.later HB.out)).mono ?_
                  rintro e w9 ⟨rfl, hb1⟩
                  have HB := hid (below_step' HB.out hb1)
                  clear hb1
                  go_wp2_with fail
                  go_ret
                  exact ⟨rfl, below_step' H0.out.2.2.2.2.1 HB.out⟩
                · obtain ⟨y0, y1, y2⟩ := HV.out.2
                  go_wp2_with fail
                  generalize w12.alloc (.cells #[.int .i64 n3, .slice V L3.length kv, .string (bs b3)] 32) = v12 at *
                  refine (writeback_at n3 V kv L3 b3 v12 HV.out.1 (by omega) SL3.out.big (by omega) (H0.out.2.2.2.2.2.later HB.out) HW2).mono ?_
                  rintro e w13 ⟨rfl, hb1⟩
                  clear y0 y1 y2
                  have HB := hid (below_step' HB.out hb1)
                  clear hb1
                  go_wp2_with fail
                  refine (known5_any _ (H0.out.2.2.2.2.2.later HB.out)).mono ?_
                  rintro e w9 ⟨rfl, hb1⟩
                  have HB := hid (below_step' HB.out hb1)
                  clear hb1
                  go_wp2_with fail
                  go_ret
                  exact ⟨rfl, below_step' H0.out.2.2.2.2.1 HB.out⟩
end Go.Proofs.YtpmefaoplgjbdaaDoor
