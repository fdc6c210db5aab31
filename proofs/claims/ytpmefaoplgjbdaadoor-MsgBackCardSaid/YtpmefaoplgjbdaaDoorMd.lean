import Derived.Test.YtpmefaoplgjbdaaDoorMc
namespace Go.Proofs.YtpmefaoplgjbdaaDoor
set_option linter.unusedVariables false
set_option linter.unusedSimpArgs false
open Go.RowKit

def wrQ (m h p : List UInt8) (L : List Hd) (b : List UInt8) : List UInt8 × Int := if chkQ m h p L b = 0 then (textQ m h p L b, 0) else ([], chkQ m h p L b)
theorem keep_five {w1 w' : World} {g : Nat} {x0 x1 x2 x3 x4 : Value} (h : w1.cell? ⟨g, 0, none⟩ = some x0 ∧ w1.cell? ⟨g, 1, none⟩ = some x1 ∧ w1.cell? ⟨g, 2, none⟩ = some x2 ∧ w1.cell? ⟨g, 3, none⟩ = some x3 ∧ w1.cell? ⟨g, 4, none⟩ = some x4) (hb : Below w1.heap.size w1 w') :
    w'.cell? ⟨g, 0, none⟩ = some x0 ∧ w'.cell? ⟨g, 1, none⟩ = some x1 ∧ w'.cell? ⟨g, 2, none⟩ = some x2 ∧ w'.cell? ⟨g, 3, none⟩ = some x3 ∧ w'.cell? ⟨g, 4, none⟩ = some x4 ∧ Below w1.heap.size w1 w' :=
  ⟨(hb.cell (lt_of_cell h.1)).trans h.1, (hb.cell (lt_of_cell h.2.1)).trans h.2.1, (hb.cell (lt_of_cell h.2.2.1)).trans h.2.2.1, (hb.cell (lt_of_cell h.2.2.2.1)).trans h.2.2.2.1, (hb.cell (lt_of_cell h.2.2.2.2)).trans h.2.2.2.2, hb⟩
theorem five_new (w : World) (x0 x1 x2 x3 x4 : Value) (t : TypeId) :
    (w.alloc (.cells #[x0, x1, x2, x3, x4] t)).cell? ⟨w.heap.size, 0, none⟩ = some x0 ∧ (w.alloc (.cells #[x0, x1, x2, x3, x4] t)).cell? ⟨w.heap.size, 1, none⟩ = some x1 ∧ (w.alloc (.cells #[x0, x1, x2, x3, x4] t)).cell? ⟨w.heap.size, 2, none⟩ = some x2 ∧ (w.alloc (.cells #[x0, x1, x2, x3, x4] t)).cell? ⟨w.heap.size, 3, none⟩ = some x3 ∧ (w.alloc (.cells #[x0, x1, x2, x3, x4] t)).cell? ⟨w.heap.size, 4, none⟩ = some x4 :=
  ⟨by simp, by simp, by simp, by simp, by simp⟩
theorem lens_ok {m h p : List UInt8} {L : List Hd} {b : List UInt8} (hc : chkQ m h p L b = 0) : m.length ≤ 8 ∧ h.length ≤ 32 ∧ p.length ≤ 64 ∧ Small L ∧ b.length ≤ 200 := by
  obtain ⟨h1, h2, h3, h4, h5⟩ := chk5_ok (q := (m, h, p, L, b)) hc
  simp only [methodB, nameB, pathB, Bool.and_eq_true, decide_eq_true_eq] at h1 h2 h3
  exact ⟨h1.2.1, h2.2.1, h3.2.1, small_of h4, h5⟩
theorem tailT_len {L : List Hd} {b : List UInt8} (hs : Small L) (hb : b.length ≤ 200) : (tailT L b).length ≤ 1785 := by
  have := headsT_len L hs.2
  have := hs.1
  rw [tailT, List.length_append, List.length_append]; simp; omega
set_option maxRecDepth 100000 in
set_option maxHeartbeats 1600000 in
theorem write_any (m h p : List UInt8) (A : Option Addr) (cap : Nat) (L : List Hd) (b : List UInt8) (w : World) (hR : HReads w (· < w.heap.size) A L) (hl : L.length ≤ 1000000) (hs : ∀ h ∈ L, h.1.length ≤ 140737488351232 ∧ h.2.length ≤ 140737488351232)
    (hm : m.length ≤ 140737488351232) (hh : h.length ≤ 140737488351232) (hp : p.length ≤ 140737488351232) (hb : b.length ≤ 140737488351232) :
    Calls Tryd.prog 9 #[.agg #[.string (bs m), .string (bs h), .string (bs p), .slice A L.length cap, .string (bs b)]] w fun e w' => e = .returned (.tuple #[.string (bs (wrQ m h p L b).1), .int .i64 (wrQ m h p L b).2]) ∧ Below w.heap.size w w' := by
  have hal := below_new' w (.cells #[.string (bs m), .string (bs h), .string (bs p), .slice A L.length cap, .string (bs b)] 24)
  have h5 := five_new w (.string (bs m)) (.string (bs h)) (.string (bs p)) (.slice A L.length cap) (.string (bs b)) 24
  have HC := hid (check_any m h p A cap L b _ (hR.later' hal) hl hs hm hh hp hb)
  by_cases hc : chkQ m h p L b = 0
  · have HQ := hid (show wrQ m h p L b = (textQ m h p L b, 0) by rw [wrQ, if_pos hc])
    obtain ⟨z1, z2, z3, z4, z5⟩ := lens_ok hc
    rw [hc] at HC
    have zt := tailT_len z4 z5
    have HR := hid (And.intro hR z4)
    clear hR hc hs
    go_enter Tryd.func9, Tryd.ntmps9
    go_wp2_with fail
    generalize w.alloc (.cells #[.string (bs m), .string (bs h), .string (bs p), .slice A L.length cap, .string (bs b)] 24) = v0 at *
    refine HC.out.mono ?_
    rintro e w1 ⟨rfl, hb1⟩
    have k5 := hid (keep_five h5 hb1)
    have HB1 := hid (below_step' hal hb1)
    clear hb1 h5 hal HC
    go_wp2_with fail
    have hz : Below w1.heap.size w1 w1.drew := (Below.refl _ _).drew
    have HT := hid (fun (w2 : World) (hz : Below w1.heap.size w1 w2) => tail_any A cap L b w2 ((HR.out.1.later' HB1.out).later' hz) HR.out.2 z5)
    have c1 : (ByteArray.mk #[32]) = bs [32] := rfl
    have c2 : (ByteArray.mk #[10]) = bs [10] := rfl
    generalize hT : tailT L b = T at *
    have HTT := hid hT
    clear hT
    have s1 : ¬ 9223372036854775807 < m.length + 1 := by omega
    have s2 : ¬ 9223372036854775807 < m.length + 1 + h.length := by omega
    have s3 : ¬ 9223372036854775807 < m.length + (h.length + 1) + 1 := by omega
    have s4 : ¬ 9223372036854775807 < m.length + (h.length + 1 + 1) + p.length := by omega
    have s5 : ¬ 9223372036854775807 < m.length + (h.length + (p.length + 1) + 1) + 1 := by omega
    have s6 : ¬ 9223372036854775807 < m.length + (h.length + (p.length + 1 + 1) + 1) + T.length := by omega
    go_region_held3 (fun w' => w'.cell? ⟨w.heap.size, 0, none⟩ = some (.string (bs m)) ∧ w'.cell? ⟨w.heap.size, 1, none⟩ = some (.string (bs h)) ∧ w'.cell? ⟨w.heap.size, 2, none⟩ = some (.string (bs p)) ∧ w'.cell? ⟨w.heap.size, 3, none⟩ = some (.slice A L.length cap) ∧ w'.cell? ⟨w.heap.size, 4, none⟩ = some (.string (bs b)) ∧ Below w1.heap.size w1 w')
      (first | exact keep_five ⟨k5.out.1, k5.out.2.1, k5.out.2.2.1, k5.out.2.2.2.1, k5.out.2.2.2.2.1⟩ hz) (first
      | (go_at_call 24; refine (HT.out _ hz).mono ?_; rintro e w3 ⟨rfl, hy⟩; have hz := hz.trans (hy.mono hz.size)))
    all_goals
      go_wp2_with fail
      go_returns
      exact ⟨by rw [HQ.out, show textQ m h p L b = m ++ 32 :: (h ++ 32 :: (p ++ 10 :: T)) by rw [← HTT.out]; simp [textQ]]; rfl, below_step' HB1.out hz⟩
  · have HQ := hid (show wrQ m h p L b = ([], chkQ m h p L b) by rw [wrQ, if_neg hc])
    generalize chkQ m h p L b = c at *
    have hne : (c != 0) = true := by simpa using hc
    clear hR hs hc
    go_enter Tryd.func9, Tryd.ntmps9
    go_wp2_with fail
    refine HC.out.mono ?_
    rintro e w1 ⟨rfl, hb1⟩
    go_wp2_with fail
    go_returns
    exact ⟨by rw [HQ.out]; rfl, below_step' hal hb1⟩
set_option maxRecDepth 100000 in
set_option maxHeartbeats 1600000 in
theorem rwrite_any (m h p : List UInt8) (A : Option Addr) (cap : Nat) (L : List Hd) (b : List UInt8) (w : World) (hR : HReads w (· < w.heap.size) A L) (hl : L.length ≤ 1000000) (hs : ∀ h ∈ L, h.1.length ≤ 140737488351232 ∧ h.2.length ≤ 140737488351232)
    (hm : m.length ≤ 140737488351232) (hh : h.length ≤ 140737488351232) (hp : p.length ≤ 140737488351232) (hb : b.length ≤ 140737488351232) :
    Calls Tryd.prog 10 #[.agg #[.string (bs m), .string (bs h), .string (bs p), .slice A L.length cap, .string (bs b)]] w fun e w' => e = .returned (.tuple #[.string (bs (wrQ m h p L b).1), .int .i64 (wrQ m h p L b).2]) ∧ Below w.heap.size w w' := by
  have hal := below_new' w (.cells #[.string (bs m), .string (bs h), .string (bs p), .slice A L.length cap, .string (bs b)] 24)
  have h5 := five_new w (.string (bs m)) (.string (bs h)) (.string (bs p)) (.slice A L.length cap) (.string (bs b)) 24
  have HC := hid (rchk_any m h p A cap L b _ (hR.later' hal) hl hs hm hh hp hb)
  by_cases hc : chkQ m h p L b = 0
  · have HQ := hid (show wrQ m h p L b = (textQ m h p L b, 0) by rw [wrQ, if_pos hc])
    obtain ⟨z1, z2, z3, z4, z5⟩ := lens_ok hc
    rw [hc] at HC
    have zt := tailT_len z4 z5
    have HR := hid (And.intro hR z4)
    clear hR hc hs
    go_enter Tryd.func10, Tryd.ntmps10
    go_wp2_with fail
    generalize w.alloc (.cells #[.string (bs m), .string (bs h), .string (bs p), .slice A L.length cap, .string (bs b)] 24) = v0 at *
    refine HC.out.mono ?_
    rintro e w1 ⟨rfl, hb1⟩
    have k5 := hid (keep_five h5 hb1)
    have HB1 := hid (below_step' hal hb1)
    clear hb1 h5 hal HC
    go_wp2_with fail
    have hz : Below w1.heap.size w1 w1.drew := (Below.refl _ _).drew
    have HT := hid (fun (w2 : World) (hz : Below w1.heap.size w1 w2) => rest_any A cap L b w2 ((HR.out.1.later' HB1.out).later' hz) HR.out.2 z5)
    have c1 : (ByteArray.mk #[32]) = bs [32] := rfl
    have c2 : (ByteArray.mk #[10]) = bs [10] := rfl
    generalize hT : tailT L b = T at *
    have HTT := hid hT
    clear hT
    have s1 : ¬ 9223372036854775807 < m.length + 1 := by omega
    have s2 : ¬ 9223372036854775807 < m.length + 1 + h.length := by omega
    have s3 : ¬ 9223372036854775807 < m.length + (h.length + 1) + 1 := by omega
    have s4 : ¬ 9223372036854775807 < m.length + (h.length + 1 + 1) + p.length := by omega
    have s5 : ¬ 9223372036854775807 < m.length + (h.length + (p.length + 1) + 1) + 1 := by omega
    have s6 : ¬ 9223372036854775807 < m.length + (h.length + (p.length + 1 + 1) + 1) + T.length := by omega
    go_region_held3 (fun w' => w'.cell? ⟨w.heap.size, 0, none⟩ = some (.string (bs m)) ∧ w'.cell? ⟨w.heap.size, 1, none⟩ = some (.string (bs h)) ∧ w'.cell? ⟨w.heap.size, 2, none⟩ = some (.string (bs p)) ∧ w'.cell? ⟨w.heap.size, 3, none⟩ = some (.slice A L.length cap) ∧ w'.cell? ⟨w.heap.size, 4, none⟩ = some (.string (bs b)) ∧ Below w1.heap.size w1 w')
      (first | exact keep_five ⟨k5.out.1, k5.out.2.1, k5.out.2.2.1, k5.out.2.2.2.1, k5.out.2.2.2.2.1⟩ hz) (first
      | (go_at_call 25; refine (HT.out _ hz).mono ?_; rintro e w3 ⟨rfl, hy⟩; have hz := hz.trans (hy.mono hz.size)))
    all_goals
      go_wp2_with fail
      go_returns
      exact ⟨by rw [HQ.out, show textQ m h p L b = m ++ 32 :: (h ++ 32 :: (p ++ 10 :: T)) by rw [← HTT.out]; simp [textQ]]; rfl, below_step' HB1.out hz⟩
  · have HQ := hid (show wrQ m h p L b = ([], chkQ m h p L b) by rw [wrQ, if_neg hc])
    have HC2 := hid (fun (w2 : World) (hz : Below w.heap.size w w2) => rchk_any m h p A cap L b w2 (hR.later' hz) hl hs hm hh hp hb)
    generalize chkQ m h p L b = c at *
    have hne : (c != 0) = true := by simpa using hc
    clear hR hs hc HC
    go_enter Tryd.func10, Tryd.ntmps10
    go_wp2_with fail
    refine (HC2.out _ hal).mono ?_
    rintro e w1 ⟨rfl, hb1⟩
    have hb2 := below_step' hal hb1
    obtain ⟨k0, k1, k2, k3, k4, _⟩ := keep_five h5 hb1
    go_wp2_with fail
    refine (HC2.out _ hb2).mono ?_
    rintro e w2 ⟨rfl, hb3⟩
    go_wp2_with fail
    go_returns
    exact ⟨by rw [HQ.out]; rfl, below_step' hb2 hb3⟩
end Go.Proofs.YtpmefaoplgjbdaaDoor
