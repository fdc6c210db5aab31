import Derived.Test.YtmdlkoigjacipaaEc
namespace Go.Proofs.Ytmdlkoigjacipaa
set_option linter.unusedVariables false
set_option linter.unusedSimpArgs false
open Go.RowKit Go.Joins

theorem given_chk {k : Int} (h1 : 1 ≤ k) (h6 : k ≤ 6) (n v : List UInt8) :
    cE k n v = if (ndK k = false ∧ n ≠ []) ∨ (vlK k = false ∧ v ≠ []) then 2 else chkQ (giveS k n v).1 (giveS k n v).2.1 (giveS k n v).2.2.1 (giveS k n v).2.2.2 [] := by
  have m1 : methodB [65] = true := by decide
  have n1 : nameB [97] = true := by decide
  have p1 : pathB [47] = true := by decide
  have t0 : tailChk [] [] = 0 := by decide
  have v0 : valueB [] = true := by decide
  have t1 : ∀ n v, tailChk [(n, v)] [] = if nameB n = false then 7 else if valueB v = false then 15 else 0 := fun n v => by
    have : checkS [(n, v)] = if nameB n = false then 7 else if valueB v = false then 15 else 0 := by
      rw [checkS, if_neg (by simp), faultS, faultS]
    unfold tailChk
    rw [this]
    cases nameB n <;> cases valueB v <;> simp
  have hk : k = 1 ∨ k = 2 ∨ k = 3 ∨ k = 4 ∨ k = 5 ∨ k = 6 := by omega
  rcases hk with rfl | rfl | rfl | rfl | rfl | rfl
  · by_cases hn : n = [] <;> simp [cE, ndK, vlK, giveS, chkQ, hn, m1, n1, p1, t0]
  · by_cases hn : n = [] <;> simp [cE, ndK, vlK, giveS, chkQ, hn, m1, n1, p1, t0]
  · by_cases hn : n = [] <;> simp [cE, ndK, vlK, giveS, chkQ, hn, m1, n1, p1, t0]
  · by_cases hn : n = [] <;> simp [cE, ndK, vlK, giveS, chkQ, hn, m1, n1, p1, t0]
  · simp only [cE, ndK, vlK, giveS, chkQ, m1, n1, p1]
    cases h1 : nameB n <;> cases h2 : valueB v <;> simp [t1, h1, h2, m1, n1, p1]
  · simp only [cE, ndK, vlK, giveS, chkQ, m1, n1, p1]
    by_cases hv : v = []
    · subst hv
      cases h1 : nameB n <;> simp [t1, h1, v0, m1, n1, p1]
    · simp [hv]
theorem qcheck_hv (m h p : List UInt8) (x : Value) (L : List Hd) (w : World) (hx : HV w x L) (hl : L.length ≤ 1) (hs : ∀ h ∈ L, h.1.length ≤ 140737488351232 ∧ h.2.length ≤ 140737488351232)
    (hm : m.length ≤ 140737488351232) (hh : h.length ≤ 140737488351232) (hp : p.length ≤ 140737488351232) {z : Int} (H : Hid (chkQ m h p L [] = z)) :
    Calls Try.prog 32 #[.agg #[.string (bs m), .string (bs h), .string (bs p), x, .string (bs [])]] w fun e w' => e = .returned (.int .i64 z) ∧ Below w.heap.size w w' := by
  obtain ⟨A, c, rfl, hR⟩ := hx
  rw [← H.out]
  exact check_any m h p A c L [] w hR (by omega) hs hm hh hp (by simp)
theorem giveS_small {k : Int} {n v m h p : List UInt8} {L : List Hd} (hg : giveS k n v = (m, h, p, L)) (hn : n.length ≤ 140737488351232) (hv : v.length ≤ 140737488351232) :
    L.length ≤ 1 ∧ (∀ h ∈ L, h.1.length ≤ 140737488351232 ∧ h.2.length ≤ 140737488351232) ∧ m.length ≤ 140737488351232 ∧ h.length ≤ 140737488351232 ∧ p.length ≤ 140737488351232 := by
  unfold giveS at hg
  split at hg
  · simp only [Prod.mk.injEq] at hg
    obtain ⟨rfl, rfl, rfl, rfl⟩ := hg
    exact ⟨by simp, by simp, hv, by simp, by simp⟩
  · split at hg
    · simp only [Prod.mk.injEq] at hg
      obtain ⟨rfl, rfl, rfl, rfl⟩ := hg
      exact ⟨by simp, by simp, by simp, hv, by simp⟩
    · split at hg
      · simp only [Prod.mk.injEq] at hg
        obtain ⟨rfl, rfl, rfl, rfl⟩ := hg
        exact ⟨by simp, by simp, by simp, by simp, hv⟩
      · simp only [Prod.mk.injEq] at hg
        obtain ⟨rfl, rfl, rfl, rfl⟩ := hg
        exact ⟨by simp, by simpa using ⟨hn, hv⟩, by simp, by simp, by simp⟩
set_option maxRecDepth 100000 in
set_option maxHeartbeats 8000000 in
theorem pcheck_any (k : Int) (n v : List UInt8) (w : World) (hn : n.length ≤ 140737488351232) (hv : v.length ≤ 140737488351232) {z : Int} (H : Hid (cE k n v = z)) :
    Calls Try.prog 10 #[.agg #[.int .i64 k, .string (bs n), .string (bs v)]] w fun e w' => e = .returned (.int .i64 z) ∧ Below w.heap.size w w' := by
  have hnot := enot
  have hb0 := enew w (.cells #[.int .i64 k, .string (bs n), .string (bs v)] 23)
  have hp0 := BP.new w k n v
  by_cases hk : 1 ≤ k ∧ k ≤ 6
  · have HC := hid (given_chk hk.1 hk.2 n v)
    have HK := hid (fun w2 => kindof_any k w2 hk.1 hk.2)
    obtain ⟨m', h', p', L', hg⟩ : ∃ a b c d, giveS k n v = (a, b, c, d) := ⟨_, _, _, _, rfl⟩
    rw [hg] at HC
    simp only at HC
    have HS := hid (giveS_small hg hn hv)
    have HG := hid hg
    clear hk hg
    have HQ := hid (fun w2 x (hx : HV w2 x L') (zz : Int) (hzz : Hid (chkQ m' h' p' L' [] = zz)) => qcheck_hv m' h' p' x L' w2 hx HS.out.1 HS.out.2.1 HS.out.2.2.1 HS.out.2.2.2.1 HS.out.2.2.2.2 hzz)
    by_cases hn0 : n = []
    · subst hn0
      by_cases hv0 : v = []
      · subst hv0
        cases hnd : ndK k <;> cases hvl : vlK k
        · skip
          have HZ := hid (show chkQ m' h' p' L' [] = z by rw [← H.out, HC.out, if_neg]; rintro (⟨a, b⟩ | ⟨a, b⟩); exact b rfl; exact b rfl)
          clear H HC
          try clear hv0
          try clear hn0
          have HND := hid hnd
          have HVL := hid hvl
          clear hnd hvl
          go_enter Try.func10, Try.ntmps10
          go_upto_region 1 with (fail)
          generalize w.alloc (.cells #[.int .i64 k, .string (bs []), .string (bs [])] 23) = v0 at *
          obtain ⟨k0, k1, k2⟩ := hp0.cells
          go_wp2_with fail
          refine (HK.out _).mono ?_
          rintro e w1 ⟨G, F, ⟨rfl, hb1⟩, hG, -⟩
          rw [HND.out, HVL.out]
          obtain ⟨eg, hGG⟩ := hG
          have HGG := hid (hGG [] [])
          clear hGG
          have hb2 := estep hb1 (enew w1 (.cells #[.bool false, .bool false, .func (.func G) #[] #[], .func (.func F) #[] #[]] 57))
          have hk2 := Bk.new w1 57 #[.bool false, .bool false, .func (.func G) #[] #[], .func (.func F) #[] #[]]
          have hp2 := hp0.up hb2
          have hb3 := estep hb0 hb2
          clear hb0 hb1 hb2 hp0 k0 k1 k2
          go_upto_region 2 with (fail)
          generalize w1.alloc (.cells #[.bool false, .bool false, .func (.func G) #[] #[], .func (.func F) #[] #[]] 57) = v2 at *
          obtain ⟨k0, k1, k2⟩ := hp2.cells
          have s0 : v2.cell? ⟨w1.heap.size, 0, none⟩ = some (.bool false) := Bk.cell hk2 0
          have s1 : v2.cell? ⟨w1.heap.size, 1, none⟩ = some (.bool false) := Bk.cell hk2 1
          have s2 : v2.cell? ⟨w1.heap.size, 2, none⟩ = some (.func (.func G) #[] #[]) := Bk.cell hk2 2
          go_upto_region 5 with (fail)
          have hq3 := BQ.new v2 [65] [97] [47] (.slice none 0 0) []
          have hp3 := hp2.up (enew v2 (.cells #[.string (bs [65]), .string (bs [97]), .string (bs [47]), .slice none 0 0, .string (bs [])] 31))
          have hk3 := hk2.up (enew v2 (.cells #[.string (bs [65]), .string (bs [97]), .string (bs [47]), .slice none 0 0, .string (bs [])] 31))
          have hb4 := estep hb3 (enew v2 (.cells #[.string (bs [65]), .string (bs [97]), .string (bs [47]), .slice none 0 0, .string (bs [])] 31))
          have hsz := hb3.size; have hsz2 := (enew v2 (.cells #[.string (bs [65]), .string (bs [97]), .string (bs [47]), .slice none 0 0, .string (bs [])] 31)).size
          clear hp2 hk2 hb3 k0 k1 k2 s0 s1 s2
          have c1 : (ByteArray.mk #[65]) = bs [65] := rfl
          have c2 : (ByteArray.mk #[97]) = bs [97] := rfl
          have c3 : (ByteArray.mk #[47]) = bs [47] := rfl
          have c4 : (ByteArray.mk #[]) = bs [] := rfl
          try rw [c1, c2, c3, c4]
          try simp only [c1, c2, c3]
          generalize v2.alloc (.cells #[.string (bs [65]), .string (bs [97]), .string (bs [47]), .slice none 0 0, .string (bs [])] 31) = v3 at *
          obtain ⟨k0, k1, k2⟩ := hp3.cells
          have s2 : v3.cell? ⟨w1.heap.size, 2, none⟩ = some (.func (.func G) #[] #[]) := Bk.cell hk3 2
          have HG2 := HGG.out
          rw [HG.out] at HG2
          simp only at HG2
          have HG3 := hid (HG2 _ _ hq3)
          clear HG2
          have HLT := hid (show w.heap.size ≤ v2.heap.size by omega)
          clear hq3
          go_wp2_with fail
          refine HG3.out.mono ?_
          rintro e w4 ⟨rfl, x', hq4, hx4, hb5⟩
          have hb6 := hb4.trans (hb5.mono HLT.out)
          obtain ⟨q0, q1, q2, q3, q4⟩ := hq4.cells
          clear hb4 hb5 k0 k1 k2 s2 hp3 hk3 hq4
          go_wp2_with fail
          refine (HQ.out _ x' hx4 z HZ).mono ?_
          rintro e w5 ⟨rfl, hb7⟩
          go_wp2_with fail
          go_returns
          exact ⟨rfl, estep hb6 hb7⟩
        · skip
          have HZ := hid (show chkQ m' h' p' L' [] = z by rw [← H.out, HC.out, if_neg]; rintro (⟨a, b⟩ | ⟨a, b⟩); exact b rfl; exact b rfl)
          clear H HC
          try clear hv0
          try clear hn0
          have HND := hid hnd
          have HVL := hid hvl
          clear hnd hvl
          go_enter Try.func10, Try.ntmps10
          go_upto_region 1 with (fail)
          generalize w.alloc (.cells #[.int .i64 k, .string (bs []), .string (bs [])] 23) = v0 at *
          obtain ⟨k0, k1, k2⟩ := hp0.cells
          go_wp2_with fail
          refine (HK.out _).mono ?_
          rintro e w1 ⟨G, F, ⟨rfl, hb1⟩, hG, -⟩
          rw [HND.out, HVL.out]
          obtain ⟨eg, hGG⟩ := hG
          have HGG := hid (hGG [] [])
          clear hGG
          have hb2 := estep hb1 (enew w1 (.cells #[.bool false, .bool true, .func (.func G) #[] #[], .func (.func F) #[] #[]] 57))
          have hk2 := Bk.new w1 57 #[.bool false, .bool true, .func (.func G) #[] #[], .func (.func F) #[] #[]]
          have hp2 := hp0.up hb2
          have hb3 := estep hb0 hb2
          clear hb0 hb1 hb2 hp0 k0 k1 k2
          go_upto_region 2 with (fail)
          generalize w1.alloc (.cells #[.bool false, .bool true, .func (.func G) #[] #[], .func (.func F) #[] #[]] 57) = v2 at *
          obtain ⟨k0, k1, k2⟩ := hp2.cells
          have s0 : v2.cell? ⟨w1.heap.size, 0, none⟩ = some (.bool false) := Bk.cell hk2 0
          have s1 : v2.cell? ⟨w1.heap.size, 1, none⟩ = some (.bool true) := Bk.cell hk2 1
          have s2 : v2.cell? ⟨w1.heap.size, 2, none⟩ = some (.func (.func G) #[] #[]) := Bk.cell hk2 2
          go_upto_region 5 with (fail)
          have hq3 := BQ.new v2 [65] [97] [47] (.slice none 0 0) []
          have hp3 := hp2.up (enew v2 (.cells #[.string (bs [65]), .string (bs [97]), .string (bs [47]), .slice none 0 0, .string (bs [])] 31))
          have hk3 := hk2.up (enew v2 (.cells #[.string (bs [65]), .string (bs [97]), .string (bs [47]), .slice none 0 0, .string (bs [])] 31))
          have hb4 := estep hb3 (enew v2 (.cells #[.string (bs [65]), .string (bs [97]), .string (bs [47]), .slice none 0 0, .string (bs [])] 31))
          have hsz := hb3.size; have hsz2 := (enew v2 (.cells #[.string (bs [65]), .string (bs [97]), .string (bs [47]), .slice none 0 0, .string (bs [])] 31)).size
          clear hp2 hk2 hb3 k0 k1 k2 s0 s1 s2
          have c1 : (ByteArray.mk #[65]) = bs [65] := rfl
          have c2 : (ByteArray.mk #[97]) = bs [97] := rfl
          have c3 : (ByteArray.mk #[47]) = bs [47] := rfl
          have c4 : (ByteArray.mk #[]) = bs [] := rfl
          try rw [c1, c2, c3, c4]
          try simp only [c1, c2, c3]
          generalize v2.alloc (.cells #[.string (bs [65]), .string (bs [97]), .string (bs [47]), .slice none 0 0, .string (bs [])] 31) = v3 at *
          obtain ⟨k0, k1, k2⟩ := hp3.cells
          have s2 : v3.cell? ⟨w1.heap.size, 2, none⟩ = some (.func (.func G) #[] #[]) := Bk.cell hk3 2
          have HG2 := HGG.out
          rw [HG.out] at HG2
          simp only at HG2
          have HG3 := hid (HG2 _ _ hq3)
          clear HG2
          have HLT := hid (show w.heap.size ≤ v2.heap.size by omega)
          clear hq3
          go_wp2_with fail
          refine HG3.out.mono ?_
          rintro e w4 ⟨rfl, x', hq4, hx4, hb5⟩
          have hb6 := hb4.trans (hb5.mono HLT.out)
          obtain ⟨q0, q1, q2, q3, q4⟩ := hq4.cells
          clear hb4 hb5 k0 k1 k2 s2 hp3 hk3 hq4
          go_wp2_with fail
          refine (HQ.out _ x' hx4 z HZ).mono ?_
          rintro e w5 ⟨rfl, hb7⟩
          go_wp2_with fail
          go_returns
          exact ⟨rfl, estep hb6 hb7⟩
        · skip
          have HZ := hid (show chkQ m' h' p' L' [] = z by rw [← H.out, HC.out, if_neg]; rintro (⟨a, b⟩ | ⟨a, b⟩); exact b rfl; exact b rfl)
          clear H HC
          try clear hv0
          try clear hn0
          have HND := hid hnd
          have HVL := hid hvl
          clear hnd hvl
          go_enter Try.func10, Try.ntmps10
          go_upto_region 1 with (fail)
          generalize w.alloc (.cells #[.int .i64 k, .string (bs []), .string (bs [])] 23) = v0 at *
          obtain ⟨k0, k1, k2⟩ := hp0.cells
          go_wp2_with fail
          refine (HK.out _).mono ?_
          rintro e w1 ⟨G, F, ⟨rfl, hb1⟩, hG, -⟩
          rw [HND.out, HVL.out]
          obtain ⟨eg, hGG⟩ := hG
          have HGG := hid (hGG [] [])
          clear hGG
          have hb2 := estep hb1 (enew w1 (.cells #[.bool true, .bool false, .func (.func G) #[] #[], .func (.func F) #[] #[]] 57))
          have hk2 := Bk.new w1 57 #[.bool true, .bool false, .func (.func G) #[] #[], .func (.func F) #[] #[]]
          have hp2 := hp0.up hb2
          have hb3 := estep hb0 hb2
          clear hb0 hb1 hb2 hp0 k0 k1 k2
          go_upto_region 2 with (fail)
          generalize w1.alloc (.cells #[.bool true, .bool false, .func (.func G) #[] #[], .func (.func F) #[] #[]] 57) = v2 at *
          obtain ⟨k0, k1, k2⟩ := hp2.cells
          have s0 : v2.cell? ⟨w1.heap.size, 0, none⟩ = some (.bool true) := Bk.cell hk2 0
          have s1 : v2.cell? ⟨w1.heap.size, 1, none⟩ = some (.bool false) := Bk.cell hk2 1
          have s2 : v2.cell? ⟨w1.heap.size, 2, none⟩ = some (.func (.func G) #[] #[]) := Bk.cell hk2 2
          go_upto_region 5 with (fail)
          have hq3 := BQ.new v2 [65] [97] [47] (.slice none 0 0) []
          have hp3 := hp2.up (enew v2 (.cells #[.string (bs [65]), .string (bs [97]), .string (bs [47]), .slice none 0 0, .string (bs [])] 31))
          have hk3 := hk2.up (enew v2 (.cells #[.string (bs [65]), .string (bs [97]), .string (bs [47]), .slice none 0 0, .string (bs [])] 31))
          have hb4 := estep hb3 (enew v2 (.cells #[.string (bs [65]), .string (bs [97]), .string (bs [47]), .slice none 0 0, .string (bs [])] 31))
          have hsz := hb3.size; have hsz2 := (enew v2 (.cells #[.string (bs [65]), .string (bs [97]), .string (bs [47]), .slice none 0 0, .string (bs [])] 31)).size
          clear hp2 hk2 hb3 k0 k1 k2 s0 s1 s2
          have c1 : (ByteArray.mk #[65]) = bs [65] := rfl
          have c2 : (ByteArray.mk #[97]) = bs [97] := rfl
          have c3 : (ByteArray.mk #[47]) = bs [47] := rfl
          have c4 : (ByteArray.mk #[]) = bs [] := rfl
          try rw [c1, c2, c3, c4]
          try simp only [c1, c2, c3]
          generalize v2.alloc (.cells #[.string (bs [65]), .string (bs [97]), .string (bs [47]), .slice none 0 0, .string (bs [])] 31) = v3 at *
          obtain ⟨k0, k1, k2⟩ := hp3.cells
          have s2 : v3.cell? ⟨w1.heap.size, 2, none⟩ = some (.func (.func G) #[] #[]) := Bk.cell hk3 2
          have HG2 := HGG.out
          rw [HG.out] at HG2
          simp only at HG2
          have HG3 := hid (HG2 _ _ hq3)
          clear HG2
          have HLT := hid (show w.heap.size ≤ v2.heap.size by omega)
          clear hq3
          go_wp2_with fail
          refine HG3.out.mono ?_
          rintro e w4 ⟨rfl, x', hq4, hx4, hb5⟩
          have hb6 := hb4.trans (hb5.mono HLT.out)
          obtain ⟨q0, q1, q2, q3, q4⟩ := hq4.cells
          clear hb4 hb5 k0 k1 k2 s2 hp3 hk3 hq4
          go_wp2_with fail
          refine (HQ.out _ x' hx4 z HZ).mono ?_
          rintro e w5 ⟨rfl, hb7⟩
          go_wp2_with fail
          go_returns
          exact ⟨rfl, estep hb6 hb7⟩
        · skip
          have HZ := hid (show chkQ m' h' p' L' [] = z by rw [← H.out, HC.out, if_neg]; rintro (⟨a, b⟩ | ⟨a, b⟩); exact b rfl; exact b rfl)
          clear H HC
          try clear hv0
          try clear hn0
          have HND := hid hnd
          have HVL := hid hvl
          clear hnd hvl
          go_enter Try.func10, Try.ntmps10
          go_upto_region 1 with (fail)
          generalize w.alloc (.cells #[.int .i64 k, .string (bs []), .string (bs [])] 23) = v0 at *
          obtain ⟨k0, k1, k2⟩ := hp0.cells
          go_wp2_with fail
          refine (HK.out _).mono ?_
          rintro e w1 ⟨G, F, ⟨rfl, hb1⟩, hG, -⟩
          rw [HND.out, HVL.out]
          obtain ⟨eg, hGG⟩ := hG
          have HGG := hid (hGG [] [])
          clear hGG
          have hb2 := estep hb1 (enew w1 (.cells #[.bool true, .bool true, .func (.func G) #[] #[], .func (.func F) #[] #[]] 57))
          have hk2 := Bk.new w1 57 #[.bool true, .bool true, .func (.func G) #[] #[], .func (.func F) #[] #[]]
          have hp2 := hp0.up hb2
          have hb3 := estep hb0 hb2
          clear hb0 hb1 hb2 hp0 k0 k1 k2
          go_upto_region 2 with (fail)
          generalize w1.alloc (.cells #[.bool true, .bool true, .func (.func G) #[] #[], .func (.func F) #[] #[]] 57) = v2 at *
          obtain ⟨k0, k1, k2⟩ := hp2.cells
          have s0 : v2.cell? ⟨w1.heap.size, 0, none⟩ = some (.bool true) := Bk.cell hk2 0
          have s1 : v2.cell? ⟨w1.heap.size, 1, none⟩ = some (.bool true) := Bk.cell hk2 1
          have s2 : v2.cell? ⟨w1.heap.size, 2, none⟩ = some (.func (.func G) #[] #[]) := Bk.cell hk2 2
          go_upto_region 5 with (fail)
          have hq3 := BQ.new v2 [65] [97] [47] (.slice none 0 0) []
          have hp3 := hp2.up (enew v2 (.cells #[.string (bs [65]), .string (bs [97]), .string (bs [47]), .slice none 0 0, .string (bs [])] 31))
          have hk3 := hk2.up (enew v2 (.cells #[.string (bs [65]), .string (bs [97]), .string (bs [47]), .slice none 0 0, .string (bs [])] 31))
          have hb4 := estep hb3 (enew v2 (.cells #[.string (bs [65]), .string (bs [97]), .string (bs [47]), .slice none 0 0, .string (bs [])] 31))
          have hsz := hb3.size; have hsz2 := (enew v2 (.cells #[.string (bs [65]), .string (bs [97]), .string (bs [47]), .slice none 0 0, .string (bs [])] 31)).size
          clear hp2 hk2 hb3 k0 k1 k2 s0 s1 s2
          have c1 : (ByteArray.mk #[65]) = bs [65] := rfl
          have c2 : (ByteArray.mk #[97]) = bs [97] := rfl
          have c3 : (ByteArray.mk #[47]) = bs [47] := rfl
          have c4 : (ByteArray.mk #[]) = bs [] := rfl
          try rw [c1, c2, c3, c4]
          try simp only [c1, c2, c3]
          generalize v2.alloc (.cells #[.string (bs [65]), .string (bs [97]), .string (bs [47]), .slice none 0 0, .string (bs [])] 31) = v3 at *
          obtain ⟨k0, k1, k2⟩ := hp3.cells
          have s2 : v3.cell? ⟨w1.heap.size, 2, none⟩ = some (.func (.func G) #[] #[]) := Bk.cell hk3 2
          have HG2 := HGG.out
          rw [HG.out] at HG2
          simp only at HG2
          have HG3 := hid (HG2 _ _ hq3)
          clear HG2
          have HLT := hid (show w.heap.size ≤ v2.heap.size by omega)
          clear hq3
          go_wp2_with fail
          refine HG3.out.mono ?_
          rintro e w4 ⟨rfl, x', hq4, hx4, hb5⟩
          have hb6 := hb4.trans (hb5.mono HLT.out)
          obtain ⟨q0, q1, q2, q3, q4⟩ := hq4.cells
          clear hb4 hb5 k0 k1 k2 s2 hp3 hk3 hq4
          go_wp2_with fail
          refine (HQ.out _ x' hx4 z HZ).mono ?_
          rintro e w5 ⟨rfl, hb7⟩
          go_wp2_with fail
          go_returns
          exact ⟨rfl, estep hb6 hb7⟩
      · have hvb : (v == []) = false := by simpa using hv0
        have hvb2 : (v != []) = true := by simpa using hv0
        cases hnd : ndK k <;> cases hvl : vlK k
        · skip
          have HZ := hid (show z = 2 by rw [← H.out, HC.out, if_pos (Or.inr ⟨hvl, hv0⟩)])
          clear H HC
          try clear hv0
          try clear hn0
          have HND := hid hnd
          have HVL := hid hvl
          clear hnd hvl
          go_enter Try.func10, Try.ntmps10
          go_upto_region 1 with (fail)
          generalize w.alloc (.cells #[.int .i64 k, .string (bs []), .string (bs v)] 23) = v0 at *
          obtain ⟨k0, k1, k2⟩ := hp0.cells
          go_wp2_with fail
          refine (HK.out _).mono ?_
          rintro e w1 ⟨G, F, ⟨rfl, hb1⟩, hG, -⟩
          rw [HND.out, HVL.out]
          obtain ⟨eg, hGG⟩ := hG
          have HGG := hid (hGG [] v)
          clear hGG
          have hb2 := estep hb1 (enew w1 (.cells #[.bool false, .bool false, .func (.func G) #[] #[], .func (.func F) #[] #[]] 57))
          have hk2 := Bk.new w1 57 #[.bool false, .bool false, .func (.func G) #[] #[], .func (.func F) #[] #[]]
          have hp2 := hp0.up hb2
          have hb3 := estep hb0 hb2
          clear hb0 hb1 hb2 hp0 k0 k1 k2
          go_upto_region 2 with (fail)
          generalize w1.alloc (.cells #[.bool false, .bool false, .func (.func G) #[] #[], .func (.func F) #[] #[]] 57) = v2 at *
          obtain ⟨k0, k1, k2⟩ := hp2.cells
          have s0 : v2.cell? ⟨w1.heap.size, 0, none⟩ = some (.bool false) := Bk.cell hk2 0
          have s1 : v2.cell? ⟨w1.heap.size, 1, none⟩ = some (.bool false) := Bk.cell hk2 1
          have s2 : v2.cell? ⟨w1.heap.size, 2, none⟩ = some (.func (.func G) #[] #[]) := Bk.cell hk2 2
          go_wp2_with fail
          go_returns
          exact ⟨by rw [HZ.out]; rfl, hb3⟩
        · skip
          have HZ := hid (show chkQ m' h' p' L' [] = z by rw [← H.out, HC.out, if_neg]; rintro (⟨a, b⟩ | ⟨a, b⟩); exact b rfl; rw [hvl] at a; cases a)
          clear H HC
          try clear hv0
          try clear hn0
          have HND := hid hnd
          have HVL := hid hvl
          clear hnd hvl
          go_enter Try.func10, Try.ntmps10
          go_upto_region 1 with (fail)
          generalize w.alloc (.cells #[.int .i64 k, .string (bs []), .string (bs v)] 23) = v0 at *
          obtain ⟨k0, k1, k2⟩ := hp0.cells
          go_wp2_with fail
          refine (HK.out _).mono ?_
          rintro e w1 ⟨G, F, ⟨rfl, hb1⟩, hG, -⟩
          rw [HND.out, HVL.out]
          obtain ⟨eg, hGG⟩ := hG
          have HGG := hid (hGG [] v)
          clear hGG
          have hb2 := estep hb1 (enew w1 (.cells #[.bool false, .bool true, .func (.func G) #[] #[], .func (.func F) #[] #[]] 57))
          have hk2 := Bk.new w1 57 #[.bool false, .bool true, .func (.func G) #[] #[], .func (.func F) #[] #[]]
          have hp2 := hp0.up hb2
          have hb3 := estep hb0 hb2
          clear hb0 hb1 hb2 hp0 k0 k1 k2
          go_upto_region 2 with (fail)
          generalize w1.alloc (.cells #[.bool false, .bool true, .func (.func G) #[] #[], .func (.func F) #[] #[]] 57) = v2 at *
          obtain ⟨k0, k1, k2⟩ := hp2.cells
          have s0 : v2.cell? ⟨w1.heap.size, 0, none⟩ = some (.bool false) := Bk.cell hk2 0
          have s1 : v2.cell? ⟨w1.heap.size, 1, none⟩ = some (.bool true) := Bk.cell hk2 1
          have s2 : v2.cell? ⟨w1.heap.size, 2, none⟩ = some (.func (.func G) #[] #[]) := Bk.cell hk2 2
          go_upto_region 5 with (fail)
          have hq3 := BQ.new v2 [65] [97] [47] (.slice none 0 0) []
          have hp3 := hp2.up (enew v2 (.cells #[.string (bs [65]), .string (bs [97]), .string (bs [47]), .slice none 0 0, .string (bs [])] 31))
          have hk3 := hk2.up (enew v2 (.cells #[.string (bs [65]), .string (bs [97]), .string (bs [47]), .slice none 0 0, .string (bs [])] 31))
          have hb4 := estep hb3 (enew v2 (.cells #[.string (bs [65]), .string (bs [97]), .string (bs [47]), .slice none 0 0, .string (bs [])] 31))
          have hsz := hb3.size; have hsz2 := (enew v2 (.cells #[.string (bs [65]), .string (bs [97]), .string (bs [47]), .slice none 0 0, .string (bs [])] 31)).size
          clear hp2 hk2 hb3 k0 k1 k2 s0 s1 s2
          have c1 : (ByteArray.mk #[65]) = bs [65] := rfl
          have c2 : (ByteArray.mk #[97]) = bs [97] := rfl
          have c3 : (ByteArray.mk #[47]) = bs [47] := rfl
          have c4 : (ByteArray.mk #[]) = bs [] := rfl
          try rw [c1, c2, c3, c4]
          try simp only [c1, c2, c3]
          generalize v2.alloc (.cells #[.string (bs [65]), .string (bs [97]), .string (bs [47]), .slice none 0 0, .string (bs [])] 31) = v3 at *
          obtain ⟨k0, k1, k2⟩ := hp3.cells
          have s2 : v3.cell? ⟨w1.heap.size, 2, none⟩ = some (.func (.func G) #[] #[]) := Bk.cell hk3 2
          have HG2 := HGG.out
          rw [HG.out] at HG2
          simp only at HG2
          have HG3 := hid (HG2 _ _ hq3)
          clear HG2
          have HLT := hid (show w.heap.size ≤ v2.heap.size by omega)
          clear hq3
          go_wp2_with fail
          refine HG3.out.mono ?_
          rintro e w4 ⟨rfl, x', hq4, hx4, hb5⟩
          have hb6 := hb4.trans (hb5.mono HLT.out)
          obtain ⟨q0, q1, q2, q3, q4⟩ := hq4.cells
          clear hb4 hb5 k0 k1 k2 s2 hp3 hk3 hq4
          go_wp2_with fail
          refine (HQ.out _ x' hx4 z HZ).mono ?_
          rintro e w5 ⟨rfl, hb7⟩
          go_wp2_with fail
          go_returns
          exact ⟨rfl, estep hb6 hb7⟩
        · skip
          have HZ := hid (show z = 2 by rw [← H.out, HC.out, if_pos (Or.inr ⟨hvl, hv0⟩)])
          clear H HC
          try clear hv0
          try clear hn0
          have HND := hid hnd
          have HVL := hid hvl
          clear hnd hvl
          go_enter Try.func10, Try.ntmps10
          go_upto_region 1 with (fail)
          generalize w.alloc (.cells #[.int .i64 k, .string (bs []), .string (bs v)] 23) = v0 at *
          obtain ⟨k0, k1, k2⟩ := hp0.cells
          go_wp2_with fail
          refine (HK.out _).mono ?_
          rintro e w1 ⟨G, F, ⟨rfl, hb1⟩, hG, -⟩
          rw [HND.out, HVL.out]
          obtain ⟨eg, hGG⟩ := hG
          have HGG := hid (hGG [] v)
          clear hGG
          have hb2 := estep hb1 (enew w1 (.cells #[.bool true, .bool false, .func (.func G) #[] #[], .func (.func F) #[] #[]] 57))
          have hk2 := Bk.new w1 57 #[.bool true, .bool false, .func (.func G) #[] #[], .func (.func F) #[] #[]]
          have hp2 := hp0.up hb2
          have hb3 := estep hb0 hb2
          clear hb0 hb1 hb2 hp0 k0 k1 k2
          go_upto_region 2 with (fail)
          generalize w1.alloc (.cells #[.bool true, .bool false, .func (.func G) #[] #[], .func (.func F) #[] #[]] 57) = v2 at *
          obtain ⟨k0, k1, k2⟩ := hp2.cells
          have s0 : v2.cell? ⟨w1.heap.size, 0, none⟩ = some (.bool true) := Bk.cell hk2 0
          have s1 : v2.cell? ⟨w1.heap.size, 1, none⟩ = some (.bool false) := Bk.cell hk2 1
          have s2 : v2.cell? ⟨w1.heap.size, 2, none⟩ = some (.func (.func G) #[] #[]) := Bk.cell hk2 2
          go_wp2_with fail
          go_returns
          exact ⟨by rw [HZ.out]; rfl, hb3⟩
        · skip
          have HZ := hid (show chkQ m' h' p' L' [] = z by rw [← H.out, HC.out, if_neg]; rintro (⟨a, b⟩ | ⟨a, b⟩); exact b rfl; rw [hvl] at a; cases a)
          clear H HC
          try clear hv0
          try clear hn0
          have HND := hid hnd
          have HVL := hid hvl
          clear hnd hvl
          go_enter Try.func10, Try.ntmps10
          go_upto_region 1 with (fail)
          generalize w.alloc (.cells #[.int .i64 k, .string (bs []), .string (bs v)] 23) = v0 at *
          obtain ⟨k0, k1, k2⟩ := hp0.cells
          go_wp2_with fail
          refine (HK.out _).mono ?_
          rintro e w1 ⟨G, F, ⟨rfl, hb1⟩, hG, -⟩
          rw [HND.out, HVL.out]
          obtain ⟨eg, hGG⟩ := hG
          have HGG := hid (hGG [] v)
          clear hGG
          have hb2 := estep hb1 (enew w1 (.cells #[.bool true, .bool true, .func (.func G) #[] #[], .func (.func F) #[] #[]] 57))
          have hk2 := Bk.new w1 57 #[.bool true, .bool true, .func (.func G) #[] #[], .func (.func F) #[] #[]]
          have hp2 := hp0.up hb2
          have hb3 := estep hb0 hb2
          clear hb0 hb1 hb2 hp0 k0 k1 k2
          go_upto_region 2 with (fail)
          generalize w1.alloc (.cells #[.bool true, .bool true, .func (.func G) #[] #[], .func (.func F) #[] #[]] 57) = v2 at *
          obtain ⟨k0, k1, k2⟩ := hp2.cells
          have s0 : v2.cell? ⟨w1.heap.size, 0, none⟩ = some (.bool true) := Bk.cell hk2 0
          have s1 : v2.cell? ⟨w1.heap.size, 1, none⟩ = some (.bool true) := Bk.cell hk2 1
          have s2 : v2.cell? ⟨w1.heap.size, 2, none⟩ = some (.func (.func G) #[] #[]) := Bk.cell hk2 2
          go_upto_region 5 with (fail)
          have hq3 := BQ.new v2 [65] [97] [47] (.slice none 0 0) []
          have hp3 := hp2.up (enew v2 (.cells #[.string (bs [65]), .string (bs [97]), .string (bs [47]), .slice none 0 0, .string (bs [])] 31))
          have hk3 := hk2.up (enew v2 (.cells #[.string (bs [65]), .string (bs [97]), .string (bs [47]), .slice none 0 0, .string (bs [])] 31))
          have hb4 := estep hb3 (enew v2 (.cells #[.string (bs [65]), .string (bs [97]), .string (bs [47]), .slice none 0 0, .string (bs [])] 31))
          have hsz := hb3.size; have hsz2 := (enew v2 (.cells #[.string (bs [65]), .string (bs [97]), .string (bs [47]), .slice none 0 0, .string (bs [])] 31)).size
          clear hp2 hk2 hb3 k0 k1 k2 s0 s1 s2
          have c1 : (ByteArray.mk #[65]) = bs [65] := rfl
          have c2 : (ByteArray.mk #[97]) = bs [97] := rfl
          have c3 : (ByteArray.mk #[47]) = bs [47] := rfl
          have c4 : (ByteArray.mk #[]) = bs [] := rfl
          try rw [c1, c2, c3, c4]
          try simp only [c1, c2, c3]
          generalize v2.alloc (.cells #[.string (bs [65]), .string (bs [97]), .string (bs [47]), .slice none 0 0, .string (bs [])] 31) = v3 at *
          obtain ⟨k0, k1, k2⟩ := hp3.cells
          have s2 : v3.cell? ⟨w1.heap.size, 2, none⟩ = some (.func (.func G) #[] #[]) := Bk.cell hk3 2
          have HG2 := HGG.out
          rw [HG.out] at HG2
          simp only at HG2
          have HG3 := hid (HG2 _ _ hq3)
          clear HG2
          have HLT := hid (show w.heap.size ≤ v2.heap.size by omega)
          clear hq3
          go_wp2_with fail
          refine HG3.out.mono ?_
          rintro e w4 ⟨rfl, x', hq4, hx4, hb5⟩
          have hb6 := hb4.trans (hb5.mono HLT.out)
          obtain ⟨q0, q1, q2, q3, q4⟩ := hq4.cells
          clear hb4 hb5 k0 k1 k2 s2 hp3 hk3 hq4
          go_wp2_with fail
          refine (HQ.out _ x' hx4 z HZ).mono ?_
          rintro e w5 ⟨rfl, hb7⟩
          go_wp2_with fail
          go_returns
          exact ⟨rfl, estep hb6 hb7⟩
    · have hnb : (n == []) = false := by simpa using hn0
      have hnb2 : (n != []) = true := by simpa using hn0
      by_cases hv0 : v = []
      · subst hv0
        cases hnd : ndK k <;> cases hvl : vlK k
        · skip
          have HZ := hid (show z = 2 by rw [← H.out, HC.out, if_pos (Or.inl ⟨hnd, hn0⟩)])
          clear H HC
          try clear hv0
          try clear hn0
          have HND := hid hnd
          have HVL := hid hvl
          clear hnd hvl
          go_enter Try.func10, Try.ntmps10
          go_upto_region 1 with (fail)
          generalize w.alloc (.cells #[.int .i64 k, .string (bs n), .string (bs [])] 23) = v0 at *
          obtain ⟨k0, k1, k2⟩ := hp0.cells
          go_wp2_with fail
          refine (HK.out _).mono ?_
          rintro e w1 ⟨G, F, ⟨rfl, hb1⟩, hG, -⟩
          rw [HND.out, HVL.out]
          obtain ⟨eg, hGG⟩ := hG
          have HGG := hid (hGG n [])
          clear hGG
          have hb2 := estep hb1 (enew w1 (.cells #[.bool false, .bool false, .func (.func G) #[] #[], .func (.func F) #[] #[]] 57))
          have hk2 := Bk.new w1 57 #[.bool false, .bool false, .func (.func G) #[] #[], .func (.func F) #[] #[]]
          have hp2 := hp0.up hb2
          have hb3 := estep hb0 hb2
          clear hb0 hb1 hb2 hp0 k0 k1 k2
          go_upto_region 2 with (fail)
          generalize w1.alloc (.cells #[.bool false, .bool false, .func (.func G) #[] #[], .func (.func F) #[] #[]] 57) = v2 at *
          obtain ⟨k0, k1, k2⟩ := hp2.cells
          have s0 : v2.cell? ⟨w1.heap.size, 0, none⟩ = some (.bool false) := Bk.cell hk2 0
          have s1 : v2.cell? ⟨w1.heap.size, 1, none⟩ = some (.bool false) := Bk.cell hk2 1
          have s2 : v2.cell? ⟨w1.heap.size, 2, none⟩ = some (.func (.func G) #[] #[]) := Bk.cell hk2 2
          go_wp2_with fail
          go_returns
          exact ⟨by rw [HZ.out]; rfl, hb3⟩
        · skip
          have HZ := hid (show z = 2 by rw [← H.out, HC.out, if_pos (Or.inl ⟨hnd, hn0⟩)])
          clear H HC
          try clear hv0
          try clear hn0
          have HND := hid hnd
          have HVL := hid hvl
          clear hnd hvl
          go_enter Try.func10, Try.ntmps10
          go_upto_region 1 with (fail)
          generalize w.alloc (.cells #[.int .i64 k, .string (bs n), .string (bs [])] 23) = v0 at *
          obtain ⟨k0, k1, k2⟩ := hp0.cells
          go_wp2_with fail
          refine (HK.out _).mono ?_
          rintro e w1 ⟨G, F, ⟨rfl, hb1⟩, hG, -⟩
          rw [HND.out, HVL.out]
          obtain ⟨eg, hGG⟩ := hG
          have HGG := hid (hGG n [])
          clear hGG
          have hb2 := estep hb1 (enew w1 (.cells #[.bool false, .bool true, .func (.func G) #[] #[], .func (.func F) #[] #[]] 57))
          have hk2 := Bk.new w1 57 #[.bool false, .bool true, .func (.func G) #[] #[], .func (.func F) #[] #[]]
          have hp2 := hp0.up hb2
          have hb3 := estep hb0 hb2
          clear hb0 hb1 hb2 hp0 k0 k1 k2
          go_upto_region 2 with (fail)
          generalize w1.alloc (.cells #[.bool false, .bool true, .func (.func G) #[] #[], .func (.func F) #[] #[]] 57) = v2 at *
          obtain ⟨k0, k1, k2⟩ := hp2.cells
          have s0 : v2.cell? ⟨w1.heap.size, 0, none⟩ = some (.bool false) := Bk.cell hk2 0
          have s1 : v2.cell? ⟨w1.heap.size, 1, none⟩ = some (.bool true) := Bk.cell hk2 1
          have s2 : v2.cell? ⟨w1.heap.size, 2, none⟩ = some (.func (.func G) #[] #[]) := Bk.cell hk2 2
          go_wp2_with fail
          go_returns
          exact ⟨by rw [HZ.out]; rfl, hb3⟩
        · skip
          have HZ := hid (show chkQ m' h' p' L' [] = z by rw [← H.out, HC.out, if_neg]; rintro (⟨a, b⟩ | ⟨a, b⟩); rw [hnd] at a; cases a; exact b rfl)
          clear H HC
          try clear hv0
          try clear hn0
          have HND := hid hnd
          have HVL := hid hvl
          clear hnd hvl
          go_enter Try.func10, Try.ntmps10
          go_upto_region 1 with (fail)
          generalize w.alloc (.cells #[.int .i64 k, .string (bs n), .string (bs [])] 23) = v0 at *
          obtain ⟨k0, k1, k2⟩ := hp0.cells
          go_wp2_with fail
          refine (HK.out _).mono ?_
          rintro e w1 ⟨G, F, ⟨rfl, hb1⟩, hG, -⟩
          rw [HND.out, HVL.out]
          obtain ⟨eg, hGG⟩ := hG
          have HGG := hid (hGG n [])
          clear hGG
          have hb2 := estep hb1 (enew w1 (.cells #[.bool true, .bool false, .func (.func G) #[] #[], .func (.func F) #[] #[]] 57))
          have hk2 := Bk.new w1 57 #[.bool true, .bool false, .func (.func G) #[] #[], .func (.func F) #[] #[]]
          have hp2 := hp0.up hb2
          have hb3 := estep hb0 hb2
          clear hb0 hb1 hb2 hp0 k0 k1 k2
          go_upto_region 2 with (fail)
          generalize w1.alloc (.cells #[.bool true, .bool false, .func (.func G) #[] #[], .func (.func F) #[] #[]] 57) = v2 at *
          obtain ⟨k0, k1, k2⟩ := hp2.cells
          have s0 : v2.cell? ⟨w1.heap.size, 0, none⟩ = some (.bool true) := Bk.cell hk2 0
          have s1 : v2.cell? ⟨w1.heap.size, 1, none⟩ = some (.bool false) := Bk.cell hk2 1
          have s2 : v2.cell? ⟨w1.heap.size, 2, none⟩ = some (.func (.func G) #[] #[]) := Bk.cell hk2 2
          go_upto_region 5 with (fail)
          have hq3 := BQ.new v2 [65] [97] [47] (.slice none 0 0) []
          have hp3 := hp2.up (enew v2 (.cells #[.string (bs [65]), .string (bs [97]), .string (bs [47]), .slice none 0 0, .string (bs [])] 31))
          have hk3 := hk2.up (enew v2 (.cells #[.string (bs [65]), .string (bs [97]), .string (bs [47]), .slice none 0 0, .string (bs [])] 31))
          have hb4 := estep hb3 (enew v2 (.cells #[.string (bs [65]), .string (bs [97]), .string (bs [47]), .slice none 0 0, .string (bs [])] 31))
          have hsz := hb3.size; have hsz2 := (enew v2 (.cells #[.string (bs [65]), .string (bs [97]), .string (bs [47]), .slice none 0 0, .string (bs [])] 31)).size
          clear hp2 hk2 hb3 k0 k1 k2 s0 s1 s2
          have c1 : (ByteArray.mk #[65]) = bs [65] := rfl
          have c2 : (ByteArray.mk #[97]) = bs [97] := rfl
          have c3 : (ByteArray.mk #[47]) = bs [47] := rfl
          have c4 : (ByteArray.mk #[]) = bs [] := rfl
          try rw [c1, c2, c3, c4]
          try simp only [c1, c2, c3]
          generalize v2.alloc (.cells #[.string (bs [65]), .string (bs [97]), .string (bs [47]), .slice none 0 0, .string (bs [])] 31) = v3 at *
          obtain ⟨k0, k1, k2⟩ := hp3.cells
          have s2 : v3.cell? ⟨w1.heap.size, 2, none⟩ = some (.func (.func G) #[] #[]) := Bk.cell hk3 2
          have HG2 := HGG.out
          rw [HG.out] at HG2
          simp only at HG2
          have HG3 := hid (HG2 _ _ hq3)
          clear HG2
          have HLT := hid (show w.heap.size ≤ v2.heap.size by omega)
          clear hq3
          go_wp2_with fail
          refine HG3.out.mono ?_
          rintro e w4 ⟨rfl, x', hq4, hx4, hb5⟩
          have hb6 := hb4.trans (hb5.mono HLT.out)
          obtain ⟨q0, q1, q2, q3, q4⟩ := hq4.cells
          clear hb4 hb5 k0 k1 k2 s2 hp3 hk3 hq4
          go_wp2_with fail
          refine (HQ.out _ x' hx4 z HZ).mono ?_
          rintro e w5 ⟨rfl, hb7⟩
          go_wp2_with fail
          go_returns
          exact ⟨rfl, estep hb6 hb7⟩
        · skip
          have HZ := hid (show chkQ m' h' p' L' [] = z by rw [← H.out, HC.out, if_neg]; rintro (⟨a, b⟩ | ⟨a, b⟩); rw [hnd] at a; cases a; exact b rfl)
          clear H HC
          try clear hv0
          try clear hn0
          have HND := hid hnd
          have HVL := hid hvl
          clear hnd hvl
          go_enter Try.func10, Try.ntmps10
          go_upto_region 1 with (fail)
          generalize w.alloc (.cells #[.int .i64 k, .string (bs n), .string (bs [])] 23) = v0 at *
          obtain ⟨k0, k1, k2⟩ := hp0.cells
          go_wp2_with fail
          refine (HK.out _).mono ?_
          rintro e w1 ⟨G, F, ⟨rfl, hb1⟩, hG, -⟩
          rw [HND.out, HVL.out]
          obtain ⟨eg, hGG⟩ := hG
          have HGG := hid (hGG n [])
          clear hGG
          have hb2 := estep hb1 (enew w1 (.cells #[.bool true, .bool true, .func (.func G) #[] #[], .func (.func F) #[] #[]] 57))
          have hk2 := Bk.new w1 57 #[.bool true, .bool true, .func (.func G) #[] #[], .func (.func F) #[] #[]]
          have hp2 := hp0.up hb2
          have hb3 := estep hb0 hb2
          clear hb0 hb1 hb2 hp0 k0 k1 k2
          go_upto_region 2 with (fail)
          generalize w1.alloc (.cells #[.bool true, .bool true, .func (.func G) #[] #[], .func (.func F) #[] #[]] 57) = v2 at *
          obtain ⟨k0, k1, k2⟩ := hp2.cells
          have s0 : v2.cell? ⟨w1.heap.size, 0, none⟩ = some (.bool true) := Bk.cell hk2 0
          have s1 : v2.cell? ⟨w1.heap.size, 1, none⟩ = some (.bool true) := Bk.cell hk2 1
          have s2 : v2.cell? ⟨w1.heap.size, 2, none⟩ = some (.func (.func G) #[] #[]) := Bk.cell hk2 2
          go_upto_region 5 with (fail)
          have hq3 := BQ.new v2 [65] [97] [47] (.slice none 0 0) []
          have hp3 := hp2.up (enew v2 (.cells #[.string (bs [65]), .string (bs [97]), .string (bs [47]), .slice none 0 0, .string (bs [])] 31))
          have hk3 := hk2.up (enew v2 (.cells #[.string (bs [65]), .string (bs [97]), .string (bs [47]), .slice none 0 0, .string (bs [])] 31))
          have hb4 := estep hb3 (enew v2 (.cells #[.string (bs [65]), .string (bs [97]), .string (bs [47]), .slice none 0 0, .string (bs [])] 31))
          have hsz := hb3.size; have hsz2 := (enew v2 (.cells #[.string (bs [65]), .string (bs [97]), .string (bs [47]), .slice none 0 0, .string (bs [])] 31)).size
          clear hp2 hk2 hb3 k0 k1 k2 s0 s1 s2
          have c1 : (ByteArray.mk #[65]) = bs [65] := rfl
          have c2 : (ByteArray.mk #[97]) = bs [97] := rfl
          have c3 : (ByteArray.mk #[47]) = bs [47] := rfl
          have c4 : (ByteArray.mk #[]) = bs [] := rfl
          try rw [c1, c2, c3, c4]
          try simp only [c1, c2, c3]
          generalize v2.alloc (.cells #[.string (bs [65]), .string (bs [97]), .string (bs [47]), .slice none 0 0, .string (bs [])] 31) = v3 at *
          obtain ⟨k0, k1, k2⟩ := hp3.cells
          have s2 : v3.cell? ⟨w1.heap.size, 2, none⟩ = some (.func (.func G) #[] #[]) := Bk.cell hk3 2
          have HG2 := HGG.out
          rw [HG.out] at HG2
          simp only at HG2
          have HG3 := hid (HG2 _ _ hq3)
          clear HG2
          have HLT := hid (show w.heap.size ≤ v2.heap.size by omega)
          clear hq3
          go_wp2_with fail
          refine HG3.out.mono ?_
          rintro e w4 ⟨rfl, x', hq4, hx4, hb5⟩
          have hb6 := hb4.trans (hb5.mono HLT.out)
          obtain ⟨q0, q1, q2, q3, q4⟩ := hq4.cells
          clear hb4 hb5 k0 k1 k2 s2 hp3 hk3 hq4
          go_wp2_with fail
          refine (HQ.out _ x' hx4 z HZ).mono ?_
          rintro e w5 ⟨rfl, hb7⟩
          go_wp2_with fail
          go_returns
          exact ⟨rfl, estep hb6 hb7⟩
      · have hvb : (v == []) = false := by simpa using hv0
        have hvb2 : (v != []) = true := by simpa using hv0
        cases hnd : ndK k <;> cases hvl : vlK k
        · skip
          have HZ := hid (show z = 2 by rw [← H.out, HC.out, if_pos (Or.inl ⟨hnd, hn0⟩)])
          clear H HC
          try clear hv0
          try clear hn0
          have HND := hid hnd
          have HVL := hid hvl
          clear hnd hvl
          go_enter Try.func10, Try.ntmps10
          go_upto_region 1 with (fail)
          generalize w.alloc (.cells #[.int .i64 k, .string (bs n), .string (bs v)] 23) = v0 at *
          obtain ⟨k0, k1, k2⟩ := hp0.cells
          go_wp2_with fail
          refine (HK.out _).mono ?_
          rintro e w1 ⟨G, F, ⟨rfl, hb1⟩, hG, -⟩
          rw [HND.out, HVL.out]
          obtain ⟨eg, hGG⟩ := hG
          have HGG := hid (hGG n v)
          clear hGG
          have hb2 := estep hb1 (enew w1 (.cells #[.bool false, .bool false, .func (.func G) #[] #[], .func (.func F) #[] #[]] 57))
          have hk2 := Bk.new w1 57 #[.bool false, .bool false, .func (.func G) #[] #[], .func (.func F) #[] #[]]
          have hp2 := hp0.up hb2
          have hb3 := estep hb0 hb2
          clear hb0 hb1 hb2 hp0 k0 k1 k2
          go_upto_region 2 with (fail)
          generalize w1.alloc (.cells #[.bool false, .bool false, .func (.func G) #[] #[], .func (.func F) #[] #[]] 57) = v2 at *
          obtain ⟨k0, k1, k2⟩ := hp2.cells
          have s0 : v2.cell? ⟨w1.heap.size, 0, none⟩ = some (.bool false) := Bk.cell hk2 0
          have s1 : v2.cell? ⟨w1.heap.size, 1, none⟩ = some (.bool false) := Bk.cell hk2 1
          have s2 : v2.cell? ⟨w1.heap.size, 2, none⟩ = some (.func (.func G) #[] #[]) := Bk.cell hk2 2
          go_wp2_with fail
          go_returns
          exact ⟨by rw [HZ.out]; rfl, hb3⟩
        · skip
          have HZ := hid (show z = 2 by rw [← H.out, HC.out, if_pos (Or.inl ⟨hnd, hn0⟩)])
          clear H HC
          try clear hv0
          try clear hn0
          have HND := hid hnd
          have HVL := hid hvl
          clear hnd hvl
          go_enter Try.func10, Try.ntmps10
          go_upto_region 1 with (fail)
          generalize w.alloc (.cells #[.int .i64 k, .string (bs n), .string (bs v)] 23) = v0 at *
          obtain ⟨k0, k1, k2⟩ := hp0.cells
          go_wp2_with fail
          refine (HK.out _).mono ?_
          rintro e w1 ⟨G, F, ⟨rfl, hb1⟩, hG, -⟩
          rw [HND.out, HVL.out]
          obtain ⟨eg, hGG⟩ := hG
          have HGG := hid (hGG n v)
          clear hGG
          have hb2 := estep hb1 (enew w1 (.cells #[.bool false, .bool true, .func (.func G) #[] #[], .func (.func F) #[] #[]] 57))
          have hk2 := Bk.new w1 57 #[.bool false, .bool true, .func (.func G) #[] #[], .func (.func F) #[] #[]]
          have hp2 := hp0.up hb2
          have hb3 := estep hb0 hb2
          clear hb0 hb1 hb2 hp0 k0 k1 k2
          go_upto_region 2 with (fail)
          generalize w1.alloc (.cells #[.bool false, .bool true, .func (.func G) #[] #[], .func (.func F) #[] #[]] 57) = v2 at *
          obtain ⟨k0, k1, k2⟩ := hp2.cells
          have s0 : v2.cell? ⟨w1.heap.size, 0, none⟩ = some (.bool false) := Bk.cell hk2 0
          have s1 : v2.cell? ⟨w1.heap.size, 1, none⟩ = some (.bool true) := Bk.cell hk2 1
          have s2 : v2.cell? ⟨w1.heap.size, 2, none⟩ = some (.func (.func G) #[] #[]) := Bk.cell hk2 2
          go_wp2_with fail
          go_returns
          exact ⟨by rw [HZ.out]; rfl, hb3⟩
        · skip
          have HZ := hid (show z = 2 by rw [← H.out, HC.out, if_pos (Or.inr ⟨hvl, hv0⟩)])
          clear H HC
          try clear hv0
          try clear hn0
          have HND := hid hnd
          have HVL := hid hvl
          clear hnd hvl
          go_enter Try.func10, Try.ntmps10
          go_upto_region 1 with (fail)
          generalize w.alloc (.cells #[.int .i64 k, .string (bs n), .string (bs v)] 23) = v0 at *
          obtain ⟨k0, k1, k2⟩ := hp0.cells
          go_wp2_with fail
          refine (HK.out _).mono ?_
          rintro e w1 ⟨G, F, ⟨rfl, hb1⟩, hG, -⟩
          rw [HND.out, HVL.out]
          obtain ⟨eg, hGG⟩ := hG
          have HGG := hid (hGG n v)
          clear hGG
          have hb2 := estep hb1 (enew w1 (.cells #[.bool true, .bool false, .func (.func G) #[] #[], .func (.func F) #[] #[]] 57))
          have hk2 := Bk.new w1 57 #[.bool true, .bool false, .func (.func G) #[] #[], .func (.func F) #[] #[]]
          have hp2 := hp0.up hb2
          have hb3 := estep hb0 hb2
          clear hb0 hb1 hb2 hp0 k0 k1 k2
          go_upto_region 2 with (fail)
          generalize w1.alloc (.cells #[.bool true, .bool false, .func (.func G) #[] #[], .func (.func F) #[] #[]] 57) = v2 at *
          obtain ⟨k0, k1, k2⟩ := hp2.cells
          have s0 : v2.cell? ⟨w1.heap.size, 0, none⟩ = some (.bool true) := Bk.cell hk2 0
          have s1 : v2.cell? ⟨w1.heap.size, 1, none⟩ = some (.bool false) := Bk.cell hk2 1
          have s2 : v2.cell? ⟨w1.heap.size, 2, none⟩ = some (.func (.func G) #[] #[]) := Bk.cell hk2 2
          go_wp2_with fail
          go_returns
          exact ⟨by rw [HZ.out]; rfl, hb3⟩
        · skip
          have HZ := hid (show chkQ m' h' p' L' [] = z by rw [← H.out, HC.out, if_neg]; rintro (⟨a, b⟩ | ⟨a, b⟩); rw [hnd] at a; cases a; rw [hvl] at a; cases a)
          clear H HC
          try clear hv0
          try clear hn0
          have HND := hid hnd
          have HVL := hid hvl
          clear hnd hvl
          go_enter Try.func10, Try.ntmps10
          go_upto_region 1 with (fail)
          generalize w.alloc (.cells #[.int .i64 k, .string (bs n), .string (bs v)] 23) = v0 at *
          obtain ⟨k0, k1, k2⟩ := hp0.cells
          go_wp2_with fail
          refine (HK.out _).mono ?_
          rintro e w1 ⟨G, F, ⟨rfl, hb1⟩, hG, -⟩
          rw [HND.out, HVL.out]
          obtain ⟨eg, hGG⟩ := hG
          have HGG := hid (hGG n v)
          clear hGG
          have hb2 := estep hb1 (enew w1 (.cells #[.bool true, .bool true, .func (.func G) #[] #[], .func (.func F) #[] #[]] 57))
          have hk2 := Bk.new w1 57 #[.bool true, .bool true, .func (.func G) #[] #[], .func (.func F) #[] #[]]
          have hp2 := hp0.up hb2
          have hb3 := estep hb0 hb2
          clear hb0 hb1 hb2 hp0 k0 k1 k2
          go_upto_region 2 with (fail)
          generalize w1.alloc (.cells #[.bool true, .bool true, .func (.func G) #[] #[], .func (.func F) #[] #[]] 57) = v2 at *
          obtain ⟨k0, k1, k2⟩ := hp2.cells
          have s0 : v2.cell? ⟨w1.heap.size, 0, none⟩ = some (.bool true) := Bk.cell hk2 0
          have s1 : v2.cell? ⟨w1.heap.size, 1, none⟩ = some (.bool true) := Bk.cell hk2 1
          have s2 : v2.cell? ⟨w1.heap.size, 2, none⟩ = some (.func (.func G) #[] #[]) := Bk.cell hk2 2
          go_upto_region 5 with (fail)
          have hq3 := BQ.new v2 [65] [97] [47] (.slice none 0 0) []
          have hp3 := hp2.up (enew v2 (.cells #[.string (bs [65]), .string (bs [97]), .string (bs [47]), .slice none 0 0, .string (bs [])] 31))
          have hk3 := hk2.up (enew v2 (.cells #[.string (bs [65]), .string (bs [97]), .string (bs [47]), .slice none 0 0, .string (bs [])] 31))
          have hb4 := estep hb3 (enew v2 (.cells #[.string (bs [65]), .string (bs [97]), .string (bs [47]), .slice none 0 0, .string (bs [])] 31))
          have hsz := hb3.size; have hsz2 := (enew v2 (.cells #[.string (bs [65]), .string (bs [97]), .string (bs [47]), .slice none 0 0, .string (bs [])] 31)).size
          clear hp2 hk2 hb3 k0 k1 k2 s0 s1 s2
          have c1 : (ByteArray.mk #[65]) = bs [65] := rfl
          have c2 : (ByteArray.mk #[97]) = bs [97] := rfl
          have c3 : (ByteArray.mk #[47]) = bs [47] := rfl
          have c4 : (ByteArray.mk #[]) = bs [] := rfl
          try rw [c1, c2, c3, c4]
          try simp only [c1, c2, c3]
          generalize v2.alloc (.cells #[.string (bs [65]), .string (bs [97]), .string (bs [47]), .slice none 0 0, .string (bs [])] 31) = v3 at *
          obtain ⟨k0, k1, k2⟩ := hp3.cells
          have s2 : v3.cell? ⟨w1.heap.size, 2, none⟩ = some (.func (.func G) #[] #[]) := Bk.cell hk3 2
          have HG2 := HGG.out
          rw [HG.out] at HG2
          simp only at HG2
          have HG3 := hid (HG2 _ _ hq3)
          clear HG2
          have HLT := hid (show w.heap.size ≤ v2.heap.size by omega)
          clear hq3
          go_wp2_with fail
          refine HG3.out.mono ?_
          rintro e w4 ⟨rfl, x', hq4, hx4, hb5⟩
          have hb6 := hb4.trans (hb5.mono HLT.out)
          obtain ⟨q0, q1, q2, q3, q4⟩ := hq4.cells
          clear hb4 hb5 k0 k1 k2 s2 hp3 hk3 hq4
          go_wp2_with fail
          refine (HQ.out _ x' hx4 z HZ).mono ?_
          rintro e w5 ⟨rfl, hb7⟩
          go_wp2_with fail
          go_returns
          exact ⟨rfl, estep hb6 hb7⟩
  · have HK := hid (fun w2 => kindno_any k w2 hk)
    have HZ := hid (show z = 2 by rw [← H.out]; exact cE_no hk _ _)
    clear hk H
    go_enter Try.func10, Try.ntmps10
    go_upto_region 1 with (fail)
    generalize w.alloc (.cells #[.int .i64 k, .string (bs n), .string (bs v)] 23) = v0 at *
    obtain ⟨k0, k1, k2⟩ := hp0.cells
    go_wp2_with fail
    refine (HK.out _).mono ?_
    rintro e w1 ⟨rfl, hb1⟩
    have hb3 := estep hb0 (estep hb1 (enew w1 (.cells #[.bool false, .bool false, .nilFunc, .nilFunc] 57)))
    clear k0 k1 k2
    go_wp2_with fail
    go_returns
    exact ⟨by rw [HZ.out]; rfl, hb3⟩
end Go.Proofs.Ytmdlkoigjacipaa
