import Derived.Test.YtddmmpjamnjilaaDoorTj
namespace Go.Proofs.YtddmmpjamnjilaaDoor
set_option linter.unusedVariables false
set_option linter.unusedSimpArgs false
open Go.RowKit Go.Joins

def nOth (L : List Hd) (k : List UInt8) (i : Nat) : Nat := 1 + ((L.take i).filter (othK k)).length
theorem nOth_le (L : List Hd) (k : List UInt8) (i : Nat) (h : i ≤ L.length) : nOth L k i ≤ 1 + i := by
  unfold nOth
  have := List.length_filter_le (othK k) (L.take i)
  rw [List.length_take] at this
  omega
theorem nOth_same (L : List Hd) (k : List UInt8) (i : Nat) (h : i < L.length) (e : (L[i].1 == k) = true) : nOth L k (i + 1) = nOth L k i := by
  unfold nOth
  rw [filter_take (othK k) L i h, if_neg (by simp [othK, e])]; simp
theorem nOth_next (L : List Hd) (k : List UInt8) (i : Nat) (h : i < L.length) (e : (L[i].1 == k) = false) : nOth L k (i + 1) = nOth L k i + 1 := by
  unfold nOth
  rw [filter_take (othK k) L i h, if_pos (by simp [othK, e])]; simp; omega
theorem putX_len {L : List Hd} {k q : List UInt8} {X : List Hd} (hx : X = ((k, q) :: L.filter (othK k)).take 32) : X.length = min (nOth L k L.length) 32 := by
  subst hx
  rw [List.length_take, List.length_cons, nOth, List.take_length]
  omega
set_option maxRecDepth 100000 in
set_option maxHeartbeats 8000000 in
theorem tstateBack_walk (v : Value) (L : List Hd) (k q : List UInt8) (hk : k.length ≤ 140737488351232) (hq : q.length ≤ 140737488351232) (w : World) (E : EnvT w) (h : HX w (· < w.heap.size) v L) :
    Calls Tryd.prog 8 #[v, .string (bs k), .string (bs q)] w fun e w' => e = .returned (.bool true) ∧ Below w.heap.size w w' := by
  have HE := hid E
  have HV := hid h.rd
  have HFW := hid (d_few w HV.out)
  have hnot := notB'
  clear E h
  by_cases hall : fewOk L = true ∧ k.length ≤ 400 ∧ q.length ≤ 400
  rotate_left
  · have hcase : fewOk L = false ∨ (fewOk L = true ∧ 400 < k.length) ∨ (fewOk L = true ∧ k.length ≤ 400 ∧ 400 < q.length) := by
      cases hf : fewOk L
      · exact Or.inl rfl
      · simp only [hf, true_and] at hall ⊢; omega
    clear hall
    rcases hcase with hf | ⟨hf, h4⟩ | ⟨hf, h4, h5⟩
    all_goals
      rw [hf] at HFW
      clear hf
      go_enter Tryd.func8, Tryd.ntmps8
      go_wp2_with fail
      refine HFW.out.mono ?_
      rintro e w1 ⟨rfl, hb1⟩
      have H1 := hid hb1
      clear hb1
      go_wp2_with fail
      refine (known8_any _ (hid (HE.out.later H1.out))).mono ?_
      rintro e w2 ⟨rfl, hb2⟩
      have H2 := hid (tbelow_step H1.out hb2)
      clear hb2
      go_wp2_with fail
      go_ret
      exact ⟨rfl, H2.out⟩
  obtain ⟨hf, hk4, hq4⟩ := hall
  rw [hf] at HFW
  clear hf
  by_cases hc : chkM [] L = 0
  rotate_left
  · obtain ⟨c, hcc⟩ : ∃ c, chkM [] L = c := ⟨_, rfl⟩
    rw [hcc] at hc
    have HC := hid hcc
    have hne : (c != 0) = true := by simpa using hc
    clear hc hcc
    go_enter Tryd.func8, Tryd.ntmps8
    go_wp2_with fail
    refine HFW.out.mono ?_
    rintro e w1 ⟨rfl, hb1⟩
    have H1 := hid (And.intro hb1 (HV.out.up hb1))
    clear hb1
    go_wp2_with fail
    refine (d_check w1 H1.out.2 HC).mono ?_
    rintro e w2 ⟨rfl, hb2⟩
    have H2 := hid (tbelow_step H1.out.1 hb2)
    clear hb2
    go_wp2_with fail
    refine (known8_any _ (hid (HE.out.later H2.out))).mono ?_
    rintro e w3 ⟨rfl, hb3⟩
    have H3 := hid (tbelow_step H2.out hb3)
    clear hb3
    go_wp2_with fail
    go_ret
    exact ⟨rfl, H3.out⟩
  have HC := hid hc
  have HOK := hid (mayM_small hc)
  have h32 : L.length ≤ 32 := HOK.out.1
  have HW := hid (show writeM L = (joinM L, 0) by rw [writeM, if_pos hc])
  have HRD := hid (readM_writeM hc)
  have hjl : (joinM L).length ≤ 4000 := by have := joinM_small HOK.out L.length; rwa [List.take_length] at this
  obtain ⟨X, y, hp⟩ : ∃ X y, putM L k q = (X, y) := ⟨_, _, rfl⟩
  have HP := hid hp
  generalize joinM L = t at *
  by_cases hy : y = 0
  rotate_left
  · have hyn : (y != 0) = true := by simpa using hy
    clear hc hp hy
    go_enter Tryd.func8, Tryd.ntmps8
    go_wp2_with fail
    refine HFW.out.mono ?_
    rintro e w1 ⟨rfl, hb1⟩
    have H1 := hid (And.intro hb1 (HV.out.up hb1))
    clear hb1
    go_wp2_with fail
    refine (d_check w1 H1.out.2 HC).mono ?_
    rintro e w2 ⟨rfl, hb2⟩
    have H2 := hid (And.intro (tbelow_step H1.out.1 hb2) (H1.out.2.up hb2))
    clear hb2
    go_wp2_with fail
    refine (d_write w2 H2.out.2 HW).mono ?_
    rintro e w3 ⟨rfl, hb3⟩
    have H3 := hid (And.intro (tbelow_step H2.out.1 hb3) (H2.out.2.up hb3))
    clear hb3
    go_wp2_with fail
    refine (d_read w3 t (by omega) (HE.out.later H3.out.1) HRD).mono ?_
    rintro e w4 ⟨⟨r, rfl, hr⟩, hb4⟩
    have H4 := hid (And.intro (tbelow_step H3.out.1 hb4) (And.intro (H3.out.2.up hb4) hr))
    clear hb4 hr
    go_wp2_with fail
    refine (d_same w4 H4.out.2.2 H4.out.2.1 (by omega)).mono ?_
    rintro e w5 ⟨rfl, hb5⟩
    have H5 := hid (And.intro (tbelow_step H4.out.1 hb5) (H4.out.2.1.up hb5))
    clear hb5
    go_wp2_with fail
    refine (d_put w5 H5.out.2 k q hk hq HP).mono ?_
    rintro e w6 ⟨⟨r2, rfl, hr⟩, hb6⟩
    have H6 := hid (tbelow_step H5.out.1 hb6)
    clear hb6 hr
    go_wp2_with fail
    refine (known8_any _ (hid (HE.out.later H6.out))).mono ?_
    rintro e w7 ⟨rfl, hb7⟩
    have H7 := hid (tbelow_step H6.out hb7)
    clear hb7
    go_wp2_with fail
    go_ret
    exact ⟨rfl, H7.out⟩
  subst hy
  obtain ⟨hxc, hxe⟩ := putM_ok hc hp
  have hxe' : X = ((k, q) :: L.filter (othK k)).take 32 := hxe
  have HXC := hid hxc
  have HXE := hid hxe'
  have HXL := hid (putX_len hxe')
  have hX32 : X.length ≤ 32 := by rw [hxe']; exact List.length_take_le _ _
  have hX1 : 1 ≤ X.length := by rw [hxe']; simp
  have HX0 := hid (show X[0] = (k, q) by subst hxe'; simp)
  clear hc hp hxc hxe hxe'
  obtain ⟨A, cap, hv, hcap, hl63, hRL, hsl⟩ := HV.out
  subst hv
  have HRL := hid hRL
  clear hcap hl63 hRL hsl
  have hg1 : ∀ (a b : Operand) (xs ys : Array Value) (w : World), (eqGuard .neq 50 a b (.agg xs) (.agg ys)).run Tryd.prog w = .ok () w := fun a b xs ys w => mb_guard .neq a b xs ys w
  have hg2 : ∀ (a b : List UInt8) (w : World), (binOp .neq 50 (.agg #[.string (bs a), .string (bs b)]) (.agg #[.string (bs a), .string (bs b)])).run Tryd.prog w = .ok (.bool false) w := fun a b w => by
    have := mb_neq w (a, b) (a, b)
    rw [show sameHd (a, b) (a, b) = true from decide_eq_true rfl] at this
    exact this
  have hg3 := hg2 k q
  go_enter Tryd.func8, Tryd.ntmps8
  go_wp2_with fail
  refine HFW.out.mono ?_
  rintro e w1 ⟨rfl, hb1⟩
  have H1 := hid (And.intro hb1 (HV.out.up hb1))
  clear hb1
  go_wp2_with fail
  refine (d_check w1 H1.out.2 HC).mono ?_
  rintro e w2 ⟨rfl, hb2⟩
  have H2 := hid (And.intro (tbelow_step H1.out.1 hb2) (H1.out.2.up hb2))
  clear hb2
  go_wp2_with fail
  refine (d_write w2 H2.out.2 HW).mono ?_
  rintro e w3 ⟨rfl, hb3⟩
  have H3 := hid (And.intro (tbelow_step H2.out.1 hb3) (H2.out.2.up hb3))
  clear hb3
  go_wp2_with fail
  refine (d_read w3 t (by omega) (HE.out.later H3.out.1) HRD).mono ?_
  rintro e w4 ⟨⟨r, rfl, hr⟩, hb4⟩
  have H4 := hid (And.intro (tbelow_step H3.out.1 hb4) (And.intro (H3.out.2.up hb4) hr))
  clear hb4 hr
  go_wp2_with fail
  refine (d_same w4 H4.out.2.2 H4.out.2.1 (by omega)).mono ?_
  rintro e w5 ⟨rfl, hb5⟩
  have H5 := hid (And.intro (tbelow_step H4.out.1 hb5) (H4.out.2.1.up hb5))
  clear hb5
  go_wp2_with fail
  refine (d_put w5 H5.out.2 k q hk hq HP).mono ?_
  rintro e w6 ⟨⟨r2, rfl, hr⟩, hb6⟩
  have H6 := hid (And.intro (tbelow_step H5.out.1 hb6) hr)
  clear hb6 hr
  go_wp2_with fail
  refine (d_check w6 H6.out.2 HXC).mono ?_
  rintro e w7 ⟨rfl, hb7⟩
  have H7 := hid (And.intro (tbelow_step H6.out.1 hb7) (H6.out.2.up hb7))
  clear hb7
  obtain ⟨A2, c2, hv2, hcap2, hl2, hRX, hsx⟩ := H7.out.2
  subst hv2
  have HRX := hid hRX
  obtain ⟨b2, o2, hA2, hB2, hx0, hx1⟩ := hRX 0 (by omega)
  subst hA2
  rw [HX0.out] at hx0 hx1
  simp only [Nat.zero_mul, Nat.add_zero] at hx0 hx1
  clear hcap2 hl2 hRX hsx
  have hpx : (0 : Int) < (X.length : Int) := by omega
  have hne0 : ((X.length : Int) == 0) = false := beq_eq_false_iff_ne.2 (by omega)
  go_wp2_with fail
  clear hx0 hx1 hne0 hpx
  go_loopw [13, 14] (fun n i wr => ∃ j : Nat, j ≤ L.length ∧ i = .int .i64 j ∧ n = .int .i64 (nOth L k j : Nat) ∧ Hid (Below w7.heap.size w7 wr)) (fun _ i _ => L.length - (intOf i).toNat)
  case atStart => exact ⟨0, by omega, rfl, rfl, hid (Below.refl _ _)⟩
  case round =>
    obtain ⟨j, hj, rfl, rfl, HK⟩ := hrel
    by_cases hlt : j < L.length
    · obtain ⟨b, o, hA, hB, hc0, hc1⟩ := (HRL.out.up (tbelow_step H7.out.1 HK.out)) j hlt
      subst hA
      have hnl := nOth_le L k j hj
      have hi0 : (0 : Int) ≤ (j : Int) := by omega
      have hi1 : (j : Int) < (L.length : Int) := by omega
      cases he : (L[j].1 == k)
      · have HN := hid (nOth_next L k j hlt he)
        by_cases hn : nOth L k j < X.length
        · obtain ⟨b3, o3, e3, hB3, hx0, hx1⟩ := (HRX.out.up HK.out) (nOth L k j) hn
          injection e3 with e3
          injection e3 with e31 e32 e33
          subst e31; subst e32
          have hxn : X[nOth L k j] = L[j] := by
            have hXE := HXE.out
            subst hXE
            exact putM_at j hlt he hn
          rw [hxn] at hx0 hx1
          have hn1 : (nOth L k j : Int) < (X.length : Int) := by omega
          have hn0 : (0 : Int) ≤ (nOth L k j : Int) := by omega
          have hne : (L[j].1 != k) = true := by simpa [bne] using he
          have hg4 := hg2 L[j].1 L[j].2
          clear hxn hn
          generalize nOth L k j = n at *
          generalize L[j] = m at *
          obtain ⟨m0, m1⟩ := m
          go_wp2_with fail
          go_quiet (fail)
          go_wp2_with fail
          go_roundw
          case rel => exact ⟨j + 1, by omega, by go_num, by rw [HN.out]; go_num, hid (below_drewN HK.out _)⟩
          case measure => simp [intOf]; omega
        · have hn1 : decide ((nOth L k j : Int) < (X.length : Int)) = false := by simp; omega
          have hn2 : decide (nOth L k j < X.length) = false := decide_eq_false hn
          have hn3 : X.length ≤ nOth L k j := by omega
          clear hn
          generalize nOth L k j = n at *
          generalize L[j] = m at *
          obtain ⟨m0, m1⟩ := m
          go_wp2_with fail
          go_quiet (fail)
          go_wp2_with fail
          go_roundw
          case rel => exact ⟨j + 1, by omega, by go_num, by rw [HN.out]; go_num, hid (below_drewN HK.out _)⟩
          case measure => simp [intOf]; omega
      · have HN := hid (nOth_same L k j hlt he)
        generalize L[j] = m at *
        obtain ⟨m0, m1⟩ := m
        go_wp2_with fail
        go_roundw
        case rel => exact ⟨j + 1, by omega, by go_num, by rw [HN.out], HK⟩
        case measure => simp [intOf]; omega
    · obtain rfl : j = L.length := by omega
      have hnl := nOth_le L k L.length hj
      have hXl := HXL.out
      have hmn : ((X.length : Int) == min (nOth L k L.length : Int) 32) = true := by simp; omega
      generalize nOth L k L.length = n at *
      go_wp2_with fail
      refine (known8_any _ (hid (HE.out.later (tbelow_step H7.out.1 HK.out)))).mono ?_
      rintro e w9 ⟨rfl, hb9⟩
      have H9 := hid (tbelow_step (tbelow_step H7.out.1 HK.out) hb9)
      clear hb9
      go_wp2_with fail
      go_ret
      exact ⟨rfl, H9.out⟩
end Go.Proofs.YtddmmpjamnjilaaDoor
