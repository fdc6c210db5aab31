/- Texts put together: Aq. -/
import Derived.Test.YtnbkpannhcamjaaDoorG21
import Derived.Test.YtnbkpannhcamjaaDoorG22
import Derived.Deep.Cut
import Derived.WalkMore
namespace Go.Proofs.YtnbkpannhcamjaaDoor
set_option linter.unusedVariables false
set_option linter.unusedSimpArgs false
open Go.RowKit Go.Joins

theorem RD.cut {w : World} {A : Option Addr} {n c k : Nat} {M : List Hd} (h : RD w (.slice A n c) M) (hn : M.length = n) (hk : k ≤ n) : RD w (.slice A k c) (M.take k) := by
  obtain ⟨A2, c2, e, h1, h2, h3, h4⟩ := h
  injection e with e1 e2 e3
  subst e1 e3
  refine ⟨A, c, by rw [List.length_take, Nat.min_eq_left (by omega)], by rw [List.length_take]; omega, by rw [List.length_take]; omega, h3.take k, fun m hm => h4 m (List.mem_of_mem_take hm)⟩
theorem putM_mesh (X : List Hd) (s : Nat) : (putM X kMesh (hx 16 s)).2 = 0 := by
  have h1 := keyB_mesh
  have h2 := valM_hx s
  generalize kMesh = q at *
  generalize hx 16 s = y at *
  unfold putM
  simp [h1, h2]
theorem memI_put {L : List Hd} {t : List UInt8} {b : Bool} (s : Nat) (h : getH L kTS = (t, b)) : putM (readM t).1 kMesh (hx 16 s) = (memI L s, 0) := by
  have e : memI L s = (putM (readM t).1 kMesh (hx 16 s)).1 := by unfold memI; rw [h]
  have hz := putM_mesh (readM t).1 s
  generalize memI L s = q at e ⊢
  generalize putM (readM t).1 kMesh (hx 16 s) = p at e hz ⊢
  obtain ⟨a, b⟩ := p
  simp only at e hz
  rw [e, hz]
theorem memI_facts (L : List Hd) (s : Nat) : mayM (memI L s) ∧ 0 < (memI L s).length ∧ (joinM ((memI L s).take 1)).length ≤ 64 := by
  refine ⟨memI_may L s, by rw [memI_eq]; simp, ?_⟩
  have h1 : (memI L s).take 1 = [(kMesh, hx 16 s)] := by rw [memI_eq]; simp
  rw [h1, join_one_M]
  simp [memT, kMesh, hx_length]
theorem writeM_take {M : List Hd} (h : mayM M) (k : Nat) : writeM (M.take k) = (joinM (M.take k), 0) := by
  rw [writeM, if_pos ((chkM_zero _).2 (mayM_take h k))]
set_option maxRecDepth 100000 in
set_option maxHeartbeats 4000000 in
theorem members_any (v : Value) (L : List Hd) (s : Nat) (w : World) (h : HLv w v L) (hs : Hid (s < 18446744073709551616)) (HE : Hid (EnvT w)) {M : List Hd} (H : Hid (memI L s = M)) :
    Calls Tryd.prog 16 #[v, .int .u64 s] w fun e w' => ∃ r, e = .returned r ∧ RD w' r M ∧ Below w.heap.size w w' := by
  have c1 : (ByteArray.mk #[116, 114, 97, 99, 101, 115, 116, 97, 116, 101]) = bs kTS := rfl
  have c2 : (ByteArray.mk #[109, 101, 115, 104]) = bs kMesh := rfl
  obtain ⟨t, b, hg⟩ : ∃ t b, getH L kTS = (t, b) := ⟨_, _, rfl⟩
  obtain ⟨X, x, hr⟩ : ∃ X x, readM t = (X, x) := ⟨_, _, rfl⟩
  have hp := memI_put s hg
  rw [H.out, hr] at hp
  have htl : t.length ≤ 90000 := by have := getH_small L kTS h.2.2; rw [hg] at this; simp only at this; omega
  have HG := hid hg
  have HR := hid hr
  have HP := hid hp
  have HT := hid htl
  have HC1 := hid (iget_any w h kTS HG)
  clear hg hr hp htl h
  go_enter Tryd.func16, Tryd.ntmps16
  go_wp2_with fail
  refine HC1.out.mono ?_
  rintro e w1 ⟨rfl, hb1⟩
  have HB1 := hid hb1
  clear hb1
  go_wp2_with fail
  refine (d_read w1 t HT.out (HE.out.later HB1.out) HR).mono ?_
  rintro e w2 ⟨⟨r2, rfl, hr2⟩, hb2⟩
  have HB2 := hid (HB1.out.trans (hb2.mono HB1.out.size))
  have HR2 := hid hr2
  clear hb2 hr2
  go_wp2_with fail
  refine (span_any s w2 hs).mono ?_
  rintro e w3 ⟨rfl, hb3⟩
  have HB3 := hid (HB2.out.trans (hb3.mono HB2.out.size))
  have HR3 := hid (HR2.out.up hb3)
  clear hb3
  go_wp2_with fail
  refine (d_put w3 HR3.out kMesh (hx 16 s) (by decide) (by rw [hx_length]; omega) HP).mono ?_
  rintro e w4 ⟨⟨r4, rfl, hr4⟩, hb4⟩
  have HB4 := hid (HB3.out.trans (hb4.mono HB3.out.size))
  go_wp2_with fail
  go_returns
  exact ⟨_, rfl, hr4, HB4.out⟩
set_option maxRecDepth 100000 in
set_option maxHeartbeats 4000000 in
theorem fitting_any (v : Value) (M : List Hd) (w : World) (h : RD w v M) (hm : mayM M) (h1 : 0 < M.length) (h2 : (joinM (M.take 1)).length ≤ 64) {t : List UInt8} (H : Hid (joinM (cutI M M.length) = t)) :
    Calls Tryd.prog 15 #[v] w fun e w' => e = .returned (.string (bs t)) ∧ Below w.heap.size w w' := by
  obtain ⟨A, c, rfl, k1, k2, k3, k4⟩ := id h
  obtain ⟨n, hn⟩ : ∃ n, M.length = n := ⟨_, rfl⟩
  rw [hn] at h h1 k1 k2 H ⊢
  have HN := hid hn
  have HM := hid (And.intro hm h2)
  have HRd := hid h
  have hn32 : n ≤ 32 := by rw [← hn]; exact hm.2.2
  clear h hm h2 k2 k3 k4 hn
  go_enter Tryd.func15, Tryd.ntmps15
  go_wp2_with fail
  go_step3
  go_wp2_with fail
  go_step3
  go_wp2_with fail
  go_loopw [0, 3] (fun l x wr => ∃ k : Nat, 0 < k ∧ k ≤ n ∧ l = .slice A k c ∧ Hid (cutI M n = cutI M k ∧ RD wr (.slice A k c) (M.take k) ∧ Below w.heap.size w wr)) (fun l _ _ => match l with | .slice _ k _ => k | _ => 0)
  case atStart => exact ⟨n, h1, Nat.le_refl _, rfl, hid ⟨rfl, HRd.out.cut HN.out (Nat.le_refl _), Below.refl _ _⟩⟩
  case round =>
    obtain ⟨k, hk0, hkn, rfl, HK⟩ := hrel
    obtain ⟨u, hu⟩ : ∃ u, joinM (M.take k) = u := ⟨_, rfl⟩
    have HW := hid (show writeM (M.take k) = (u, 0) by rw [writeM_take HM.out.1, hu])
    have HU := hid hu
    go_wp2_with fail
    refine (d_write wr HK.out.2.1 HW).mono ?_
    rintro e w1 ⟨rfl, hb1⟩
    have HB1 := hid (HK.out.2.2.trans (hb1.mono HK.out.2.2.size))
    have HR1 := hid (HK.out.2.1.up hb1)
    clear hb1 hu
    by_cases hl : u.length ≤ 64
    · have hd : decide ((u.length : Int) ≤ 64) = true := decide_eq_true (by omega)
      have HF := hid (show u = t by
        obtain ⟨j, rfl⟩ : ∃ j, k = j + 1 := ⟨k - 1, by omega⟩
        rw [← H.out, HK.out.1, cutI, if_pos (by rw [HU.out]; exact hl), HU.out])
      clear hl
      go_wp2_with fail
      (try rw [Exit.noGoto_ret])
      go_returns
      exact ⟨by first | (rw [HF.out]; rfl) | rw [HF.out], HB1.out⟩
    · have hd : decide ((u.length : Int) ≤ 64) = false := decide_eq_false (by omega)
      have hk1 : 1 < k := by
        rcases Nat.lt_or_ge 1 k with h | h
        · exact h
        · have : k = 1 := by omega
          subst this
          have := HM.out.2
          rw [HU.out] at this
          omega
      have HF := hid (show cutI M n = cutI M (k - 1) by
        obtain ⟨j, rfl⟩ : ∃ j, k = j + 1 := ⟨k - 1, by omega⟩
        rw [HK.out.1, cutI, if_neg (by rw [HU.out]; exact hl)]
        rfl)
      have hkc : (k : Int) - 1 ≤ (c : Int) := by omega
      have hk2 : (0 : Int) ≤ (k : Int) - 1 := by omega
      have hkw : wrap64 ((k : Int) - 1) = (k : Int) - 1 := by unfold wrap64; omega
      have hkw2 : IntKind.i64.wrap ((k : Int) - 1) = ((k - 1 : Nat) : Int) := by rw [IntKind.wrap_i64]; omega
      clear hl
      go_wp2_with fail
      go_roundw
      case rel =>
        refine ⟨k - 1, by omega, by omega, by first | rfl | go_num, hid ⟨HF.out, ?_, HB1.out⟩⟩
        have h3 := HR1.out.cut (k := k - 1) (by rw [List.length_take]; have := HN.out; omega) (by omega)
        rwa [List.take_take, Nat.min_eq_left (by omega)] at h3
      case measure => simp; omega
end Go.Proofs.YtnbkpannhcamjaaDoor
