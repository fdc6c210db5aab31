/- ring: All. -/
import Derived.Test.YtldilhbomilcpaaJe
import Derived.Test.YtldilhbomilcpaaGb
namespace Go.Proofs.Ytldilhbomilcpaa
set_option linter.unusedVariables false
set_option linter.unusedSimpArgs false
open Go.RowKit Go.Joins

set_option maxRecDepth 100000 in
set_option maxHeartbeats 4000000 in
theorem rgAlls_any (g p c : Nat) (x : Rgs) (w : World) (h : RgH w g p c x) :
    Calls Try.prog 15 #[.pointer (some ⟨g, 0, none⟩)] w fun e w' => ∃ v, e = .returned v ∧ GB encS1 1 9 w' w.heap.size v x.1 ∧ Below w.heap.size w w' := by
  obtain ⟨L, n⟩ := x
  obtain ⟨k, hk⟩ : ∃ k, L.length = k := ⟨_, rfl⟩
  have HK := hid hk
  have HLN := hid (rgLen_any g p c (L, n) w h (hid hk))
  have hf := h.few
  obtain ⟨o, P, h1, h2, h3, h4, h5⟩ := h
  simp only [hk] at h1 hf
  have kb : RgB w g p c o k n := h1
  have HKB := hid kb
  have HH := hid (And.intro h2 (And.intro h3 h4))
  clear h1 h2 h3 h4 kb hk
  go_enter Try.func15, Try.ntmps15
  go_wp2_with fail
  refine HLN.out.mono ?_
  rintro e w1 ⟨rfl, hb1⟩
  have HB1 := hid hb1
  clear hb1 HLN
  go_wp2_with fail
  go_loopg [3, 7] k (fun g1 v vi wr => ∃ i : Nat, vi = .int .i64 i ∧ i ≤ k ∧ k - i ≤ g1 ∧ Hid (GB encS1 1 9 wr w.heap.size v (L.take i) ∧ Below w.heap.size w wr))
  case atStart => exact ⟨0, rfl, by omega, by omega, hid ⟨GB.nil _ _, HB1.out⟩⟩
  case round =>
    obtain ⟨i, rfl, hik, hgk, HI⟩ := hrel
    obtain ⟨wz, hwz⟩ : ∃ wz, wz = wr := ⟨_, rfl⟩
    subst hwz
    by_cases hlt : i < k
    · have hiL : i < L.length := by have := HK.out; omega
      obtain ⟨j, hj⟩ : ∃ j, (o + i) % c = j := ⟨_, rfl⟩
      have hjc : j < c := by rw [← hj]; exact Nat.mod_lt _ (by omega)
      have hoc := HH.out.2.1.old (by omega)
      have hat := HH.out.2.1.at_ i hiL
      simp only [hj] at hat
      have HS := hid (List.take_succ_eq_append_getElem hiL)
      have HLT := hid (List.length_take_le i L)
      generalize L[i] = s at *
      have hu : (tvals P).toArray[j]? = some (.string (bs s)) := by simp [tvals, hat]
      have HU := hid hu
      have HP := hid (fun (w2 : World) (hb : Below wz.heap.size wz w2) => rgplace_any g p c o i w2 ((HKB.out.up (estep HI.out.2 hb)).cells.1) ((HKB.out.up (estep HI.out.2 hb)).cells.2.1) (by omega) h5 (by omega) (by omega) (hid hj))
      have hi0 : (0 : Int) ≤ (j : Int) := by omega
      have hi1 : (j : Int) < (c : Int) := by omega
      have hltz : (i : Int) < (k : Int) := by omega
      have hltd : decide ((i : Int) < (k : Int)) = true := decide_eq_true hltz
      obtain ⟨q0, q1, q2, q3⟩ := (HKB.out.up HI.out.2).cells
      have hk6 : k ≤ 64 := by omega
      have hz0 : Below wz.heap.size wz wz.drew := (Below.refl _ _).drew
      clear hat hu hj hiL hoc
      go_wp2_with fail
      go_region_law (first
        | (refine step_append_gx' rowS1 rfl _ _ rfl w.heap.size _ (L.take i) [s] _ 1 (fun b => b = _) rfl hown6 rfl hx6 (by have := HLT.out; simp only [List.length_cons, List.length_nil]; omega) hb6 ?_
           intro y2 w7 hF hgF)
        | (go_simp
           go_at_call 31
           refine (HP.out _ hz0).mono ?_
           rintro e w6 ⟨rfl, hy⟩
           have hz6 := hz0.trans (hy.mono hz0.size)
           obtain ⟨q0, q1, q2, q3⟩ := (HKB.out.up (estep HI.out.2 hz6)).cells
           have t1 := (Bk.cell (HH.out.1.up (estep HI.out.2 hz6)) j).trans HU.out
           have hzA := estep hz6 (enew w6 (.cells #[.string (bs s)] 9))
           have hown6 := HI.out.1.below hzA
           have hx6 := gx_new (M := [s]) encS1_len (Bk.new w6 9 #[.string (bs s)]) rfl
           have hb6 := Nat.le_trans HI.out.2.size hzA.size))
      all_goals
        have HF : Hid (GB encS1 1 9 w7 w.heap.size y2 (L.take (i + 1)) ∧ Below w.heap.size w w7) := hid ⟨by rw [HS.out]; exact hF, (estep HI.out.2 hzA).grown hgF hb6 (fun k hk => (World.ownsRow.lt hown6 k hk).1)⟩
        clear hF hgF hown6 hx6 hb6 hzA hz6 t1 hy q0 q1 q2 q3
        go_wp2_with fail
        go_roundg (k - (i + 1))
        case measure => omega
        case rel => exact ⟨i + 1, by go_num, by omega, by omega, HF⟩
    · obtain rfl : i = k := by omega
      have hltz : ¬ (i : Int) < (i : Int) := by omega
      have h1 := HI.out
      rw [show L.take i = L by rw [← HK.out]; exact List.take_length] at h1
      have H1 := hid h1
      clear h1
      go_wp2_with fail
      go_returns
      exact ⟨_, rfl, H1.out⟩
end Go.Proofs.Ytldilhbomilcpaa
