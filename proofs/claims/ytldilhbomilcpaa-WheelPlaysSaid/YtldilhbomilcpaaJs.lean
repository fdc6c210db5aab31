/- wheel: All. -/
import Derived.Test.YtldilhbomilcpaaJr
namespace Go.Proofs.Ytldilhbomilcpaa
set_option linter.unusedVariables false
set_option linter.unusedSimpArgs false
open Go.RowKit Go.Joins

theorem GX.wi {w : World} {N : Nat → Prop} {A : Option Addr} {L : List Int} (h : GX encWi 1 w N A L) (j : Nat) (hj : j < L.length) : ∃ b o, A = some ⟨b, o, none⟩ ∧ N b ∧ w.cell? ⟨b, o + j, none⟩ = some (.int .i64 L[j]) := by
  obtain ⟨b, o, e, h1, h2⟩ := h j hj
  refine ⟨b, o, e, h1, ?_⟩
  have := h2 0 (by omega)
  rw [show j * 1 + 0 = j by omega] at this
  rw [this]; rfl
theorem GX.du {w : World} {N : Nat → Prop} {A : Option Addr} {L : List (Int × Int)} (h : GX encDu 2 w N A L) (j : Nat) (hj : j < L.length) : ∃ b o, A = some ⟨b, o, none⟩ ∧ N b ∧ w.cell? ⟨b, o + j * 2, none⟩ = some (.int .i64 L[j].1) ∧ w.cell? ⟨b, o + j * 2 + 1, none⟩ = some (.int .i64 L[j].2) := by
  obtain ⟨b, o, e, h1, h2⟩ := h j hj
  exact ⟨b, o, e, h1, h2 0 (by omega), h2 1 (by omega)⟩
theorem wlslot_bl (g : Nat) (t : Int) (w : World) (h : 0 ≤ t) (h2 : t ≤ 9000000000000000000) {k : Nat} (H : Hid (wix t = k)) :
    Calls Try.prog 33 #[.pointer (some ⟨g, 0, none⟩), .int .i64 t] w fun e w' => e = .returned (.int .i64 (k : Int)) ∧ Below w.heap.size w w' :=
  (wlslot_at g t w h h2 H).mono fun e w' ⟨h1, h2⟩ => ⟨h1, h2 ▸ Below.refl _ _⟩
theorem due_take (l : List Int) (t : Int) (j : Nat) (hj : j < l.length) : (l.take (j + 1)).map (fun id => (id, t)) = (l.take j).map (fun id => (id, t)) ++ [(l[j], t)] := by
  rw [List.take_succ_eq_append_getElem hj, List.map_append]; rfl
set_option maxRecDepth 100000 in
set_option maxHeartbeats 8000000 in
theorem wlall_any (S : Nat → Prop) (B g : Nat) (x : Whl) (w : World) (h : WlH S B w g x) (hnow : x.now ≤ 1000000) :
    Calls Try.prog 28 #[.pointer (some ⟨g, 0, none⟩)] w fun e w' => ∃ v, e = .returned v ∧ GB encDu 2 76 w' w.heap.size v (whSorted x) ∧ Below w.heap.size w w' := by
  obtain ⟨f, hf⟩ := h
  have hpos := hf.pos
  have HSO := hid (whSorted_due hf.ok)
  have HLN : Hid (∀ i, (slotL x i).length ≤ 32) := hid fun i => Nat.le_trans (slotL_len x i) hf.ok.few
  have HFL : Hid (∀ i : Nat, ((List.range i).flatMap fun (i : Nat) => dueAt x (x.now + 1 + (i : Int))).length ≤ 32 * i) := hid fun i => flat_len _ 32 (fun j => by unfold dueAt; rw [List.length_map]; exact HLN.out _) i
  have HFS : Hid (∀ i : Nat, ((List.range (i + 1)).flatMap fun (i : Nat) => dueAt x (x.now + 1 + (i : Int))) = ((List.range i).flatMap fun (i : Nat) => dueAt x (x.now + 1 + (i : Int))) ++ (slotL x (wix (x.now + 1 + (i : Int)))).map (fun id => (id, x.now + 1 + (i : Int)))) := hid fun i => range_flat _ i
  have HH := hid hf
  obtain ⟨now, hno⟩ : ∃ n, x.now = n := ⟨_, rfl⟩
  rw [hno] at HSO HFL HFS hpos hnow
  have HNO := hid hno
  clear hf hno
  go_enter Try.func28, Try.ntmps28
  go_wp2_with fail
  go_loopg [3, 10] 50 (fun g1 v vi wr => ∃ i : Nat, vi = .int .i64 i ∧ i ≤ 50 ∧ 50 - i ≤ g1 ∧ Hid (GB encDu 2 76 wr w.heap.size v ((List.range i).flatMap fun (i : Nat) => dueAt x (now + 1 + (i : Int))) ∧ Below w.heap.size w wr))
  case atStart => exact ⟨0, rfl, by omega, by omega, hid ⟨GB.nil _ _, Below.refl _ _⟩⟩
  case round =>
    obtain ⟨i, rfl, hik, hgk, HI⟩ := hrel
    obtain ⟨wz, hwz⟩ : ∃ wz, wz = wr := ⟨_, rfl⟩
    subst hwz
    by_cases hlt : i < 50
    · have hltz : (i : Int) < 50 := by omega
      have hltd : decide ((i : Int) < 50) = true := decide_eq_true hltz
      obtain ⟨at_, hat⟩ : ∃ a, wix (now + 1 + (i : Int)) = a := ⟨_, rfl⟩
      have hat50 : at_ < 50 := by rw [← hat]; exact wix_lt _
      have hFS := HFS.out i
      have HFI := hid (HFL.out i)
      rw [hat] at hFS
      have HFS2 := hid hFS
      generalize ((List.range i).flatMap fun (i : Nat) => dueAt x (now + 1 + (i : Int))) = P at *
      have HSL := hid (fun w2 => wlslot_bl g (now + 1 + (i : Int)) w2 (by omega) (by omega) (hid hat))
      have hfz := HH.out.up HI.out.2
      have hn := hfz.blk.cnow
      rw [HNO.out] at hn
      obtain ⟨A, c, hfa, hgx, -, -, hcm⟩ := GB.reads encWi_len (HH.out.row at_ hat50)
      have hsl := hfz.blk.slot hat50
      rw [hfa] at hsl
      have hl32 := HLN.out at_
      generalize slotL x at_ = L at *
      obtain ⟨m, hm⟩ : ∃ m, L.length = m := ⟨_, rfl⟩
      rw [hm] at hsl hl32
      have HM := hid hm
      have HGX := hid (hgx.imp (M := (· < w.heap.size)) fun b hb => hb.2)
      have hi0 : (0 : Int) ≤ (at_ : Int) := by omega
      have hi1 : (at_ : Int) < 50 := by omega
      have T1 := BwS.cell hsl
      clear hfz hfa hgx hcm hFS hat hm
      go_upto_region 8 with (fail)
      clear hn hsl
      refine wp_region_bws (by kernel_rfl) (by kernel_rfl) ?_
      repeat (go_big_quiet_step ((go_at_call 33; exact calls_bws (HSL.out _))))
      refine wpQuiet_nil ?_
      rintro _ ⟨pq, rfl⟩
      have HQ := hid pq.h
      generalize pq.w = wq at *
      clear T1
      go_wp2_with fail
      go_loopg [3, 29] m (fun g2 v vj wr => ∃ j : Nat, vj = .int .i64 j ∧ j ≤ m ∧ m - j ≤ g2 ∧ Hid (GB encDu 2 76 wr w.heap.size v (P ++ (L.take j).map fun id => (id, now + 1 + (i : Int))) ∧ Below w.heap.size w wr))
      case atStart => exact ⟨0, rfl, by omega, by omega, hid ⟨by simpa using HI.out.1.below HQ.out, estep HI.out.2 HQ.out⟩⟩
      case round =>
        obtain ⟨j, rfl, hjm, hgj, HJ⟩ := hrel
        obtain ⟨wy, hwy⟩ : ∃ wy, wy = wr := ⟨_, rfl⟩
        subst hwy
        by_cases hlt2 : j < m
        · have hjL : j < L.length := by have := HM.out; omega
          obtain ⟨b, o, rfl, hb, hc0⟩ := (HGX.out.up HJ.out.2).wi j hjL
          have HTK := hid (due_take L (now + 1 + (i : Int)) j hjL)
          have HTL := hid (List.length_take_le j L)
          generalize L[j] = id at *
          have hkz : (j : Int) < (m : Int) := by omega
          have hkd : decide ((j : Int) < (m : Int)) = true := decide_eq_true hkz
          have hj0 : (0 : Int) ≤ (j : Int) := by omega
          have hnb := enew wy (.cells #[.int .i64 id, .int .i64 (now + 1 + (i : Int))] 76)
          go_wp2_with (at_builtin; refine wpList_append_gx (W0 := w) rowDu rfl _ _ rfl w.heap.size _ (P ++ (L.take j).map fun id => (id, now + 1 + (i : Int))) [(id, now + 1 + (i : Int))] (some ⟨wy.heap.size, 0, none⟩) 1 (fun b => b = wy.heap.size) rfl (HJ.out.1.below hnb) rfl (gx_new (M := [(id, now + 1 + (i : Int))]) encDu_len (Bk.new wy 76 _) rfl) (fun h => by cases h) (by have := HTL.out; have := HFI.out; simp only [List.length_append, List.length_map, List.length_cons, List.length_nil]; omega) (estep HJ.out.2 hnb) (Nat.le_refl _) ?_)
          intro v3 w3 hF hbel hgr
          have HF : Hid (GB encDu 2 76 w3 w.heap.size v3 (P ++ (L.take (j + 1)).map fun id => (id, now + 1 + (i : Int))) ∧ Below w.heap.size w w3) := hid ⟨by rw [HTK.out, List.map_take]; exact hF, hbel⟩
          clear hF hbel hgr hnb hc0
          go_wp2_with fail
          go_roundg (m - (j + 1))
          case measure => omega
          case rel => exact ⟨j + 1, by go_num, by omega, by omega, HF⟩
        · obtain rfl : j = m := by omega
          have hkz : ¬ (j : Int) < (j : Int) := by omega
          have HE : Hid (GB encDu 2 76 wy w.heap.size u3 ((List.range (i + 1)).flatMap fun (i : Nat) => dueAt x (now + 1 + (i : Int))) ∧ Below w.heap.size w wy) := hid ⟨by
            have h1 := HJ.out.1
            rw [show L.take j = L by rw [← HM.out]; exact List.take_length] at h1
            rw [HFS2.out]; exact h1, HJ.out.2⟩
          clear HJ
          go_wp2_with fail
          go_roundg (50 - (i + 1))
          case measure => omega
          case rel => exact ⟨i + 1, by go_num, by omega, by omega, HE⟩
    · obtain rfl : i = 50 := by omega
      have hltz : ¬ ((50 : Nat) : Int) < 50 := by omega
      have h1 := HI.out
      rw [← HSO.out] at h1
      have H1 := hid h1
      clear h1
      go_wp2_with fail
      go_returns
      exact ⟨_, rfl, H1.out⟩
end Go.Proofs.Ytldilhbomilcpaa
