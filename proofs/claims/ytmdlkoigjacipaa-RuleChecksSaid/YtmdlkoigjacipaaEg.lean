import Derived.Test.YtmdlkoigjacipaaEv
namespace Go.Proofs.Ytmdlkoigjacipaa
set_option linter.unusedVariables false
set_option linter.unusedSimpArgs false
open Go.RowKit Go.Joins

set_option maxRecDepth 100000 in
set_option maxHeartbeats 4000000 in
theorem pfew_any (A : Option Addr) (c : Nat) (l : List Pd) (w : World) (hl : PX w (· < w.heap.size) A l) (hln : l.length ≤ 9223372036854775807) (hsm : smallP l) {z : Bool} (H : Hid (fewP l = z)) :
    Calls Try.prog 12 #[.slice A l.length c] w fun e w' => e = .returned (.bool z) ∧ Below w.heap.size w w' := by
  have HR := hid hl
  have HSM := hid hsm
  clear hl hsm
  by_cases h20 : l.length ≤ 20
  · have HC := hid (show fewP l = l.all fun e => decide (e.n.length + e.v.length ≤ 400) by rw [fewP, decide_eq_true h20]; rfl)
    go_enter Try.func12, Try.ntmps12
    go_wp2_with fail
    go_loopw [3] (fun i wr => ∃ k : Nat, k ≤ l.length ∧ i = .int .i64 k ∧ Hid (((l.take k).all fun e => decide (e.n.length + e.v.length ≤ 400)) = true ∧ Below w.heap.size w wr)) (fun i _ => l.length - (intOf i).toNat)
    case atStart => exact ⟨0, by omega, rfl, hid ⟨rfl, Below.refl _ _⟩⟩
    case round =>
      obtain ⟨k, hk, rfl, HW⟩ := hrel
      by_cases hlt : k < l.length
      · obtain ⟨bb, o, rfl, hB, c0, c1, c2⟩ := (HR.out.up HW.out.2) k hlt
        have HT := hid (all_take' (fun e => decide (e.n.length + e.v.length ≤ 400)) l k hlt)
        have HF := hid (fun (hp : decide (l[k].n.length + l[k].v.length ≤ 400) = false) => all_false' (p := fun e => decide (e.n.length + e.v.length ≤ 400)) hlt hp)
        obtain ⟨hs0, hs1⟩ := HSM.out.at_ hlt
        generalize l[k] = y at *
        obtain ⟨yk, yn, yv⟩ := y
        simp only at c0 c1 c2 HT HF hs0 hs1
        have hi0 : (0 : Int) ≤ (k : Int) := by omega
        have hi1 : (k : Int) < (l.length : Int) := by omega
        have hadd : IntKind.i64.wrap ((yn.length : Int) + (yv.length : Int)) = (yn.length : Int) + (yv.length : Int) := IntWalk.i64_in _ (by omega)
        by_cases hle : yn.length + yv.length ≤ 400
        · have hd : decide ((400 : Int) < (yn.length : Int) + (yv.length : Int)) = false := decide_eq_false (by omega)
          go_wp2_with fail
          go_quiet (fail)
          go_wp2_with fail
          go_roundw
          case rel => exact ⟨k + 1, by omega, by go_num, hid ⟨by rw [HT.out, HW.out.1, decide_eq_true hle]; rfl, below_drewN HW.out.2 _⟩⟩
          case measure => simp [intOf]; omega
        · have hd : decide ((400 : Int) < (yn.length : Int) + (yv.length : Int)) = true := decide_eq_true (by omega)
          have HE := hid (show fewP l = false by rw [HC.out]; exact HF.out (decide_eq_false hle))
          go_wp2_with fail
          go_quiet (fail)
          go_wp2_with fail
          go_returns
          exact ⟨by rw [← H.out, HE.out]; rfl, below_drewN HW.out.2 _⟩
      · obtain rfl : k = l.length := by omega
        have HE := hid (show fewP l = true by rw [HC.out]; have := HW.out.1; rw [List.take_length] at this; exact this)
        go_wp2_with fail
        go_returns
        exact ⟨by rw [← H.out, HE.out]; rfl, HW.out.2⟩
  · have HC := hid (show fewP l = false by rw [fewP, decide_eq_false h20]; rfl)
    have hd : decide ((20 : Int) < ((l.length : Nat) : Int)) = true := decide_eq_true (by omega)
    go_enter Try.func12, Try.ntmps12
    go_wp2_with fail
    go_returns
    exact ⟨by rw [← H.out, HC.out]; rfl, Below.refl _ _⟩
/-- Whether a request is small enough to be worked on. -/
def fewR (m h p : List UInt8) (L : List Hd) (b : List UInt8) : Bool := decide (m.length + h.length + p.length + b.length ≤ 2000) && (decide (L.length ≤ 40) && L.all fun h => decide (h.1.length + h.2.length ≤ 400))
theorem fewR_len {m h p : List UInt8} {L : List Hd} {b : List UInt8} (hf : fewR m h p L b = true) : L.length ≤ 40 := by
  simp [fewR] at hf; exact hf.2.1
set_option maxRecDepth 100000 in
set_option maxHeartbeats 4000000 in
theorem rfew_any (m h p b : List UInt8) (x : Value) (L : List Hd) (w : World) (hx : HV w x L) (hl : L.length ≤ 9223372036854775807) (hs : ∀ h ∈ L, h.1.length ≤ 140737488351232 ∧ h.2.length ≤ 140737488351232)
    (hm : m.length ≤ 140737488351232) (hh : h.length ≤ 140737488351232) (hp : p.length ≤ 140737488351232) (hb : b.length ≤ 140737488351232) {z : Bool} (H : Hid (fewR m h p L b = z)) :
    Calls Try.prog 13 #[.agg #[.string (bs m), .string (bs h), .string (bs p), x, .string (bs b)]] w fun e w' => e = .returned (.bool z) ∧ Below w.heap.size w w' := by
  obtain ⟨A, cap, rfl, hR⟩ := hx
  have hal := enew w (.cells #[.string (bs m), .string (bs h), .string (bs p), .slice A L.length cap, .string (bs b)] 31)
  have hq0 := BQ.new w m h p (.slice A L.length cap) b
  have HR := hid (hR.later' hal)
  have HS := hid hs
  have HAL := hid hal
  clear hR hs hal
  have a1 : IntKind.i64.wrap ((m.length : Int) + (h.length : Int)) = (m.length : Int) + (h.length : Int) := IntWalk.i64_in _ (by omega)
  have a2 : IntKind.i64.wrap ((m.length : Int) + (h.length : Int) + (p.length : Int)) = (m.length : Int) + (h.length : Int) + (p.length : Int) := IntWalk.i64_in _ (by omega)
  have a3 : IntKind.i64.wrap ((m.length : Int) + (h.length : Int) + (p.length : Int) + (b.length : Int)) = (m.length : Int) + (h.length : Int) + (p.length : Int) + (b.length : Int) := IntWalk.i64_in _ (by omega)
  go_enter Try.func13, Try.ntmps13
  go_upto_region 1 with (fail)
  generalize w.alloc (.cells #[.string (bs m), .string (bs h), .string (bs p), .slice A L.length cap, .string (bs b)] 31) = v1 at *
  have HQ := hid hq0
  obtain ⟨q0, q1, q2, q3, q4⟩ := hq0.cells
  clear hq0
  by_cases h2 : (m.length : Int) + (h.length : Int) + (p.length : Int) + (b.length : Int) > 2000
  · have HC := hid (show fewR m h p L b = false by rw [fewR, decide_eq_false (by omega)]; rfl)
    go_wp2_with fail
    go_returns
    exact ⟨by rw [← H.out, HC.out]; rfl, HAL.out⟩
  · by_cases h4 : (L.length : Int) > 40
    · have HC := hid (show fewR m h p L b = false by rw [fewR, decide_eq_false (show ¬ L.length ≤ 40 by omega)]; simp)
      go_wp2_with fail
      go_returns
      exact ⟨by rw [← H.out, HC.out]; rfl, HAL.out⟩
    · have HC := hid (show fewR m h p L b = L.all fun h => decide (h.1.length + h.2.length ≤ 400) by rw [fewR, decide_eq_true (by omega), decide_eq_true (show L.length ≤ 40 by omega)]; rfl)
      go_wp2_with fail
      clear q0 q1 q2 q3 q4
      go_loopw [3] (fun i wr => ∃ k : Nat, k ≤ L.length ∧ i = .int .i64 k ∧ Hid (((L.take k).all fun h => decide (h.1.length + h.2.length ≤ 400)) = true ∧ Below v1.heap.size v1 wr)) (fun i _ => L.length - (intOf i).toNat)
      case atStart => exact ⟨0, by omega, rfl, hid ⟨rfl, Below.refl _ _⟩⟩
      case round =>
        obtain ⟨k, hk, rfl, HW⟩ := hrel
        obtain ⟨q0, q1, q2, q3, q4⟩ := (HQ.out.up HW.out.2).cells
        clear q0 q1 q2 q4
        by_cases hlt : k < L.length
        · obtain ⟨bb, o, rfl, hB, hc0, hc1⟩ := (HR.out.later' HW.out.2) k hlt
          have HT := hid (all_take' (fun h : Hd => decide (h.1.length + h.2.length ≤ 400)) L k hlt)
          have HF := hid (fun (hp : decide (L[k].1.length + L[k].2.length ≤ 400) = false) => all_false' (p := fun h : Hd => decide (h.1.length + h.2.length ≤ 400)) hlt hp)
          obtain ⟨hs0, hs1⟩ := HS.out _ (List.getElem_mem hlt)
          generalize L[k] = hh' at *
          obtain ⟨g0, g1⟩ := hh'
          have hz0 : g0.length ≤ 140737488351232 := hs0
          have hz1 : g1.length ≤ 140737488351232 := hs1
          clear hs0 hs1
          have hi0 : (0 : Int) ≤ (k : Int) := by omega
          have hi1 : (k : Int) < (L.length : Int) := by omega
          have hadd : IntKind.i64.wrap ((g0.length : Int) + (g1.length : Int)) = (g0.length : Int) + (g1.length : Int) := IntWalk.i64_in _ (by omega)
          by_cases hle : g0.length + g1.length ≤ 400
          · have hd : decide ((400 : Int) < (g0.length : Int) + (g1.length : Int)) = false := decide_eq_false (by omega)
            go_wp2_with fail
            go_quiet (fail)
            go_wp2_with fail
            go_roundw
            case rel => exact ⟨k + 1, by omega, by go_num, hid ⟨by rw [HT.out, HW.out.1]; simp [hle], below_drewN HW.out.2 _⟩⟩
            case measure => simp [intOf]; omega
          · have hd : decide ((400 : Int) < (g0.length : Int) + (g1.length : Int)) = true := decide_eq_true (by omega)
            have HE := hid (show fewR m h p L b = false by rw [HC.out]; exact HF.out (decide_eq_false hle))
            go_wp2_with fail
            go_quiet (fail)
            go_wp2_with fail
            go_returns
            exact ⟨by rw [← H.out, HE.out]; rfl, estep HAL.out (below_drewN HW.out.2 _)⟩
        · obtain rfl : k = L.length := by omega
          have HE := hid (show fewR m h p L b = true by rw [HC.out]; have := HW.out.1; rw [List.take_length] at this; exact this)
          go_wp2_with fail
          go_returns
          exact ⟨by rw [← H.out, HE.out]; rfl, estep HAL.out HW.out.2⟩
end Go.Proofs.Ytmdlkoigjacipaa
