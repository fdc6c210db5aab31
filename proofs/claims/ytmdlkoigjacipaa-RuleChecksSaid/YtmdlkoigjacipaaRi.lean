import Derived.Test.YtmdlkoigjacipaaRh
namespace Go.Proofs.Ytmdlkoigjacipaa
set_option linter.unusedVariables false
set_option linter.unusedSimpArgs false
open Go.RowKit Go.Joins

/-- What is said of a rule's predicates. -/
def chkL (l : List Pd) : Int := if 4 < l.length then 8 else fltR l
set_option maxRecDepth 100000 in
set_option maxHeartbeats 4000000 in
theorem checkpreds_any (A : Option Addr) (c : Nat) (l : List Pd) (w : World) (hl : PX w (· < w.heap.size) A l) (hln : l.length ≤ 9223372036854775807) (hsm : smallP l) {z : Int} (H : Hid (chkL l = z)) :
    Calls Try.prog 39 #[.slice A l.length c] w fun e w' => e = .returned (.int .i64 z) ∧ Below w.heap.size w w' := by
  have HR := hid hl
  have HSM := hid hsm
  clear hl hsm
  by_cases h4 : 4 < l.length
  · have hd : decide ((4 : Int) < ((l.length : Nat) : Int)) = true := decide_eq_true (by omega)
    have HC := hid (show chkL l = 8 by rw [chkL, if_pos h4])
    clear h4
    go_enter Try.func39, Try.ntmps39
    go_wp2_with fail
    go_returns
    exact ⟨by rw [← H.out, HC.out]; rfl, Below.refl _ _⟩
  · have hd : decide ((4 : Int) < ((l.length : Nat) : Int)) = false := decide_eq_false (by omega)
    have HC := hid (show chkL l = fltR l by rw [chkL, if_neg h4])
    clear h4
    go_enter Try.func39, Try.ntmps39
    go_wp2_with fail
    clear hd
    go_loopw [11] (fun i wr => ∃ k : Nat, k ≤ l.length ∧ i = .int .i64 k ∧ Hid (fltR l = fltR (l.drop k) ∧ Below w.heap.size w wr)) (fun i _ => l.length - (intOf i).toNat)
    case atStart => exact ⟨0, by omega, rfl, hid ⟨by rw [List.drop_zero], Below.refl _ _⟩⟩
    case round =>
      obtain ⟨k, hk, rfl, HW⟩ := hrel
      by_cases hlt : k < l.length
      · obtain ⟨bb, o, rfl, hB, c0, c1, c2⟩ := (HR.out.up HW.out.2) k hlt
        have HF := hid (fltR_drop l k hlt)
        obtain ⟨hs0, hs1⟩ := HSM.out.at_ hlt
        generalize l[k] = y at *
        obtain ⟨yk, yn, yv⟩ := y
        simp only at c0 c1 c2 HF hs0 hs1
        have hki : decide ((k : Int) < ((l.length : Nat) : Int)) = true := by simp; omega
        have hb1 := estep HW.out.2 (enew wr (.cells #[.int .i64 yk, .string (bs yn), .string (bs yv)] 23))
        have hp1 := BP.new wr yk yn yv
        obtain ⟨zz, hz⟩ : ∃ zz, cE yk yn yv = zz := ⟨_, rfl⟩
        have HZ := hid hz
        have HM := hid (fun w2 => pcheck_any yk yn yv w2 hs0 hs1 HZ)
        clear hz
        go_upto_region 6 with (fail)
        clear c0 c1 c2
        generalize wr.alloc (.cells #[.int .i64 yk, .string (bs yn), .string (bs yv)] 23) = v1 at *
        obtain ⟨c0, c1, c2⟩ := hp1.cells
        go_wp2_with fail
        refine (HM.out _).mono ?_
        rintro e w1 ⟨rfl, hb2⟩
        have hb3 := hid (estep hb1 hb2)
        clear hb1 hb2 hp1 c0 c1 c2
        by_cases e0 : zz = 0
        · subst e0
          have HFF := hid (show fltR (l.drop k) = fltR (l.drop (k + 1)) by rw [HF.out, HZ.out]; rfl)
          go_wp2_with fail
          go_roundw
          case rel => exact ⟨k + 1, by omega, by go_num, hid ⟨by rw [HW.out.1, HFF.out], hb3.out⟩⟩
          case measure => simp [intOf]; omega
        · have hd0 : decide (zz = 0) = false := decide_eq_false e0
          have hd1 : (!decide (zz = 0)) = true := by rw [hd0]; rfl
          have HFF := hid (show fltR (l.drop k) = zz by rw [HF.out, if_pos (by rw [HZ.out]; exact e0), HZ.out])
          go_wp2_with fail
          go_returns
          exact ⟨by rw [← H.out, HC.out, HW.out.1, HFF.out]; rfl, hb3.out⟩
      · obtain rfl : k = l.length := by omega
        have hki : decide (((l.length : Nat) : Int) < ((l.length : Nat) : Int)) = false := by simp
        have HFF := hid (show fltR l = 0 by rw [HW.out.1, List.drop_length]; rfl)
        go_wp2_with fail
        go_returns
        exact ⟨by rw [← H.out, HC.out, HFF.out]; rfl, HW.out.2⟩
end Go.Proofs.Ytmdlkoigjacipaa
