/- Texts put together: Tb. -/
import Derived.Test.YtnbkpannhcamjaaGreatDoorG15
import Derived.Deep.QuietTactic
import Derived.BigQuiet
import Derived.WalkSmall
namespace Go.Proofs.YtnbkpannhcamjaaGreatDoor
set_option linter.unusedVariables false
set_option linter.unusedSimpArgs false
open Go.RowKit

theorem HReads.up {w w' : World} {A : Option Addr} {L : List (List UInt8 × List UInt8)} (h : HReads w (· < w.heap.size) A L) (hb : Below w.heap.size w w') : HReads w' (· < w'.heap.size) A L :=
  (h.below hb).imp fun b hb' => Nat.lt_of_lt_of_le hb' hb.size
theorem tbelow_new (w : World) (o : Obj) : Below w.heap.size w (w.alloc o) := (Below.refl _ _).alloc (Nat.le_refl _) _
theorem tbelow_step {a b c : World} (h : Below a.heap.size a b) (k : Below b.heap.size b c) : Below a.heap.size a c := h.trans (k.mono h.size)
set_option maxHeartbeats 3200000 in
theorem rkey_any (l : List UInt8) (w : World) (hs : l.length ≤ 140737488351232) :
    Calls Tryz.prog 45 #[.string (bs l)] w fun e w' => e = .returned (.bool (keyB l)) ∧ w = w' := by
  by_cases h1 : 1 ≤ l.length ∧ l.length ≤ 32
  · obtain ⟨h1, h2⟩ := h1
    have HN := hid (show keyB l = allK true (l.drop 0) by rw [keyB, decide_eq_true h2]; cases l <;> simp_all)
    have hnot := notB'
    go_enter Tryz.func45, Tryz.ntmps45
    go_wp2_with fail
    go_loop [3] (fun i => ∃ k : Nat, k ≤ l.length ∧ Hid (keyB l = allK (decide (k = 0)) (l.drop k)) ∧ i = .int .i64 k) (fun i => l.length - (intOf i).toNat)
    case atStart => exact ⟨0, by omega, hid (by rw [HN.out]; rfl), rfl⟩
    case round =>
      obtain ⟨k, hk, Hk, rfl⟩ := hrel
      by_cases hlt : k < l.length
      · have hc := UInt8.toNat_lt l[k]
        have HD := hid (allK_drop l (decide (k = 0)) k hlt)
        by_cases hk0 : k = 0
        · subst hk0
          have Hk2 := hid (show keyB l = (inKeyB true l[0] && allK false (l.drop (0 + 1))) from Hk.out.trans HD.out)
          clear Hk HD
          go_wp2_with fail
          all_goals first
            | (go_round
               case rel => exact ⟨0 + 1, by omega, hid (by rw [Hk2.out, show inKeyB true l[0] = true by (simp [inKeyB, inKey0, inSign]; (try simp at *); omega)]; rfl), by go_num⟩
               case measure => simp [intOf]; omega)
            | (go_ret
               exact ⟨by rw [Hk2.out, show inKeyB true l[0] = false by (simp [inKeyB, inKey0, inSign]; (try simp at *); omega)]; rfl, rfl⟩)
        · have hb0 : ((k : Int) == 0) = false := by simp; omega
          have hd0 : decide (k = 0) = false := by simp [hk0]
          rw [hd0] at Hk HD
          clear hk0 hd0
          go_wp2_with fail
          all_goals first
            | (go_round
               case rel => exact ⟨k + 1, by omega, hid (by rw [Hk.out, HD.out, show inKeyB false l[k] = true by (simp [inKeyB, inKey0, inSign]; (try simp at *); omega), decide_eq_false (show ¬ k + 1 = 0 by omega)]; rfl), by go_num⟩
               case measure => simp [intOf]; omega)
            | (go_ret
               exact ⟨by rw [Hk.out, HD.out, show inKeyB false l[k] = false by (simp [inKeyB, inKey0, inSign]; (try simp at *); omega)]; rfl, rfl⟩)
      · obtain rfl : k = l.length := by omega
        go_wp2_with fail
        go_ret
        exact ⟨by rw [Hk.out, List.drop_length]; rfl, rfl⟩
  · have HN := hid (show keyB l = false by
      unfold keyB
      by_cases h0 : l = []
      · subst h0; rfl
      · have : 0 < l.length := List.length_pos_iff.2 h0
        rw [decide_eq_false (show ¬ l.length ≤ 32 by omega)]; simp)
    have h1' : l.length < 1 ∨ 32 < l.length := by omega
    clear h1
    rcases h1' with h1 | h1
    all_goals
      go_enter Tryz.func45, Tryz.ntmps45
      go_wp2_with fail
      go_ret
      exact ⟨by rw [HN.out]; rfl, rfl⟩
set_option maxHeartbeats 3200000 in
theorem rval_any (l : List UInt8) (w : World) (hs : l.length ≤ 140737488351232) :
    Calls Tryz.prog 46 #[.string (bs l)] w fun e w' => e = .returned (.bool (valM l)) ∧ w = w' := by
  by_cases h1 : 1 ≤ l.length ∧ l.length ≤ 64
  · obtain ⟨h1, h2⟩ := h1
    have HN := hid (show valM l = (decide (l[l.length - 1].toNat ≠ 32) && l.all inValB) by rw [valM, decide_eq_true h2, getLastD_at h1]; cases l with | nil => simp at h1 | cons c r => rfl)
    go_enter Tryz.func46, Tryz.ntmps46
    go_wp2_with fail
    go_loop [3] (fun i => ∃ k : Nat, k ≤ l.length ∧ Hid ((l.take k).all inValB = true) ∧ i = .int .i64 k) (fun i => l.length - (intOf i).toNat)
    case atStart => exact ⟨0, by omega, hid rfl, rfl⟩
    case round =>
      obtain ⟨k, hk, Hk, rfl⟩ := hrel
      by_cases hlt : k < l.length
      · have hc := UInt8.toNat_lt l[k]
        go_wp2_with fail
        all_goals first
          | (go_round
             case rel => exact ⟨k + 1, by omega, hid (by rw [all_take _ _ _ hlt, Hk.out]; simp [inValB]; (try simp at *); omega), by go_num⟩
             case measure => simp [intOf]; omega)
          | (go_ret
             exact ⟨by rw [HN.out, all_false hlt (by simp [inValB]; (try simp at *); omega)]; simp, rfl⟩)
      · obtain rfl : k = l.length := by omega
        have h3 := Hk.out
        rw [List.take_length] at h3
        have HA := hid h3
        clear h3
        go_wp2_with fail
        all_goals
          go_ret
          refine ⟨ret_bool ?_, rfl⟩
          rw [HN.out, HA.out, Bool.eq_iff_iff]
          simp
          try omega
  · have HN := hid (show valM l = false by
      unfold valM
      by_cases h0 : l = []
      · subst h0; rfl
      · have : 0 < l.length := List.length_pos_iff.2 h0
        rw [decide_eq_false (show ¬ l.length ≤ 64 by omega)]; simp)
    have h1' : l.length < 1 ∨ 64 < l.length := by omega
    clear h1
    rcases h1' with h1 | h1
    all_goals
      go_enter Tryz.func46, Tryz.ntmps46
      go_wp2_with fail
      go_ret
      exact ⟨by rw [HN.out]; rfl, rfl⟩
set_option maxHeartbeats 1600000 in
theorem tget_any (A : Option Addr) (cap : Nat) (L : List Hd) (n : List UInt8) (w : World) (hR : HReads w (· < w.heap.size) A L) (hl : L.length ≤ 9223372036854775807) :
    Calls Tryz.prog 84 #[.slice A L.length cap, .string (bs n)] w fun e w' => e = .returned (.tuple #[.string (bs (getM L n).1), .bool (getM L n).2]) ∧ Below w.heap.size w w' := by
  have HR := hid hR
  clear hR
  go_enter Tryz.func84, Tryz.ntmps84
  go_wp2_with fail
  go_loopw [10] (fun i wr => ∃ k : Nat, k ≤ L.length ∧ i = .int .i64 k ∧ Hid (getM L n = getM (L.drop k) n ∧ Below w.heap.size w wr)) (fun i _ => L.length - (intOf i).toNat)
  case atStart => exact ⟨0, by omega, rfl, hid ⟨rfl, Below.refl _ _⟩⟩
  case round =>
    obtain ⟨k, hk, rfl, HW⟩ := hrel
    by_cases hlt : k < L.length
    · obtain ⟨b, o, rfl, hB, hc0, hc1⟩ := (HR.out.below HW.out.2) k hlt
      have HD := hid (getM_drop L n k hlt)
      generalize L[k] = h at *
      obtain ⟨h0, h1⟩ := h
      have hsz : w.heap.size ≤ wr.heap.size := HW.out.2.size
      have HA := hid (HW.out.2.alloc hsz (.cells #[Value.string (bs h0), Value.string (bs h1)] 71))
      cases he : (h0 == n)
      · have HE := hid he
        go_wp2_with fail
        go_roundw
        case rel => exact ⟨k + 1, by omega, by go_num, hid ⟨by rw [HW.out.1, HD.out, if_neg (by rw [HE.out]; simp)], HA.out⟩⟩
        case measure => simp [intOf]; omega
      · have HE := hid he
        go_wp2_with fail
        go_ret2
        exact ⟨by rw [HW.out.1, HD.out, if_pos HE.out]; rfl, HA.out⟩
    · obtain rfl : k = L.length := by omega
      go_wp2_with fail
      go_ret2
      exact ⟨by rw [HW.out.1, List.drop_length]; rfl, HW.out.2⟩
set_option maxHeartbeats 1600000 in
theorem tfault_any (A : Option Addr) (cap : Nat) (L : List Hd) (k v : List UInt8) (w : World) (hR : HReads w (· < w.heap.size) A L) (hl : L.length ≤ 9223372036854775807) (hk : k.length ≤ 140737488351232) (hv : v.length ≤ 140737488351232) :
    Calls Tryz.prog 62 #[.slice A L.length cap, .agg #[.string (bs k), .string (bs v)]] w fun e w' => e = .returned (.int .i64 (oneM L (k, v))) ∧ Below w.heap.size w w' := by
  have HA := hid (tbelow_new w (.cells #[Value.string (bs k), Value.string (bs v)] 71))
  have HX := hid (tget_any A cap L k _ (hR.up HA.out) hl)
  have HO := hid (show oneM L (k, v) = if keyB k = false then 3 else if valM v = false then 3 else if (getM L k).2 = true then 10 else if 32 ≤ L.length then 8 else 0 from rfl)
  clear hR
  have hnot := notB'
  cases h1 : keyB k
  · have H1 := hid h1
    clear h1 HX
    go_enter Tryz.func62, Tryz.ntmps62
    go_wp2_with fail
    refine (tkey_any _ _ hk).mono ?_
    rintro e w1 ⟨rfl, rfl⟩
    rw [H1.out]
    go_wp2_with fail
    go_ret
    exact ⟨by rw [HO.out, if_pos H1.out]; rfl, HA.out⟩
  have H1 := hid h1
  clear h1
  cases h2 : valM v
  · have H2 := hid h2
    clear h2 HX
    go_enter Tryz.func62, Tryz.ntmps62
    go_wp2_with fail
    refine (tkey_any _ _ hk).mono ?_
    rintro e w1 ⟨rfl, rfl⟩
    rw [H1.out]
    go_wp2_with fail
    refine (tval_any _ _ hv).mono ?_
    rintro e w1 ⟨rfl, rfl⟩
    rw [H2.out]
    go_wp2_with fail
    go_ret
    exact ⟨by rw [HO.out, if_neg (by rw [H1.out]; simp), if_pos H2.out]; rfl, HA.out⟩
  have H2 := hid h2
  clear h2
  cases h3 : (getM L k).2
  · have H3 := hid h3
    clear h3
    by_cases h32 : 32 ≤ L.length
    · go_enter Tryz.func62, Tryz.ntmps62
      go_wp2_with fail
      refine (tkey_any _ _ hk).mono ?_
      rintro e w1 ⟨rfl, rfl⟩
      rw [H1.out]
      go_wp2_with fail
      refine (tval_any _ _ hv).mono ?_
      rintro e w1 ⟨rfl, rfl⟩
      rw [H2.out]
      go_wp2_with fail
      refine HX.out.mono ?_
      rintro e w1 ⟨rfl, hb1⟩
      have HB1 := hid hb1
      clear hb1
      rw [H3.out]
      go_wp2_with fail
      go_ret
      exact ⟨by rw [HO.out, if_neg (by rw [H1.out]; simp), if_neg (by rw [H2.out]; simp), if_neg (by rw [H3.out]; simp), if_pos h32]; rfl, tbelow_step HA.out HB1.out⟩
    · go_enter Tryz.func62, Tryz.ntmps62
      go_wp2_with fail
      refine (tkey_any _ _ hk).mono ?_
      rintro e w1 ⟨rfl, rfl⟩
      rw [H1.out]
      go_wp2_with fail
      refine (tval_any _ _ hv).mono ?_
      rintro e w1 ⟨rfl, rfl⟩
      rw [H2.out]
      go_wp2_with fail
      refine HX.out.mono ?_
      rintro e w1 ⟨rfl, hb1⟩
      have HB1 := hid hb1
      clear hb1
      rw [H3.out]
      go_wp2_with fail
      go_ret
      exact ⟨by rw [HO.out, if_neg (by rw [H1.out]; simp), if_neg (by rw [H2.out]; simp), if_neg (by rw [H3.out]; simp), if_neg h32]; rfl, tbelow_step HA.out HB1.out⟩
  · have H3 := hid h3
    clear h3
    go_enter Tryz.func62, Tryz.ntmps62
    go_wp2_with fail
    refine (tkey_any _ _ hk).mono ?_
    rintro e w1 ⟨rfl, rfl⟩
    rw [H1.out]
    go_wp2_with fail
    refine (tval_any _ _ hv).mono ?_
    rintro e w1 ⟨rfl, rfl⟩
    rw [H2.out]
    go_wp2_with fail
    refine HX.out.mono ?_
    rintro e w1 ⟨rfl, hb1⟩
    have HB1 := hid hb1
    clear hb1
    rw [H3.out]
    go_wp2_with fail
    go_ret
    exact ⟨by rw [HO.out, if_neg (by rw [H1.out]; simp), if_neg (by rw [H2.out]; simp), if_pos H3.out]; rfl, tbelow_step HA.out HB1.out⟩
end Go.Proofs.YtnbkpannhcamjaaGreatDoor
