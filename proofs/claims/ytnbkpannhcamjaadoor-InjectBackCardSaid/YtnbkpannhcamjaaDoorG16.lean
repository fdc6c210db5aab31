/- Texts put together: Tb. -/
import Derived.Test.YtnbkpannhcamjaaDoorG15
import Derived.Deep.QuietTactic
import Derived.BigQuiet
import Derived.WalkSmall
namespace Go.Proofs.YtnbkpannhcamjaaDoor
set_option linter.unusedVariables false
set_option linter.unusedSimpArgs false
open Go.RowKit

theorem HReads.up {w w' : World} {A : Option Addr} {L : List (List UInt8 × List UInt8)} (h : HReads w (· < w.heap.size) A L) (hb : Below w.heap.size w w') : HReads w' (· < w'.heap.size) A L :=
  (h.below hb).imp fun b hb' => Nat.lt_of_lt_of_le hb' hb.size
theorem tbelow_new (w : World) (o : Obj) : Below w.heap.size w (w.alloc o) := (Below.refl _ _).alloc (Nat.le_refl _) _
theorem tbelow_step {a b c : World} (h : Below a.heap.size a b) (k : Below b.heap.size b c) : Below a.heap.size a c := h.trans (k.mono h.size)
set_option maxHeartbeats 1600000 in
theorem tget_any (A : Option Addr) (cap : Nat) (L : List Hd) (n : List UInt8) (w : World) (hR : HReads w (· < w.heap.size) A L) (hl : L.length ≤ 9223372036854775807) :
    Calls Tryd.prog 59 #[.slice A L.length cap, .string (bs n)] w fun e w' => e = .returned (.tuple #[.string (bs (getM L n).1), .bool (getM L n).2]) ∧ Below w.heap.size w w' := by
  have HR := hid hR
  clear hR
  go_enter Tryd.func59, Tryd.ntmps59
  go_wp2_with fail
  go_loopw [10] (fun i wr => ∃ k : Nat, k ≤ L.length ∧ i = .int .i64 k ∧ Hid (getM L n = getM (L.drop k) n ∧ Below w.heap.size w wr)) (fun i _ => L.length - (intOf i).toNat)
  case atStart => exact ⟨0, by omega, rfl, hid ⟨rfl, Below.refl _ _⟩⟩
  case round =>
    obtain ⟨k, hk, rfl, HW⟩ := hrel
    by_cases hlt : k < L.length
    · obtain ⟨b, o, rfl, hB, hc0, hc1⟩ := (HR.out.below HW.out.2) k hlt
      have HD := hid (getM_drop L n k hlt)
      generalize L[k] = h at *
      obtain ⟨h0, h1⟩ := h
      have hsz : w.heap.size ≤ wr.heap.size := HW.out.2.size
      have HA := hid (HW.out.2.alloc hsz (.cells #[Value.string (bs h0), Value.string (bs h1)] 77))
      cases he : (h0 == n)
      · have HE := hid he
        go_wp2_with fail
        go_roundw
        case rel => exact ⟨k + 1, by omega, by go_num, hid ⟨by rw [HW.out.1, HD.out, if_neg (by rw [HE.out]; simp)], HA.out⟩⟩
        case measure => simp [intOf]; omega
      · have HE := hid he
        go_wp2_with fail
        go_ret2
        exact ⟨by rw [HW.out.1, HD.out, if_pos HE.out]; rfl, HA.out⟩
    · obtain rfl : k = L.length := by omega
      go_wp2_with fail
      go_ret2
      exact ⟨by rw [HW.out.1, List.drop_length]; rfl, HW.out.2⟩
set_option maxHeartbeats 1600000 in
theorem tfault_any (A : Option Addr) (cap : Nat) (L : List Hd) (k v : List UInt8) (w : World) (hR : HReads w (· < w.heap.size) A L) (hl : L.length ≤ 9223372036854775807) (hk : k.length ≤ 140737488351232) (hv : v.length ≤ 140737488351232) :
    Calls Tryd.prog 40 #[.slice A L.length cap, .agg #[.string (bs k), .string (bs v)]] w fun e w' => e = .returned (.int .i64 (oneM L (k, v))) ∧ Below w.heap.size w w' := by
  have HA := hid (tbelow_new w (.cells #[Value.string (bs k), Value.string (bs v)] 77))
  have HX := hid (tget_any A cap L k _ (hR.up HA.out) hl)
  have HO := hid (show oneM L (k, v) = if keyB k = false then 3 else if valM v = false then 3 else if (getM L k).2 = true then 10 else if 32 ≤ L.length then 8 else 0 from rfl)
  clear hR
  have hnot := notB'
  cases h1 : keyB k
  · have H1 := hid h1
    clear h1 HX
    go_enter Tryd.func40, Tryd.ntmps40
    go_wp2_with fail
    refine (tkey_any _ _ hk).mono ?_
    rintro e w1 ⟨rfl, rfl⟩
    rw [H1.out]
    go_wp2_with fail
    go_ret
    exact ⟨by rw [HO.out, if_pos H1.out]; rfl, HA.out⟩
  have H1 := hid h1
  clear h1
  cases h2 : valM v
  · have H2 := hid h2
    clear h2 HX
    go_enter Tryd.func40, Tryd.ntmps40
    go_wp2_with fail
    refine (tkey_any _ _ hk).mono ?_
    rintro e w1 ⟨rfl, rfl⟩
    rw [H1.out]
    go_wp2_with fail
    refine (tval_any _ _ hv).mono ?_
    rintro e w1 ⟨rfl, rfl⟩
    rw [H2.out]
    go_wp2_with fail
    go_ret
    exact ⟨by rw [HO.out, if_neg (by rw [H1.out]; simp), if_pos H2.out]; rfl, HA.out⟩
  have H2 := hid h2
  clear h2
  cases h3 : (getM L k).2
  · have H3 := hid h3
    clear h3
    by_cases h32 : 32 ≤ L.length
    · go_enter Tryd.func40, Tryd.ntmps40
      go_wp2_with fail
      refine (tkey_any _ _ hk).mono ?_
      rintro e w1 ⟨rfl, rfl⟩
      rw [H1.out]
      go_wp2_with fail
      refine (tval_any _ _ hv).mono ?_
      rintro e w1 ⟨rfl, rfl⟩
      rw [H2.out]
      go_wp2_with fail
      refine HX.out.mono ?_
      rintro e w1 ⟨rfl, hb1⟩
      have HB1 := hid hb1
      clear hb1
      rw [H3.out]
      go_wp2_with fail
      go_ret
      exact ⟨by rw [HO.out, if_neg (by rw [H1.out]; simp), if_neg (by rw [H2.out]; simp), if_neg (by rw [H3.out]; simp), if_pos h32]; rfl, tbelow_step HA.out HB1.out⟩
    · go_enter Tryd.func40, Tryd.ntmps40
      go_wp2_with fail
      refine (tkey_any _ _ hk).mono ?_
      rintro e w1 ⟨rfl, rfl⟩
      rw [H1.out]
      go_wp2_with fail
      refine (tval_any _ _ hv).mono ?_
      rintro e w1 ⟨rfl, rfl⟩
      rw [H2.out]
      go_wp2_with fail
      refine HX.out.mono ?_
      rintro e w1 ⟨rfl, hb1⟩
      have HB1 := hid hb1
      clear hb1
      rw [H3.out]
      go_wp2_with fail
      go_ret
      exact ⟨by rw [HO.out, if_neg (by rw [H1.out]; simp), if_neg (by rw [H2.out]; simp), if_neg (by rw [H3.out]; simp), if_neg h32]; rfl, tbelow_step HA.out HB1.out⟩
  · have H3 := hid h3
    clear h3
    go_enter Tryd.func40, Tryd.ntmps40
    go_wp2_with fail
    refine (tkey_any _ _ hk).mono ?_
    rintro e w1 ⟨rfl, rfl⟩
    rw [H1.out]
    go_wp2_with fail
    refine (tval_any _ _ hv).mono ?_
    rintro e w1 ⟨rfl, rfl⟩
    rw [H2.out]
    go_wp2_with fail
    refine HX.out.mono ?_
    rintro e w1 ⟨rfl, hb1⟩
    have HB1 := hid hb1
    clear hb1
    rw [H3.out]
    go_wp2_with fail
    go_ret
    exact ⟨by rw [HO.out, if_neg (by rw [H1.out]; simp), if_neg (by rw [H2.out]; simp), if_pos H3.out]; rfl, tbelow_step HA.out HB1.out⟩
end Go.Proofs.YtnbkpannhcamjaaDoor
