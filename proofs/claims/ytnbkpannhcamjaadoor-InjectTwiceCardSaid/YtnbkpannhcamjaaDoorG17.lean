/- Texts put together: Tc. -/
import Derived.Test.YtnbkpannhcamjaaDoorG16
import Derived.Lib.SmallJoins
import Derived.Deep.RegionHeld3
namespace Go.Proofs.YtnbkpannhcamjaaDoor
set_option linter.unusedVariables false
set_option linter.unusedSimpArgs false
open Go.RowKit Go.Joins

theorem tkeep2 {w1 w' : World} {p q : Addr} {x y : Value} (h0 : w1.cell? p = some x) (h1 : w1.cell? q = some y) (hb : Below w1.heap.size w1 w') :
    w'.cell? p = some x ∧ w'.cell? q = some y ∧ Below w1.heap.size w1 w' := ⟨(hb.cell (lt_of_cell h0)).trans h0, (hb.cell (lt_of_cell h1)).trans h1, hb⟩
theorem ttwo_new (w : World) (x y : Value) (t : TypeId) : (w.alloc (.cells #[x, y] t)).cell? ⟨w.heap.size, 0, none⟩ = some x ∧ (w.alloc (.cells #[x, y] t)).cell? ⟨w.heap.size, 1, none⟩ = some y := ⟨by simp, by simp⟩
theorem HReads.len_take {w : World} {A : Option Addr} {L : List Hd} (h : HReads w (· < w.heap.size) A L) (i : Nat) : HReads w (· < w.heap.size) A (L.take i) := h.take i
theorem tfault_take (A : Option Addr) (cap : Nat) (L : List Hd) (i : Nat) (hi : i < L.length) (k v : List UInt8) (w : World) (hR : HReads w (· < w.heap.size) A L) (hl : L.length ≤ 9223372036854775807) (hk : k.length ≤ 140737488351232) (hv : v.length ≤ 140737488351232) :
    Calls Tryd.prog 40 #[.slice A i cap, .agg #[.string (bs k), .string (bs v)]] w fun e w' => e = .returned (.int .i64 (oneM (L.take i) (k, v))) ∧ Below w.heap.size w w' := by
  have := tfault_any A cap (L.take i) k v w (hR.take i) (Nat.le_trans (List.length_take_le' i L) hl) hk hv
  rwa [List.length_take, Nat.min_eq_left (by omega)] at this
set_option maxHeartbeats 3200000 in
theorem tcheck_any (A : Option Addr) (cap : Nat) (L : List Hd) (w : World) (hR : HReads w (· < w.heap.size) A L) (hcap : L.length ≤ cap) (hl : L.length ≤ 9223372036854775807) (hs : ∀ h ∈ L, h.1.length ≤ 140737488351232 ∧ h.2.length ≤ 140737488351232) :
    Calls Tryd.prog 36 #[.slice A L.length cap] w fun e w' => e = .returned (.int .i64 (chkM [] L)) ∧ Below w.heap.size w w' := by
  have HR := hid hR
  have HS := hid hs
  clear hR hs
  go_enter Tryd.func36, Tryd.ntmps36
  go_wp2_with fail
  go_loopw [8] (fun i wr => ∃ k : Nat, k ≤ L.length ∧ i = .int .i64 k ∧ Hid (chkM [] L = chkM (L.take k) (L.drop k) ∧ Below w.heap.size w wr)) (fun i _ => L.length - (intOf i).toNat)
  case atStart => exact ⟨0, by omega, rfl, hid ⟨rfl, Below.refl _ _⟩⟩
  case round =>
    obtain ⟨k, hk, rfl, HW⟩ := hrel
    by_cases hlt : k < L.length
    · have HRk := hid (HR.out.up HW.out.2)
      obtain ⟨b, o, hA, hB, hc0, hc1⟩ := HRk.out k hlt
      have HD := hid (chkM_step L k hlt)
      obtain ⟨hs0, hs1⟩ := HS.out _ (List.getElem_mem hlt)
      have HF := hid (fun (w2 : World) (hz : Below wr.heap.size wr w2) => tfault_take A cap L k hlt (L[k]).1 (L[k]).2 w2 (HRk.out.up hz) hl hs0 hs1)
      subst hA
      generalize hx : oneM (L.take k) L[k] = x at *
      have HF2 := hid (fun (w2 : World) (hz : Below wr.heap.size wr w2) => show Calls Tryd.prog 40 #[.slice (some ⟨b, o, none⟩) k cap, .agg #[.string (bs L[k].1), .string (bs L[k].2)]] w2 fun e w' => e = .returned (.int .i64 x) ∧ Below w2.heap.size w2 w' by
        exact HF.out w2 hz)
      clear HF hx hs0 hs1
      generalize L[k] = h at *
      obtain ⟨h0, h1⟩ := h
      have hal := tbelow_new wr (.cells #[Value.string (bs h0), Value.string (bs h1)] 77)
      obtain ⟨d0, d1⟩ := ttwo_new wr (.string (bs h0)) (.string (bs h1)) 77
      have hi0 : (0 : Int) ≤ (k : Int) := by omega
      have hi1 : (k : Int) < (L.length : Int) := by omega
      have hi2 : (k : Int) ≤ (cap : Int) := by omega
      have hi3 : k ≤ cap := by omega
      go_wp2_with fail
      generalize wr.alloc (.cells #[Value.string (bs h0), Value.string (bs h1)] 77) = v3 at *
      have HAL := hid hal
      have hz : Below v3.heap.size v3 v3.drew := (Below.refl _ _).drew
      go_region_held3 (fun w' => w'.cell? ⟨wr.heap.size, 0, none⟩ = some (.string (bs h0)) ∧ w'.cell? ⟨wr.heap.size, 1, none⟩ = some (.string (bs h1)) ∧ Below v3.heap.size v3 w') (first | exact tkeep2 d0 d1 hz | exact tkeep2 d0 d1 (hz.trans (Below.mono (by assumption) hz.size))) (first
        | (go_at_call 40
           ((with_reducible refine (HF2.out _ (HAL.out.trans (hz.mono HAL.out.size))).mono ?_); rintro e w4 ⟨rfl, hy⟩)
           have hz := hz.trans (hy.mono hz.size)))
      all_goals
        have HZ := hid (tbelow_step HW.out.2 (tbelow_step hal hz))
        by_cases hx0 : x = 0
        · have HX := hid hx0
          subst hx0
          go_wp2_with fail
          go_roundw
          case rel => exact ⟨k + 1, by omega, by go_num, hid ⟨by rw [HW.out.1, HD.out, if_pos rfl], HZ.out⟩⟩
          case measure => simp [intOf]; omega
        · have hne : (x != 0) = true := by simpa using hx0
          have HX := hid hx0
          clear hx0
          go_wp2_with fail
          go_ret
          exact ⟨by rw [HW.out.1, HD.out, if_neg HX.out]; rfl, HZ.out⟩
    · obtain rfl : k = L.length := by omega
      go_wp2_with fail
      go_ret
      exact ⟨by rw [HW.out.1, List.drop_length]; rfl, HW.out.2⟩
end Go.Proofs.YtnbkpannhcamjaaDoor
