/- line: texts, escaped: the program's and the definition's. -/
import Derived.Test.YtmejcchkoflciaaDoorGb
namespace Go.Proofs.YtmejcchkoflciaaDoor
set_option linter.unusedVariables false
set_option linter.unusedSimpArgs false
open Go.RowKit Go.Joins

theorem escF_take_len (s : List UInt8) (k : Nat) (h : k ≤ s.length) : ((s.take k).flatMap escB).length ≤ 4 * k := by
  have := (escF_len (s.take k)).2
  rw [List.length_take] at this
  omega
theorem escF_all {s : List UInt8} (h : s ≠ []) : (s.take s.length).flatMap escB = escS s := by
  rw [List.take_length, escS, if_neg h]
set_option maxRecDepth 100000 in
set_option maxHeartbeats 2000000 in
theorem escape_any (s : List UInt8) (hl : s.length ≤ 1000000) (w : World) :
    Calls Tryd.prog 19 #[.string (bs s)] w fun e w' => e = .returned (.string (bs (escS s))) ∧ Below w.heap.size w w' := by
  by_cases h0 : s = []
  · subst h0
    go_enter Tryd.func19, Tryd.ntmps19
    go_wp2_with fail
    go_returns
    exact ⟨rfl, Below.refl _ _⟩
  · have hbe : (s == []) = false := by simpa using h0
    have HA := hid (escF_all h0)
    obtain ⟨w1, hmk, hbuf, hb1⟩ := yb_made w s.length (by omega)
    have H1 := hid (And.intro hbuf hb1)
    clear hbuf hb1 h0
    go_enter Tryd.func19, Tryd.ntmps19
    go_wp2_with fail
    go_loopw [3, 12] (fun v i wr => ∃ k : Nat, k ≤ s.length ∧ i = .int .i64 k ∧ Hid (YB wr w.heap.size v ((s.take k).flatMap escB) ∧ Below w.heap.size w wr)) (fun _ i _ => s.length - (intOf i).toNat)
    case atStart => exact ⟨0, by omega, rfl, H1⟩
    case round =>
      obtain ⟨k, hk, rfl, HW⟩ := hrel
      by_cases hlt : k < s.length
      · have HS := hid (escF_take s k hlt)
        have HLN := hid (escF_take_len s k hk)
        have HSZ := hid HW.out.2.size
        go_wp2_with fail
        refine (escaped_any w.heap.size _ _ s[k] _ HW.out.1 HSZ.out (by have := HLN.out; omega)).mono ?_
        rintro e w2 ⟨v', rfl, hv, hb⟩
        have H2 := hid (And.intro hv hb)
        clear hv hb
        go_wp2_with fail
        go_roundw
        case rel => exact ⟨k + 1, by omega, by go_num, hid ⟨by rw [HS.out]; exact H2.out.1, HW.out.2.trans H2.out.2⟩⟩
        case measure => simp [intOf]; omega
      · obtain rfl : k = s.length := by omega
        have hcv := conv_yb HW.out.1
        rw [HA.out] at hcv
        go_wp2_with fail
        go_returns
        exact ⟨rfl, HW.out.2⟩
theorem hex_two (c : UInt8) : hexS c.toNat 2 = ([hexd (c.toNat / 16), hexd (c.toNat % 16)], 0) := by
  have hc := UInt8.toNat_lt c
  rw [hexS, putX_ok (by omega) (by omega) (by rw [show (2 : Int).toNat = 2 from rfl]; omega)]
  show ([hexd (c.toNat / 16 % 16), hexd (c.toNat % 16)], (0 : Int)) = _
  rw [Nat.mod_eq_of_lt (show c.toNat / 16 < 16 by omega)]
set_option maxRecDepth 100000 in
set_option maxHeartbeats 2000000 in
theorem rescape_any (s : List UInt8) (hl : s.length ≤ 1000000) (w : World) :
    Calls Tryd.prog 20 #[.string (bs s)] w fun e w' => e = .returned (.string (bs (escS s))) ∧ Below w.heap.size w w' := by
  by_cases h0 : s = []
  · subst h0
    go_enter Tryd.func20, Tryd.ntmps20
    go_wp2_with fail
    go_returns
    exact ⟨rfl, Below.refl _ _⟩
  · have hbe : (s == []) = false := by simpa using h0
    have HA := hid (escF_all h0)
    clear h0
    go_enter Tryd.func20, Tryd.ntmps20
    go_wp2_with fail
    go_loopw [3, 4] (fun v i wr => ∃ k : Nat, k ≤ s.length ∧ i = .int .i64 k ∧ (∃ t : List UInt8, v = .string (bs t) ∧ t.length ≤ 4 * k ∧ Hid (t = (s.take k).flatMap escB)) ∧ Hid (Below w.heap.size w wr)) (fun _ i _ => s.length - (intOf i).toNat)
    case atStart => exact ⟨0, by omega, rfl, ⟨[], rfl, by simp, hid (by simp)⟩, hid (Below.refl _ _)⟩
    case round =>
      obtain ⟨k, hk, rfl, ⟨t, rfl, hln, HT⟩, HW⟩ := hrel
      by_cases hlt : k < s.length
      · have HS := hid (escF_take s k hlt)
        have HLE := hid (escF_take_len s (k + 1) hlt)
        have x1 : (bs s).extract k (k + 1) = bs [s[k]] := by
          rw [bs_extract, Nat.add_sub_cancel_left, List.drop_eq_getElem_cons hlt]; rfl
        have hc := UInt8.toNat_lt s[k]
        obtain ⟨c, hcc⟩ : ∃ c, c = s[k] := ⟨_, rfl⟩
        have HX := hid (hex_two s[k])
        have c1 : (ByteArray.mk #[92, 120]) = bs [92, 120] := rfl
        have c2 : (ByteArray.mk #[92]) = bs [92] := rfl
        by_cases hr : s[k].toNat < 32 ∨ 126 < s[k].toNat
        · have HE := hid (show escB s[k] = [92, 120, hexd (s[k].toNat / 16), hexd (s[k].toNat % 16)] by unfold escB; rw [if_pos hr])
          have hq : IntKind.u64.wrap (s[k].toNat : Int) = (s[k].toNat : Int) := IntWalk.u64_in _ (by omega)
          have d0 : decide ((s[k].toNat : Int) < 32) = true ∨ (decide ((s[k].toNat : Int) < 32) = false ∧ decide ((126 : Int) < (s[k].toNat : Int)) = true) := by
            by_cases h32 : s[k].toNat < 32
            · exact Or.inl (by simp; omega)
            · exact Or.inr ⟨by simp; omega, by simp; omega⟩
          clear hr hcc
          rcases d0 with d1 | ⟨d1, d2⟩
          all_goals
            go_wp2_with fail
            refine (rhex_any (s[k].toNat : Int) 2 _ (by omega) (hid (by omega))).mono ?_
            rintro e w2 ⟨rfl, hb⟩
            have HB := hid hb
            clear hb
            rw [Int.toNat_natCast, HX.out]
            go_wp2_with fail
            go_roundw
            case rel => exact ⟨k + 1, by omega, by go_num, ⟨(s.take (k + 1)).flatMap escB, by rw [HS.out, ← HT.out, HE.out], HLE.out, hid rfl⟩, hid (HW.out.trans (HB.out.mono HW.out.size))⟩
            case measure => simp [intOf]; omega
        · have d3 : decide ((s[k].toNat : Int) < 32) = false := by simp; omega
          have d4 : decide ((126 : Int) < (s[k].toNat : Int)) = false := by simp; omega
          by_cases hq : s[k].toNat = 34 ∨ s[k].toNat = 92
          · have HE := hid (show escB s[k] = [92, s[k]] by unfold escB; rw [if_neg hr, if_pos hq])
            have d0 : ((s[k].toNat : Int) == 34) = true ∨ (((s[k].toNat : Int) == 34) = false ∧ ((s[k].toNat : Int) == 92) = true) := by
              by_cases h34 : s[k].toNat = 34
              · exact Or.inl (by simp; omega)
              · exact Or.inr ⟨by simp; omega, by simp; omega⟩
            clear hr hq hcc
            rcases d0 with d1 | ⟨d1, d2⟩
            all_goals
              go_wp2_with fail
              go_roundw
              case rel => exact ⟨k + 1, by omega, by go_num, ⟨(s.take (k + 1)).flatMap escB, by rw [HS.out, ← HT.out, HE.out], HLE.out, hid rfl⟩, HW⟩
              case measure => simp [intOf]; omega
          · have HE := hid (show escB s[k] = [s[k]] by unfold escB; rw [if_neg hr, if_neg hq])
            have d1 : ((s[k].toNat : Int) == 34) = false := by simp; omega
            have d2 : ((s[k].toNat : Int) == 92) = false := by simp; omega
            clear hr hq hcc
            go_wp2_with fail
            go_roundw
            case rel => exact ⟨k + 1, by omega, by go_num, ⟨(s.take (k + 1)).flatMap escB, by rw [HS.out, ← HT.out, HE.out], HLE.out, hid rfl⟩, HW⟩
            case measure => simp [intOf]; omega
      · obtain rfl : k = s.length := by omega
        have HTA := hid (HT.out.trans HA.out)
        go_wp2_with fail
        go_returns
        exact ⟨by rw [← HTA.out]; rfl, HW.out⟩
end Go.Proofs.YtmejcchkoflciaaDoor
