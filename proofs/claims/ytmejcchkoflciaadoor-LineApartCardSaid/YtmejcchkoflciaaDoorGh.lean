/- The walks of LineEscapes and LineApart. -/
import Derived.Test.YtmejcchkoflciaaDoorGg
namespace Go.Proofs.YtmejcchkoflciaaDoor
set_option linter.unusedVariables false
set_option linter.unusedSimpArgs false
open Go.RowKit Go.Joins

set_option maxRecDepth 100000 in
set_option maxHeartbeats 2000000 in
theorem lineEscapes_walk (s : List UInt8) (hs : s.length ≤ 140737488351232) (w : World) (E : EnvL w) :
    Calls Tryd.prog 6 #[.string (bs s)] w fun e w' => e = .returned (.bool true) ∧ Below w.heap.size w w' := by
  by_cases h1 : s.length ≤ 1000
  · have h2 : ¬ (1000 : Int) < (s.length : Int) := by omega
    have HE := hid (escape_any s (by omega) w)
    have HR := hid (fun w2 => rescape_any s (by omega) w2)
    obtain ⟨hlo, hhi⟩ := escS_len s
    have HP := hid (escS_plain s)
    have HEN := hid E
    have hge : decide ((s.length : Int) ≤ ((escS s).length : Int)) = true := by simp; omega
    have hge2 : decide (s.length ≤ (escS s).length) = true := by simpa using hlo
    generalize escS s = t at *
    have ht : t.length ≤ 4001 := by omega
    clear hs E h1 hhi hlo
    go_enter Tryd.func6, Tryd.ntmps6
    go_wp2_with fail
    refine HE.out.mono ?_
    rintro e w1 ⟨rfl, hb1⟩
    have H1 := hid (And.intro hb1 (HEN.out.up hb1))
    clear hb1
    go_wp2_with fail
    go_loop [4] (fun i => ∃ k : Nat, k ≤ t.length ∧ i = .int .i64 k) (fun i => t.length - (intOf i).toNat)
    case atStart => exact ⟨0, by omega, rfl⟩
    case round =>
      obtain ⟨k, hk, rfl⟩ := hrel
      by_cases hlt : k < t.length
      · obtain ⟨p1, p2⟩ := HP.out _ (List.getElem_mem hlt)
        have d1 : decide ((t[k].toNat : Int) < 32) = false := by simp; omega
        have d2 : decide ((126 : Int) < (t[k].toNat : Int)) = false := by simp; omega
        clear p1 p2
        go_wp2_with fail
        go_round
        case rel => exact ⟨k + 1, by omega, by go_num⟩
        case measure => simp [intOf]; omega
      · obtain rfl : k = t.length := by omega
        go_wp2_with fail
        refine (HR.out _).mono ?_
        rintro e w2 ⟨rfl, hb2⟩
        have H2 := hid (And.intro (estep H1.out.1 hb2) (H1.out.2.up hb2))
        clear hb2
        go_wp2_with fail
        refine (known20_any _ H2.out.2).mono ?_
        rintro e w3 ⟨rfl, hb3⟩
        have H3 := hid (estep H2.out.1 hb3)
        clear hb3
        go_wp2_with fail
        go_returns
        exact ⟨rfl, H3.out⟩
  · have h2 : (1000 : Int) < (s.length : Int) := by omega
    have HEN := hid E
    clear E h1
    go_enter Tryd.func6, Tryd.ntmps6
    go_wp2_with fail
    refine (known20_any _ HEN.out).mono ?_
    rintro e w3 ⟨rfl, hb3⟩
    have H3 := hid hb3
    clear hb3
    go_wp2_with fail
    go_returns
    exact ⟨rfl, H3.out⟩
theorem escS_eqs (a b : List UInt8) (h1 : ¬ (a = [] ∧ b = [45])) (h2 : ¬ (a = [45] ∧ b = [])) : (escS a == escS b) = (a == b) := by
  rw [Bool.eq_iff_iff, beq_iff_eq, beq_iff_eq]
  refine ⟨fun h => ?_, fun h => by rw [h]⟩
  rcases escS_inj h with h | h | h
  · exact h
  · exact absurd h h1
  · exact absurd h h2
set_option maxRecDepth 100000 in
set_option maxHeartbeats 8000000 in
theorem lineApart_walk (a b : List UInt8) (ha : a.length ≤ 140737488351232) (hb : b.length ≤ 140737488351232) (w : World) (E : EnvL w) :
    Calls Tryd.prog 9 #[.string (bs a), .string (bs b)] w fun e w' => e = .returned (.bool true) ∧ Below w.heap.size w w' := by
  have HEN := hid E
  have HK := hid (known20_any w E)
  clear E
  by_cases h1 : a.length ≤ 1000
  · by_cases h3 : b.length ≤ 1000
    · have d1 : decide ((1000 : Int) < (a.length : Int)) = false := by simp; omega
      have d2 : decide ((1000 : Int) < (b.length : Int)) = false := by simp; omega
      have HEA := hid (escape_any a (by omega) w)
      have HEB := hid (fun w2 => escape_any b (by omega) w2)
      have HQ := hid (escS_eqs a b)
      obtain ⟨z1, hz1⟩ : ∃ z, (a == []) = z := ⟨_, rfl⟩
      obtain ⟨z2, hz2⟩ : ∃ z, (b == [45]) = z := ⟨_, rfl⟩
      obtain ⟨z3, hz3⟩ : ∃ z, (a == [45]) = z := ⟨_, rfl⟩
      obtain ⟨z4, hz4⟩ : ∃ z, (b == []) = z := ⟨_, rfl⟩
      have c45 : (ByteArray.mk #[45]) = bs [45] := rfl
      have c0 : (ByteArray.mk #[]) = bs [] := rfl
      generalize escS a = ea at *
      generalize escS b = eb at *
      clear h1 h3
      by_cases hm : (z1 && z2) = true ∨ (z3 && z4) = true
      · clear HQ HEA HEB HEN
        cases z1 <;> cases z2 <;> cases z3 <;> cases z4 <;> first
          | (exfalso; revert hm; decide)
          | (clear hm
             go_enter Tryd.func9, Tryd.ntmps9
             go_wp2_with fail
             ((with_reducible refine HK.out.mono ?_))
             rintro e w3 ⟨rfl, hb3⟩
             have H3 := hid hb3
             clear hb3
             go_wp2_with fail
             go_returns
             exact ⟨rfl, H3.out⟩)
      · have HQ2 := hid (HQ.out (fun h => hm (Or.inl (by rw [← hz1, ← hz2, h.1, h.2]; rfl))) (fun h => hm (Or.inr (by rw [← hz3, ← hz4, h.1, h.2]; rfl))))
        obtain ⟨z5, hz5⟩ : ∃ z, (a == b) = z := ⟨_, rfl⟩
        have hz6 := HQ2.out
        rw [hz5] at hz6
        clear HQ HQ2 HK
        cases z1 <;> cases z2 <;> cases z3 <;> cases z4 <;> first
          | (exfalso; revert hm; decide)
          | (clear hm
             go_enter Tryd.func9, Tryd.ntmps9
             go_wp2_with fail
             ((with_reducible refine HEA.out.mono ?_))
             rintro e w1 ⟨rfl, hb1⟩
             have H1 := hid (And.intro hb1 (HEN.out.up hb1))
             clear hb1
             go_wp2_with fail
             ((with_reducible refine (HEB.out _).mono ?_))
             rintro e w2 ⟨rfl, hb2⟩
             have H2 := hid (And.intro (estep H1.out.1 hb2) (H1.out.2.up hb2))
             clear hb2
             go_wp2_with fail
             ((with_reducible refine (known20_any _ H2.out.2).mono ?_))
             rintro e w3 ⟨rfl, hb3⟩
             have H3 := hid (estep H2.out.1 hb3)
             clear hb3
             go_wp2_with fail
             go_returns
             exact ⟨rfl, H3.out⟩)
    · have d1 : decide ((1000 : Int) < (a.length : Int)) = false := by simp; omega
      have d2 : decide ((1000 : Int) < (b.length : Int)) = true := by simp; omega
      clear h1 h3
      go_enter Tryd.func9, Tryd.ntmps9
      go_wp2_with fail
      refine HK.out.mono ?_
      rintro e w3 ⟨rfl, hb3⟩
      have H3 := hid hb3
      clear hb3
      go_wp2_with fail
      go_returns
      exact ⟨rfl, H3.out⟩
  · have d1 : decide ((1000 : Int) < (a.length : Int)) = true := by simp; omega
    clear h1
    go_enter Tryd.func9, Tryd.ntmps9
    go_wp2_with fail
    refine HK.out.mono ?_
    rintro e w3 ⟨rfl, hb3⟩
    have H3 := hid hb3
    clear hb3
    go_wp2_with fail
    go_returns
    exact ⟨rfl, H3.out⟩
end Go.Proofs.YtmejcchkoflciaaDoor
