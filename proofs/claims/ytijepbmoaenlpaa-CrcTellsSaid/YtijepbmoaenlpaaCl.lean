import Derived.Test.YtijepbmoaenlpaaCk
import Derived.Lib.ConvBytes
import Derived.OpenShut
namespace Go.Proofs.Ytijepbmoaenlpaa
set_option linter.unusedVariables false
set_option linter.unusedSimpArgs false
open Go.RowKit

set_option maxRecDepth 100000 in
set_option maxHeartbeats 1600000 in
theorem crcSums_walk (s : ByteArray) (w1 : s.data.toList.length ≤ reachBytes) (w : World) :
    Calls Try.prog 3 #[.string s] w fun e w' => e = .returned (.bool true) ∧ Below w.heap.size w w' := by
  obtain ⟨l, rfl⟩ : ∃ l, s = bs l := ⟨_, bs_of s⟩
  rw [bs_data] at w1
  have ha : l.length ≤ 140737488351232 := w1
  clear w1
  by_cases h : 2000 < l.length
  · go_enter Try.func3, Try.ntmps3
    go_wp2_with fail
    refine (known3_any _).mono ?_
    rintro e w1 ⟨rfl, hb1⟩
    go_wp2_with fail
    go_ret
    exact ⟨rfl, hb1⟩
  · go_enter Try.func3, Try.ntmps3
    go_wp2_with fail
    refine (copen_any l _ ha).mono ?_
    rintro e w1 ⟨rfl, rfl⟩
    obtain ⟨o1, o2, ho⟩ : ∃ o1 o2, openS l = (o1, o2) := ⟨_, _, rfl⟩
    have HO := hid ho
    clear ho
    rw [HO.out]
    go_wp2_with fail
    refine (ropen_any l _ ha).mono ?_
    rintro e w1 ⟨rfl, hb1⟩
    rw [HO.out]
    go_wp2_with fail
    refine (cof_any l _ ha).mono ?_
    rintro e w2 ⟨rfl, rfl⟩
    go_wp2_with fail
    refine (rof_any l _ ha).mono ?_
    rintro e w2 ⟨rfl, rfl⟩
    go_wp2_with fail
    refine (cseal_any l _ ha).mono ?_
    rintro e w2 ⟨rfl, hb2⟩
    go_wp2_with fail
    refine (rseal_any l _ ha).mono ?_
    rintro e w3 ⟨rfl, hb3⟩
    go_wp2_with fail
    refine (known3_any _).mono ?_
    rintro e w4 ⟨rfl, hb4⟩
    go_wp2_with fail
    go_ret
    exact ⟨rfl, below_step (below_step (below_step hb1 hb2) hb3) hb4⟩
abbrev bw (w : World) (l : List UInt8) : World := Go.Lib.bytesWorld w 5 (bs l)
theorem conv_to_bytes (w : World) (l : List UInt8) : (convert 9 37 (.string (bs l))).run Try.prog w = .ok (.slice (some ⟨w.heap.size, 0, none⟩) l.length (grownCap w l.length 0 5)) (Go.Lib.bytesWorld w 5 (bs l)) := by
  have h := Go.Lib.run_convert_string_bytes (P := Try.prog) w 9 37 5 (bs l) Try.underlying9 Try.underlying37 Try.underlying5
  rwa [bs_size] at h
theorem bw_cell (w : World) (l : List UInt8) (j : Nat) (h : j < l.length) : (Go.Lib.bytesWorld w 5 (bs l)).cell? ⟨w.heap.size, j, none⟩ = some (.int .u8 (l[j].toNat : Int)) := by
  rw [Go.Lib.bytesWorld_cell w _ (bs l) j (by rw [bs_size]; exact h), bs_data]
  simp [List.getD, h]
theorem bw_frozen (w : World) (l : List UInt8) (j : Nat) (h : j < l.length) : (Go.Lib.bytesWorld w 5 (bs l)).frozen? ⟨w.heap.size, j, none⟩ = false := by
  have hs : j < (Go.Lib.bytesCells w 5 (bs l)).size := by
    simp [Go.Lib.bytesCells, bs]; omega
  simp [World.frozen?, Go.Lib.bytesWorld_at_new]
  omega
theorem bw_below (w : World) (l : List UInt8) : Below w.heap.size w (Go.Lib.bytesWorld w 5 (bs l)) :=
  ⟨rfl, rfl, rfl, by rw [Go.Lib.bytesWorld_size]; omega, fun k hk => Go.Lib.bytesWorld_at_old w _ _ k hk⟩
theorem u8_bd {n : Int} (h : (Lit.int .u8 n).wf = true) : 0 ≤ n ∧ n < 256 := by
  have := bounds_u8 h; omega
theorem xor_u8_ne {a b : Nat} (ha : a < 256) (hb : b < 256) (h : b ≠ 0) : UInt8.ofNat a ≠ UInt8.ofNat (a ^^^ b) := by
  intro e
  have h1 := congrArg UInt8.toNat e
  have h2 : a ^^^ b < 2 ^ 8 := Nat.xor_lt_two_pow ha hb
  rw [UInt8.toNat_ofNat', UInt8.toNat_ofNat', Nat.mod_eq_of_lt ha, Nat.mod_eq_of_lt h2] at h1
  exact h (xor_cancel_left (a := a) (b := b) (c := 0) (by rw [← h1, Nat.xor_zero]))
set_option maxRecDepth 100000 in
set_option maxHeartbeats 1600000 in
theorem crcTells_walk (s : ByteArray) (at' by' : Int) (w1 : s.data.toList.length ≤ reachBytes) (w2 : (Lit.int .i64 at').wf = true) (w3 : (Lit.int .u8 by').wf = true) (w : World) :
    Calls Try.prog 5 #[.string s, .int .i64 at', .int .u8 by'] w fun e w' => e = .returned (.bool true) ∧ Below w.heap.size w w' := by
  obtain ⟨l, rfl⟩ : ∃ l, s = bs l := ⟨_, bs_of s⟩
  rw [bs_data] at w1
  have ha : l.length ≤ 140737488351232 := w1
  clear w1
  by_cases h : 2000 < l.length
  · go_enter Try.func5, Try.ntmps5
    go_wp2_with fail
    refine (known3_any _).mono ?_
    rintro e w1 ⟨rfl, hb1⟩
    go_wp2_with fail
    go_ret
    exact ⟨rfl, hb1⟩
  · have hsl := sealS_length l
    have E2 := hid (openS_sealS l)
    have HT := hid (openS_told l)
    have hs1 := cseal_any l w ha
    generalize sealS l = t at *
    have ht1 : t.length ≤ l.length + 4 := by omega
    have ht2 : l.length + 4 ≤ t.length := by omega
    have hne : ((t.length : Int) != (l.length : Int) + 4) = false := by simp; omega
    have HS1 := hid hs1
    clear hsl hs1
    by_cases hk : at' < 0 ∨ (t.length : Int) ≤ at' ∨ by' = 0
    · have go : ∀ (h1 : at' < 0 ∨ 0 ≤ at' ∧ (t.length : Int) ≤ at' ∨ 0 ≤ at' ∧ at' < t.length ∧ by' = 0), Calls Try.prog 5 #[.string (bs l), .int .i64 at', .int .u8 by'] w fun e w' => e = .returned (.bool true) ∧ Below w.heap.size w w' := by
        rintro (h1 | ⟨h1, h2⟩ | ⟨h1, h2, h3⟩)
        all_goals
          try (have hb0 : (by' == 0) = true := by simpa using h3)
          try (have H3 := hid h3; clear h3)
          go_enter Try.func5, Try.ntmps5
          go_wp2_with fail
          refine HS1.out.mono ?_
          rintro e w1 ⟨rfl, hb1⟩
          go_wp2_with fail
          refine (copen_any _ _ (by omega)).mono ?_
          rintro e w2 ⟨rfl, rfl⟩
          rw [E2.out]
          go_wp2_with fail
          all_goals
            refine (known3_any _).mono ?_
            rintro e w4 ⟨rfl, hb4⟩
            go_wp2_with fail
            go_ret
            exact ⟨rfl, below_step hb1 hb4⟩
      exact go (by omega)
    · obtain ⟨at', rfl⟩ := Int.eq_ofNat_of_zero_le (show 0 ≤ at' by omega)
      have hb0 : (by' == 0) = false := by simp; omega
      obtain ⟨b, rfl⟩ : ∃ b : Nat, by' = b := ⟨by'.toNat, by have := (u8_bd w3).1; omega⟩
      have hbl : b < 256 := by have := (u8_bd w3).2; omega
      have hbz : b ≠ 0 := by omega
      have hat : at' < t.length := by omega
      have hrun : ∀ w, (convert 9 37 (.string (bs t))).run Try.prog w = .ok (.slice (some ⟨w.heap.size, 0, none⟩) t.length (grownCap w t.length 0 5)) (Go.Lib.bytesWorld w 5 (bs t)) := fun w => conv_to_bytes w t
      have hc1 : ∀ w : World, (Go.Lib.bytesWorld w 5 (bs t)).cell? ⟨w.heap.size, at', none⟩ = some (.int .u8 (t[at'].toNat : Int)) := fun w => bw_cell w t at' hat
      have hz1 : ∀ w : World, (Go.Lib.bytesWorld w 5 (bs t)).frozen? ⟨w.heap.size, at', none⟩ = false := fun w => bw_frozen w t at' hat
      have htl := UInt8.toNat_lt t[at']
      obtain ⟨x, hx⟩ : ∃ x : Nat, x = t[at'].toNat ^^^ b := ⟨_, rfl⟩
      have hxl : x < 256 := by rw [hx]; exact Nat.xor_lt_two_pow (n := 8) htl hbl
      have hx8 : bits .xor .u8 (t[at'].toNat : Int) (b : Int) = (x : Int) := by rw [hx]; exact u8_xor_nat _ _ htl hbl
      have hback : ∀ w : World, (convert 37 9 (.slice (some ⟨w.heap.size, 0, none⟩) t.length (grownCap w t.length 0 5))).run Try.prog ((Go.Lib.bytesWorld w 5 (bs t)).setCell ⟨w.heap.size, at', none⟩ (.int .u8 (x : Int))) = .ok (.string (bs (t.set at' (UInt8.ofNat x)))) ((Go.Lib.bytesWorld w 5 (bs t)).setCell ⟨w.heap.size, at', none⟩ (.int .u8 (x : Int))) := fun w => by
        refine conv_bytes _ _ _ _ _ (by simp) fun j hj => ?_
        by_cases e : at' = j
        · subst e
          rw [World.cell?_setCell_same _ _ _ (hc1 w)]
          simp [UInt8.toNat_ofNat', Nat.mod_eq_of_lt hxl]
        · rw [World.cell?_setCell_other _ _ _ _ (by simp [e]), bw_cell w t j (by simpa using hj)]
          simp [List.getElem_set, e]
      have HOP := hid (HT.out at' (UInt8.ofNat x) hat (by
        intro e
        have := xor_u8_ne htl hbl hbz
        rw [← hx, ← e, UInt8.ofNat_toNat] at this
        exact this rfl))
      clear hx hk
      go_enter Try.func5, Try.ntmps5
      go_wp2_with fail
      refine HS1.out.mono ?_
      rintro e w1 ⟨rfl, hb1⟩
      go_wp2_with fail
      refine (copen_any _ _ (by omega)).mono ?_
      rintro e w2 ⟨rfl, rfl⟩
      rw [E2.out]
      go_wp2_with fail
      go_wp2_with fail
      refine (copen_any _ _ (by rw [List.length_set]; omega)).mono ?_
      rintro e w2 ⟨rfl, rfl⟩
      rw [HOP.out]
      go_wp2_with fail
      refine (known3_any _).mono ?_
      rintro e w4 ⟨rfl, hb4⟩
      go_wp2_with fail
      go_ret
      exact ⟨rfl, below_step (below_step hb1 ((bw_below w1 t).setCell (p := ⟨w1.heap.size, at', none⟩) (Nat.le_refl _) _)) hb4⟩
end Go.Proofs.Ytijepbmoaenlpaa
