/- Texts put together: Ib. -/
import Derived.Test.YtnbkpannhcamjaaGreatDoorG22
import Derived.Handy
namespace Go.Proofs.YtnbkpannhcamjaaGreatDoor
set_option linter.unusedVariables false
set_option linter.unusedSimpArgs false
open Go.RowKit

theorem unhex_at (l : List UInt8) (w : World) (h : l.length ≤ 140737488351232) {n : Nat} {e : Int} (H : Hid (unhexS l = (n, e))) :
    Calls Tryz.prog 69 #[.string (bs l)] w fun x w' => x = .returned (.tuple #[.int .u64 n, .int .i64 e]) ∧ w = w' :=
  (ounhex_any (bs l) w (max_len h)).mono fun x w' ⟨h1, h2⟩ => ⟨by rw [bs_data, H.out] at h1; exact h1, h2⟩
theorem runhex_at (l : List UInt8) (w : World) (h : l.length ≤ 140737488351232) {n : Nat} {e : Int} (H : Hid (unhexS l = (n, e))) :
    Calls Tryz.prog 53 #[.string (bs l)] w fun x w' => x = .returned (.tuple #[.int .u64 n, .int .i64 e]) ∧ w = w' :=
  (runhex_any (bs l) w (max_len h)).mono fun x w' ⟨h1, h2⟩ => ⟨by rw [bs_data, H.out] at h1; exact h1, h2⟩
def trTuple (x : Nat × Nat × Int) : Value := .tuple #[.agg #[.int .u64 x.1, .int .u64 x.2.1], .int .i64 x.2.2]
def spTuple (x : Nat × Int) : Value := .tuple #[.int .u64 x.1, .int .i64 x.2]
theorem beq0 (a : Nat) : ((a : Int) == 0) = decide (a = 0) := by rw [Bool.eq_iff_iff]; simp
set_option maxRecDepth 100000 in
set_option maxHeartbeats 1600000 in
theorem rof_any (l : List UInt8) (w : World) (h : l.length ≤ 140737488351232) :
    Calls Tryz.prog 51 #[.string (bs l)] w fun e w' => e = .returned (trTuple (ofS l)) ∧ Below w.heap.size w w' := by
  by_cases h32 : l.length = 32
  · obtain ⟨a, ea, h1⟩ : ∃ a ea, unhexS (l.take 16) = (a, ea) := ⟨_, _, rfl⟩
    obtain ⟨b, eb, h2⟩ : ∃ a ea, unhexS (l.drop 16) = (a, ea) := ⟨_, _, rfl⟩
    have HO := hid (show ofS l = if ea = 0 ∧ eb = 0 then (if a = 0 ∧ b = 0 then (0, 0, 11) else (a, b, 0)) else (0, 0, 3) by rw [ofS, if_neg (by simp [h32]), h1, h2])
    have H1 := hid h1
    have H2 := hid h2
    clear h1 h2
    have hx1 : (bs l).extract 0 16 = bs (l.take 16) := by rw [bs_extract]; simp
    have hx2 : (bs l).extract 16 l.length = bs (l.drop 16) := by rw [bs_extract, List.take_of_length_le (by simp)]
    have hne : ((l.length : Int) != 32) = false := by simp; omega
    have hi1 : (16 : Int) ≤ (l.length : Int) := by omega
    have hi2 : 16 ≤ l.length := by omega
    have L1 : (l.take 16).length ≤ 140737488351232 := by rw [List.length_take]; omega
    have L2 : (l.drop 16).length ≤ 140737488351232 := by rw [List.length_drop]; omega
    clear h32
    by_cases e1 : ea = 0
    · subst e1
      by_cases e2 : eb = 0
      · subst e2
        have HD := hid (show ofS l = if (decide (a = 0) && decide (b = 0)) = true then (0, 0, 11) else (a, b, 0) by rw [HO.out, if_pos ⟨rfl, rfl⟩]; simp)
        have q1 := beq0 a
        have q2 := beq0 b
        cases a0 : decide (a = 0) <;> cases b0 : decide (b = 0)
        all_goals
          have A0 := hid a0
          have B0 := hid b0
          rw [a0] at q1
          rw [b0] at q2
          clear a0 b0
          go_enter Tryz.func51, Tryz.ntmps51
          go_wp2_with fail
          refine (runhex_at _ _ L1 H1).mono ?_
          rintro e w1 ⟨rfl, rfl⟩
          go_wp2_with fail
          refine (runhex_at _ _ L2 H2).mono ?_
          rintro e w1 ⟨rfl, rfl⟩
          go_wp2_with fail
          go_returns
          exact ⟨by rw [HD.out, A0.out, B0.out]; rfl, by go_grown⟩
      · have hb1 : (eb != 0) = true := by simpa using e2
        have HD := hid (show ofS l = (0, 0, 3) by rw [HO.out, if_neg (by simp [e2])])
        clear e2
        go_enter Tryz.func51, Tryz.ntmps51
        go_wp2_with fail
        refine (runhex_at _ _ L1 H1).mono ?_
        rintro e w1 ⟨rfl, rfl⟩
        go_wp2_with fail
        refine (runhex_at _ _ L2 H2).mono ?_
        rintro e w1 ⟨rfl, rfl⟩
        go_wp2_with fail
        go_returns
        exact ⟨by rw [HD.out]; rfl, by go_grown⟩
    · have hb1 : (ea != 0) = true := by simpa using e1
      have HD := hid (show ofS l = (0, 0, 3) by rw [HO.out, if_neg (by simp [e1])])
      clear e1
      go_enter Tryz.func51, Tryz.ntmps51
      go_wp2_with fail
      refine (runhex_at _ _ L1 H1).mono ?_
      rintro e w1 ⟨rfl, rfl⟩
      go_wp2_with fail
      refine (runhex_at _ _ L2 H2).mono ?_
      rintro e w1 ⟨rfl, rfl⟩
      go_wp2_with fail
      go_returns
      exact ⟨by rw [HD.out]; rfl, by go_grown⟩
  · have HO := hid (show ofS l = (0, 0, 3) by rw [ofS, if_pos h32])
    have hne : ((l.length : Int) != 32) = true := by simp; omega
    clear h32
    go_enter Tryz.func51, Tryz.ntmps51
    go_wp2_with fail
    go_returns
    exact ⟨by rw [HO.out]; rfl, by go_grown⟩
set_option maxHeartbeats 1600000 in
theorem rspanof_any (l : List UInt8) (w : World) (h : l.length ≤ 140737488351232) :
    Calls Tryz.prog 52 #[.string (bs l)] w fun e w' => e = .returned (spTuple (spanOfS l)) ∧ w = w' := by
  obtain ⟨a, ea, h1⟩ : ∃ a ea, unhexS l = (a, ea) := ⟨_, _, rfl⟩
  have H1 := hid h1
  have q1 := beq0 a
  by_cases h16 : l.length = 16
  · have HO := hid (show spanOfS l = if decide (ea = 0) = true then (if decide (a = 0) = true then (0, 11) else (a, 0)) else (0, 3) by rw [spanOfS, if_neg (by simp [h16]), h1]; simp)
    have hne : ((l.length : Int) != 16) = false := by simp; omega
    clear h1 h16
    by_cases e1 : ea = 0
    · subst e1
      cases a0 : decide (a = 0)
      all_goals
        have A0 := hid a0
        rw [a0] at q1
        clear a0
        go_enter Tryz.func52, Tryz.ntmps52
        go_wp2_with fail
        refine (runhex_at _ _ h H1).mono ?_
        rintro e w1 ⟨rfl, rfl⟩
        go_wp2_with fail
        go_returns
        exact ⟨by rw [HO.out, A0.out]; rfl, rfl⟩
    · have hb1 : (ea != 0) = true := by simpa using e1
      have HD := hid (show spanOfS l = (0, 3) by rw [HO.out, decide_eq_false e1]; rfl)
      clear e1
      go_enter Tryz.func52, Tryz.ntmps52
      go_wp2_with fail
      refine (runhex_at _ _ h H1).mono ?_
      rintro e w1 ⟨rfl, rfl⟩
      go_wp2_with fail
      go_returns
      exact ⟨by rw [HD.out]; rfl, rfl⟩
  · have HO := hid (show spanOfS l = (0, 3) by rw [spanOfS, if_pos h16])
    have hne : ((l.length : Int) != 16) = true := by simp; omega
    clear h16 h1
    go_enter Tryz.func52, Tryz.ntmps52
    go_wp2_with fail
    refine (runhex_at _ _ h H1).mono ?_
    rintro e w1 ⟨rfl, rfl⟩
    go_wp2_with fail
    go_returns
    exact ⟨by rw [HO.out]; rfl, rfl⟩
end Go.Proofs.YtnbkpannhcamjaaGreatDoor
