/- Texts put together: Ha Hb. -/
import Derived.Test.YtnbkpannhcamjaaDoorRows
import Derived.Test.YtnbkpannhcamjaaDoorG01
import Derived.Test.YtnbkpannhcamjaaDoorG05
import Derived.Lib.SmallJoins
import Derived.WalkLawsBesides
namespace Go.Proofs.YtnbkpannhcamjaaDoor
set_option linter.unusedVariables false
set_option linter.unusedSimpArgs false
open Go.RowKit

theorem ret_bool {a b : Bool} (h : a = b) : Ending.returned (.bool a) = Ending.returned (.bool b) := by rw [h]
theorem notB' (x : Bool) (w : World) : (Op.unary .not (.bool x)).run Tryd.prog w = .ok (.bool (!x)) w := rfl
theorem headD_at' (l : List UInt8) (h : 0 < l.length) : (l.headD 0).toNat = l[0].toNat := by rw [headD_at h]
set_option maxHeartbeats 1600000 in
theorem rvalue_any (l : List UInt8) (w : World) (hs : l.length ≤ 140737488351232) :
    Calls Tryd.prog 13 #[.string (bs l)] w fun e w' => e = .returned (.bool (valueB l)) ∧ w = w' := by
  by_cases h64 : l.length ≤ 64
  · have HN := hid (show valueB l = (l.all inValueB && endsB l) by rw [valueB, decide_eq_true h64]; rfl)
    go_enter Tryd.func13, Tryd.ntmps13
    go_wp2_with fail
    go_loop [3] (fun i => ∃ k : Nat, k ≤ l.length ∧ Hid ((l.take k).all inValueB = true) ∧ i = .int .i64 k) (fun i => l.length - (intOf i).toNat)
    case atStart => exact ⟨0, by omega, hid rfl, rfl⟩
    case round =>
      obtain ⟨k, hk, Hk, rfl⟩ := hrel
      by_cases hlt : k < l.length
      · have hc := UInt8.toNat_lt l[k]
        go_wp2_with fail
        all_goals first
          | (go_round
             case rel => exact ⟨k + 1, by omega, hid (by rw [all_take _ _ _ hlt, Hk.out]; simp [inValueB]; omega), by go_num⟩
             case measure => simp [intOf]; omega)
          | (go_ret
             exact ⟨by rw [HN.out, all_false hlt (by simp [inValueB]; omega)]; rfl, rfl⟩)
      · obtain rfl : k = l.length := by omega
        have h1 := Hk.out
        rw [List.take_length] at h1
        have HA := hid h1
        clear h1
        by_cases h0 : l = []
        · subst h0
          go_wp2_with fail
          go_ret
          exact ⟨by rw [HN.out]; rfl, rfl⟩
        · have hl : 0 < l.length := List.length_pos_iff.2 h0
          have HN2 := hid (show endsB l = (decide (l[0].toNat ≠ 32) && decide (l[l.length - 1].toNat ≠ 32)) by rw [endsB, headD_at hl, getLastD_at hl]; cases l <;> simp_all)
          have hn0 : ((l.length : Int) == 0) = false := by simp; omega
          clear h0
          go_wp2_with fail
          all_goals
            go_ret
            refine ⟨ret_bool ?_, rfl⟩
            rw [HN.out, HA.out, HN2.out, Bool.eq_iff_iff]
            simp
            omega
  · have HN := hid (show valueB l = false by rw [valueB, decide_eq_false h64]; rfl)
    go_enter Tryd.func13, Tryd.ntmps13
    go_wp2_with fail
    go_ret
    exact ⟨by rw [HN.out]; rfl, rfl⟩
end Go.Proofs.YtnbkpannhcamjaaDoor
namespace Go.Proofs.YtnbkpannhcamjaaDoor
set_option linter.unusedVariables false
set_option linter.unusedSimpArgs false
open Go.RowKit

end Go.Proofs.YtnbkpannhcamjaaDoor
