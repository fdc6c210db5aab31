import Derived.Test.YtmdlkoigjacipaaRr
namespace Go.Proofs.Ytmdlkoigjacipaa
set_option linter.unusedVariables false
set_option linter.unusedSimpArgs false
open Go.RowKit Go.Joins

set_option maxRecDepth 100000 in
set_option maxHeartbeats 2000000 in
theorem ins_nil (w : World) :
    Calls Try.prog 78 #[.slice none 0 0, .int .i64 0, .int .i64 0, .func (.func 47) #[] #[]] w fun e w' => e = .returned (.tuple #[]) ∧ w' = w := by
  go_enter Try.func78, Try.ntmps78
  go_wp2_with fail
  go_loopg [8] 1 (fun g1 vi wr => vi = .int .i64 1 ∧ wr = w)
  case atStart => exact ⟨rfl, rfl⟩
  case round =>
    obtain ⟨rfl, rfl⟩ := hrel
    go_wp2_with fail
    go_end0
    exact ⟨rfl, rfl⟩
set_option maxRecDepth 100000 in
set_option maxHeartbeats 2000000 in
theorem stable_nil (w : World) :
    Calls Try.prog 68 #[.slice none 0 0, .int .i64 0, .func (.func 47) #[] #[]] w fun e w' => e = .returned (.tuple #[]) ∧ w' = w := by
  go_enter Try.func68, Try.ntmps68
  go_wp2_with fail
  go_loopg [7, 8] 1 (fun g1 va vb wr => va = .int .i64 0 ∧ vb = .int .i64 20 ∧ wr = w)
  case atStart => exact ⟨rfl, rfl, rfl⟩
  case round =>
    obtain ⟨rfl, rfl, rfl⟩ := hrel
    go_wp2_with fail
    refine (ins_nil _).mono ?_
    rintro e w2 ⟨rfl, rfl⟩
    go_wp2_with fail
    go_loopg [6] 1 (fun g1 vs wr => vs = .int .i64 20 ∧ wr = w2)
    case atStart => exact ⟨rfl, rfl⟩
    case round =>
      obtain ⟨rfl, rfl⟩ := hrel
      go_wp2_with fail
      go_end0
      exact ⟨rfl, rfl⟩
set_option maxHeartbeats 1600000 in
theorem sortStable_nil (w : World) :
    Calls Try.prog 46 #[.slice none 0 0, .func (.func 47) #[] #[]] w fun e w' => e = .returned (.tuple #[]) ∧ w' = w := by
  go_enter Try.func46, Try.ntmps46
  go_wp2_with fail
  refine (stable_nil _).mono ?_
  rintro e w2 ⟨rfl, rfl⟩
  go_wp2_with fail
  go_end0
  exact ⟨rfl, rfl⟩
def Ru.with_ (u : Ru) (a : Option Addr) (n c : Nat) : Ru := { u with xa := a, xn := n, xc := c }
theorem Ru.with_sem (u : Ru) (a : Option Addr) (n c : Nat) : (u.with_ a n c).sem = u.sem := rfl
theorem GW.cell1 {w : World} {g : Nat} {C : List Ru} (h : GW encR 10 w g 0 C) {i : Nat} {u : Ru} (hi : C[i]? = some u) (a : Option Addr) (n c : Nat) : GW encR 10 (w.setCell ⟨g, i * 10 + 1, none⟩ (.slice a n c)) g 0 (C.set i (u.with_ a n c)) := by
  obtain ⟨hlt, rfl⟩ := List.getElem?_eq_some_iff.1 hi
  refine ⟨by rw [World.size_setCell]; exact h.1, fun t ht => ?_⟩
  rw [List.length_set] at ht
  rw [gvals_set encR 10 encR_len C i hlt _ t ht]
  have h0 := h.2 t ht
  have hfz : (w.setCell ⟨g, i * 10 + 1, none⟩ (.slice a n c)).frozen? ⟨g, 0 + t, none⟩ = w.frozen? ⟨g, 0 + t, none⟩ := by go_simp
  rw [hfz]
  refine ⟨?_, h0.2⟩
  by_cases e : t = i * 10 + 1
  · subst e
    rw [if_pos (by omega), Nat.zero_add]
    have hc : (w.cell? ⟨g, i * 10 + 1, none⟩).isSome = true := by
      rw [Nat.zero_add] at h0
      rw [h0.1, List.getElem?_eq_getElem (by rw [gvals_len encR 10 encR_len]; exact ht)]; rfl
    obtain ⟨old, hold⟩ := Option.isSome_iff_exists.1 hc
    rw [show i * 10 + 1 - i * 10 = 1 by omega]
    have := World.cell?_setCell_same w ⟨g, i * 10 + 1, none⟩ (.slice a n c) hold
    rw [this]; rfl
  · have hne : (w.setCell ⟨g, i * 10 + 1, none⟩ (.slice a n c)).cell? ⟨g, 0 + t, none⟩ = w.cell? ⟨g, 0 + t, none⟩ := World.cell?_setCell_other w ⟨g, i * 10 + 1, none⟩ ⟨g, 0 + t, none⟩ (.slice a n c) (by intro hh; injection hh with _ h2 _; omega)
    rw [hne, h0.1]
    by_cases hin : i * 10 ≤ t ∧ t < i * 10 + 10
    · rw [if_pos hin]
      obtain ⟨j, rfl⟩ : ∃ j, t = i * 10 + j := ⟨t - i * 10, by omega⟩
      rw [gvals_at encR 10 encR_len C i hlt j (by omega), show i * 10 + j - i * 10 = j by omega]
      match j, (show j < 10 by omega), (show j ≠ 1 by omega) with
      | 0, _, _ => rfl
      | 2, _, _ => rfl
      | 3, _, _ => rfl
      | 4, _, _ => rfl
      | 5, _, _ => rfl
      | 6, _, _ => rfl
      | 7, _, _ => rfl
      | 8, _, _ => rfl
      | 9, _, _ => rfl
    · rw [if_neg hin]
end Go.Proofs.Ytmdlkoigjacipaa
