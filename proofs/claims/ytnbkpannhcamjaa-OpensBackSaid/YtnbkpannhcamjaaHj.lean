import Derived.Test.YtnbkpannhcamjaaHh
namespace Go.Proofs.Ytnbkpannhcamjaa
set_option linter.unusedVariables false
set_option linter.unusedSimpArgs false
open Go.RowKit Go.Joins

theorem allS_take (L : List Hd) (n : List UInt8) (k : Nat) (h : k < L.length) : allS (L.take (k + 1)) n = allS (L.take k) n ++ if (L[k].1 == n) = true then [L[k].2] else [] := by
  rw [allS, allS, filter_take _ _ _ h, hasN_one]
  cases hp : (L[k].1 == n) <;> simp
theorem allS_length (L : List Hd) (n : List UInt8) : (allS L n).length ≤ L.length := by rw [allS, List.length_map]; exact List.length_filter_le _ _
theorem setR_step (n v : List UInt8) (met : Bool) (L : List Hd) (k : Nat) (h : k < L.length) :
    setR n v met (L.drop k) = if (L[k].1 == n) = false then L[k] :: setR n v met (L.drop (k + 1)) else if met = true then setR n v met (L.drop (k + 1)) else (n, v) :: setR n v true (L.drop (k + 1)) := by
  rw [List.drop_eq_getElem_cons h, setR]
  by_cases e : L[k].1 = n <;> simp [e]
theorem setR_length (n v : List UInt8) (L : List Hd) : ∀ met, (setR n v met L).length ≤ L.length + 1 := by
  induction L with
  | nil => intro met; cases met <;> simp [setR]
  | cons h r ih =>
    intro met
    rw [setR]
    have := ih met
    have := ih true
    split
    · simp only [List.length_cons]; omega
    · split
      · simp only [List.length_cons]; omega
      · simp only [List.length_cons]; omega
end Go.Proofs.Ytnbkpannhcamjaa
