import Derived.Test.YtgpioafkahoahaaCn
import Derived.Test.YtgpioafkahoahaaSh
import Derived.WalkSmall
namespace Go.Proofs.Ytgpioafkahoahaa
set_option linter.unusedVariables false
open Go.RowKit

theorem notB (x : Bool) (w : World) : (Op.unary .not (.bool x)).run Try.prog w = .ok (.bool (!x)) w := rfl
/-- The texts of a slice of strings. -/
def tvals (L : List (List UInt8)) : List Value := L.map fun l => Value.string (bs l)
def joinL (L : List (List UInt8)) : List UInt8 := L.flatten
theorem joinL_snoc (L : List (List UInt8)) (l : List UInt8) : joinL (L ++ [l]) = joinL L ++ l := by simp [joinL]
theorem joinL_take (L : List (List UInt8)) (k : Nat) (h : k < L.length) : joinL (L.take (k + 1)) = joinL (L.take k) ++ L[k] := by rw [List.take_succ_eq_append_getElem h, joinL_snoc]
theorem joinL_take_le (L : List (List UInt8)) (k : Nat) : (joinL (L.take k)).length ≤ (joinL L).length := by
  have := congrArg (fun z => (joinL z).length) (List.take_append_drop k L)
  simp only [joinL, List.flatten_append, List.length_append] at this ⊢
  omega
theorem STexts.only {w w' : World} {g : Nat} {A : Option Addr} {L : List (List UInt8)} (h : STexts w (· ≠ g) A L) (ho : Only g w w') : STexts w' (· ≠ g) A L := by
  intro k hk
  obtain ⟨ad, e, h1, h2⟩ := h k hk
  exact ⟨ad, e, h1, ho.cell h2 (by rw [add_block]; exact h1)⟩
end Go.Proofs.Ytgpioafkahoahaa
