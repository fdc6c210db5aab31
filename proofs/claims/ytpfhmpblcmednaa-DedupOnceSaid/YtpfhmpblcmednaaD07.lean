/- Texts put together: Hc Hd. -/
import Derived.Test.YtpfhmpblcmednaaD06
import Derived.Deep.QuietTactic
import Derived.BigQuiet
import Derived.WalkSmall
namespace Go.Proofs.Ytpfhmpblcmednaa
set_option linter.unusedVariables false
set_option linter.unusedSimpArgs false
open Go.RowKit

def fewOk (L : List Hd) : Bool := decide (L.length ≤ 60) && L.all fun h => decide (h.1.length + h.2.length ≤ 400)
end Go.Proofs.Ytpfhmpblcmednaa
namespace Go.Proofs.Ytpfhmpblcmednaa
set_option linter.unusedVariables false
set_option linter.unusedSimpArgs false
open Go.RowKit Go.Joins

theorem below_step' {a b c : World} (h : Below a.heap.size a b) (k : Below b.heap.size b c) : Below a.heap.size a c := h.trans (k.mono h.size)
def idxT (v : List UInt8) (names : List (List UInt8)) : Int := if names.findIdx (v == ·) < names.length then (names.findIdx (v == ·) : Int) else -1
theorem idxT_ge (v : List UInt8) (names : List (List UInt8)) : decide (0 ≤ idxT v names) = memB names v := by
  unfold memB
  rw [Bool.eq_iff_iff, decide_eq_true_eq, List.contains_iff_mem, idxT]
  constructor
  · intro h
    by_cases h1 : names.findIdx (v == ·) < names.length
    · have := List.findIdx_getElem (w := h1)
      have e : v = names[names.findIdx (v == ·)] := by simpa using this
      rw [e]; exact List.getElem_mem _
    · rw [if_neg h1] at h; omega
  · intro h
    have : names.findIdx (v == ·) < names.length := List.findIdx_lt_length_of_exists ⟨v, h, by simp⟩
    rw [if_pos this]; omega
/-- What a function value says of headers: a predicate; it may make memory. -/
def FV (w0 : World) (B : Nat) (fv : Value) (p : Hd → Bool) : Prop :=
  ∃ (F : Nat) (c : Value), fv = .func (.func F) #[] #[c] ∧ (∀ args w, (callFunc F args).run Try.prog w = .ok (.enter F args) w) ∧
    ∀ w, Below B w0 w → ∀ h : Hd, Calls Try.prog F #[.agg #[.string (bs h.1), .string (bs h.2)], c] w fun e w' => e = .returned (.bool (p h)) ∧ Below w.heap.size w w'
theorem FV.later {w0 w1 : World} {B : Nat} {fv : Value} {p : Hd → Bool} (h : FV w0 B fv p) (hb : Below B w0 w1) : FV w1 B fv p := by
  obtain ⟨F, c, e, h1, h2⟩ := h
  exact ⟨F, c, e, h1, fun w hw => h2 w (hb.trans hw)⟩
theorem FV.more {w0 : World} {B B' : Nat} {fv : Value} {p : Hd → Bool} (h : FV w0 B fv p) (hB : B ≤ B') : FV w0 B' fv p := by
  obtain ⟨F, c, e, h1, h2⟩ := h
  exact ⟨F, c, e, h1, fun w hw => h2 w (hw.mono hB)⟩
end Go.Proofs.Ytpfhmpblcmednaa
