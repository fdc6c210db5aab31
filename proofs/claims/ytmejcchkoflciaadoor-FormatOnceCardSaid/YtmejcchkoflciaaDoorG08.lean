/- Texts put together: Hc Hd. -/
import Derived.Test.YtmejcchkoflciaaDoorG07
import Derived.Deep.QuietTactic
import Derived.BigQuiet
import Derived.WalkSmall
namespace Go.Proofs.YtmejcchkoflciaaDoor
set_option linter.unusedVariables false
set_option linter.unusedSimpArgs false
open Go.RowKit

def fewOk (L : List Hd) : Bool := decide (L.length ≤ 60) && L.all fun h => decide (h.1.length + h.2.length ≤ 400)
end Go.Proofs.YtmejcchkoflciaaDoor
namespace Go.Proofs.YtmejcchkoflciaaDoor
set_option linter.unusedVariables false
set_option linter.unusedSimpArgs false
open Go.RowKit Go.Joins

theorem below_step' {a b c : World} (h : Below a.heap.size a b) (k : Below b.heap.size b c) : Below a.heap.size a c := h.trans (k.mono h.size)
def idxT (v : List UInt8) (names : List (List UInt8)) : Int := if names.findIdx (v == ·) < names.length then (names.findIdx (v == ·) : Int) else -1
theorem idxT_ge (v : List UInt8) (names : List (List UInt8)) : decide (0 ≤ idxT v names) = memB names v := by
  unfold memB
  rw [Bool.eq_iff_iff, decide_eq_true_eq, List.contains_iff_mem, idxT]
  constructor
  · intro h
    by_cases h1 : names.findIdx (v == ·) < names.length
    · have := List.findIdx_getElem (w := h1)
      have e : v = names[names.findIdx (v == ·)] := by simpa using this
      rw [e]; exact List.getElem_mem _
    · rw [if_neg h1] at h; omega
  · intro h
    have : names.findIdx (v == ·) < names.length := List.findIdx_lt_length_of_exists ⟨v, h, by simp⟩
    rw [if_pos this]; omega
set_option maxHeartbeats 1600000 in
theorem index_any (A : Option Addr) (cap : Nat) (names : List (List UInt8)) (v : List UInt8) (N : Nat → Prop) (w : World) (hR : STexts w N A names) (hl : names.length ≤ 9223372036854775807) :
    Calls Tryd.prog 98 #[.slice A names.length cap, .string (bs v)] w fun e w' => e = .returned (.int .i64 (idxT v names)) ∧ w = w' := by
  have HR := hid hR
  clear hR
  go_enter Tryd.func98, Tryd.ntmps98
  go_wp2_with fail
  go_loop [8] (fun i => ∃ k : Nat, k ≤ names.length ∧ i = .int .i64 k ∧ Hid (∀ j (h : j < names.length), j < k → (v == names[j]) = false)) (fun i => names.length - (intOf i).toNat)
  case atStart => exact ⟨0, by omega, rfl, hid (fun j h h' => absurd h' (by omega))⟩
  case round =>
    obtain ⟨k, hk, rfl, HK⟩ := hrel
    by_cases hlt : k < names.length
    · obtain ⟨ad, rfl, hB, hc⟩ := HR.out k hlt
      by_cases he : (v == names[k]) = true
      · have HI := hid (findIdx_hit (v == ·) names k hlt HK.out he)
        have HE := hid he
        go_wp2_with fail
        go_ret
        exact ⟨by rw [idxT, HI.out, if_pos hlt]; rfl, rfl⟩
      · have he' : (v == names[k]) = false := by simpa using he
        have HE := hid he'
        clear he
        go_wp2_with fail
        go_round
        case rel => exact ⟨k + 1, by omega, by go_num, hid (fun j h h' => by
          by_cases e : j = k
          · subst e; exact HE.out
          · exact HK.out j h (by omega))⟩
        case measure => simp [intOf]; omega
    · obtain rfl : k = names.length := by omega
      have HI := hid (findIdx_miss (v == ·) names fun j hj => HK.out j hj hj)
      go_wp2_with fail
      go_ret
      exact ⟨by rw [idxT, HI.out, if_neg (by omega)]; rfl, rfl⟩
theorem contains_any (A : Option Addr) (cap : Nat) (names : List (List UInt8)) (v : List UInt8) (N : Nat → Prop) (w : World) (hR : STexts w N A names) (hl : names.length ≤ 9223372036854775807) :
    Calls Tryd.prog 78 #[.slice A names.length cap, .string (bs v)] w fun e w' => e = .returned (.bool (memB names v)) ∧ w = w' := by
  have HX := hid (index_any A cap names v N w hR hl)
  have HG := hid (idxT_ge v names)
  clear hR
  go_enter Tryd.func78, Tryd.ntmps78
  go_wp2_with fail
  refine HX.out.mono ?_
  rintro e w1 ⟨rfl, rfl⟩
  go_wp2_with fail
  go_ret
  exact ⟨by rw [← HG.out]; rfl, rfl⟩
/-- What a function value says of headers: a predicate; it may make memory. -/
def FV (w0 : World) (B : Nat) (fv : Value) (p : Hd → Bool) : Prop :=
  ∃ (F : Nat) (c : Value), fv = .func (.func F) #[] #[c] ∧ (∀ args w, (callFunc F args).run Tryd.prog w = .ok (.enter F args) w) ∧
    ∀ w, Below B w0 w → ∀ h : Hd, Calls Tryd.prog F #[.agg #[.string (bs h.1), .string (bs h.2)], c] w fun e w' => e = .returned (.bool (p h)) ∧ Below w.heap.size w w'
theorem FV.later {w0 w1 : World} {B : Nat} {fv : Value} {p : Hd → Bool} (h : FV w0 B fv p) (hb : Below B w0 w1) : FV w1 B fv p := by
  obtain ⟨F, c, e, h1, h2⟩ := h
  exact ⟨F, c, e, h1, fun w hw => h2 w (hb.trans hw)⟩
theorem FV.more {w0 : World} {B B' : Nat} {fv : Value} {p : Hd → Bool} (h : FV w0 B fv p) (hB : B ≤ B') : FV w0 B' fv p := by
  obtain ⟨F, c, e, h1, h2⟩ := h
  exact ⟨F, c, e, h1, fun w hw => h2 w (hw.mono hB)⟩
set_option maxHeartbeats 800000 in
theorem named1_any (b : Nat) (A : Option Addr) (cap : Nat) (names : List (List UInt8)) (h : Hd) (w : World) (hc : w.cell? ⟨b, 0, none⟩ = some (.slice A names.length cap)) (hR : STexts w (· < w.heap.size) A names) (hl : names.length ≤ 9223372036854775807) :
    Calls Tryd.prog 77 #[.agg #[.string (bs h.1), .string (bs h.2)], .pointer (some ⟨b, 0, none⟩)] w fun e w' => e = .returned (.bool (hasN names h)) ∧ Below w.heap.size w w' := by
  obtain ⟨h0, h1⟩ := h
  have hb := lt_of_cell hc
  have hc2 : (w.alloc (.cells #[.string (bs h0), .string (bs h1)] 91)).cell? ⟨b, 0, none⟩ = some (.slice A names.length cap) := (((Below.refl w.heap.size w).alloc (Nat.le_refl _) _).cell hb).trans hc
  have HX := hid (fun (w : World) (hR : STexts w (· < w.heap.size) A names) => contains_any A cap names h0 _ w hR hl)
  have HR := hid hR
  clear hR hc
  go_enter Tryd.func77, Tryd.ntmps77
  go_wp2_with fail
  refine (contains_any A cap names h0 (· < w.heap.size) _ (HR.out.below ((Below.refl w.heap.size w).alloc (Nat.le_refl _) _)) hl).mono ?_
  rintro e w1 ⟨rfl, rfl⟩
  go_wp2_with fail
  go_ret
  exact ⟨rfl, (Below.refl _ _).alloc (Nat.le_refl _) _⟩
set_option maxHeartbeats 800000 in
theorem named_any (A : Option Addr) (cap : Nat) (names : List (List UInt8)) (w : World) (hR : STexts w (· < w.heap.size) A names) (hl : names.length ≤ 9223372036854775807) :
    Calls Tryd.prog 60 #[.slice A names.length cap] w fun e w' => ∃ fv, e = .returned fv ∧ FV w' w'.heap.size fv (hasN names) ∧ Below w.heap.size w w' := by
  have HR := hid hR
  clear hR
  have hmf : ∀ (fn : Fn) (first cap : Array Value) (w : World), (Instr.makeFunc fn first cap).run Tryd.prog w = .ok (.func fn first cap) w := fun _ _ _ _ => rfl
  go_enter Tryd.func60, Tryd.ntmps60
  go_wp2_with fail
  go_ret
  have hb : Below w.heap.size w (w.alloc (.cells #[.slice A names.length cap] 102)) := (Below.refl _ _).alloc (Nat.le_refl _) _
  refine ⟨.func (.func 77) #[] #[.pointer (some ⟨w.heap.size, 0, none⟩)], rfl, ⟨77, .pointer (some ⟨w.heap.size, 0, none⟩), rfl, fun _ _ => by kernel_rfl, fun w1 hw1 h => ?_⟩, hb⟩
  have hc : w1.cell? ⟨w.heap.size, 0, none⟩ = some (.slice A names.length cap) := by
    rw [hw1.cell (by simp)]; simp
  refine named1_any w.heap.size A cap names h w1 hc ?_ hl
  have h2 := (HR.out.below hb).below (hw1.mono hb.size)
  exact h2.imp fun b hb' => Nat.lt_of_lt_of_le hb' (Nat.le_trans hb.size hw1.size)
end Go.Proofs.YtmejcchkoflciaaDoor
