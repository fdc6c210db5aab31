/- Texts put together: Hc Hd. -/
import Derived.Test.YtnbkpannhcamjaaDoorG06
import Derived.Deep.QuietTactic
import Derived.BigQuiet
import Derived.WalkSmall
namespace Go.Proofs.YtnbkpannhcamjaaDoor
set_option linter.unusedVariables false
set_option linter.unusedSimpArgs false
open Go.RowKit

def fewOk (L : List Hd) : Bool := decide (L.length ≤ 60) && L.all fun h => decide (h.1.length + h.2.length ≤ 400)
set_option maxHeartbeats 1600000 in
theorem few_any (A : Option Addr) (cap : Nat) (L : List Hd) (w : World) (hR : HReads w (· < w.heap.size) A L) (hl : L.length ≤ 9223372036854775807) (hs : ∀ h ∈ L, h.1.length ≤ 140737488351232 ∧ h.2.length ≤ 140737488351232) :
    Calls Tryd.prog 5 #[.slice A L.length cap] w fun e w' => e = .returned (.bool (fewOk L)) ∧ Below w.heap.size w w' := by
  have HR := hid hR
  have HS := hid hs
  clear hR hs
  by_cases h60 : 60 < L.length
  · have HC := hid (show fewOk L = false by rw [fewOk, decide_eq_false (by omega)]; rfl)
    go_enter Tryd.func5, Tryd.ntmps5
    go_wp2_with fail
    go_ret
    exact ⟨by rw [HC.out]; rfl, Below.refl _ _⟩
  · have HC := hid (show fewOk L = L.all fun h => decide (h.1.length + h.2.length ≤ 400) by rw [fewOk, decide_eq_true (by omega)]; rfl)
    go_enter Tryd.func5, Tryd.ntmps5
    go_wp2_with fail
    go_loopw [3] (fun i wr => ∃ k : Nat, k ≤ L.length ∧ i = .int .i64 k ∧ Hid (((L.take k).all fun h => decide (h.1.length + h.2.length ≤ 400)) = true ∧ Below w.heap.size w wr)) (fun i _ => L.length - (intOf i).toNat)
    case atStart => exact ⟨0, by omega, rfl, hid ⟨rfl, Below.refl _ _⟩⟩
    case round =>
      obtain ⟨k, hk, rfl, HW⟩ := hrel
      by_cases hlt : k < L.length
      · obtain ⟨b, o, rfl, hB, hc0, hc1⟩ := (HR.out.below HW.out.2) k hlt
        have HT := hid (List.take_succ_eq_append_getElem hlt)
        have HM := hid (List.getElem_mem hlt)
        obtain ⟨hs0, hs1⟩ := HS.out _ (List.getElem_mem hlt)
        generalize L[k] = h at *
        obtain ⟨h0, h1⟩ := h
        have hz0 : h0.length ≤ 140737488351232 := hs0
        have hz1 : h1.length ≤ 140737488351232 := hs1
        clear hs0 hs1
        have hi0 : (0 : Int) ≤ (k : Int) := by omega
        have hi1 : (k : Int) < (L.length : Int) := by omega
        have hadd : IntKind.i64.wrap ((h0.length : Int) + (h1.length : Int)) = (h0.length : Int) + (h1.length : Int) := IntWalk.i64_in _ (by omega)
        go_wp2_with fail
        go_quiet (fail)
        go_wp2_with fail
        · go_ret
          exact ⟨by rw [HC.out, List.all_eq_false.2 ⟨_, HM.out, by simp; omega⟩]; rfl, below_drewN HW.out.2 _⟩
        · go_roundw
          case rel => exact ⟨k + 1, by omega, by go_num, hid ⟨by rw [HT.out, List.all_append, HW.out.1]; simp; omega, below_drewN HW.out.2 _⟩⟩
          case measure => simp [intOf]; omega
      · obtain rfl : k = L.length := by omega
        go_wp2_with fail
        go_ret
        have := HW.out.1
        rw [List.take_length] at this
        exact ⟨by rw [HC.out, this]; rfl, HW.out.2⟩
end Go.Proofs.YtnbkpannhcamjaaDoor
namespace Go.Proofs.YtnbkpannhcamjaaDoor
set_option linter.unusedVariables false
set_option linter.unusedSimpArgs false
open Go.RowKit Go.Joins

theorem below_step' {a b c : World} (h : Below a.heap.size a b) (k : Below b.heap.size b c) : Below a.heap.size a c := h.trans (k.mono h.size)
def idxT (v : List UInt8) (names : List (List UInt8)) : Int := if names.findIdx (v == ·) < names.length then (names.findIdx (v == ·) : Int) else -1
theorem idxT_ge (v : List UInt8) (names : List (List UInt8)) : decide (0 ≤ idxT v names) = memB names v := by
  unfold memB
  rw [Bool.eq_iff_iff, decide_eq_true_eq, List.contains_iff_mem, idxT]
  constructor
  · intro h
    by_cases h1 : names.findIdx (v == ·) < names.length
    · have := List.findIdx_getElem (w := h1)
      have e : v = names[names.findIdx (v == ·)] := by simpa using this
      rw [e]; exact List.getElem_mem _
    · rw [if_neg h1] at h; omega
  · intro h
    have : names.findIdx (v == ·) < names.length := List.findIdx_lt_length_of_exists ⟨v, h, by simp⟩
    rw [if_pos this]; omega
set_option maxHeartbeats 1600000 in
theorem index_any (A : Option Addr) (cap : Nat) (names : List (List UInt8)) (v : List UInt8) (N : Nat → Prop) (w : World) (hR : STexts w N A names) (hl : names.length ≤ 9223372036854775807) :
    Calls Tryd.prog 62 #[.slice A names.length cap, .string (bs v)] w fun e w' => e = .returned (.int .i64 (idxT v names)) ∧ w = w' := by
  have HR := hid hR
  clear hR
  go_enter Tryd.func62, Tryd.ntmps62
  go_wp2_with fail
  go_loop [8] (fun i => ∃ k : Nat, k ≤ names.length ∧ i = .int .i64 k ∧ Hid (∀ j (h : j < names.length), j < k → (v == names[j]) = false)) (fun i => names.length - (intOf i).toNat)
  case atStart => exact ⟨0, by omega, rfl, hid (fun j h h' => absurd h' (by omega))⟩
  case round =>
    obtain ⟨k, hk, rfl, HK⟩ := hrel
    by_cases hlt : k < names.length
    · obtain ⟨ad, rfl, hB, hc⟩ := HR.out k hlt
      by_cases he : (v == names[k]) = true
      · have HI := hid (findIdx_hit (v == ·) names k hlt HK.out he)
        have HE := hid he
        go_wp2_with fail
        go_ret
        exact ⟨by rw [idxT, HI.out, if_pos hlt]; rfl, rfl⟩
      · have he' : (v == names[k]) = false := by simpa using he
        have HE := hid he'
        clear he
        go_wp2_with fail
        go_round
        case rel => exact ⟨k + 1, by omega, by go_num, hid (fun j h h' => by
          by_cases e : j = k
          · subst e; exact HE.out
          · exact HK.out j h (by omega))⟩
        case measure => simp [intOf]; omega
    · obtain rfl : k = names.length := by omega
      have HI := hid (findIdx_miss (v == ·) names fun j hj => HK.out j hj hj)
      go_wp2_with fail
      go_ret
      exact ⟨by rw [idxT, HI.out, if_neg (by omega)]; rfl, rfl⟩
theorem contains_any (A : Option Addr) (cap : Nat) (names : List (List UInt8)) (v : List UInt8) (N : Nat → Prop) (w : World) (hR : STexts w N A names) (hl : names.length ≤ 9223372036854775807) :
    Calls Tryd.prog 44 #[.slice A names.length cap, .string (bs v)] w fun e w' => e = .returned (.bool (memB names v)) ∧ w = w' := by
  have HX := hid (index_any A cap names v N w hR hl)
  have HG := hid (idxT_ge v names)
  clear hR
  go_enter Tryd.func44, Tryd.ntmps44
  go_wp2_with fail
  refine HX.out.mono ?_
  rintro e w1 ⟨rfl, rfl⟩
  go_wp2_with fail
  go_ret
  exact ⟨by rw [← HG.out]; rfl, rfl⟩
/-- What a function value says of headers: a predicate; it may make memory. -/
def FV (w0 : World) (B : Nat) (fv : Value) (p : Hd → Bool) : Prop :=
  ∃ (F : Nat) (c : Value), fv = .func (.func F) #[] #[c] ∧ (∀ args w, (callFunc F args).run Tryd.prog w = .ok (.enter F args) w) ∧
    ∀ w, Below B w0 w → ∀ h : Hd, Calls Tryd.prog F #[.agg #[.string (bs h.1), .string (bs h.2)], c] w fun e w' => e = .returned (.bool (p h)) ∧ Below w.heap.size w w'
theorem FV.later {w0 w1 : World} {B : Nat} {fv : Value} {p : Hd → Bool} (h : FV w0 B fv p) (hb : Below B w0 w1) : FV w1 B fv p := by
  obtain ⟨F, c, e, h1, h2⟩ := h
  exact ⟨F, c, e, h1, fun w hw => h2 w (hb.trans hw)⟩
theorem FV.more {w0 : World} {B B' : Nat} {fv : Value} {p : Hd → Bool} (h : FV w0 B fv p) (hB : B ≤ B') : FV w0 B' fv p := by
  obtain ⟨F, c, e, h1, h2⟩ := h
  exact ⟨F, c, e, h1, fun w hw => h2 w (hw.mono hB)⟩
set_option maxHeartbeats 800000 in
theorem named1_any (b : Nat) (A : Option Addr) (cap : Nat) (names : List (List UInt8)) (h : Hd) (w : World) (hc : w.cell? ⟨b, 0, none⟩ = some (.slice A names.length cap)) (hR : STexts w (· < w.heap.size) A names) (hl : names.length ≤ 9223372036854775807) :
    Calls Tryd.prog 43 #[.agg #[.string (bs h.1), .string (bs h.2)], .pointer (some ⟨b, 0, none⟩)] w fun e w' => e = .returned (.bool (hasN names h)) ∧ Below w.heap.size w w' := by
  obtain ⟨h0, h1⟩ := h
  have hb := lt_of_cell hc
  have hc2 : (w.alloc (.cells #[.string (bs h0), .string (bs h1)] 45)).cell? ⟨b, 0, none⟩ = some (.slice A names.length cap) := (((Below.refl w.heap.size w).alloc (Nat.le_refl _) _).cell hb).trans hc
  have HX := hid (fun (w : World) (hR : STexts w (· < w.heap.size) A names) => contains_any A cap names h0 _ w hR hl)
  have HR := hid hR
  clear hR hc
  go_enter Tryd.func43, Tryd.ntmps43
  go_wp2_with fail
  refine (contains_any A cap names h0 (· < w.heap.size) _ (HR.out.below ((Below.refl w.heap.size w).alloc (Nat.le_refl _) _)) hl).mono ?_
  rintro e w1 ⟨rfl, rfl⟩
  go_wp2_with fail
  go_ret
  exact ⟨rfl, (Below.refl _ _).alloc (Nat.le_refl _) _⟩
set_option maxHeartbeats 800000 in
theorem named_any (A : Option Addr) (cap : Nat) (names : List (List UInt8)) (w : World) (hR : STexts w (· < w.heap.size) A names) (hl : names.length ≤ 9223372036854775807) :
    Calls Tryd.prog 28 #[.slice A names.length cap] w fun e w' => ∃ fv, e = .returned fv ∧ FV w' w'.heap.size fv (hasN names) ∧ Below w.heap.size w w' := by
  have HR := hid hR
  clear hR
  have hmf : ∀ (fn : Fn) (first cap : Array Value) (w : World), (Instr.makeFunc fn first cap).run Tryd.prog w = .ok (.func fn first cap) w := fun _ _ _ _ => rfl
  go_enter Tryd.func28, Tryd.ntmps28
  go_wp2_with fail
  go_ret
  have hb : Below w.heap.size w (w.alloc (.cells #[.slice A names.length cap] 37)) := (Below.refl _ _).alloc (Nat.le_refl _) _
  refine ⟨.func (.func 43) #[] #[.pointer (some ⟨w.heap.size, 0, none⟩)], rfl, ⟨43, .pointer (some ⟨w.heap.size, 0, none⟩), rfl, fun _ _ => by kernel_rfl, fun w1 hw1 h => ?_⟩, hb⟩
  have hc : w1.cell? ⟨w.heap.size, 0, none⟩ = some (.slice A names.length cap) := by
    rw [hw1.cell (by simp)]; simp
  refine named1_any w.heap.size A cap names h w1 hc ?_ hl
  have h2 := (HR.out.below hb).below (hw1.mono hb.size)
  exact h2.imp fun b hb' => Nat.lt_of_lt_of_le hb' (Nat.le_trans hb.size hw1.size)
end Go.Proofs.YtnbkpannhcamjaaDoor
