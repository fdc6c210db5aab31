/- wheel: New, slot, Len, Now, Set, Step. -/
import Derived.Test.YtldilhbomilcpaaJo
import Derived.Deep.RegionLaw
namespace Go.Proofs.Ytldilhbomilcpaa
set_option linter.unusedVariables false
set_option linter.unusedSimpArgs false
open Go.RowKit Go.Joins

def cs52 : Array Value := #[.slice none 0 0, .slice none 0 0, .slice none 0 0, .slice none 0 0, .slice none 0 0, .slice none 0 0, .slice none 0 0, .slice none 0 0, .slice none 0 0, .slice none 0 0, .slice none 0 0, .slice none 0 0, .slice none 0 0, .slice none 0 0, .slice none 0 0, .slice none 0 0, .slice none 0 0, .slice none 0 0, .slice none 0 0, .slice none 0 0, .slice none 0 0, .slice none 0 0, .slice none 0 0, .slice none 0 0, .slice none 0 0, .slice none 0 0, .slice none 0 0, .slice none 0 0, .slice none 0 0, .slice none 0 0, .slice none 0 0, .slice none 0 0, .slice none 0 0, .slice none 0 0, .slice none 0 0, .slice none 0 0, .slice none 0 0, .slice none 0 0, .slice none 0 0, .slice none 0 0, .slice none 0 0, .slice none 0 0, .slice none 0 0, .slice none 0 0, .slice none 0 0, .slice none 0 0, .slice none 0 0, .slice none 0 0, .slice none 0 0, .slice none 0 0, .int .i64 0, .int .i64 0]
theorem cs52_list : (List.range 52).map (wF (fun _ => .slice none 0 0) 0 0) = [.slice none 0 0, .slice none 0 0, .slice none 0 0, .slice none 0 0, .slice none 0 0, .slice none 0 0, .slice none 0 0, .slice none 0 0, .slice none 0 0, .slice none 0 0, .slice none 0 0, .slice none 0 0, .slice none 0 0, .slice none 0 0, .slice none 0 0, .slice none 0 0, .slice none 0 0, .slice none 0 0, .slice none 0 0, .slice none 0 0, .slice none 0 0, .slice none 0 0, .slice none 0 0, .slice none 0 0, .slice none 0 0, .slice none 0 0, .slice none 0 0, .slice none 0 0, .slice none 0 0, .slice none 0 0, .slice none 0 0, .slice none 0 0, .slice none 0 0, .slice none 0 0, .slice none 0 0, .slice none 0 0, .slice none 0 0, .slice none 0 0, .slice none 0 0, .slice none 0 0, .slice none 0 0, .slice none 0 0, .slice none 0 0, .slice none 0 0, .slice none 0 0, .slice none 0 0, .slice none 0 0, .slice none 0 0, .slice none 0 0, .slice none 0 0, .int .i64 0, .int .i64 0] := rfl
theorem cs52_eq : cs52 = arrW (wF (fun _ => .slice none 0 0) 0 0) := by
  have h : (arrW (wF (fun _ => .slice none 0 0) 0 0)).toList = (List.range 52).map (wF (fun _ => .slice none 0 0) 0 0) := by
    apply List.ext_getElem?
    intro i
    rw [Array.getElem?_toList]
    by_cases hi : i < 52
    · rw [arrW_at _ hi, List.getElem?_map, List.getElem?_range hi]
      rfl
    · have hs : (arrW (wF (fun _ => .slice none 0 0) 0 0)).size = 52 := by unfold arrW; exact Array.size_ofFn
      rw [Array.getElem?_eq_none (by omega), List.getElem?_eq_none (by rw [List.length_map, List.length_range]; omega)]
  apply Array.toList_inj.1
  rw [h, cs52_list]
  rfl
set_option maxRecDepth 100000 in
set_option maxHeartbeats 4000000 in
theorem wlnew_any (B : Nat) (w : World) (hB : B ≤ w.heap.size) :
    Calls Try.prog 19 #[] w fun e w' => ∃ g, e = .returned (.pointer (some ⟨g, 0, none⟩)) ∧ w.heap.size ≤ g ∧ WlH (fun b => b = g) B w' g ⟨0, []⟩ ∧ Below w.heap.size w w' := by
  have hnew : WlB (w.alloc (.cells cs52 74)) w.heap.size (fun _ => .slice none 0 0) 0 0 := by
    have h := Bk.new w 74 cs52
    unfold WlB
    rw [← cs52_eq]
    exact h
  have HN := hid hnew
  have hb1 := enew w (.cells cs52 74)
  have HB1 := hid hb1
  clear hnew hb1
  unfold cs52 at HN HB1
  go_enter Try.func19, Try.ntmps19
  go_wp2_with fail
  go_returns
  refine ⟨w.heap.size, rfl, Nat.le_refl _, ⟨fun _ => .slice none 0 0, ⟨rfl, fun b hb => ?_, WhOk.new 0, Int.le_refl _, HN.out, fun i hi => GB.nil _ _, fun i b hi hb => (by cases hb), fun i j b hi hj hij hb => (by cases hb)⟩⟩, HB1.out⟩
  subst hb
  rw [World.size_alloc]
  omega
set_option maxRecDepth 100000 in
set_option maxHeartbeats 4000000 in
theorem wlslot_any (g : Nat) (t : Int) (w : World) (h : 0 ≤ t) (h2 : t ≤ 9000000000000000000) :
    Calls Try.prog 33 #[.pointer (some ⟨g, 0, none⟩), .int .i64 t] w fun e w' => e = .returned (.int .i64 (wix t : Int)) ∧ w = w' := by
  have ht := wix_cast t h
  generalize wix t = k at *
  go_enter Try.func33, Try.ntmps33
  go_wp2_with fail
  go_returns
  exact ⟨rfl, rfl⟩
set_option maxRecDepth 100000 in
theorem wllen_any (S : Nat → Prop) (B g : Nat) (x : Whl) (w : World) (h : WlH S B w g x) {k : Nat} (H : Hid (x.all.length = k)) :
    Calls Try.prog 25 #[.pointer (some ⟨g, 0, none⟩)] w fun e w' => e = .returned (.int .i64 (k : Int)) ∧ Below w.heap.size w w' := by
  obtain ⟨f, hf⟩ := h
  have h1 := hf.blk.csize
  rw [H.out] at h1
  clear hf
  go_enter Try.func25, Try.ntmps25
  go_wp2_with fail
  go_returns
  exact ⟨rfl, Below.refl _ _⟩
set_option maxRecDepth 100000 in
theorem wlnow_any (S : Nat → Prop) (B g : Nat) (x : Whl) (w : World) (h : WlH S B w g x) {k : Int} (H : Hid (x.now = k)) :
    Calls Try.prog 26 #[.pointer (some ⟨g, 0, none⟩)] w fun e w' => e = .returned (.int .i64 k) ∧ Below w.heap.size w w' := by
  obtain ⟨f, hf⟩ := h
  have h1 := hf.blk.cnow
  rw [H.out] at h1
  clear hf
  go_enter Try.func26, Try.ntmps26
  go_wp2_with fail
  go_returns
  exact ⟨rfl, Below.refl _ _⟩
set_option maxRecDepth 100000 in
theorem wllen_nil (w : World) : Calls Try.prog 25 #[.pointer none] w fun e w' => e = .returned (.int .i64 0) ∧ Below w.heap.size w w' := by
  go_enter Try.func25, Try.ntmps25
  go_wp2_with fail
  go_returns
  exact ⟨rfl, Below.refl _ _⟩
set_option maxRecDepth 100000 in
theorem wlnow_nil (w : World) : Calls Try.prog 26 #[.pointer none] w fun e w' => e = .returned (.int .i64 0) ∧ Below w.heap.size w w' := by
  go_enter Try.func26, Try.ntmps26
  go_wp2_with fail
  go_returns
  exact ⟨rfl, Below.refl _ _⟩
set_option maxRecDepth 100000 in
theorem wlset_nil (id t : Int) (w : World) : Calls Try.prog 24 #[.pointer none, .int .i64 id, .int .i64 t] w fun e w' => e = .returned (.int .i64 1) ∧ Below w.heap.size w w' := by
  go_enter Try.func24, Try.ntmps24
  go_wp2_with fail
  go_returns
  exact ⟨rfl, Below.refl _ _⟩
set_option maxRecDepth 100000 in
theorem wlstep_nil (w : World) : Calls Try.prog 22 #[.pointer none] w fun e w' => e = .returned (.slice none 0 0) ∧ Below w.heap.size w w' := by
  go_enter Try.func22, Try.ntmps22
  go_wp2_with fail
  go_returns
  exact ⟨rfl, Below.refl _ _⟩
set_option maxRecDepth 100000 in
theorem wlall_nil (w : World) : Calls Try.prog 28 #[.pointer none] w fun e w' => e = .returned (.slice none 0 0) ∧ Below w.heap.size w w' := by
  go_enter Try.func28, Try.ntmps28
  go_wp2_with fail
  go_returns
  exact ⟨rfl, Below.refl _ _⟩
set_option maxRecDepth 100000 in
theorem wlset_range (g : Nat) (id t : Int) (w : World) (h : t < 1 ∨ 50 < t) : Calls Try.prog 24 #[.pointer (some ⟨g, 0, none⟩), .int .i64 id, .int .i64 t] w fun e w' => e = .returned (.int .i64 12) ∧ Below w.heap.size w w' := by
  by_cases h1 : t < 1
  · have d1 : decide (t < 1) = true := decide_eq_true h1
    go_enter Try.func24, Try.ntmps24
    go_wp2_with fail
    go_returns
    exact ⟨rfl, Below.refl _ _⟩
  · have d1 : decide (t < 1) = false := decide_eq_false h1
    have d2 : decide (50 < t) = true := decide_eq_true (by omega)
    go_enter Try.func24, Try.ntmps24
    go_wp2_with fail
    go_returns
    exact ⟨rfl, Below.refl _ _⟩
set_option maxRecDepth 100000 in
theorem wlset_full (S : Nat → Prop) (B g : Nat) (x : Whl) (id t : Int) (w : World) (h : WlH S B w g x) (h1 : ¬ (t < 1 ∨ 50 < t)) (h2 : 32 ≤ x.all.length) : Calls Try.prog 24 #[.pointer (some ⟨g, 0, none⟩), .int .i64 id, .int .i64 t] w fun e w' => e = .returned (.int .i64 8) ∧ Below w.heap.size w w' := by
  obtain ⟨f, hf⟩ := h
  have hs := hf.blk.csize
  generalize x.all.length = k at *
  have d1 : decide (t < 1) = false := decide_eq_false (by omega)
  have d2 : decide (50 < t) = false := decide_eq_false (by omega)
  have d3 : decide ((32 : Int) ≤ (k : Int)) = true := decide_eq_true (by omega)
  have d4 : decide (32 ≤ k) = true := decide_eq_true h2
  clear hf
  go_enter Try.func24, Try.ntmps24
  go_wp2_with fail
  go_returns
  exact ⟨rfl, Below.refl _ _⟩
end Go.Proofs.Ytldilhbomilcpaa
