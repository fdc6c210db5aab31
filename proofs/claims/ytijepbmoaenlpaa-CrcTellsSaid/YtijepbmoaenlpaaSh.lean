/- Arguments that are slices of texts, opened as lists; what came in reads the same behind. -/
import Derived.Test.YtijepbmoaenlpaaPlain
import Derived.SliceStrings
import Derived.Deep.Matrix
import Derived.Carry
import Derived.OpenShut
namespace Go.Proofs.Ytijepbmoaenlpaa
set_option linter.unusedVariables false
open Go.RowKit Go.ChangeShapes Go.WideShapes Go.Deep

theorem add_block (a : Addr) (n : Nat) : (a.add n).block = a.block := by unfold Addr.add; split <;> rfl
theorem lt_of_cell {w : World} {a : Addr} {v : Value} (h : w.cell? a = some v) : a.block < w.heap.size := by
  rcases Nat.lt_or_ge a.block w.heap.size with hlt | hge
  · exact hlt
  · simp [World.cell?, Array.getElem?_eq_none hge] at h
/-- The cells of a slice of strings, in a block that N allows. -/
def STexts (w : World) (N : Nat → Prop) (A : Option Addr) (L : List (List UInt8)) : Prop :=
  ∀ k (h : k < L.length), ∃ ad, A = some ad ∧ N ad.block ∧ w.cell? (ad.add k) = some (.string (bs L[k]))
theorem STexts.imp {w : World} {N M : Nat → Prop} {A : Option Addr} {L : List (List UInt8)} (h : STexts w N A L) (hn : ∀ b, N b → M b) : STexts w M A L := by
  intro k hk
  obtain ⟨ad, e, h1, h2⟩ := h k hk
  exact ⟨ad, e, hn _ h1, h2⟩
theorem STexts.below {w w' : World} {B : Nat} {A : Option Addr} {L : List (List UInt8)} (h : STexts w (· < B) A L) (hb : Below B w w') : STexts w' (· < B) A L := by
  intro k hk
  obtain ⟨ad, e, h1, h2⟩ := h k hk
  exact ⟨ad, e, h1, (hb.cell (by rw [add_block]; exact h1)).trans h2⟩
/-- A slice of strings, as a value. -/
def TX (w : World) (N : Nat → Prop) (v : Value) (L : List (List UInt8)) : Prop :=
  ∃ A cap, v = .slice A L.length cap ∧ STexts w N A L ∧ L.length ≤ maxLen ∧ ∀ l ∈ L, l.length ≤ maxLen
theorem TX.below {w w' : World} {B : Nat} {v : Value} {L : List (List UInt8)} (h : TX w (· < B) v L) (hb : Below B w w') : TX w' (· < B) v L := by
  obtain ⟨A, cap, e, h1, h2⟩ := h
  exact ⟨A, cap, e, h1.below hb, h2⟩
def TXX (w : World) (N : Nat → Prop) (v : Value) (LL : List (List (List UInt8))) : Prop :=
  ∃ A cap, v = .slice A LL.length cap ∧ LL.length ≤ maxLen ∧ ∀ k (h : k < LL.length), ∃ ad u, A = some ad ∧ N ad.block ∧ w.cell? (ad.add k) = some u ∧ TX w N u LL[k]
theorem TXX.below {w w' : World} {B : Nat} {v : Value} {LL : List (List (List UInt8))} (h : TXX w (· < B) v LL) (hb : Below B w w') : TXX w' (· < B) v LL := by
  obtain ⟨A, cap, e, h1, h2⟩ := h
  refine ⟨A, cap, e, h1, fun k hk => ?_⟩
  obtain ⟨ad, u, e1, e2, e3, e4⟩ := h2 k hk
  exact ⟨ad, u, e1, e2, (hb.cell (by rw [add_block]; exact e2)).trans e3, e4.below hb⟩
theorem TX.at_ {w : World} {N : Nat → Prop} {A : Option Addr} {n cap : Nat} {L : List (List UInt8)} (h : TX w N (.slice A n cap) L) : n = L.length ∧ STexts w N A L ∧ L.length ≤ maxLen ∧ ∀ l ∈ L, l.length ≤ maxLen := by
  obtain ⟨A2, cap2, e, h1, h2, h3⟩ := h
  injection e with e1 e2 e3
  subst e1
  exact ⟨e2, h1, h2, h3⟩
theorem TXX.at_ {w : World} {N : Nat → Prop} {A : Option Addr} {n cap : Nat} {LL : List (List (List UInt8))} (h : TXX w N (.slice A n cap) LL) (k : Nat) (hk : k < LL.length) :
    ∃ ad A' cap', A = some ad ∧ N ad.block ∧ w.cell? (ad.add k) = some (.slice A' (LL[k]).length cap') ∧ STexts w N A' LL[k] ∧ (LL[k]).length ≤ maxLen ∧ ∀ l ∈ LL[k], l.length ≤ maxLen := by
  obtain ⟨A2, cap2, e, h1, h2⟩ := h
  injection e with e1 e2 e3
  subst e1
  obtain ⟨ad, u, a1, a2, a3, A', cap', rfl, a5, a6, a7⟩ := h2 k hk
  exact ⟨ad, A', cap', a1, a2, a3, a5, a6, a7⟩
section
variable {H : Type} {enc : TypeId × Value → H} {P : Program} {w : World} {base : Nat}

theorem trod_TX {t e : TypeId} {fuel : Nat} {v : Value} {x : DataW H × List MemPlace} (ht : P.underlying t = some (.slice e)) (he : P.underlying e = some .string) (hc : P.cellsOf e = 1)
    (h : DataW.trod enc P w base (fun _ => true) true fuel t [v] = some x) : ∃ L, TX w (· < w.heap.size) v L := by
  rcases open_strings ht he hc h with ⟨h0, _⟩ | ⟨a, len, cap, ss, hcs, _, hl, hm, hss, _, hcell, hsz⟩
  · simp only [List.cons.injEq, and_true] at h0
    exact ⟨[], none, 0, h0, fun k hk => absurd hk (by simp), by simp, by simp⟩
  · simp only [List.cons.injEq, and_true] at hcs
    simp only [if_true] at hss
    have hlen : ((ss.take len).map fun s => s.data.toList).length = len := by simp; omega
    refine ⟨(ss.take len).map fun s => s.data.toList, some a, cap, by rw [hlen]; exact hcs, fun k hk => ?_, by rw [hlen]; omega, fun l hl => ?_⟩
    · rw [hlen] at hk
      have := hcell k (by omega)
      refine ⟨a, rfl, by have := lt_of_cell this; rwa [add_block] at this, ?_⟩
      rw [this, List.getD_eq_getElem?_getD, List.getElem?_eq_getElem (show k < ss.length from by omega)]
      rw [Option.getD_some, List.getElem_map, List.getElem_take, ← bs_of]
    · obtain ⟨s, hs, rfl⟩ := List.mem_map.1 hl
      have := hsz s (List.mem_of_mem_take hs)
      rw [Array.length_toList]; exact this
theorem open_TX {t e : TypeId} {A : Option Addr} {n c : Nat} {d : DataW H} {p : List MemPlace} (ht : P.underlying t = some (.slice e)) (he : P.underlying e = some .string) (hc : P.cellsOf e = 1)
    (h : DataW.Trod enc P w base (fun _ => true) true t (.slice A n c) d p) : ∃ L, TX w (· < w.heap.size) (.slice A n c) L := by
  obtain ⟨fuel, hf⟩ := h
  exact trod_TX ht he hc hf
theorem open_TXX {t e q : TypeId} {A : Option Addr} {n c : Nat} {d : DataW H} {p : List MemPlace} (ht : P.underlying t = some (.slice e)) (he : P.underlying e = some (.slice q)) (hq : P.underlying q = some .string)
    (hce : P.cellsOf e = 1) (hcq : P.cellsOf q = 1) (h : DataW.Trod enc P w base (fun _ => true) true t (.slice A n c) d p) : ∃ LL, TXX w (· < w.heap.size) (.slice A n c) LL := by
  obtain ⟨fuel, hf⟩ := h
  rcases open_slice1 ht hce hf with ⟨h0, _⟩ | ⟨a, len, cap, m, n', V, D, Pl, hcs, _, hl, hm, hmm, _, hx⟩
  · simp only [Value.cells, List.cons.injEq, and_true] at h0
    exact ⟨[], none, 0, by simpa using h0, by simp, fun k hk => absurd hk (by simp)⟩
  · simp only [if_true] at hmm
    subst hmm
    have hcs' : (Value.slice A n c) = .slice (some a) len m := by simpa [Value.cells] using hcs
    have each : ∀ i, i < len → ∃ L, TX w (· < w.heap.size) (V i) L := fun i hi => trod_TX he hq hcq (hx i (by omega)).2
    obtain ⟨F, hF⟩ := choose_lt each
    have hlen : ((List.range len).map F).length = len := by simp
    refine ⟨(List.range len).map F, some a, m, by rw [hlen]; exact hcs', by rw [hlen]; omega, fun k hk => ?_⟩
    rw [hlen] at hk
    have hc := (hx k (by omega)).1
    refine ⟨a, V k, rfl, by have := lt_of_cell hc; rwa [add_block] at this, hc, ?_⟩
    simpa using hF k hk
end
end Go.Proofs.Ytijepbmoaenlpaa
