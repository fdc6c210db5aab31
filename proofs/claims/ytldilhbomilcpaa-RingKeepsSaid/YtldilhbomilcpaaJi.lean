/- Slices of texts with their room: opened; a row's tail and its front. -/
import Derived.Test.YtldilhbomilcpaaYw
namespace Go.Proofs.Ytldilhbomilcpaa
set_option linter.unusedVariables false
set_option linter.unusedSimpArgs false
open Go.RowKit Go.ChangeShapes Go.WideShapes Go.Deep Go.Joins

/-- A slice of texts, as a value, with its room. -/
def TXK (w : World) (N : Nat → Prop) (v : Value) (L : List (List UInt8)) : Prop :=
  ∃ A cap, v = .slice A L.length cap ∧ STexts w N A L ∧ (A = none → cap = 0) ∧ L.length ≤ cap ∧ cap ≤ maxLen ∧ ∀ l ∈ L, l.length ≤ maxLen
theorem TXK.tx {w : World} {N : Nat → Prop} {v : Value} {L : List (List UInt8)} (h : TXK w N v L) : TX w N v L := by
  obtain ⟨A, c, e, h1, h2, h3, h4, h5⟩ := h
  exact ⟨A, c, e, h1, Nat.le_trans h3 h4, h5⟩
section
variable {H : Type} {enc : TypeId × Value → H} {P : Program} {w : World} {base : Nat}
theorem open_TXK {t e : TypeId} {A : Option Addr} {n c : Nat} {d : DataW H} {p : List MemPlace} (ht : P.underlying t = some (.slice e)) (he : P.underlying e = some .string) (hc : P.cellsOf e = 1)
    (h : DataW.Trod enc P w base (fun _ => true) true t (.slice A n c) d p) : ∃ L, TXK w (· < w.heap.size) (.slice A n c) L := by
  obtain ⟨fuel, hf⟩ := h
  rcases open_strings ht he hc hf with ⟨h0, _⟩ | ⟨a, len, cap, ss, hcs, _, hl, hm, hss, _, hcell, hsz⟩
  · have e' : Value.slice A n c = .slice none 0 0 := by simpa [Value.cells] using h0
    rw [e']
    exact ⟨[], none, 0, rfl, fun k hk => absurd hk (by simp), fun _ => rfl, Nat.le_refl _, by unfold maxLen; omega, by simp⟩
  · have e' : Value.slice A n c = .slice (some a) len cap := by simpa [Value.cells] using hcs
    simp only [if_true] at hss
    have hlen : ((ss.take len).map fun s => s.data.toList).length = len := by simp; omega
    rw [e']
    refine ⟨(ss.take len).map fun s => s.data.toList, some a, cap, by rw [hlen], fun k hk => ?_, fun h => (by cases h), by rw [hlen]; exact hl, hm, fun l hl => ?_⟩
    · rw [hlen] at hk
      have := hcell k (by omega)
      refine ⟨a, rfl, by have := lt_of_cell this; rwa [add_block] at this, ?_⟩
      rw [this, List.getD_eq_getElem?_getD, List.getElem?_eq_getElem (show k < ss.length from by omega)]
      rw [Option.getD_some, List.getElem_map, List.getElem_take, ← bs_of]
    · obtain ⟨s, hs, rfl⟩ := List.mem_map.1 hl
      have := hsz s (List.mem_of_mem_take hs)
      rw [Array.length_toList]; exact this
end
theorem stx_take {w : World} {N : Nat → Prop} {A : Option Addr} {L : List (List UInt8)} (h : STexts w N A L) (n : Nat) : STexts w N A (L.take n) := by
  intro i hi
  rw [List.length_take] at hi
  obtain ⟨ad, e, h1, h2⟩ := h i (by omega)
  exact ⟨ad, e, h1, by rw [List.getElem_take]; exact h2⟩
theorem stx_tail {w : World} {N : Nat → Prop} {ad : Addr} {L : List (List UInt8)} (h : STexts w N (some ad) L) (d : Nat) : STexts w N (some ⟨ad.block, ad.off + d, none⟩) (L.drop d) := by
  intro i hi
  rw [List.length_drop] at hi
  obtain ⟨ad2, e, h1, h2⟩ := h (d + i) (by omega)
  injection e with e
  subst e
  obtain ⟨ad0, e0, -, h20⟩ := h 0 (by omega)
  injection e0 with e0
  subst e0
  have hs : ad.spot = none := by
    have hp := congrArg Addr.spot (plain_of_cell h20)
    simpa [Addr.add] using hp
  obtain ⟨b, o, s⟩ := ad
  simp only at hs
  subst hs
  refine ⟨_, rfl, h1, ?_⟩
  rw [Addr.add_lit] at h2 ⊢
  rw [List.getElem_drop, ← h2, Nat.add_assoc]
end Go.Proofs.Ytldilhbomilcpaa
