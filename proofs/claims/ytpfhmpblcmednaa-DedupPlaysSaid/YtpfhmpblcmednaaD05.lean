/- Texts put together: Sh. -/
import Derived.Test.YtpfhmpblcmednaaD01
import Derived.SliceStrings
import Derived.Deep.Matrix
import Derived.Deep.SlicePairs
import Derived.Carry
import Derived.OpenShut
import Derived.SizedLaws
namespace Go.Proofs.Ytpfhmpblcmednaa
set_option linter.unusedVariables false
open Go.RowKit Go.ChangeShapes Go.WideShapes Go.Deep

theorem add_block (a : Addr) (n : Nat) : (a.add n).block = a.block := by unfold Addr.add; split <;> rfl
theorem lt_of_cell {w : World} {a : Addr} {v : Value} (h : w.cell? a = some v) : a.block < w.heap.size := by
  rcases Nat.lt_or_ge a.block w.heap.size with hlt | hge
  · exact hlt
  · simp [World.cell?, Array.getElem?_eq_none hge] at h
/-- The cells of a slice of strings, in a block that N allows. -/
def STexts (w : World) (N : Nat → Prop) (A : Option Addr) (L : List (List UInt8)) : Prop :=
  ∀ k (h : k < L.length), ∃ ad, A = some ad ∧ N ad.block ∧ w.cell? (ad.add k) = some (.string (bs L[k]))
theorem STexts.imp {w : World} {N M : Nat → Prop} {A : Option Addr} {L : List (List UInt8)} (h : STexts w N A L) (hn : ∀ b, N b → M b) : STexts w M A L := by
  intro k hk
  obtain ⟨ad, e, h1, h2⟩ := h k hk
  exact ⟨ad, e, hn _ h1, h2⟩
theorem STexts.below {w w' : World} {B : Nat} {A : Option Addr} {L : List (List UInt8)} (h : STexts w (· < B) A L) (hb : Below B w w') : STexts w' (· < B) A L := by
  intro k hk
  obtain ⟨ad, e, h1, h2⟩ := h k hk
  exact ⟨ad, e, h1, (hb.cell (by rw [add_block]; exact h1)).trans h2⟩
/-- A slice of strings, as a value. -/
def TX (w : World) (N : Nat → Prop) (v : Value) (L : List (List UInt8)) : Prop :=
  ∃ A cap, v = .slice A L.length cap ∧ STexts w N A L ∧ L.length ≤ maxLen ∧ ∀ l ∈ L, l.length ≤ maxLen
theorem TX.below {w w' : World} {B : Nat} {v : Value} {L : List (List UInt8)} (h : TX w (· < B) v L) (hb : Below B w w') : TX w' (· < B) v L := by
  obtain ⟨A, cap, e, h1, h2⟩ := h
  exact ⟨A, cap, e, h1.below hb, h2⟩
def TXX (w : World) (N : Nat → Prop) (v : Value) (LL : List (List (List UInt8))) : Prop :=
  ∃ A cap, v = .slice A LL.length cap ∧ LL.length ≤ maxLen ∧ ∀ k (h : k < LL.length), ∃ ad u, A = some ad ∧ N ad.block ∧ w.cell? (ad.add k) = some u ∧ TX w N u LL[k]
theorem TXX.below {w w' : World} {B : Nat} {v : Value} {LL : List (List (List UInt8))} (h : TXX w (· < B) v LL) (hb : Below B w w') : TXX w' (· < B) v LL := by
  obtain ⟨A, cap, e, h1, h2⟩ := h
  refine ⟨A, cap, e, h1, fun k hk => ?_⟩
  obtain ⟨ad, u, e1, e2, e3, e4⟩ := h2 k hk
  exact ⟨ad, u, e1, e2, (hb.cell (by rw [add_block]; exact e2)).trans e3, e4.below hb⟩
theorem TX.at_ {w : World} {N : Nat → Prop} {A : Option Addr} {n cap : Nat} {L : List (List UInt8)} (h : TX w N (.slice A n cap) L) : n = L.length ∧ STexts w N A L ∧ L.length ≤ maxLen ∧ ∀ l ∈ L, l.length ≤ maxLen := by
  obtain ⟨A2, cap2, e, h1, h2, h3⟩ := h
  injection e with e1 e2 e3
  subst e1
  exact ⟨e2, h1, h2, h3⟩
theorem TXX.at_ {w : World} {N : Nat → Prop} {A : Option Addr} {n cap : Nat} {LL : List (List (List UInt8))} (h : TXX w N (.slice A n cap) LL) (k : Nat) (hk : k < LL.length) :
    ∃ ad A' cap', A = some ad ∧ N ad.block ∧ w.cell? (ad.add k) = some (.slice A' (LL[k]).length cap') ∧ STexts w N A' LL[k] ∧ (LL[k]).length ≤ maxLen ∧ ∀ l ∈ LL[k], l.length ≤ maxLen := by
  obtain ⟨A2, cap2, e, h1, h2⟩ := h
  injection e with e1 e2 e3
  subst e1
  obtain ⟨ad, u, a1, a2, a3, A', cap', rfl, a5, a6, a7⟩ := h2 k hk
  exact ⟨ad, A', cap', a1, a2, a3, a5, a6, a7⟩
theorem plain_of_cell {w : World} {a : Addr} {v : Value} (h : w.cell? a = some v) : a = ⟨a.block, a.off, none⟩ := by
  have : a.spot = none := by
    cases hsp : a.spot with
    | none => rfl
    | some s =>
      simp only [World.cell?] at h
      split at h
      · simp [hsp] at h
      · cases h
  cases a
  simp_all
/-- The cells of a slice of pairs of strings. -/
def HReads (w : World) (N : Nat → Prop) (A : Option Addr) (L : List (List UInt8 × List UInt8)) : Prop :=
  ∀ k (h : k < L.length), ∃ b o, A = some ⟨b, o, none⟩ ∧ N b ∧ w.cell? ⟨b, o + k * 2, none⟩ = some (.string (bs (L[k]).1)) ∧ w.cell? ⟨b, o + k * 2 + 1, none⟩ = some (.string (bs (L[k]).2))
theorem HReads.below {w w' : World} {B : Nat} {A : Option Addr} {L : List (List UInt8 × List UInt8)} (h : HReads w (· < B) A L) (hb : Below B w w') : HReads w' (· < B) A L := by
  intro k hk
  obtain ⟨b, o, e, h1, h2, h3⟩ := h k hk
  exact ⟨b, o, e, h1, (hb.cell h1).trans h2, (hb.cell h1).trans h3⟩
theorem HReads.imp {w : World} {N M : Nat → Prop} {A : Option Addr} {L : List (List UInt8 × List UInt8)} (h : HReads w N A L) (hn : ∀ b, N b → M b) : HReads w M A L := by
  intro k hk
  obtain ⟨b, o, e, h1, h2, h3⟩ := h k hk
  exact ⟨b, o, e, hn _ h1, h2, h3⟩
theorem HReads.take {w : World} {N : Nat → Prop} {A : Option Addr} {L : List (List UInt8 × List UInt8)} (h : HReads w N A L) (k : Nat) : HReads w N A (L.take k) := by
  intro j hj
  rw [List.length_take] at hj
  obtain ⟨b, o, e, h1, h2, h3⟩ := h j (by omega)
  exact ⟨b, o, e, h1, by rw [List.getElem_take]; exact h2, by rw [List.getElem_take]; exact h3⟩
/-- A slice of pairs of strings, as a value. -/
def HX (w : World) (N : Nat → Prop) (v : Value) (L : List (List UInt8 × List UInt8)) : Prop :=
  ∃ A cap, v = .slice A L.length cap ∧ HReads w N A L ∧ (A = none → cap = 0) ∧ L.length ≤ cap ∧ cap ≤ maxLen ∧ ∀ h ∈ L, h.1.length ≤ 140737488351232 ∧ h.2.length ≤ 140737488351232
theorem HX.below {w w' : World} {B : Nat} {v : Value} {L : List (List UInt8 × List UInt8)} (h : HX w (· < B) v L) (hb : Below B w w') : HX w' (· < B) v L := by
  obtain ⟨A, cap, e, h1, h2⟩ := h
  exact ⟨A, cap, e, h1.below hb, h2⟩
section
variable {H : Type} {enc : TypeId × Value → H} {P : Program} {w : World} {base : Nat}

theorem trod_TX {t e : TypeId} {fuel : Nat} {v : Value} {x : DataW H × List MemPlace} (ht : P.underlying t = some (.slice e)) (he : P.underlying e = some .string) (hc : P.cellsOf e = 1)
    (h : DataW.trod enc P w base (fun _ => true) true fuel t [v] = some x) : ∃ L, TX w (· < w.heap.size) v L := by
  rcases open_strings ht he hc h with ⟨h0, _⟩ | ⟨a, len, cap, ss, hcs, _, hl, hm, hss, _, hcell, hsz⟩
  · simp only [List.cons.injEq, and_true] at h0
    exact ⟨[], none, 0, h0, fun k hk => absurd hk (by simp), by simp, by simp⟩
  · simp only [List.cons.injEq, and_true] at hcs
    simp only [if_true] at hss
    have hlen : ((ss.take len).map fun s => s.data.toList).length = len := by simp; omega
    refine ⟨(ss.take len).map fun s => s.data.toList, some a, cap, by rw [hlen]; exact hcs, fun k hk => ?_, by rw [hlen]; omega, fun l hl => ?_⟩
    · rw [hlen] at hk
      have := hcell k (by omega)
      refine ⟨a, rfl, by have := lt_of_cell this; rwa [add_block] at this, ?_⟩
      rw [this, List.getD_eq_getElem?_getD, List.getElem?_eq_getElem (show k < ss.length from by omega)]
      rw [Option.getD_some, List.getElem_map, List.getElem_take, ← bs_of]
    · obtain ⟨s, hs, rfl⟩ := List.mem_map.1 hl
      have := hsz s (List.mem_of_mem_take hs)
      rw [Array.length_toList]; exact this
theorem open_TX {t e : TypeId} {A : Option Addr} {n c : Nat} {d : DataW H} {p : List MemPlace} (ht : P.underlying t = some (.slice e)) (he : P.underlying e = some .string) (hc : P.cellsOf e = 1)
    (h : DataW.Trod enc P w base (fun _ => true) true t (.slice A n c) d p) : ∃ L, TX w (· < w.heap.size) (.slice A n c) L := by
  obtain ⟨fuel, hf⟩ := h
  exact trod_TX ht he hc hf
theorem open_TXX {t e q : TypeId} {A : Option Addr} {n c : Nat} {d : DataW H} {p : List MemPlace} (ht : P.underlying t = some (.slice e)) (he : P.underlying e = some (.slice q)) (hq : P.underlying q = some .string)
    (hce : P.cellsOf e = 1) (hcq : P.cellsOf q = 1) (h : DataW.Trod enc P w base (fun _ => true) true t (.slice A n c) d p) : ∃ LL, TXX w (· < w.heap.size) (.slice A n c) LL := by
  obtain ⟨fuel, hf⟩ := h
  rcases open_slice1 ht hce hf with ⟨h0, _⟩ | ⟨a, len, cap, m, n', V, D, Pl, hcs, _, hl, hm, hmm, _, hx⟩
  · simp only [Value.cells, List.cons.injEq, and_true] at h0
    exact ⟨[], none, 0, by simpa using h0, by simp, fun k hk => absurd hk (by simp)⟩
  · simp only [if_true] at hmm
    subst hmm
    have hcs' : (Value.slice A n c) = .slice (some a) len m := by simpa [Value.cells] using hcs
    have each : ∀ i, i < len → ∃ L, TX w (· < w.heap.size) (V i) L := fun i hi => trod_TX he hq hcq (hx i (by omega)).2
    obtain ⟨F, hF⟩ := choose_lt each
    have hlen : ((List.range len).map F).length = len := by simp
    refine ⟨(List.range len).map F, some a, m, by rw [hlen]; exact hcs', by rw [hlen]; omega, fun k hk => ?_⟩
    rw [hlen] at hk
    have hc := (hx k (by omega)).1
    refine ⟨a, V k, rfl, by have := lt_of_cell hc; rwa [add_block] at this, hc, ?_⟩
    simpa using hF k hk
/-- No string, slice or map of d is beyond the reach. -/
def Sized (P : Program) (t : TypeId) (d : DataW H) : Prop := ∀ n ∈ d.weights P t, n ≤ reachBytes
theorem mem_weightsAll {e : TypeId} {d : DataW H} {n : Nat} (hn : n ∈ d.weights P e) : ∀ {l : List (DataW H)}, d ∈ l → n ∈ DataW.weightsAll P e l
  | x :: r, h => by
    simp only [DataW.weightsAll, List.mem_append]
    rcases List.mem_cons.1 h with rfl | h
    · exact Or.inl hn
    · exact Or.inr (mem_weightsAll hn h)
theorem sized_of {ts : List TypeId} {ds : List (DataW H)} (h : (DataW.weightsEach P ts ds).all (· ≤ reachBytes) = true) {j : Nat} {t : TypeId} {d : DataW H} (ht : ts[j]? = some t) (hd : ds[j]? = some d) : Sized P t d := fun n hn => by
  simpa using List.all_eq_true.1 h _ (DataW.weights_mem_each ht hd n hn)
theorem Sized.elem {t e : TypeId} {es sp : List (DataW H)} (h : Sized P t (.slice es sp)) (hu : P.underlying t = some (.slice e)) {d : DataW H} (hd : d ∈ es) : Sized P e d := fun n hn =>
  h n (by simp only [DataW.weights, hu, List.mem_cons, List.mem_append]; exact Or.inr (Or.inl (mem_weightsAll hn hd)))
theorem Sized.pair {t : TypeId} {f0 f1 : Field} {d0 d1 : DataW H} (h : Sized P t (.agg [d0, d1])) (hu : P.underlying t = some (.struct #[f0, f1])) : Sized P f0.type d0 ∧ Sized P f1.type d1 :=
  ⟨fun n hn => h n (by simp [DataW.weights, hu, DataW.weightsEach, hn]), fun n hn => h n (by simp [DataW.weights, hu, DataW.weightsEach, hn])⟩
theorem Sized.str {t : TypeId} {l : List UInt8} (h : Sized (H := H) P t (.lit (.string l))) : l.length ≤ 140737488351232 := h _ (by simp [DataW.weights])
theorem str_of {t : TypeId} {n : Nat} {v : Value} {d : DataW H} {pl : List MemPlace} {sp : Nat → Bool} {hd : Bool} (ht : P.underlying t = some .string) (h : DataW.trod enc P w base sp hd n t [v] = some (d, pl)) : ∃ l : List UInt8, v = .string (bs l) ∧ d = .lit (.string l) := by
  obtain ⟨s, hs, he, hl⟩ := DataW.trod_string ht h
  simp only [List.cons.injEq, and_true] at hs
  simp only [Prod.mk.injEq] at he
  exact ⟨s.data.toList, by rw [hs, ← bs_of], he.1⟩
theorem open_HX {t e q : TypeId} {f0 f1 : Field} {A : Option Addr} {n c : Nat} {d : DataW H} {p : List MemPlace} (ht : P.underlying t = some (.slice e)) (he : P.underlying e = some (.struct #[f0, f1])) (hq : P.underlying q = some .string)
    (ce : P.cellsOf e = 2) (cq : P.cellsOf q = 1) (hf : f0.offset = 0 ∧ f1.offset = 1 ∧ f0.type = q ∧ f1.type = q) (hz : Sized P t d) (h : DataW.Trod enc P w base (fun _ => true) true t (.slice A n c) d p) : ∃ L, HX w (· < w.heap.size) (.slice A n c) L := by
  obtain ⟨o0, o1, t0, t1⟩ := hf
  obtain ⟨fuel, hf⟩ := h
  rcases open_slice_pairs ht he ce o0 o1 (by rw [t0, cq]) (by rw [t1, cq]) hf with ⟨h0, _⟩ | ⟨a, len, cap, m, n', V0, V1, D0, D1, P0, P1, hcs, _, hl, hm, hmm, hd, hx⟩
  · simp only [Value.cells, List.cons.injEq, and_true] at h0
    exact ⟨[], none, 0, by simpa using h0, fun k hk => absurd hk (by simp), fun _ => rfl, by simp, by simp, by simp⟩
  · simp only [if_true] at hmm
    subst hmm
    have hcs' : (Value.slice A n c) = .slice (some a) len m := by simpa [Value.cells] using hcs
    simp only [Prod.mk.injEq] at hd
    rw [hd.1] at hz
    have each : ∀ i, i < len → ∃ h : List UInt8 × List UInt8, (V0 i = .string (bs h.1) ∧ h.1.length ≤ 140737488351232) ∧ (V1 i = .string (bs h.2) ∧ h.2.length ≤ 140737488351232) := fun i hi => by
      obtain ⟨_, _, x0, x1⟩ := hx i (by omega)
      rw [t0] at x0
      rw [t1] at x1
      obtain ⟨l0, a0⟩ := str_of hq x0
      obtain ⟨l1, a1⟩ := str_of hq x1
      have hzi := (hz.elem ht (d := .agg [D0 i, D1 i]) (List.mem_map.2 ⟨i, List.mem_range.2 hi, rfl⟩)).pair he
      rw [a0.2, a1.2] at hzi
      exact ⟨(l0, l1), ⟨a0.1, hzi.1.str⟩, ⟨a1.1, hzi.2.str⟩⟩
    obtain ⟨F, hF⟩ := choose_lt each
    have hlen : ((List.range len).map F).length = len := by simp
    refine ⟨(List.range len).map F, some a, m, by rw [hlen]; exact hcs', fun k hk => ?_, (fun h => by cases h), by rw [hlen]; exact hl, hm, fun h hh => ?_⟩
    · rw [hlen] at hk
      have hpl := plain_of_cell (hx 0 (by omega)).1
      simp only [Nat.zero_mul, Addr.add, if_true] at hpl
      obtain ⟨c0, c1, _, _⟩ := hx k (by omega)
      obtain ⟨⟨e0, _⟩, ⟨e1, _⟩⟩ := hF k hk
      rw [hpl, Addr.add_lit] at c0 c1
      refine ⟨a.block, a.off, by rw [← hpl], lt_of_cell (a := ⟨a.block, a.off + k * 2, none⟩) c0, ?_, ?_⟩
      · rw [c0, e0]; simp
      · rw [Nat.add_assoc, c1, e1]; simp
    · obtain ⟨i, hi, rfl⟩ := List.mem_map.1 hh
      obtain ⟨⟨_, e0⟩, ⟨_, e1⟩⟩ := hF i (List.mem_range.1 hi)
      exact ⟨e0, e1⟩
end
end Go.Proofs.Ytpfhmpblcmednaa
