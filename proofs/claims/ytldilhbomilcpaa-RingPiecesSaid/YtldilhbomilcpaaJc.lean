/- ring: how lines lie in places; New, place. -/
import Derived.Test.YtldilhbomilcpaaJa
import Derived.Test.YtldilhbomilcpaaYw
namespace Go.Proofs.Ytldilhbomilcpaa
set_option linter.unusedVariables false
set_option linter.unusedSimpArgs false
open Go.RowKit Go.Joins

theorem rg_mod {o i c : Nat} (ho : o < c) (hi : i ≤ c) : (o + i) % c = if o + i < c then o + i else o + i - c := by
  split
  · exact Nat.mod_eq_of_lt ‹_›
  · rw [Nat.mod_eq_sub_mod (by omega), Nat.mod_eq_of_lt (by omega)]
/-- Lines L lie in c places, from place o on. -/
structure RgP (P : List (List UInt8)) (o c : Nat) (L : List (List UInt8)) : Prop where
  len : P.length = c
  few : L.length ≤ c
  old : 0 < c → o < c
  at_ : ∀ i (h : i < L.length), P[(o + i) % c]? = some L[i]
theorem RgP.new (c : Nat) : RgP (List.replicate c []) 0 c [] := ⟨by simp, by simp, fun h => h, fun i hi => by simp at hi⟩
theorem RgP.push {P : List (List UInt8)} {o c : Nat} {L : List (List UInt8)} (h : RgP P o c L) (hl : L.length < c) (s : List UInt8) : RgP (P.set ((o + L.length) % c) s) o c (L ++ [s]) := by
  have ho := h.old (by omega)
  have hlen := h.len
  refine ⟨by simp [h.len], by simp; omega, h.old, fun i hi => ?_⟩
  rw [List.length_append, List.length_singleton] at hi
  have e1 := rg_mod ho (show i ≤ c by omega)
  have e2 := rg_mod ho (show L.length ≤ c by omega)
  by_cases hil : i < L.length
  · have hne : (o + L.length) % c ≠ (o + i) % c := by rw [e1, e2]; split <;> split <;> omega
    rw [List.getElem?_set_ne hne, h.at_ i hil, List.getElem_append_left hil]
  · obtain rfl : i = L.length := by omega
    have : (o + L.length) % c < P.length := by rw [h.len]; exact Nat.mod_lt _ (by omega)
    rw [List.getElem?_set_self this]; simp
theorem RgP.turn {P : List (List UInt8)} {o c : Nat} {L : List (List UInt8)} (h : RgP P o c L) (hl : L.length = c) (h0 : 0 < c) (s : List UInt8) : RgP (P.set o s) ((o + 1) % c) c ((L ++ [s]).drop 1) := by
  have ho := h.old h0
  have hlen := h.len
  have eo := rg_mod ho (show 1 ≤ c by omega)
  have ho' : (o + 1) % c < c := Nat.mod_lt _ h0
  refine ⟨by simp [h.len], by simp; omega, fun _ => ho', fun i hi => ?_⟩
  have hi' : i < c := by simpa [hl] using hi
  have em : ((o + 1) % c + i) % c = (o + (1 + i)) % c := by rw [Nat.mod_add_mod]; congr 1; omega
  have e2 := rg_mod ho (show 1 + i ≤ c by omega)
  rw [List.getElem_drop, em]
  by_cases hil : 1 + i < c
  · have hne : o ≠ (o + (1 + i)) % c := by rw [e2]; split <;> omega
    rw [List.getElem?_set_ne hne, h.at_ (1 + i) (by omega), List.getElem_append_left (by omega)]
  · have hz : (o + (1 + i)) % c = o := by rw [e2]; split <;> omega
    rw [hz, List.getElem?_set_self (by omega), List.getElem_append_right (by omega)]
    simp
/-- A ring of c places in block p: its cells in block g. -/
def RgH (w : World) (g p c : Nat) (x : Rgs) : Prop := ∃ (o : Nat) (P : List (List UInt8)), Bk w g 69 #[.slice (some ⟨p, 0, none⟩) c c, .int .i64 (o : Int), .int .i64 (x.1.length : Int), .int .i64 (x.2 : Int)] ∧ Bk w p 9 (tvals P).toArray ∧ RgP P o c x.1 ∧ g ≠ p ∧ c ≤ 64
section
variable {w w' : World} {g p c : Nat} {x : Rgs} {S : Nat → Prop}
theorem RgH.up (h : RgH w g p c x) (hb : Below w.heap.size w w') : RgH w' g p c x := by
  obtain ⟨o, P, h1, h2, h3⟩ := h
  exact ⟨o, P, h1.up hb, h2.up hb, h3⟩
theorem RgH.onS (h : RgH w g p c x) (ho : OnS S w w') (hg : ¬ S g) (hp : ¬ S p) : RgH w' g p c x := by
  obtain ⟨o, P, h1, h2, h3⟩ := h
  exact ⟨o, P, h1.onS ho hg, h2.onS ho hp, h3⟩
theorem RgH.lt (h : RgH w g p c x) : g < w.heap.size ∧ p < w.heap.size := by
  obtain ⟨o, P, h1, h2, h3⟩ := h
  exact ⟨h1.lt, h2.lt⟩
theorem RgH.cell2 (h : RgH w g p c x) : w.cell? ⟨g, 2, none⟩ = some (.int .i64 (x.1.length : Int)) := by
  obtain ⟨o, P, h1, h2, h3⟩ := h
  exact Bk.cell h1 2
theorem RgH.cell3 (h : RgH w g p c x) : w.cell? ⟨g, 3, none⟩ = some (.int .i64 (x.2 : Int)) := by
  obtain ⟨o, P, h1, h2, h3⟩ := h
  exact Bk.cell h1 3
theorem RgH.few (h : RgH w g p c x) : x.1.length ≤ c ∧ c ≤ 64 := by
  obtain ⟨o, P, h1, h2, h3, h4, h5⟩ := h
  exact ⟨h3.few, h5⟩
end
theorem rgcells_made (n : Nat) : madeCells (Value.cells (.string ByteArray.empty)) (n * 1) = (tvals (List.replicate n [])).toArray := by
  apply Array.ext
  · simp [madeCells, tvals]
  · intro i h1 h2
    simp [madeCells, tvals, Value.cells, Nat.mod_one, bs]
    rfl
theorem rg_make (w : World) (n : Nat) (h : n ≤ 1000) :
    (Instr.makeSlice 26 (.int .i64 (n : Int)) (.int .i64 (n : Int))).run Try.prog w = .ok (.slice (some ⟨w.heap.size, 0, none⟩) n n) (w.alloc (.cells (tvals (List.replicate n [])).toArray 9)) := by
  obtain ⟨i, hi, hz, hs, hb⟩ := info_parts infoS
  have := run_make (P := Try.prog) w 26 9 i _ Try.underlying26 hi hz .i64 .i64 n n (by omega) (by omega) (by rw [hb]; omega) (by omega)
  rw [this, hs, Int.toNat_natCast, rgcells_made]
set_option maxRecDepth 100000 in
set_option maxHeartbeats 4000000 in
theorem rgnew_any (room : Int) (w : World) :
    Calls Try.prog 10 #[.int .i64 room] w fun e w' => ∃ g p, e = .returned (.pointer (some ⟨g, 0, none⟩)) ∧ w.heap.size ≤ g ∧ w.heap.size ≤ p ∧ RgH w' g p (rgRoom room) ([], 0) ∧ Below w.heap.size w w' := by
  obtain ⟨h1, h2⟩ := rgRoom_le room
  generalize rgRoom room = c at *
  have hmm : min (max room 0) 64 = (c : Int) := by omega
  have hmk := fun w => rg_make w c (by omega)
  have HC := hid h1
  clear h1 h2
  go_enter Try.func10, Try.ntmps10
  go_wp2_with fail
  go_returns
  have hb1 := enew w (.cells (tvals (List.replicate c [])).toArray 9)
  have hb2 := enew (w.alloc (.cells (tvals (List.replicate c [])).toArray 9)) (.cells #[.slice (some ⟨w.heap.size, 0, none⟩) c c, .int .i64 0, .int .i64 0, .int .i64 0] 69)
  refine ⟨w.heap.size + 1, w.heap.size, ?_, by omega, by omega, ⟨0, List.replicate c [], ?_, (Bk.new w _ _).up hb2, RgP.new c, by omega, HC.out⟩, estep hb1 hb2⟩
  · simp
  · have := Bk.new (w.alloc (.cells (tvals (List.replicate c [])).toArray 9)) 69 #[.slice (some ⟨w.heap.size, 0, none⟩) c c, .int .i64 0, .int .i64 0, .int .i64 0]
    rw [World.size_alloc] at this
    exact this
set_option maxRecDepth 100000 in
set_option maxHeartbeats 4000000 in
theorem rgplace_any (g p c o b : Nat) (w : World) (h0 : w.cell? ⟨g, 0, none⟩ = some (.slice (some ⟨p, 0, none⟩) c c)) (h1 : w.cell? ⟨g, 1, none⟩ = some (.int .i64 (o : Int))) (hc : 0 < c) (hc2 : c ≤ 64) (ho : o ≤ 64) (hb : b ≤ 64) {m : Nat} (hm : Hid ((o + b) % c = m)) :
    Calls Try.prog 31 #[.pointer (some ⟨g, 0, none⟩), .int .i64 (b : Int)] w fun e w' => e = .returned (.int .i64 (m : Int)) ∧ Below w.heap.size w w' := by
  have ht : ((o : Int) + (b : Int)).tmod (c : Int) = (m : Int) := by
    rw [Int.tmod_eq_emod_of_nonneg (by omega), ← hm.out]
    simp
  have hne : ((c : Int) == 0) = false := by simp; omega
  have hne2 : ¬ (c : Int) = 0 := by omega
  have hne3 : ¬ c = 0 := by omega
  clear hm
  go_enter Try.func31, Try.ntmps31
  go_wp2_with fail
  go_quiet (fail)
  go_wp2_with fail
  go_returns
  exact ⟨rfl, below_drewN (Below.refl _ _) _⟩
end Go.Proofs.Ytldilhbomilcpaa
