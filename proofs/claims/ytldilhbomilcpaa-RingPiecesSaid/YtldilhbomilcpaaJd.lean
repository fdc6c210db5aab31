/- ring: put. -/
import Derived.Test.YtldilhbomilcpaaJc
import Derived.Deep.RegionLaw
namespace Go.Proofs.Ytldilhbomilcpaa
set_option linter.unusedVariables false
set_option linter.unusedSimpArgs false
open Go.RowKit Go.Joins

theorem rgcell_at (P : List (List UInt8)) (j : Nat) (hj : j < P.length) : ∃ u, (tvals P).toArray[j]? = some u := by
  refine ⟨.string (bs P[j]), ?_⟩
  simp [tvals, hj]
theorem rg_stored {w : World} {p j : Nat} {P : List (List UInt8)} (k : Bk w p 9 (tvals P).toArray) (s : List UInt8) : Bk (w.setCell ⟨p, j, none⟩ (.string (bs s))) p 9 (tvals (P.set j s)).toArray := by
  have := Bk.set_ k j (.string (bs s))
  have e : (tvals (P.set j s)).toArray = (tvals P).toArray.setIfInBounds j (.string (bs s)) := by
    apply Array.toList_inj.1
    simp [tvals, List.map_set]
  rw [e]
  exact this
theorem rg_other {w : World} {g g' i : Nat} {t : TypeId} {cs : Array Value} (k : Bk w g t cs) (hn : g ≠ g') (u : Value) : Bk (w.setCell ⟨g', i, none⟩ u) g t cs := by
  unfold Bk at k ⊢
  rw [Below.heap_setCell w ⟨g', i, none⟩ u g hn]; exact k
/-- A ring's cells. -/
def RgB (w : World) (g p c o k n : Nat) : Prop := Bk w g 69 #[.slice (some ⟨p, 0, none⟩) c c, .int .i64 (o : Int), .int .i64 (k : Int), .int .i64 (n : Int)]
section
variable {w w' : World} {g p c o k n : Nat}
theorem RgB.cells (h : RgB w g p c o k n) : w.cell? ⟨g, 0, none⟩ = some (.slice (some ⟨p, 0, none⟩) c c) ∧ w.cell? ⟨g, 1, none⟩ = some (.int .i64 (o : Int)) ∧ w.cell? ⟨g, 2, none⟩ = some (.int .i64 (k : Int)) ∧ w.cell? ⟨g, 3, none⟩ = some (.int .i64 (n : Int)) := ⟨Bk.cell h 0, Bk.cell h 1, Bk.cell h 2, Bk.cell h 3⟩
theorem RgB.froz (h : RgB w g p c o k n) (i : Nat) : w.frozen? ⟨g, i, none⟩ = false := Bk.frozen h i
theorem RgB.up (h : RgB w g p c o k n) (hb : Below w.heap.size w w') : RgB w' g p c o k n := Bk.up h hb
theorem RgB.set1 (h : RgB w g p c o k n) (x : Nat) : RgB (w.setCell ⟨g, 1, none⟩ (.int .i64 (x : Int))) g p c x k n := by
  have := Bk.set_ h 1 (.int .i64 (x : Int))
  exact this
theorem RgB.set2 (h : RgB w g p c o k n) (x : Nat) : RgB (w.setCell ⟨g, 2, none⟩ (.int .i64 (x : Int))) g p c o x n := by
  have := Bk.set_ h 2 (.int .i64 (x : Int))
  exact this
theorem RgB.set3 (h : RgB w g p c o k n) (x : Nat) : RgB (w.setCell ⟨g, 3, none⟩ (.int .i64 (x : Int))) g p c o k x := by
  have := Bk.set_ h 3 (.int .i64 (x : Int))
  exact this
theorem RgB.other (h : RgB w g p c o k n) (hn : g ≠ p) (i : Nat) (u : Value) : RgB (w.setCell ⟨p, i, none⟩ u) g p c o k n := rg_other h hn u
end
/-- What put leaves. -/
def RgR (w : World) (g p c : Nat) (x : Rgs) (e : Ending) (w' : World) : Prop := e = .returned (.tuple #[]) ∧ RgH w' g p c x ∧ OnS (fun b => b = g ∨ b = p) w w'
set_option maxRecDepth 100000 in
set_option maxHeartbeats 4000000 in
theorem put_room (g p c : Nat) (L : List (List UInt8)) (n : Nat) (s : List UInt8) (w : World) (h : RgH w g p c (L, n)) (hr : L.length < c) :
    Calls Try.prog 30 #[.pointer (some ⟨g, 0, none⟩), .string (bs s)] w fun e w' => RgR w g p c (L ++ [s], n) e w' := by
  obtain ⟨o, P, h1, h2, h3, h4, h5⟩ := h
  obtain ⟨k, hk⟩ : ∃ k, L.length = k := ⟨_, rfl⟩
  simp only [hk] at h1
  have kb : RgB w g p c o k n := h1
  obtain ⟨j, hj⟩ : ∃ j, (o + k) % c = j := ⟨_, rfl⟩
  have hjc : j < c := by rw [← hj]; exact Nat.mod_lt _ (by omega)
  have hoc := h3.old (by omega)
  obtain ⟨u, hu⟩ := rgcell_at P j (by rw [h3.len]; exact hjc)
  have HH := hid (And.intro h2 (And.intro h3 (And.intro hk (And.intro hj h4))))
  have hkc : k < c := by omega
  have hlss : decide ((k : Int) < (c : Int)) = true := decide_eq_true (by omega)
  have HKB := hid kb
  have HU := hid hu
  have HP := hid (fun (w2 : World) (hb : Below w.heap.size w w2) => rgplace_any g p c o k w2 (kb.up hb).cells.1 (kb.up hb).cells.2.1 (by omega) h5 (by omega) (by omega) (hid hj))
  obtain ⟨q0, q1, q2, q3⟩ := kb.cells
  have hi0 : (0 : Int) ≤ (j : Int) := by omega
  have hi1 : (j : Int) < (c : Int) := by omega
  have hz : Below w.heap.size w w := Below.refl _ _
  clear h1 h2 h3 hk hj hr kb hu h4 hoc
  go_enter Try.func30, Try.ntmps30
  go_wp2_with fail
  go_quiet (fail)
  go_wp2_with fail
  go_region_law (
    go_simp
    go_at_call 31
    refine (HP.out _ (by first | exact Below.refl _ _ | exact (Below.refl _ _).drew | exact below_drewN (Below.refl _ _) _)).mono ?_
    rintro e w6 ⟨rfl, hy⟩
    have hz6 : Below w.heap.size w w6 := by first | exact hy | exact estep (Below.refl _ _).drew hy | exact estep (below_drewN (Below.refl _ _) _) hy
    obtain ⟨q0, q1, q2, q3⟩ := (HKB.out.up hz6).cells
    have t1 := (Bk.cell (HH.out.1.up hz6) j).trans HU.out
    have t2 := Bk.frozen (HH.out.1.up hz6) j)
  all_goals
    obtain ⟨f1, f2, f3, f4, f5⟩ := HH.out
    have k7 := (HKB.out.up hz6).other f5 j (.string (bs s))
    have m7 := rg_stored (j := j) (f1.up hz6) s
    have o7 := (OnS.below (S := fun b => b = g ∨ b = p) hz6).cell p j (.string (bs s)) (Or.inr rfl)
    have H7 := hid (And.intro k7 (And.intro m7 o7))
    obtain ⟨q0', q1', q2', q3'⟩ := k7.cells
    have z2 := k7.froz 2
    have HF := hid (And.intro f2 (And.intro f3 (And.intro f4 f5)))
    clear f1 f2 f3 f4 f5 k7 m7 o7 q0 q1 q2 q3 t1 t2 hz6 hy HH HP
    generalize w6.setCell ⟨p, j, none⟩ (.string (bs s)) = w7 at *
    go_wp2_with fail
    go_returns
    obtain ⟨k7, m7, o7⟩ := H7.out
    obtain ⟨f2, f3, f4, f5⟩ := HF.out
    refine ⟨rfl, ⟨o, P.set j s, ?_, rg_other m7 (Ne.symm f5) _, by rw [← f4, ← f3]; exact f2.push (by omega) s, f5, by omega⟩, o7.cell g 2 _ (Or.inl rfl)⟩
    have := k7.set2 (k + 1)
    rw [List.length_append, List.length_singleton, f3]
    exact this
theorem rgadd_one (a : Addr) (x : Nat) (w : World) (h : w.cell? a = some (.int .i64 (x : Int))) (hz : w.frozen? a = false) (hx : x + 1 ≤ 1099511627776) :
    Calls Try.prog 34 #[.pointer (some a), .int .i64 1] w fun e w' => e = .returned (.tuple #[]) ∧ w' = w.setCell a (.int .i64 ((x + 1 : Nat) : Int)) := nadd_any a x 1 w h hz hx
theorem rgplace_one (g p c o : Nat) (w : World) (h0 : w.cell? ⟨g, 0, none⟩ = some (.slice (some ⟨p, 0, none⟩) c c)) (h1 : w.cell? ⟨g, 1, none⟩ = some (.int .i64 (o : Int))) (hc : 0 < c) (hc2 : c ≤ 64) (ho : o ≤ 64) {m : Nat} (hm : Hid ((o + 1) % c = m)) :
    Calls Try.prog 31 #[.pointer (some ⟨g, 0, none⟩), .int .i64 1] w fun e w' => e = .returned (.int .i64 (m : Int)) ∧ Below w.heap.size w w' := rgplace_any g p c o 1 w h0 h1 hc hc2 ho (by omega) hm
/-- A line more is lost: what is behind it. -/
def RgL (w : World) (g p c o k n : Nat) (P : List (List UInt8)) (w' : World) : Prop := RgB w' g p c o k n ∧ Bk w' p 9 (tvals P).toArray ∧ OnS (fun b => b = g ∨ b = p) w w'
theorem rglose {w : World} {g p c o k n : Nat} {P : List (List UInt8)} (h1 : RgB w g p c o k n) (h2 : Bk w p 9 (tvals P).toArray) (h4 : g ≠ p) (hn : n + 1 ≤ 1099511627776) (w2 : World) (hb : Below w.heap.size w w2) :
    Calls Try.prog 34 #[.pointer (some ⟨g, 3, none⟩), .int .i64 1] w2 fun e w' => e = .returned (.tuple #[]) ∧ RgL w g p c o k (n + 1) P w' := by
  refine (rgadd_one ⟨g, 3, none⟩ n w2 (h1.up hb).cells.2.2.2 ((h1.up hb).froz 3) hn).mono ?_
  rintro e w' ⟨rfl, rfl⟩
  exact ⟨rfl, (h1.up hb).set3 (n + 1), rg_other (h2.up hb) (Ne.symm h4) _, (OnS.below hb).cell g 3 _ (Or.inl rfl)⟩
set_option maxRecDepth 100000 in
set_option maxHeartbeats 4000000 in
theorem put_none (g p : Nat) (L : List (List UInt8)) (n : Nat) (s : List UInt8) (w : World) (h : RgH w g p 0 (L, n)) (hn : n + 1 ≤ 1099511627776) :
    Calls Try.prog 30 #[.pointer (some ⟨g, 0, none⟩), .string (bs s)] w fun e w' => RgR w g p 0 ([], n + 1) e w' := by
  obtain ⟨o, P, h1, h2, h3, h4, h5⟩ := h
  have hL : L = [] := List.eq_nil_of_length_eq_zero (by have := h3.few; simp only at this; omega)
  subst hL
  have kb : RgB w g p 0 o 0 n := h1
  have HA := hid (rglose kb h2 h4 hn)
  have HH := hid (And.intro h3 h4)
  obtain ⟨q0, q1, q2, q3⟩ := kb.cells
  have z3 := kb.froz 3
  clear h1 h2 h3 h4 h5 kb
  go_enter Try.func30, Try.ntmps30
  go_wp2_with fail
  go_quiet (fail)
  go_wp2_with fail
  refine (HA.out _ (below_drewN (Below.refl _ _) _)).mono ?_
  rintro e w7 ⟨rfl, hw7⟩
  have H7 := hid hw7
  obtain ⟨q0', q1', q2', q3'⟩ := hw7.1.cells
  clear hw7 q0 q1 q2 q3 z3 HA
  go_wp2_with fail
  go_returns
  obtain ⟨k7, m7, o7⟩ := H7.out
  exact ⟨rfl, ⟨o, P, k7, m7, HH.out.1, HH.out.2, by omega⟩, o7⟩
set_option maxRecDepth 100000 in
set_option maxHeartbeats 4000000 in
theorem put_full (g p c : Nat) (L : List (List UInt8)) (n : Nat) (s : List UInt8) (w : World) (h : RgH w g p c (L, n)) (hc : 0 < c) (hL : L.length = c) (hn : n + 1 ≤ 1099511627776) :
    Calls Try.prog 30 #[.pointer (some ⟨g, 0, none⟩), .string (bs s)] w fun e w' => RgR w g p c ((L ++ [s]).drop 1, n + 1) e w' := by
  obtain ⟨o, P, h1, h2, h3, h4, h5⟩ := h
  have hlen : ((L ++ [s]).drop 1).length = c := by simp [hL]
  simp only [hL] at h1
  have kb : RgB w g p c o c n := h1
  have hoc := h3.old hc
  obtain ⟨u, hu⟩ := rgcell_at P o (by rw [h3.len]; exact hoc)
  obtain ⟨j, hj⟩ : ∃ j, (o + 1) % c = j := ⟨_, rfl⟩
  have hT := h3.turn hL hc s
  rw [hj] at hT
  have HA := hid (rglose kb h2 h4 hn)
  have HH := hid (And.intro hT (And.intro hlen h4))
  have HU := hid hu
  have HJ := hid hj
  obtain ⟨q0, q1, q2, q3⟩ := kb.cells
  have z3 := kb.froz 3
  have hi0 : (0 : Int) ≤ (o : Int) := by omega
  have hi1 : (o : Int) < (c : Int) := by omega
  have hgt : decide ((0 : Int) < (c : Int)) = true := decide_eq_true (by omega)
  have hgn : decide (0 < c) = true := decide_eq_true hc
  clear h1 h2 h3 kb hT hlen hL hu hj
  go_enter Try.func30, Try.ntmps30
  go_wp2_with fail
  go_quiet (fail)
  go_wp2_with fail
  refine (HA.out _ (below_drewN (Below.refl _ _) _)).mono ?_
  rintro e w7 ⟨rfl, hw7⟩
  have H7 := hid hw7
  obtain ⟨q0', q1', q2', q3'⟩ := hw7.1.cells
  have t1 := (Bk.cell hw7.2.1 o).trans HU.out
  have t2 := Bk.frozen hw7.2.1 o
  have t1' : w7.drew.cell? ⟨p, o, none⟩ = some u := t1
  have t2' : w7.drew.frozen? ⟨p, o, none⟩ = false := t2
  clear hw7 q0 q1 q2 q3 z3 HA
  go_wp2_with fail
  go_region_law (fail)
  all_goals
    have k8 : RgB (w7.setCell ⟨p, o, none⟩ (.string (bs s))).drew g p c o c (n + 1) := ((H7.out.1).other h4 o (.string (bs s))).up (Below.refl _ _).drew
    have m8 : Bk (w7.setCell ⟨p, o, none⟩ (.string (bs s))).drew p 9 (tvals (P.set o s)).toArray := (rg_stored (j := o) (H7.out.2.1) s).up (Below.refl _ _).drew
    have o8 : OnS (fun b => b = g ∨ b = p) w (w7.setCell ⟨p, o, none⟩ (.string (bs s))).drew := (H7.out.2.2.cell p o (.string (bs s)) (Or.inr rfl)).drew
    have H8 := hid (And.intro k8 (And.intro m8 o8))
    obtain ⟨r0, r1, r2, r3⟩ := k8.cells
    clear k8 m8 o8 q0' q1' q2' q3' t1 t2 t1' t2' H7
    generalize (w7.setCell ⟨p, o, none⟩ (.string (bs s))).drew = w8 at *
    have HP := hid (fun (w2 : World) (hb : Below w8.heap.size w8 w2) => rgplace_one g p c o w2 (H8.out.1.up hb).cells.1 (H8.out.1.up hb).cells.2.1 hc h5 (by omega) (hid HJ.out))
    go_wp2_with fail
    refine (HP.out _ (Below.refl _ _)).mono ?_
    rintro e w9 ⟨rfl, hb9⟩
    have k9 := H8.out.1.up hb9
    have H9 := hid (And.intro k9 (And.intro (H8.out.2.1.up hb9) (H8.out.2.2.up hb9)))
    obtain ⟨s0, s1, s2, s3⟩ := k9.cells
    have z1 := k9.froz 1
    clear k9 hb9 r0 r1 r2 r3 HP H8
    go_wp2_with fail
    go_returns
    obtain ⟨k9, m9, o9⟩ := H9.out
    obtain ⟨f1, f2, f3⟩ := HH.out
    refine ⟨rfl, ⟨j, P.set o s, ?_, rg_other m9 (Ne.symm f3) _, f1, f3, h5⟩, o9.cell g 1 _ (Or.inl rfl)⟩
    have := k9.set1 j
    simp only [f2]
    exact this
/-- put: a line more. -/
theorem rgput_any (g p c : Nat) (x : Rgs) (s : List UInt8) (w : World) (h : RgH w g p c x) (hn : x.2 + 1 ≤ 1099511627776) :
    Calls Try.prog 30 #[.pointer (some ⟨g, 0, none⟩), .string (bs s)] w fun e w' => RgR w g p c (rgPut c x s) e w' := by
  obtain ⟨L, n⟩ := x
  have hf := h.few.1
  simp only at hf hn
  unfold rgPut
  by_cases hr : L.length < c
  · simp only
    rw [if_neg (by omega)]
    exact put_room g p c L n s w h hr
  · simp only
    rw [if_pos (by omega), Nat.min_eq_left hn]
    rcases Nat.eq_zero_or_pos c with h0 | h0
    · subst h0
      have hL : L = [] := List.eq_nil_of_length_eq_zero (by omega)
      subst hL
      exact put_none g p [] n s w h hn
    · exact put_full g p c L n s w h h0 (by omega) hn
end Go.Proofs.Ytldilhbomilcpaa
