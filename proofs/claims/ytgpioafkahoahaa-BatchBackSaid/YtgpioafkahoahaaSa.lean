import Derived.Test.YtgpioafkahoahaaSp
import Derived.Test.YtgpioafkahoahaaCm
import Derived.Test.YtgpioafkahoahaaIa
import Derived.Test.YtgpioafkahoahaaHa
import Derived.BigQuiet
import Derived.Handy
import Derived.Deep.RegionHeld3
namespace Go.Proofs.Ytgpioafkahoahaa
set_option linter.unusedVariables false
set_option linter.unusedSimpArgs false
open Go.RowKit Go.Joins

/-- A variable that holds a span. -/
def SB (w : World) (g : Nat) (a b c d : Nat) (nm : List UInt8) (st sq kd : Int) (sh : Bool) (x y : Int) : Prop := Blk w g 26 #[.int .u64 (a : Int), .int .u64 (b : Int), .int .u64 (c : Int), .int .u64 (d : Int), .string (bs nm), .int .i64 st, .int .i64 sq, .int .i64 kd, .bool sh, .int .i64 x, .int .i64 y]
section
variable {w w' : World} {g : Nat} {a b c d : Nat} {nm : List UInt8} {st sq kd : Int} {sh : Bool} {x y : Int}
theorem SB.new (w : World) (a b c d : Nat) (nm : List UInt8) (st sq kd : Int) (sh : Bool) (x y : Int) : SB (w.alloc (.cells #[.int .u64 (a : Int), .int .u64 (b : Int), .int .u64 (c : Int), .int .u64 (d : Int), .string (bs nm), .int .i64 st, .int .i64 sq, .int .i64 kd, .bool sh, .int .i64 x, .int .i64 y] 26)) w.heap.size a b c d nm st sq kd sh x y := Blk.new _ _ _
theorem SB.lt (h : SB w g a b c d nm st sq kd sh x y) : g < w.heap.size := Blk.lt h
theorem SB.below (h : SB w g a b c d nm st sq kd sh x y) {B : Nat} (hb : Below B w w') (hg : g < B) : SB w' g a b c d nm st sq kd sh x y := Blk.below h hb hg
theorem SB.up (h : SB w g a b c d nm st sq kd sh x y) (hb : Below w.heap.size w w') : SB w' g a b c d nm st sq kd sh x y := Blk.below h hb (Blk.lt h)
theorem SB.cells (h : SB w g a b c d nm st sq kd sh x y) : w.cell? ⟨g, 0, none⟩ = some (.int .u64 (a : Int)) ∧ w.cell? ⟨g, 1, none⟩ = some (.int .u64 (b : Int)) ∧ w.cell? ⟨g, 2, none⟩ = some (.int .u64 (c : Int)) ∧ w.cell? ⟨g, 3, none⟩ = some (.int .u64 (d : Int)) ∧ w.cell? ⟨g, 4, none⟩ = some (.string (bs nm)) ∧ w.cell? ⟨g, 5, none⟩ = some (.int .i64 st) ∧ w.cell? ⟨g, 6, none⟩ = some (.int .i64 sq) ∧ w.cell? ⟨g, 7, none⟩ = some (.int .i64 kd) ∧ w.cell? ⟨g, 8, none⟩ = some (.bool sh) ∧ w.cell? ⟨g, 9, none⟩ = some (.int .i64 x) ∧ w.cell? ⟨g, 10, none⟩ = some (.int .i64 y) :=
  ⟨Blk.cell h 0, Blk.cell h 1, Blk.cell h 2, Blk.cell h 3, Blk.cell h 4, Blk.cell h 5, Blk.cell h 6, Blk.cell h 7, Blk.cell h 8, Blk.cell h 9, Blk.cell h 10⟩
end
theorem sbelow_new (w : World) (o : Obj) : Below w.heap.size w (w.alloc o) := (Below.refl _ _).alloc (Nat.le_refl _) _
theorem sbelow_step {a b c : World} (h : Below a.heap.size a b) (k : Below b.heap.size b c) : Below a.heap.size a c := h.trans (k.mono h.size)
theorem snot (x : Bool) (w : World) : (Op.unary .not (.bool x)).run Try.prog w = .ok (.bool (!x)) w := rfl
theorem szero_at (a b : Nat) (w : World) {z : Bool} (H : Hid (decide (a = 0 ∧ b = 0) = z)) :
    Calls Try.prog 40 #[.agg #[.int .u64 a, .int .u64 b]] w fun e w' => e = .returned (.bool z) ∧ Below w.heap.size w w' :=
  (zero_any a b w).mono fun e w' ⟨h1, h2⟩ => ⟨by rw [← H.out]; exact h1, by rw [h2]; exact sbelow_new _ _⟩
theorem srzero_at (a b : Nat) (w : World) {z : Bool} (H : Hid (decide (a = 0 ∧ b = 0) = z)) :
    Calls Try.prog 43 #[.agg #[.int .u64 a, .int .u64 b]] w fun e w' => e = .returned (.bool z) ∧ Below w.heap.size w w' :=
  (rzero_any a b w).mono fun e w' ⟨h1, h2⟩ => ⟨by rw [← H.out]; exact h1, h2⟩
theorem sname_at (l : List UInt8) (w : World) (hs : l.length ≤ 140737488351232) {z : Bool} (H : Hid (nameB l = z)) :
    Calls Try.prog 41 #[.string (bs l)] w fun e w' => e = .returned (.bool z) ∧ w = w' :=
  (hname_any l w hs).mono fun e w' ⟨h1, h2⟩ => ⟨by rw [← H.out]; exact h1, h2⟩
theorem srname_at (l : List UInt8) (w : World) (hs : l.length ≤ 140737488351232) {z : Bool} (H : Hid (nameB l = z)) :
    Calls Try.prog 44 #[.string (bs l)] w fun e w' => e = .returned (.bool z) ∧ w = w' :=
  (rname_any l w hs).mono fun e w' ⟨h1, h2⟩ => ⟨by rw [← H.out]; exact h1, h2⟩
theorem within_any (n p q : Int) (w : World) :
    Calls Try.prog 67 #[.int .i64 n, .int .i64 p, .int .i64 q] w fun e w' => e = .returned (.bool (decide (p ≤ n ∧ n ≤ q))) ∧ w = w' := by
  by_cases h1 : p ≤ n
  all_goals by_cases h2 : n ≤ q
  all_goals
    go_enter Try.func67, Try.ntmps67
    go_wp2_with fail
    go_ret
    exact ⟨by simp [h1, h2], rfl⟩
theorem within_at (n p q : Int) (w : World) {z : Bool} (H : Hid (decide (p ≤ n ∧ n ≤ q) = z)) :
    Calls Try.prog 67 #[.int .i64 n, .int .i64 p, .int .i64 q] w fun e w' => e = .returned (.bool z) ∧ w = w' :=
  (within_any n p q w).mono fun e w' ⟨h1, h2⟩ => ⟨by rw [← H.out]; exact h1, h2⟩
theorem rngS_eq (a b c d : Nat) (nm : List UInt8) (st sq kd : Int) (sh : Bool) (x y : Int) : rngS ⟨a, b, c, d, nm, st, sq, kd, sh, x, y⟩ = (decide (0 ≤ st ∧ st ≤ 599) && (decide (0 ≤ sq ∧ sq ≤ 63) && (decide (0 ≤ kd ∧ kd ≤ 64) && (decide (0 ≤ x ∧ x ≤ 1099511627776) && decide (x ≤ y ∧ y ≤ 1099511627776))))) := by
  rw [rngS, Bool.eq_iff_iff]; simp; omega
set_option maxHeartbeats 1600000 in
theorem inranges_any (a b c d : Nat) (nm : List UInt8) (st sq kd : Int) (sh : Bool) (x y : Int) (w : World) :
    Calls Try.prog 42 #[.agg #[.int .u64 (a : Int), .int .u64 (b : Int), .int .u64 (c : Int), .int .u64 (d : Int), .string (bs nm), .int .i64 st, .int .i64 sq, .int .i64 kd, .bool sh, .int .i64 x, .int .i64 y]] w fun e w' => e = .returned (.bool (rngS ⟨a, b, c, d, nm, st, sq, kd, sh, x, y⟩)) ∧ Below w.heap.size w w' := by
  have HR := hid (rngS_eq a b c d nm st sq kd sh x y)
  have hb0 := sbelow_new w (.cells #[.int .u64 (a : Int), .int .u64 (b : Int), .int .u64 (c : Int), .int .u64 (d : Int), .string (bs nm), .int .i64 st, .int .i64 sq, .int .i64 kd, .bool sh, .int .i64 x, .int .i64 y] 26)
  have hs0 := SB.new w a b c d nm st sq kd sh x y
  cases h0 : decide (0 ≤ st ∧ st ≤ 599)
  · have H0 := hid h0
    clear h0
    go_enter Try.func42, Try.ntmps42
    go_wp2_with fail
    generalize w.alloc (.cells #[.int .u64 (a : Int), .int .u64 (b : Int), .int .u64 (c : Int), .int .u64 (d : Int), .string (bs nm), .int .i64 st, .int .i64 sq, .int .i64 kd, .bool sh, .int .i64 x, .int .i64 y] 26) = v0 at *
    obtain ⟨k0, k1, k2, k3, k4, k5, k6, k7, k8, k9, k10⟩ := hs0.cells
    refine (within_at _ _ _ _ H0).mono ?_
    rintro e w' ⟨rfl, rfl⟩
    go_wp2_with fail
    go_ret
    exact ⟨by rw [HR.out, H0.out]; simp, hb0⟩
  have H0 := hid h0
  clear h0
  cases h1 : decide (0 ≤ sq ∧ sq ≤ 63)
  · have H1 := hid h1
    clear h1
    go_enter Try.func42, Try.ntmps42
    go_wp2_with fail
    generalize w.alloc (.cells #[.int .u64 (a : Int), .int .u64 (b : Int), .int .u64 (c : Int), .int .u64 (d : Int), .string (bs nm), .int .i64 st, .int .i64 sq, .int .i64 kd, .bool sh, .int .i64 x, .int .i64 y] 26) = v0 at *
    obtain ⟨k0, k1, k2, k3, k4, k5, k6, k7, k8, k9, k10⟩ := hs0.cells
    refine (within_at _ _ _ _ H0).mono ?_
    rintro e w' ⟨rfl, rfl⟩
    go_wp2_with fail
    refine (within_at _ _ _ _ H1).mono ?_
    rintro e w' ⟨rfl, rfl⟩
    go_wp2_with fail
    go_ret
    exact ⟨by rw [HR.out, H0.out, H1.out]; simp, hb0⟩
  have H1 := hid h1
  clear h1
  cases h2 : decide (0 ≤ kd ∧ kd ≤ 64)
  · have H2 := hid h2
    clear h2
    go_enter Try.func42, Try.ntmps42
    go_wp2_with fail
    generalize w.alloc (.cells #[.int .u64 (a : Int), .int .u64 (b : Int), .int .u64 (c : Int), .int .u64 (d : Int), .string (bs nm), .int .i64 st, .int .i64 sq, .int .i64 kd, .bool sh, .int .i64 x, .int .i64 y] 26) = v0 at *
    obtain ⟨k0, k1, k2, k3, k4, k5, k6, k7, k8, k9, k10⟩ := hs0.cells
    refine (within_at _ _ _ _ H0).mono ?_
    rintro e w' ⟨rfl, rfl⟩
    go_wp2_with fail
    refine (within_at _ _ _ _ H1).mono ?_
    rintro e w' ⟨rfl, rfl⟩
    go_wp2_with fail
    refine (within_at _ _ _ _ H2).mono ?_
    rintro e w' ⟨rfl, rfl⟩
    go_wp2_with fail
    go_ret
    exact ⟨by rw [HR.out, H0.out, H1.out, H2.out]; simp, hb0⟩
  have H2 := hid h2
  clear h2
  cases h3 : decide (0 ≤ x ∧ x ≤ 1099511627776)
  · have H3 := hid h3
    clear h3
    go_enter Try.func42, Try.ntmps42
    go_wp2_with fail
    generalize w.alloc (.cells #[.int .u64 (a : Int), .int .u64 (b : Int), .int .u64 (c : Int), .int .u64 (d : Int), .string (bs nm), .int .i64 st, .int .i64 sq, .int .i64 kd, .bool sh, .int .i64 x, .int .i64 y] 26) = v0 at *
    obtain ⟨k0, k1, k2, k3, k4, k5, k6, k7, k8, k9, k10⟩ := hs0.cells
    refine (within_at _ _ _ _ H0).mono ?_
    rintro e w' ⟨rfl, rfl⟩
    go_wp2_with fail
    refine (within_at _ _ _ _ H1).mono ?_
    rintro e w' ⟨rfl, rfl⟩
    go_wp2_with fail
    refine (within_at _ _ _ _ H2).mono ?_
    rintro e w' ⟨rfl, rfl⟩
    go_wp2_with fail
    refine (within_at _ _ _ _ H3).mono ?_
    rintro e w' ⟨rfl, rfl⟩
    go_wp2_with fail
    go_ret
    exact ⟨by rw [HR.out, H0.out, H1.out, H2.out, H3.out]; simp, hb0⟩
  have H3 := hid h3
  clear h3
  cases h4 : decide (x ≤ y ∧ y ≤ 1099511627776)
  · have H4 := hid h4
    clear h4
    go_enter Try.func42, Try.ntmps42
    go_wp2_with fail
    generalize w.alloc (.cells #[.int .u64 (a : Int), .int .u64 (b : Int), .int .u64 (c : Int), .int .u64 (d : Int), .string (bs nm), .int .i64 st, .int .i64 sq, .int .i64 kd, .bool sh, .int .i64 x, .int .i64 y] 26) = v0 at *
    obtain ⟨k0, k1, k2, k3, k4, k5, k6, k7, k8, k9, k10⟩ := hs0.cells
    refine (within_at _ _ _ _ H0).mono ?_
    rintro e w' ⟨rfl, rfl⟩
    go_wp2_with fail
    refine (within_at _ _ _ _ H1).mono ?_
    rintro e w' ⟨rfl, rfl⟩
    go_wp2_with fail
    refine (within_at _ _ _ _ H2).mono ?_
    rintro e w' ⟨rfl, rfl⟩
    go_wp2_with fail
    refine (within_at _ _ _ _ H3).mono ?_
    rintro e w' ⟨rfl, rfl⟩
    go_wp2_with fail
    refine (within_at _ _ _ _ H4).mono ?_
    rintro e w' ⟨rfl, rfl⟩
    go_wp2_with fail
    go_ret
    exact ⟨by rw [HR.out, H0.out, H1.out, H2.out, H3.out, H4.out]; simp, hb0⟩
  have H4 := hid h4
  clear h4
  go_enter Try.func42, Try.ntmps42
  go_wp2_with fail
  generalize w.alloc (.cells #[.int .u64 (a : Int), .int .u64 (b : Int), .int .u64 (c : Int), .int .u64 (d : Int), .string (bs nm), .int .i64 st, .int .i64 sq, .int .i64 kd, .bool sh, .int .i64 x, .int .i64 y] 26) = v0 at *
  obtain ⟨k0, k1, k2, k3, k4, k5, k6, k7, k8, k9, k10⟩ := hs0.cells
  refine (within_at _ _ _ _ H0).mono ?_
  rintro e w' ⟨rfl, rfl⟩
  go_wp2_with fail
  refine (within_at _ _ _ _ H1).mono ?_
  rintro e w' ⟨rfl, rfl⟩
  go_wp2_with fail
  refine (within_at _ _ _ _ H2).mono ?_
  rintro e w' ⟨rfl, rfl⟩
  go_wp2_with fail
  refine (within_at _ _ _ _ H3).mono ?_
  rintro e w' ⟨rfl, rfl⟩
  go_wp2_with fail
  refine (within_at _ _ _ _ H4).mono ?_
  rintro e w' ⟨rfl, rfl⟩
  go_wp2_with fail
  go_ret
  exact ⟨by rw [HR.out, H0.out, H1.out, H2.out, H3.out, H4.out]; rfl, hb0⟩
theorem ret_i64 {p q : Int} (h : p = q) : Ending.returned (.int .i64 p) = .returned (.int .i64 q) := by rw [h]
theorem inranges_at (a b c d : Nat) (nm : List UInt8) (st sq kd : Int) (sh : Bool) (x y : Int) (w : World) {z : Bool} (H : Hid (rngS ⟨a, b, c, d, nm, st, sq, kd, sh, x, y⟩ = z)) :
    Calls Try.prog 42 #[.agg #[.int .u64 (a : Int), .int .u64 (b : Int), .int .u64 (c : Int), .int .u64 (d : Int), .string (bs nm), .int .i64 st, .int .i64 sq, .int .i64 kd, .bool sh, .int .i64 x, .int .i64 y]] w fun e w' => e = .returned (.bool z) ∧ Below w.heap.size w w' :=
  (inranges_any a b c d nm st sq kd sh x y w).mono fun e w' ⟨h1, h2⟩ => ⟨by rw [← H.out]; exact h1, h2⟩
set_option maxHeartbeats 3200000 in
theorem spcheck_any (a b c d : Nat) (nm : List UInt8) (st sq kd : Int) (sh : Bool) (x y : Int) (w : World) (hs : nm.length ≤ 140737488351232) :
    Calls Try.prog 13 #[.agg #[.int .u64 (a : Int), .int .u64 (b : Int), .int .u64 (c : Int), .int .u64 (d : Int), .string (bs nm), .int .i64 st, .int .i64 sq, .int .i64 kd, .bool sh, .int .i64 x, .int .i64 y]] w fun e w' => e = .returned (.int .i64 (chkS ⟨a, b, c, d, nm, st, sq, kd, sh, x, y⟩)) ∧ Below w.heap.size w w' := by
  have HC := hid (show chkS ⟨a, b, c, d, nm, st, sq, kd, sh, x, y⟩ = if (a = 0 ∧ b = 0) ∨ c = 0 then 11 else if nameB nm = false then 7 else if rngS ⟨a, b, c, d, nm, st, sq, kd, sh, x, y⟩ = false then 12 else 0 from rfl)
  have hb0 := sbelow_new w (.cells #[.int .u64 (a : Int), .int .u64 (b : Int), .int .u64 (c : Int), .int .u64 (d : Int), .string (bs nm), .int .i64 st, .int .i64 sq, .int .i64 kd, .bool sh, .int .i64 x, .int .i64 y] 26)
  have hs0 := SB.new w a b c d nm st sq kd sh x y
  have hnot := snot
  cases hz : decide (a = 0 ∧ b = 0)
  rotate_left
  · have HZ := hid hz
    have HZC := hid (show (a = 0 ∧ b = 0) ∨ c = 0 from Or.inl (by simpa using hz))
    clear hz
    go_enter Try.func13, Try.ntmps13
    go_wp2_with fail
    generalize w.alloc (.cells #[.int .u64 (a : Int), .int .u64 (b : Int), .int .u64 (c : Int), .int .u64 (d : Int), .string (bs nm), .int .i64 st, .int .i64 sq, .int .i64 kd, .bool sh, .int .i64 x, .int .i64 y] 26) = v0 at *
    obtain ⟨k0, k1, k2, k3, k4, k5, k6, k7, k8, k9, k10⟩ := hs0.cells
    refine (szero_at a b _ HZ).mono ?_
    rintro e w1 ⟨rfl, hb1⟩
    have hs1 := hs0.up hb1
    have hb1 := sbelow_step hb0 hb1
    clear k0 k1 k2 k3 k4 k5 k6 k7 k8 k9 k10 hs0 hb0
    obtain ⟨k0, k1, k2, k3, k4, k5, k6, k7, k8, k9, k10⟩ := hs1.cells
    go_wp2_with fail
    go_ret
    exact ⟨by rw [HC.out, if_pos HZC.out]; rfl, hb1⟩
  have HZ := hid hz
  have hz' : ¬ (a = 0 ∧ b = 0) := by simpa using hz
  clear hz
  by_cases hc : c = 0
  · have HZC := hid (show (a = 0 ∧ b = 0) ∨ c = 0 from Or.inr hc)
    have hcb : ((c : Int) == 0) = true := by simp [hc]
    clear hc hz'
    go_enter Try.func13, Try.ntmps13
    go_wp2_with fail
    generalize w.alloc (.cells #[.int .u64 (a : Int), .int .u64 (b : Int), .int .u64 (c : Int), .int .u64 (d : Int), .string (bs nm), .int .i64 st, .int .i64 sq, .int .i64 kd, .bool sh, .int .i64 x, .int .i64 y] 26) = v0 at *
    obtain ⟨k0, k1, k2, k3, k4, k5, k6, k7, k8, k9, k10⟩ := hs0.cells
    refine (szero_at a b _ HZ).mono ?_
    rintro e w1 ⟨rfl, hb1⟩
    have hs1 := hs0.up hb1
    have hb1 := sbelow_step hb0 hb1
    clear k0 k1 k2 k3 k4 k5 k6 k7 k8 k9 k10 hs0 hb0
    obtain ⟨k0, k1, k2, k3, k4, k5, k6, k7, k8, k9, k10⟩ := hs1.cells
    go_wp2_with fail
    go_ret
    exact ⟨by rw [HC.out, if_pos HZC.out]; rfl, hb1⟩
  have HZC := hid (show ¬ ((a = 0 ∧ b = 0) ∨ c = 0) from fun h => h.elim hz' hc)
  have hcb : ((c : Int) == 0) = false := by simp [hc]
  clear hc hz'
  cases hn : nameB nm
  · have HN := hid hn
    clear hn
    go_enter Try.func13, Try.ntmps13
    go_wp2_with fail
    generalize w.alloc (.cells #[.int .u64 (a : Int), .int .u64 (b : Int), .int .u64 (c : Int), .int .u64 (d : Int), .string (bs nm), .int .i64 st, .int .i64 sq, .int .i64 kd, .bool sh, .int .i64 x, .int .i64 y] 26) = v0 at *
    obtain ⟨k0, k1, k2, k3, k4, k5, k6, k7, k8, k9, k10⟩ := hs0.cells
    refine (szero_at a b _ HZ).mono ?_
    rintro e w1 ⟨rfl, hb1⟩
    have hs1 := hs0.up hb1
    have hb1 := sbelow_step hb0 hb1
    clear k0 k1 k2 k3 k4 k5 k6 k7 k8 k9 k10 hs0 hb0
    obtain ⟨k0, k1, k2, k3, k4, k5, k6, k7, k8, k9, k10⟩ := hs1.cells
    go_wp2_with fail
    refine (sname_at nm _ hs HN).mono ?_
    rintro e w2 ⟨rfl, rfl⟩
    go_wp2_with fail
    go_ret
    exact ⟨by rw [HC.out, if_neg HZC.out, if_pos HN.out]; rfl, hb1⟩
  have HN := hid hn
  clear hn
  cases hr : rngS ⟨a, b, c, d, nm, st, sq, kd, sh, x, y⟩
  · have HRG := hid hr
    clear hr
    go_enter Try.func13, Try.ntmps13
    go_wp2_with fail
    generalize w.alloc (.cells #[.int .u64 (a : Int), .int .u64 (b : Int), .int .u64 (c : Int), .int .u64 (d : Int), .string (bs nm), .int .i64 st, .int .i64 sq, .int .i64 kd, .bool sh, .int .i64 x, .int .i64 y] 26) = v0 at *
    obtain ⟨k0, k1, k2, k3, k4, k5, k6, k7, k8, k9, k10⟩ := hs0.cells
    refine (szero_at a b _ HZ).mono ?_
    rintro e w1 ⟨rfl, hb1⟩
    have hs1 := hs0.up hb1
    have hb1 := sbelow_step hb0 hb1
    clear k0 k1 k2 k3 k4 k5 k6 k7 k8 k9 k10 hs0 hb0
    obtain ⟨k0, k1, k2, k3, k4, k5, k6, k7, k8, k9, k10⟩ := hs1.cells
    go_wp2_with fail
    refine (sname_at nm _ hs HN).mono ?_
    rintro e w2 ⟨rfl, rfl⟩
    go_wp2_with fail
    refine (inranges_at a b c d nm st sq kd sh x y _ HRG).mono ?_
    rintro e w2 ⟨rfl, hb2⟩
    go_wp2_with fail
    go_ret
    exact ⟨by rw [HC.out, if_neg HZC.out, if_neg (by rw [HN.out]; simp), if_pos HRG.out]; rfl, sbelow_step hb1 hb2⟩
  have HRG := hid hr
  clear hr
  go_enter Try.func13, Try.ntmps13
  go_wp2_with fail
  generalize w.alloc (.cells #[.int .u64 (a : Int), .int .u64 (b : Int), .int .u64 (c : Int), .int .u64 (d : Int), .string (bs nm), .int .i64 st, .int .i64 sq, .int .i64 kd, .bool sh, .int .i64 x, .int .i64 y] 26) = v0 at *
  obtain ⟨k0, k1, k2, k3, k4, k5, k6, k7, k8, k9, k10⟩ := hs0.cells
  refine (szero_at a b _ HZ).mono ?_
  rintro e w1 ⟨rfl, hb1⟩
  have hs1 := hs0.up hb1
  have hb1 := sbelow_step hb0 hb1
  clear k0 k1 k2 k3 k4 k5 k6 k7 k8 k9 k10 hs0 hb0
  obtain ⟨k0, k1, k2, k3, k4, k5, k6, k7, k8, k9, k10⟩ := hs1.cells
  go_wp2_with fail
  refine (sname_at nm _ hs HN).mono ?_
  rintro e w2 ⟨rfl, rfl⟩
  go_wp2_with fail
  refine (inranges_at a b c d nm st sq kd sh x y _ HRG).mono ?_
  rintro e w2 ⟨rfl, hb2⟩
  go_wp2_with fail
  go_ret
  exact ⟨by rw [HC.out, if_neg HZC.out, if_neg (by rw [HN.out]; simp), if_neg (by rw [HRG.out]; simp)]; rfl, sbelow_step hb1 hb2⟩
theorem spcheck_at (a b c d : Nat) (nm : List UInt8) (st sq kd : Int) (sh : Bool) (x y : Int) (w : World) (hs : nm.length ≤ 140737488351232) {r : Int} (H : Hid (chkS ⟨a, b, c, d, nm, st, sq, kd, sh, x, y⟩ = r)) :
    Calls Try.prog 13 #[.agg #[.int .u64 (a : Int), .int .u64 (b : Int), .int .u64 (c : Int), .int .u64 (d : Int), .string (bs nm), .int .i64 st, .int .i64 sq, .int .i64 kd, .bool sh, .int .i64 x, .int .i64 y]] w fun e w' => e = .returned (.int .i64 r) ∧ Below w.heap.size w w' :=
  (spcheck_any a b c d nm st sq kd sh x y w hs).mono fun e w' ⟨h1, h2⟩ => ⟨by rw [← H.out]; exact h1, h2⟩
set_option maxHeartbeats 3200000 in
theorem rspcheck_any (a b c d : Nat) (nm : List UInt8) (st sq kd : Int) (sh : Bool) (x y : Int) (w : World) (hs : nm.length ≤ 140737488351232) :
    Calls Try.prog 14 #[.agg #[.int .u64 (a : Int), .int .u64 (b : Int), .int .u64 (c : Int), .int .u64 (d : Int), .string (bs nm), .int .i64 st, .int .i64 sq, .int .i64 kd, .bool sh, .int .i64 x, .int .i64 y]] w fun e w' => e = .returned (.int .i64 (chkS ⟨a, b, c, d, nm, st, sq, kd, sh, x, y⟩)) ∧ Below w.heap.size w w' := by
  have HC := hid (show chkS ⟨a, b, c, d, nm, st, sq, kd, sh, x, y⟩ = if (a = 0 ∧ b = 0) ∨ c = 0 then 11 else if nameB nm = false then 7 else if rngS ⟨a, b, c, d, nm, st, sq, kd, sh, x, y⟩ = false then 12 else 0 from rfl)
  have hb0 := sbelow_new w (.cells #[.int .u64 (a : Int), .int .u64 (b : Int), .int .u64 (c : Int), .int .u64 (d : Int), .string (bs nm), .int .i64 st, .int .i64 sq, .int .i64 kd, .bool sh, .int .i64 x, .int .i64 y] 26)
  have hs0 := SB.new w a b c d nm st sq kd sh x y
  have hnot := snot
  cases hz : decide (a = 0 ∧ b = 0)
  rotate_left
  · have HZ := hid hz
    have HZC := hid (show (a = 0 ∧ b = 0) ∨ c = 0 from Or.inl (by simpa using hz))
    clear hz
    go_enter Try.func14, Try.ntmps14
    go_wp2_with fail
    generalize w.alloc (.cells #[.int .u64 (a : Int), .int .u64 (b : Int), .int .u64 (c : Int), .int .u64 (d : Int), .string (bs nm), .int .i64 st, .int .i64 sq, .int .i64 kd, .bool sh, .int .i64 x, .int .i64 y] 26) = v0 at *
    obtain ⟨k0, k1, k2, k3, k4, k5, k6, k7, k8, k9, k10⟩ := hs0.cells
    refine (srzero_at a b _ HZ).mono ?_
    rintro e w1 ⟨rfl, hb1⟩
    have hs1 := hs0.up hb1
    have hb1 := sbelow_step hb0 hb1
    clear k0 k1 k2 k3 k4 k5 k6 k7 k8 k9 k10 hs0 hb0
    obtain ⟨k0, k1, k2, k3, k4, k5, k6, k7, k8, k9, k10⟩ := hs1.cells
    go_wp2_with fail
    go_ret
    exact ⟨by rw [HC.out, if_pos HZC.out]; rfl, hb1⟩
  have HZ := hid hz
  have hz' : ¬ (a = 0 ∧ b = 0) := by simpa using hz
  clear hz
  by_cases hc : c = 0
  · have HZC := hid (show (a = 0 ∧ b = 0) ∨ c = 0 from Or.inr hc)
    have hcb : ((c : Int) == 0) = true := by simp [hc]
    clear hc hz'
    go_enter Try.func14, Try.ntmps14
    go_wp2_with fail
    generalize w.alloc (.cells #[.int .u64 (a : Int), .int .u64 (b : Int), .int .u64 (c : Int), .int .u64 (d : Int), .string (bs nm), .int .i64 st, .int .i64 sq, .int .i64 kd, .bool sh, .int .i64 x, .int .i64 y] 26) = v0 at *
    obtain ⟨k0, k1, k2, k3, k4, k5, k6, k7, k8, k9, k10⟩ := hs0.cells
    refine (srzero_at a b _ HZ).mono ?_
    rintro e w1 ⟨rfl, hb1⟩
    have hs1 := hs0.up hb1
    have hb1 := sbelow_step hb0 hb1
    clear k0 k1 k2 k3 k4 k5 k6 k7 k8 k9 k10 hs0 hb0
    obtain ⟨k0, k1, k2, k3, k4, k5, k6, k7, k8, k9, k10⟩ := hs1.cells
    go_wp2_with fail
    go_ret
    exact ⟨by rw [HC.out, if_pos HZC.out]; rfl, hb1⟩
  have HZC := hid (show ¬ ((a = 0 ∧ b = 0) ∨ c = 0) from fun h => h.elim hz' hc)
  have hcb : ((c : Int) == 0) = false := by simp [hc]
  clear hc hz'
  cases hn : nameB nm
  · have HN := hid hn
    clear hn
    go_enter Try.func14, Try.ntmps14
    go_wp2_with fail
    generalize w.alloc (.cells #[.int .u64 (a : Int), .int .u64 (b : Int), .int .u64 (c : Int), .int .u64 (d : Int), .string (bs nm), .int .i64 st, .int .i64 sq, .int .i64 kd, .bool sh, .int .i64 x, .int .i64 y] 26) = v0 at *
    obtain ⟨k0, k1, k2, k3, k4, k5, k6, k7, k8, k9, k10⟩ := hs0.cells
    refine (srzero_at a b _ HZ).mono ?_
    rintro e w1 ⟨rfl, hb1⟩
    have hs1 := hs0.up hb1
    have hb1 := sbelow_step hb0 hb1
    clear k0 k1 k2 k3 k4 k5 k6 k7 k8 k9 k10 hs0 hb0
    obtain ⟨k0, k1, k2, k3, k4, k5, k6, k7, k8, k9, k10⟩ := hs1.cells
    go_wp2_with fail
    refine (srname_at nm _ hs HN).mono ?_
    rintro e w2 ⟨rfl, rfl⟩
    go_wp2_with fail
    go_ret
    exact ⟨by rw [HC.out, if_neg HZC.out, if_pos HN.out]; rfl, hb1⟩
  have HN := hid hn
  clear hn
  go_enter Try.func14, Try.ntmps14
  go_wp2_with fail
  generalize w.alloc (.cells #[.int .u64 (a : Int), .int .u64 (b : Int), .int .u64 (c : Int), .int .u64 (d : Int), .string (bs nm), .int .i64 st, .int .i64 sq, .int .i64 kd, .bool sh, .int .i64 x, .int .i64 y] 26) = v0 at *
  obtain ⟨k0, k1, k2, k3, k4, k5, k6, k7, k8, k9, k10⟩ := hs0.cells
  refine (srzero_at a b _ HZ).mono ?_
  rintro e w1 ⟨rfl, hb1⟩
  have hs1 := hs0.up hb1
  have hb1 := sbelow_step hb0 hb1
  clear k0 k1 k2 k3 k4 k5 k6 k7 k8 k9 k10 hs0 hb0
  obtain ⟨k0, k1, k2, k3, k4, k5, k6, k7, k8, k9, k10⟩ := hs1.cells
  go_wp2_with fail
  refine (srname_at nm _ hs HN).mono ?_
  rintro e w2 ⟨rfl, rfl⟩
  go_wp2_with fail
  all_goals
    go_ret
    refine ⟨ret_i64 ?_, hb1⟩
    rw [HC.out, if_neg HZC.out, if_neg (by rw [HN.out]; simp)]
    rw [rngS]
    first
      | (rw [if_neg (by simp; omega)]; done)
      | (rw [if_pos (by simp; omega)]; done)
theorem rspcheck_at (a b c d : Nat) (nm : List UInt8) (st sq kd : Int) (sh : Bool) (x y : Int) (w : World) (hs : nm.length ≤ 140737488351232) {r : Int} (H : Hid (chkS ⟨a, b, c, d, nm, st, sq, kd, sh, x, y⟩ = r)) :
    Calls Try.prog 14 #[.agg #[.int .u64 (a : Int), .int .u64 (b : Int), .int .u64 (c : Int), .int .u64 (d : Int), .string (bs nm), .int .i64 st, .int .i64 sq, .int .i64 kd, .bool sh, .int .i64 x, .int .i64 y]] w fun e w' => e = .returned (.int .i64 r) ∧ Below w.heap.size w w' :=
  (rspcheck_any a b c d nm st sq kd sh x y w hs).mono fun e w' ⟨h1, h2⟩ => ⟨by rw [← H.out]; exact h1, h2⟩
end Go.Proofs.Ytgpioafkahoahaa
