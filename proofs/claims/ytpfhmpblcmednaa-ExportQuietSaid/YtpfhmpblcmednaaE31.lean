/- Texts put together: Sa Sd Se Sb Sc. -/
import Derived.Test.YtpfhmpblcmednaaE02
import Derived.Test.YtpfhmpblcmednaaE29
import Derived.Test.YtpfhmpblcmednaaE30
import Derived.Test.YtpfhmpblcmednaaE06
import Derived.BigQuiet
import Derived.Handy
import Derived.Deep.RegionHeld3
namespace Go.Proofs.Ytpfhmpblcmednaa
set_option linter.unusedVariables false
set_option linter.unusedSimpArgs false
open Go.RowKit Go.Joins

/-- A variable that holds a span. -/
def SB (w : World) (g : Nat) (a b c d : Nat) (nm : List UInt8) (st sq kd : Int) (sh : Bool) (x y : Int) : Prop := Blk w g 37 #[.int .u64 (a : Int), .int .u64 (b : Int), .int .u64 (c : Int), .int .u64 (d : Int), .string (bs nm), .int .i64 st, .int .i64 sq, .int .i64 kd, .bool sh, .int .i64 x, .int .i64 y]
section
variable {w w' : World} {g : Nat} {a b c d : Nat} {nm : List UInt8} {st sq kd : Int} {sh : Bool} {x y : Int}
theorem SB.new (w : World) (a b c d : Nat) (nm : List UInt8) (st sq kd : Int) (sh : Bool) (x y : Int) : SB (w.alloc (.cells #[.int .u64 (a : Int), .int .u64 (b : Int), .int .u64 (c : Int), .int .u64 (d : Int), .string (bs nm), .int .i64 st, .int .i64 sq, .int .i64 kd, .bool sh, .int .i64 x, .int .i64 y] 37)) w.heap.size a b c d nm st sq kd sh x y := Blk.new _ _ _
theorem SB.lt (h : SB w g a b c d nm st sq kd sh x y) : g < w.heap.size := Blk.lt h
theorem SB.below (h : SB w g a b c d nm st sq kd sh x y) {B : Nat} (hb : Below B w w') (hg : g < B) : SB w' g a b c d nm st sq kd sh x y := Blk.below h hb hg
theorem SB.up (h : SB w g a b c d nm st sq kd sh x y) (hb : Below w.heap.size w w') : SB w' g a b c d nm st sq kd sh x y := Blk.below h hb (Blk.lt h)
theorem SB.cells (h : SB w g a b c d nm st sq kd sh x y) : w.cell? ⟨g, 0, none⟩ = some (.int .u64 (a : Int)) ∧ w.cell? ⟨g, 1, none⟩ = some (.int .u64 (b : Int)) ∧ w.cell? ⟨g, 2, none⟩ = some (.int .u64 (c : Int)) ∧ w.cell? ⟨g, 3, none⟩ = some (.int .u64 (d : Int)) ∧ w.cell? ⟨g, 4, none⟩ = some (.string (bs nm)) ∧ w.cell? ⟨g, 5, none⟩ = some (.int .i64 st) ∧ w.cell? ⟨g, 6, none⟩ = some (.int .i64 sq) ∧ w.cell? ⟨g, 7, none⟩ = some (.int .i64 kd) ∧ w.cell? ⟨g, 8, none⟩ = some (.bool sh) ∧ w.cell? ⟨g, 9, none⟩ = some (.int .i64 x) ∧ w.cell? ⟨g, 10, none⟩ = some (.int .i64 y) :=
  ⟨Blk.cell h 0, Blk.cell h 1, Blk.cell h 2, Blk.cell h 3, Blk.cell h 4, Blk.cell h 5, Blk.cell h 6, Blk.cell h 7, Blk.cell h 8, Blk.cell h 9, Blk.cell h 10⟩
end
theorem sbelow_new (w : World) (o : Obj) : Below w.heap.size w (w.alloc o) := (Below.refl _ _).alloc (Nat.le_refl _) _
theorem sbelow_step {a b c : World} (h : Below a.heap.size a b) (k : Below b.heap.size b c) : Below a.heap.size a c := h.trans (k.mono h.size)
theorem snot (x : Bool) (w : World) : (Op.unary .not (.bool x)).run Try.prog w = .ok (.bool (!x)) w := rfl
theorem szero_at (a b : Nat) (w : World) {z : Bool} (H : Hid (decide (a = 0 ∧ b = 0) = z)) :
    Calls Try.prog 83 #[.agg #[.int .u64 a, .int .u64 b]] w fun e w' => e = .returned (.bool z) ∧ Below w.heap.size w w' :=
  (zero_any a b w).mono fun e w' ⟨h1, h2⟩ => ⟨by rw [← H.out]; exact h1, by rw [h2]; exact sbelow_new _ _⟩
theorem srzero_at (a b : Nat) (w : World) {z : Bool} (H : Hid (decide (a = 0 ∧ b = 0) = z)) :
    Calls Try.prog 48 #[.agg #[.int .u64 a, .int .u64 b]] w fun e w' => e = .returned (.bool z) ∧ Below w.heap.size w w' :=
  (rzero_any a b w).mono fun e w' ⟨h1, h2⟩ => ⟨by rw [← H.out]; exact h1, h2⟩
theorem sname_at (l : List UInt8) (w : World) (hs : l.length ≤ 140737488351232) {z : Bool} (H : Hid (nameB l = z)) :
    Calls Try.prog 84 #[.string (bs l)] w fun e w' => e = .returned (.bool z) ∧ w = w' :=
  (hname_any l w hs).mono fun e w' ⟨h1, h2⟩ => ⟨by rw [← H.out]; exact h1, h2⟩
theorem srname_at (l : List UInt8) (w : World) (hs : l.length ≤ 140737488351232) {z : Bool} (H : Hid (nameB l = z)) :
    Calls Try.prog 49 #[.string (bs l)] w fun e w' => e = .returned (.bool z) ∧ w = w' :=
  (rname_any l w hs).mono fun e w' ⟨h1, h2⟩ => ⟨by rw [← H.out]; exact h1, h2⟩
theorem spwithin_any (n p q : Int) (w : World) :
    Calls Try.prog 121 #[.int .i64 n, .int .i64 p, .int .i64 q] w fun e w' => e = .returned (.bool (decide (p ≤ n ∧ n ≤ q))) ∧ w = w' := by
  by_cases h1 : p ≤ n
  all_goals by_cases h2 : n ≤ q
  all_goals
    go_enter Try.func121, Try.ntmps121
    go_wp2_with fail
    go_ret
    exact ⟨by simp [h1, h2], rfl⟩
theorem within_at (n p q : Int) (w : World) {z : Bool} (H : Hid (decide (p ≤ n ∧ n ≤ q) = z)) :
    Calls Try.prog 121 #[.int .i64 n, .int .i64 p, .int .i64 q] w fun e w' => e = .returned (.bool z) ∧ w = w' :=
  (spwithin_any n p q w).mono fun e w' ⟨h1, h2⟩ => ⟨by rw [← H.out]; exact h1, h2⟩
theorem rngS_eq (a b c d : Nat) (nm : List UInt8) (st sq kd : Int) (sh : Bool) (x y : Int) : rngS ⟨a, b, c, d, nm, st, sq, kd, sh, x, y⟩ = (decide (0 ≤ st ∧ st ≤ 599) && (decide (0 ≤ sq ∧ sq ≤ 63) && (decide (0 ≤ kd ∧ kd ≤ 64) && (decide (0 ≤ x ∧ x ≤ 1099511627776) && decide (x ≤ y ∧ y ≤ 1099511627776))))) := by
  rw [rngS, Bool.eq_iff_iff]; simp; omega
set_option maxHeartbeats 1600000 in
theorem inranges_any (a b c d : Nat) (nm : List UInt8) (st sq kd : Int) (sh : Bool) (x y : Int) (w : World) :
    Calls Try.prog 85 #[.agg #[.int .u64 (a : Int), .int .u64 (b : Int), .int .u64 (c : Int), .int .u64 (d : Int), .string (bs nm), .int .i64 st, .int .i64 sq, .int .i64 kd, .bool sh, .int .i64 x, .int .i64 y]] w fun e w' => e = .returned (.bool (rngS ⟨a, b, c, d, nm, st, sq, kd, sh, x, y⟩)) ∧ Below w.heap.size w w' := by
  have HR := hid (rngS_eq a b c d nm st sq kd sh x y)
  have hb0 := sbelow_new w (.cells #[.int .u64 (a : Int), .int .u64 (b : Int), .int .u64 (c : Int), .int .u64 (d : Int), .string (bs nm), .int .i64 st, .int .i64 sq, .int .i64 kd, .bool sh, .int .i64 x, .int .i64 y] 37)
  have hs0 := SB.new w a b c d nm st sq kd sh x y
  cases h0 : decide (0 ≤ st ∧ st ≤ 599)
  · have H0 := hid h0
    clear h0
    go_enter Try.func85, Try.ntmps85
    go_wp2_with fail
    generalize w.alloc (.cells #[.int .u64 (a : Int), .int .u64 (b : Int), .int .u64 (c : Int), .int .u64 (d : Int), .string (bs nm), .int .i64 st, .int .i64 sq, .int .i64 kd, .bool sh, .int .i64 x, .int .i64 y] 37) = v0 at *
    obtain ⟨k0, k1, k2, k3, k4, k5, k6, k7, k8, k9, k10⟩ := hs0.cells
    refine (within_at _ _ _ _ H0).mono ?_
    rintro e w' ⟨rfl, rfl⟩
    go_wp2_with fail
    go_ret
    exact ⟨by rw [HR.out, H0.out]; simp, hb0⟩
  have H0 := hid h0
  clear h0
  cases h1 : decide (0 ≤ sq ∧ sq ≤ 63)
  · have H1 := hid h1
    clear h1
    go_enter Try.func85, Try.ntmps85
    go_wp2_with fail
    generalize w.alloc (.cells #[.int .u64 (a : Int), .int .u64 (b : Int), .int .u64 (c : Int), .int .u64 (d : Int), .string (bs nm), .int .i64 st, .int .i64 sq, .int .i64 kd, .bool sh, .int .i64 x, .int .i64 y] 37) = v0 at *
    obtain ⟨k0, k1, k2, k3, k4, k5, k6, k7, k8, k9, k10⟩ := hs0.cells
    refine (within_at _ _ _ _ H0).mono ?_
    rintro e w' ⟨rfl, rfl⟩
    go_wp2_with fail
    refine (within_at _ _ _ _ H1).mono ?_
    rintro e w' ⟨rfl, rfl⟩
    go_wp2_with fail
    go_ret
    exact ⟨by rw [HR.out, H0.out, H1.out]; simp, hb0⟩
  have H1 := hid h1
  clear h1
  cases h2 : decide (0 ≤ kd ∧ kd ≤ 64)
  · have H2 := hid h2
    clear h2
    go_enter Try.func85, Try.ntmps85
    go_wp2_with fail
    generalize w.alloc (.cells #[.int .u64 (a : Int), .int .u64 (b : Int), .int .u64 (c : Int), .int .u64 (d : Int), .string (bs nm), .int .i64 st, .int .i64 sq, .int .i64 kd, .bool sh, .int .i64 x, .int .i64 y] 37) = v0 at *
    obtain ⟨k0, k1, k2, k3, k4, k5, k6, k7, k8, k9, k10⟩ := hs0.cells
    refine (within_at _ _ _ _ H0).mono ?_
    rintro e w' ⟨rfl, rfl⟩
    go_wp2_with fail
    refine (within_at _ _ _ _ H1).mono ?_
    rintro e w' ⟨rfl, rfl⟩
    go_wp2_with fail
    refine (within_at _ _ _ _ H2).mono ?_
    rintro e w' ⟨rfl, rfl⟩
    go_wp2_with fail
    go_ret
    exact ⟨by rw [HR.out, H0.out, H1.out, H2.out]; simp, hb0⟩
  have H2 := hid h2
  clear h2
  cases h3 : decide (0 ≤ x ∧ x ≤ 1099511627776)
  · have H3 := hid h3
    clear h3
    go_enter Try.func85, Try.ntmps85
    go_wp2_with fail
    generalize w.alloc (.cells #[.int .u64 (a : Int), .int .u64 (b : Int), .int .u64 (c : Int), .int .u64 (d : Int), .string (bs nm), .int .i64 st, .int .i64 sq, .int .i64 kd, .bool sh, .int .i64 x, .int .i64 y] 37) = v0 at *
    obtain ⟨k0, k1, k2, k3, k4, k5, k6, k7, k8, k9, k10⟩ := hs0.cells
    refine (within_at _ _ _ _ H0).mono ?_
    rintro e w' ⟨rfl, rfl⟩
    go_wp2_with fail
    refine (within_at _ _ _ _ H1).mono ?_
    rintro e w' ⟨rfl, rfl⟩
    go_wp2_with fail
    refine (within_at _ _ _ _ H2).mono ?_
    rintro e w' ⟨rfl, rfl⟩
    go_wp2_with fail
    refine (within_at _ _ _ _ H3).mono ?_
    rintro e w' ⟨rfl, rfl⟩
    go_wp2_with fail
    go_ret
    exact ⟨by rw [HR.out, H0.out, H1.out, H2.out, H3.out]; simp, hb0⟩
  have H3 := hid h3
  clear h3
  cases h4 : decide (x ≤ y ∧ y ≤ 1099511627776)
  · have H4 := hid h4
    clear h4
    go_enter Try.func85, Try.ntmps85
    go_wp2_with fail
    generalize w.alloc (.cells #[.int .u64 (a : Int), .int .u64 (b : Int), .int .u64 (c : Int), .int .u64 (d : Int), .string (bs nm), .int .i64 st, .int .i64 sq, .int .i64 kd, .bool sh, .int .i64 x, .int .i64 y] 37) = v0 at *
    obtain ⟨k0, k1, k2, k3, k4, k5, k6, k7, k8, k9, k10⟩ := hs0.cells
    refine (within_at _ _ _ _ H0).mono ?_
    rintro e w' ⟨rfl, rfl⟩
    go_wp2_with fail
    refine (within_at _ _ _ _ H1).mono ?_
    rintro e w' ⟨rfl, rfl⟩
    go_wp2_with fail
    refine (within_at _ _ _ _ H2).mono ?_
    rintro e w' ⟨rfl, rfl⟩
    go_wp2_with fail
    refine (within_at _ _ _ _ H3).mono ?_
    rintro e w' ⟨rfl, rfl⟩
    go_wp2_with fail
    refine (within_at _ _ _ _ H4).mono ?_
    rintro e w' ⟨rfl, rfl⟩
    go_wp2_with fail
    go_ret
    exact ⟨by rw [HR.out, H0.out, H1.out, H2.out, H3.out, H4.out]; simp, hb0⟩
  have H4 := hid h4
  clear h4
  go_enter Try.func85, Try.ntmps85
  go_wp2_with fail
  generalize w.alloc (.cells #[.int .u64 (a : Int), .int .u64 (b : Int), .int .u64 (c : Int), .int .u64 (d : Int), .string (bs nm), .int .i64 st, .int .i64 sq, .int .i64 kd, .bool sh, .int .i64 x, .int .i64 y] 37) = v0 at *
  obtain ⟨k0, k1, k2, k3, k4, k5, k6, k7, k8, k9, k10⟩ := hs0.cells
  refine (within_at _ _ _ _ H0).mono ?_
  rintro e w' ⟨rfl, rfl⟩
  go_wp2_with fail
  refine (within_at _ _ _ _ H1).mono ?_
  rintro e w' ⟨rfl, rfl⟩
  go_wp2_with fail
  refine (within_at _ _ _ _ H2).mono ?_
  rintro e w' ⟨rfl, rfl⟩
  go_wp2_with fail
  refine (within_at _ _ _ _ H3).mono ?_
  rintro e w' ⟨rfl, rfl⟩
  go_wp2_with fail
  refine (within_at _ _ _ _ H4).mono ?_
  rintro e w' ⟨rfl, rfl⟩
  go_wp2_with fail
  go_ret
  exact ⟨by rw [HR.out, H0.out, H1.out, H2.out, H3.out, H4.out]; rfl, hb0⟩
theorem ret_i64 {p q : Int} (h : p = q) : Ending.returned (.int .i64 p) = .returned (.int .i64 q) := by rw [h]
theorem inranges_at (a b c d : Nat) (nm : List UInt8) (st sq kd : Int) (sh : Bool) (x y : Int) (w : World) {z : Bool} (H : Hid (rngS ⟨a, b, c, d, nm, st, sq, kd, sh, x, y⟩ = z)) :
    Calls Try.prog 85 #[.agg #[.int .u64 (a : Int), .int .u64 (b : Int), .int .u64 (c : Int), .int .u64 (d : Int), .string (bs nm), .int .i64 st, .int .i64 sq, .int .i64 kd, .bool sh, .int .i64 x, .int .i64 y]] w fun e w' => e = .returned (.bool z) ∧ Below w.heap.size w w' :=
  (inranges_any a b c d nm st sq kd sh x y w).mono fun e w' ⟨h1, h2⟩ => ⟨by rw [← H.out]; exact h1, h2⟩
set_option maxHeartbeats 3200000 in
theorem spcheck_any (a b c d : Nat) (nm : List UInt8) (st sq kd : Int) (sh : Bool) (x y : Int) (w : World) (hs : nm.length ≤ 140737488351232) :
    Calls Try.prog 46 #[.agg #[.int .u64 (a : Int), .int .u64 (b : Int), .int .u64 (c : Int), .int .u64 (d : Int), .string (bs nm), .int .i64 st, .int .i64 sq, .int .i64 kd, .bool sh, .int .i64 x, .int .i64 y]] w fun e w' => e = .returned (.int .i64 (chkS ⟨a, b, c, d, nm, st, sq, kd, sh, x, y⟩)) ∧ Below w.heap.size w w' := by
  have HC := hid (show chkS ⟨a, b, c, d, nm, st, sq, kd, sh, x, y⟩ = if (a = 0 ∧ b = 0) ∨ c = 0 then 11 else if nameB nm = false then 7 else if rngS ⟨a, b, c, d, nm, st, sq, kd, sh, x, y⟩ = false then 12 else 0 from rfl)
  have hb0 := sbelow_new w (.cells #[.int .u64 (a : Int), .int .u64 (b : Int), .int .u64 (c : Int), .int .u64 (d : Int), .string (bs nm), .int .i64 st, .int .i64 sq, .int .i64 kd, .bool sh, .int .i64 x, .int .i64 y] 37)
  have hs0 := SB.new w a b c d nm st sq kd sh x y
  have hnot := snot
  cases hz : decide (a = 0 ∧ b = 0)
  rotate_left
  · have HZ := hid hz
    have HZC := hid (show (a = 0 ∧ b = 0) ∨ c = 0 from Or.inl (by simpa using hz))
    clear hz
    go_enter Try.func46, Try.ntmps46
    go_wp2_with fail
    generalize w.alloc (.cells #[.int .u64 (a : Int), .int .u64 (b : Int), .int .u64 (c : Int), .int .u64 (d : Int), .string (bs nm), .int .i64 st, .int .i64 sq, .int .i64 kd, .bool sh, .int .i64 x, .int .i64 y] 37) = v0 at *
    obtain ⟨k0, k1, k2, k3, k4, k5, k6, k7, k8, k9, k10⟩ := hs0.cells
    refine (szero_at a b _ HZ).mono ?_
    rintro e w1 ⟨rfl, hb1⟩
    have hs1 := hs0.up hb1
    have hb1 := sbelow_step hb0 hb1
    clear k0 k1 k2 k3 k4 k5 k6 k7 k8 k9 k10 hs0 hb0
    obtain ⟨k0, k1, k2, k3, k4, k5, k6, k7, k8, k9, k10⟩ := hs1.cells
    go_wp2_with fail
    go_ret
    exact ⟨by rw [HC.out, if_pos HZC.out]; rfl, hb1⟩
  have HZ := hid hz
  have hz' : ¬ (a = 0 ∧ b = 0) := by simpa using hz
  clear hz
  by_cases hc : c = 0
  · have HZC := hid (show (a = 0 ∧ b = 0) ∨ c = 0 from Or.inr hc)
    have hcb : ((c : Int) == 0) = true := by simp [hc]
    clear hc hz'
    go_enter Try.func46, Try.ntmps46
    go_wp2_with fail
    generalize w.alloc (.cells #[.int .u64 (a : Int), .int .u64 (b : Int), .int .u64 (c : Int), .int .u64 (d : Int), .string (bs nm), .int .i64 st, .int .i64 sq, .int .i64 kd, .bool sh, .int .i64 x, .int .i64 y] 37) = v0 at *
    obtain ⟨k0, k1, k2, k3, k4, k5, k6, k7, k8, k9, k10⟩ := hs0.cells
    refine (szero_at a b _ HZ).mono ?_
    rintro e w1 ⟨rfl, hb1⟩
    have hs1 := hs0.up hb1
    have hb1 := sbelow_step hb0 hb1
    clear k0 k1 k2 k3 k4 k5 k6 k7 k8 k9 k10 hs0 hb0
    obtain ⟨k0, k1, k2, k3, k4, k5, k6, k7, k8, k9, k10⟩ := hs1.cells
    go_wp2_with fail
    go_ret
    exact ⟨by rw [HC.out, if_pos HZC.out]; rfl, hb1⟩
  have HZC := hid (show ¬ ((a = 0 ∧ b = 0) ∨ c = 0) from fun h => h.elim hz' hc)
  have hcb : ((c : Int) == 0) = false := by simp [hc]
  clear hc hz'
  cases hn : nameB nm
  · have HN := hid hn
    clear hn
    go_enter Try.func46, Try.ntmps46
    go_wp2_with fail
    generalize w.alloc (.cells #[.int .u64 (a : Int), .int .u64 (b : Int), .int .u64 (c : Int), .int .u64 (d : Int), .string (bs nm), .int .i64 st, .int .i64 sq, .int .i64 kd, .bool sh, .int .i64 x, .int .i64 y] 37) = v0 at *
    obtain ⟨k0, k1, k2, k3, k4, k5, k6, k7, k8, k9, k10⟩ := hs0.cells
    refine (szero_at a b _ HZ).mono ?_
    rintro e w1 ⟨rfl, hb1⟩
    have hs1 := hs0.up hb1
    have hb1 := sbelow_step hb0 hb1
    clear k0 k1 k2 k3 k4 k5 k6 k7 k8 k9 k10 hs0 hb0
    obtain ⟨k0, k1, k2, k3, k4, k5, k6, k7, k8, k9, k10⟩ := hs1.cells
    go_wp2_with fail
    refine (sname_at nm _ hs HN).mono ?_
    rintro e w2 ⟨rfl, rfl⟩
    go_wp2_with fail
    go_ret
    exact ⟨by rw [HC.out, if_neg HZC.out, if_pos HN.out]; rfl, hb1⟩
  have HN := hid hn
  clear hn
  cases hr : rngS ⟨a, b, c, d, nm, st, sq, kd, sh, x, y⟩
  · have HRG := hid hr
    clear hr
    go_enter Try.func46, Try.ntmps46
    go_wp2_with fail
    generalize w.alloc (.cells #[.int .u64 (a : Int), .int .u64 (b : Int), .int .u64 (c : Int), .int .u64 (d : Int), .string (bs nm), .int .i64 st, .int .i64 sq, .int .i64 kd, .bool sh, .int .i64 x, .int .i64 y] 37) = v0 at *
    obtain ⟨k0, k1, k2, k3, k4, k5, k6, k7, k8, k9, k10⟩ := hs0.cells
    refine (szero_at a b _ HZ).mono ?_
    rintro e w1 ⟨rfl, hb1⟩
    have hs1 := hs0.up hb1
    have hb1 := sbelow_step hb0 hb1
    clear k0 k1 k2 k3 k4 k5 k6 k7 k8 k9 k10 hs0 hb0
    obtain ⟨k0, k1, k2, k3, k4, k5, k6, k7, k8, k9, k10⟩ := hs1.cells
    go_wp2_with fail
    refine (sname_at nm _ hs HN).mono ?_
    rintro e w2 ⟨rfl, rfl⟩
    go_wp2_with fail
    refine (inranges_at a b c d nm st sq kd sh x y _ HRG).mono ?_
    rintro e w2 ⟨rfl, hb2⟩
    go_wp2_with fail
    go_ret
    exact ⟨by rw [HC.out, if_neg HZC.out, if_neg (by rw [HN.out]; simp), if_pos HRG.out]; rfl, sbelow_step hb1 hb2⟩
  have HRG := hid hr
  clear hr
  go_enter Try.func46, Try.ntmps46
  go_wp2_with fail
  generalize w.alloc (.cells #[.int .u64 (a : Int), .int .u64 (b : Int), .int .u64 (c : Int), .int .u64 (d : Int), .string (bs nm), .int .i64 st, .int .i64 sq, .int .i64 kd, .bool sh, .int .i64 x, .int .i64 y] 37) = v0 at *
  obtain ⟨k0, k1, k2, k3, k4, k5, k6, k7, k8, k9, k10⟩ := hs0.cells
  refine (szero_at a b _ HZ).mono ?_
  rintro e w1 ⟨rfl, hb1⟩
  have hs1 := hs0.up hb1
  have hb1 := sbelow_step hb0 hb1
  clear k0 k1 k2 k3 k4 k5 k6 k7 k8 k9 k10 hs0 hb0
  obtain ⟨k0, k1, k2, k3, k4, k5, k6, k7, k8, k9, k10⟩ := hs1.cells
  go_wp2_with fail
  refine (sname_at nm _ hs HN).mono ?_
  rintro e w2 ⟨rfl, rfl⟩
  go_wp2_with fail
  refine (inranges_at a b c d nm st sq kd sh x y _ HRG).mono ?_
  rintro e w2 ⟨rfl, hb2⟩
  go_wp2_with fail
  go_ret
  exact ⟨by rw [HC.out, if_neg HZC.out, if_neg (by rw [HN.out]; simp), if_neg (by rw [HRG.out]; simp)]; rfl, sbelow_step hb1 hb2⟩
theorem spcheck_at (a b c d : Nat) (nm : List UInt8) (st sq kd : Int) (sh : Bool) (x y : Int) (w : World) (hs : nm.length ≤ 140737488351232) {r : Int} (H : Hid (chkS ⟨a, b, c, d, nm, st, sq, kd, sh, x, y⟩ = r)) :
    Calls Try.prog 46 #[.agg #[.int .u64 (a : Int), .int .u64 (b : Int), .int .u64 (c : Int), .int .u64 (d : Int), .string (bs nm), .int .i64 st, .int .i64 sq, .int .i64 kd, .bool sh, .int .i64 x, .int .i64 y]] w fun e w' => e = .returned (.int .i64 r) ∧ Below w.heap.size w w' :=
  (spcheck_any a b c d nm st sq kd sh x y w hs).mono fun e w' ⟨h1, h2⟩ => ⟨by rw [← H.out]; exact h1, h2⟩
set_option maxHeartbeats 3200000 in
theorem rspcheck_any (a b c d : Nat) (nm : List UInt8) (st sq kd : Int) (sh : Bool) (x y : Int) (w : World) (hs : nm.length ≤ 140737488351232) :
    Calls Try.prog 15 #[.agg #[.int .u64 (a : Int), .int .u64 (b : Int), .int .u64 (c : Int), .int .u64 (d : Int), .string (bs nm), .int .i64 st, .int .i64 sq, .int .i64 kd, .bool sh, .int .i64 x, .int .i64 y]] w fun e w' => e = .returned (.int .i64 (chkS ⟨a, b, c, d, nm, st, sq, kd, sh, x, y⟩)) ∧ Below w.heap.size w w' := by
  have HC := hid (show chkS ⟨a, b, c, d, nm, st, sq, kd, sh, x, y⟩ = if (a = 0 ∧ b = 0) ∨ c = 0 then 11 else if nameB nm = false then 7 else if rngS ⟨a, b, c, d, nm, st, sq, kd, sh, x, y⟩ = false then 12 else 0 from rfl)
  have hb0 := sbelow_new w (.cells #[.int .u64 (a : Int), .int .u64 (b : Int), .int .u64 (c : Int), .int .u64 (d : Int), .string (bs nm), .int .i64 st, .int .i64 sq, .int .i64 kd, .bool sh, .int .i64 x, .int .i64 y] 37)
  have hs0 := SB.new w a b c d nm st sq kd sh x y
  have hnot := snot
  cases hz : decide (a = 0 ∧ b = 0)
  rotate_left
  · have HZ := hid hz
    have HZC := hid (show (a = 0 ∧ b = 0) ∨ c = 0 from Or.inl (by simpa using hz))
    clear hz
    go_enter Try.func15, Try.ntmps15
    go_wp2_with fail
    generalize w.alloc (.cells #[.int .u64 (a : Int), .int .u64 (b : Int), .int .u64 (c : Int), .int .u64 (d : Int), .string (bs nm), .int .i64 st, .int .i64 sq, .int .i64 kd, .bool sh, .int .i64 x, .int .i64 y] 37) = v0 at *
    obtain ⟨k0, k1, k2, k3, k4, k5, k6, k7, k8, k9, k10⟩ := hs0.cells
    refine (srzero_at a b _ HZ).mono ?_
    rintro e w1 ⟨rfl, hb1⟩
    have hs1 := hs0.up hb1
    have hb1 := sbelow_step hb0 hb1
    clear k0 k1 k2 k3 k4 k5 k6 k7 k8 k9 k10 hs0 hb0
    obtain ⟨k0, k1, k2, k3, k4, k5, k6, k7, k8, k9, k10⟩ := hs1.cells
    go_wp2_with fail
    go_ret
    exact ⟨by rw [HC.out, if_pos HZC.out]; rfl, hb1⟩
  have HZ := hid hz
  have hz' : ¬ (a = 0 ∧ b = 0) := by simpa using hz
  clear hz
  by_cases hc : c = 0
  · have HZC := hid (show (a = 0 ∧ b = 0) ∨ c = 0 from Or.inr hc)
    have hcb : ((c : Int) == 0) = true := by simp [hc]
    clear hc hz'
    go_enter Try.func15, Try.ntmps15
    go_wp2_with fail
    generalize w.alloc (.cells #[.int .u64 (a : Int), .int .u64 (b : Int), .int .u64 (c : Int), .int .u64 (d : Int), .string (bs nm), .int .i64 st, .int .i64 sq, .int .i64 kd, .bool sh, .int .i64 x, .int .i64 y] 37) = v0 at *
    obtain ⟨k0, k1, k2, k3, k4, k5, k6, k7, k8, k9, k10⟩ := hs0.cells
    refine (srzero_at a b _ HZ).mono ?_
    rintro e w1 ⟨rfl, hb1⟩
    have hs1 := hs0.up hb1
    have hb1 := sbelow_step hb0 hb1
    clear k0 k1 k2 k3 k4 k5 k6 k7 k8 k9 k10 hs0 hb0
    obtain ⟨k0, k1, k2, k3, k4, k5, k6, k7, k8, k9, k10⟩ := hs1.cells
    go_wp2_with fail
    go_ret
    exact ⟨by rw [HC.out, if_pos HZC.out]; rfl, hb1⟩
  have HZC := hid (show ¬ ((a = 0 ∧ b = 0) ∨ c = 0) from fun h => h.elim hz' hc)
  have hcb : ((c : Int) == 0) = false := by simp [hc]
  clear hc hz'
  cases hn : nameB nm
  · have HN := hid hn
    clear hn
    go_enter Try.func15, Try.ntmps15
    go_wp2_with fail
    generalize w.alloc (.cells #[.int .u64 (a : Int), .int .u64 (b : Int), .int .u64 (c : Int), .int .u64 (d : Int), .string (bs nm), .int .i64 st, .int .i64 sq, .int .i64 kd, .bool sh, .int .i64 x, .int .i64 y] 37) = v0 at *
    obtain ⟨k0, k1, k2, k3, k4, k5, k6, k7, k8, k9, k10⟩ := hs0.cells
    refine (srzero_at a b _ HZ).mono ?_
    rintro e w1 ⟨rfl, hb1⟩
    have hs1 := hs0.up hb1
    have hb1 := sbelow_step hb0 hb1
    clear k0 k1 k2 k3 k4 k5 k6 k7 k8 k9 k10 hs0 hb0
    obtain ⟨k0, k1, k2, k3, k4, k5, k6, k7, k8, k9, k10⟩ := hs1.cells
    go_wp2_with fail
    refine (srname_at nm _ hs HN).mono ?_
    rintro e w2 ⟨rfl, rfl⟩
    go_wp2_with fail
    go_ret
    exact ⟨by rw [HC.out, if_neg HZC.out, if_pos HN.out]; rfl, hb1⟩
  have HN := hid hn
  clear hn
  go_enter Try.func15, Try.ntmps15
  go_wp2_with fail
  generalize w.alloc (.cells #[.int .u64 (a : Int), .int .u64 (b : Int), .int .u64 (c : Int), .int .u64 (d : Int), .string (bs nm), .int .i64 st, .int .i64 sq, .int .i64 kd, .bool sh, .int .i64 x, .int .i64 y] 37) = v0 at *
  obtain ⟨k0, k1, k2, k3, k4, k5, k6, k7, k8, k9, k10⟩ := hs0.cells
  refine (srzero_at a b _ HZ).mono ?_
  rintro e w1 ⟨rfl, hb1⟩
  have hs1 := hs0.up hb1
  have hb1 := sbelow_step hb0 hb1
  clear k0 k1 k2 k3 k4 k5 k6 k7 k8 k9 k10 hs0 hb0
  obtain ⟨k0, k1, k2, k3, k4, k5, k6, k7, k8, k9, k10⟩ := hs1.cells
  go_wp2_with fail
  refine (srname_at nm _ hs HN).mono ?_
  rintro e w2 ⟨rfl, rfl⟩
  go_wp2_with fail
  all_goals
    go_ret
    refine ⟨ret_i64 ?_, hb1⟩
    rw [HC.out, if_neg HZC.out, if_neg (by rw [HN.out]; simp)]
    rw [rngS]
    first
      | (rw [if_neg (by simp; omega)]; done)
      | (rw [if_pos (by simp; omega)]; done)
theorem rspcheck_at (a b c d : Nat) (nm : List UInt8) (st sq kd : Int) (sh : Bool) (x y : Int) (w : World) (hs : nm.length ≤ 140737488351232) {r : Int} (H : Hid (chkS ⟨a, b, c, d, nm, st, sq, kd, sh, x, y⟩ = r)) :
    Calls Try.prog 15 #[.agg #[.int .u64 (a : Int), .int .u64 (b : Int), .int .u64 (c : Int), .int .u64 (d : Int), .string (bs nm), .int .i64 st, .int .i64 sq, .int .i64 kd, .bool sh, .int .i64 x, .int .i64 y]] w fun e w' => e = .returned (.int .i64 r) ∧ Below w.heap.size w w' :=
  (rspcheck_any a b c d nm st sq kd sh x y w hs).mono fun e w' ⟨h1, h2⟩ => ⟨by rw [← H.out]; exact h1, h2⟩
end Go.Proofs.Ytpfhmpblcmednaa
namespace Go.Proofs.Ytpfhmpblcmednaa
set_option linter.unusedVariables false
set_option linter.unusedSimpArgs false
open Go.RowKit Go.Joins

section
variable {w w' : World} {g : Nat} {l : List UInt8} {a e : Int}
end
theorem getS_err0 {l : List UInt8} {a wd : Int} {n : Nat} {e : Int} (h : getS l a wd = (n, e)) (he : e ≠ 0) : n = 0 := by
  unfold getS at h
  split at h
  · simp only [Prod.mk.injEq] at h; exact h.1.symm
  · split at h
    · simp only [Prod.mk.injEq] at h; exact h.1.symm
    · simp only [Prod.mk.injEq] at h; exact absurd h.2.symm he
theorem vget_err0 {l : List UInt8} {a : Int} {n : Nat} {b e : Int} (h : vgetS l a = (n, b, e)) (he : e ≠ 0) : n = 0 := by
  have := vgetS_cases l a
  rw [h] at this
  simp only [Prod.mk.injEq] at this
  omega
end Go.Proofs.Ytpfhmpblcmednaa
namespace Go.Proofs.Ytpfhmpblcmednaa
set_option linter.unusedVariables false
set_option linter.unusedSimpArgs false
open Go.RowKit Go.Joins

theorem Blk.only {w w' : World} {g q : Nat} {t : TypeId} {cs : Array Value} (h : Blk w q t cs) (o : Only g w w') (hn : q ≠ g) : Blk w' q t cs := (o.block q (Blk.lt h) hn).trans h
theorem Only.far {g q : Nat} {a b : World} (h : Only g a b) (hq : a.heap.size ≤ q) (i : Nat) (u : Value) : Only g a (b.setCell ⟨q, i, none⟩ u) :=
  ⟨h.os, h.tape, h.output, by have := h.size; simp [World.setCell]; omega, fun k hk hn => (Below.heap_setCell b ⟨q, i, none⟩ u k (by simp only [ne_eq]; omega)).trans (h.block k hk hn)⟩

def zs : Array Value := #[.int .u64 0, .int .u64 0, .int .u64 0, .int .u64 0, .string (bs []), .int .i64 0, .int .i64 0, .int .i64 0, .bool false, .int .i64 0, .int .i64 0]
section
variable {w : World} {g : Nat} {l : List UInt8} {v v' : World} {a e a' e' : Int} {cs : Array Value}
end
theorem vgetS_pos {l : List UInt8} {a b e : Int} {n : Nat} (h : vgetS l a = (n, b, e)) : 0 ≤ b ∧ b ≤ l.length := by
  have := vgetS_cases l a
  rw [h] at this
  simp only [Prod.mk.injEq] at this
  omega
theorem octP_pos {l : List UInt8} {wd a e a' e' : Int} {n : Nat} (h : octP l wd a e = (n, a', e')) (hs : l.length ≤ 140737488351232) (h1 : -9223372036854775808 ≤ a ∧ a ≤ 9223372036854775807) (hw : 1 ≤ wd ∧ wd ≤ 8) : -9223372036854775808 ≤ a' ∧ a' ≤ 9223372036854775807 := by
  unfold octP at h
  split at h
  · simp only [Prod.mk.injEq] at h; omega
  · split at h
    · rename_i h0
      simp only [Prod.mk.injEq] at h
      by_cases hc : wd < 1 ∨ 8 < wd ∨ a < 0
      · rw [getS_arg hc] at h0; simp at h0
      · by_cases hc2 : (l.length : Int) - a < wd
        · rw [getS_short hc hc2] at h0; simp at h0
        · omega
    · simp only [Prod.mk.injEq] at h; omega
theorem namP_pos {l : List UInt8} {a e a' e' : Int} {n : List UInt8} (h : namP l a e = (n, a', e')) (hs : l.length ≤ 140737488351232) (h1 : -9223372036854775808 ≤ a ∧ a ≤ 9223372036854775807) : -9223372036854775808 ≤ a' ∧ a' ≤ 9223372036854775807 := by
  unfold namP at h
  split at h
  · simp only [Prod.mk.injEq] at h; omega
  · split at h
    · simp only [Prod.mk.injEq] at h; omega
    · rename_i h0
      simp only [Prod.mk.injEq] at h
      obtain ⟨_, h, _⟩ := h
      obtain ⟨N, B, E, hv⟩ : ∃ N B E, vgetS l a = (N, B, E) := ⟨_, _, _, rfl⟩
      have hp := vgetS_pos hv
      unfold takeS at h h0
      rw [hv] at h h0
      simp only at h h0
      split at h
      · simp only at h; omega
      · split at h
        · simp only at h; omega
        · split at h
          · simp only at h; omega
          · simp only at h; omega
theorem numP_pos {l : List UInt8} {a e a' e' : Int} {n : Nat} (h : numP l a e = (n, a', e')) (hs : l.length ≤ 140737488351232) (h1 : -9223372036854775808 ≤ a ∧ a ≤ 9223372036854775807) : -9223372036854775808 ≤ a' ∧ a' ≤ 9223372036854775807 := by
  obtain ⟨N, B, E, hv⟩ : ∃ N B E, vgetS l a = (N, B, E) := ⟨_, _, _, rfl⟩
  have hp := vgetS_pos hv
  unfold numP at h
  rw [hv] at h
  simp only at h
  split at h
  · simp only [Prod.mk.injEq] at h; omega
  · split at h
    · simp only [Prod.mk.injEq] at h; omega
    · split at h
      · simp only [Prod.mk.injEq] at h; omega
      · simp only [Prod.mk.injEq] at h; omega
theorem shaP_pos {l : List UInt8} {a e a' e' : Int} {n : Bool} (h : shaP l a e = (n, a', e')) (hs : l.length ≤ 140737488351232) (h1 : -9223372036854775808 ≤ a ∧ a ≤ 9223372036854775807) : -9223372036854775808 ≤ a' ∧ a' ≤ 9223372036854775807 := by
  obtain ⟨N, B, E, hv⟩ : ∃ N B E, octP l 1 a e = (N, B, E) := ⟨_, _, _, rfl⟩
  have hp := octP_pos hv hs h1 (by omega)
  unfold shaP at h
  rw [hv] at h
  simp only at h
  split at h
  · simp only [Prod.mk.injEq] at h; omega
  · simp only [Prod.mk.injEq] at h; omega
/-- A span, as a value. -/
def spA (s : Sp) : Array Value := #[.int .u64 (s.hi : Int), .int .u64 (s.lo : Int), .int .u64 (s.id : Int), .int .u64 (s.up : Int), .string (bs s.name), .int .i64 s.status, .int .i64 s.seq, .int .i64 s.kids, .bool s.shade, .int .i64 s.start, .int .i64 s.fin]
end Go.Proofs.Ytpfhmpblcmednaa
namespace Go.Proofs.Ytpfhmpblcmednaa
set_option linter.unusedVariables false
set_option linter.unusedSimpArgs false
open Go.RowKit Go.Joins

theorem put8 {n : Nat} (h : n < 18446744073709551616) : putS n 8 = (be 8 n, 0) := putX_ok (by omega) (by omega) (Nat.div_eq_of_lt (by rw [show (8 : Int).toNat = 8 from rfl, pow8]; exact h))
theorem oput_at (n : Nat) (wd : Int) (w : World) {t : List UInt8} {r : Int} (H : Hid (putS n wd = (t, r))) :
    Calls Try.prog 149 #[.int .u64 n, .int .i64 wd] w fun e w' => e = .returned (.tuple #[.string (bs t), .int .i64 r]) ∧ Below w.heap.size w w' :=
  (oput_any n wd w (by omega)).mono fun e w' ⟨h1, h2⟩ => ⟨by rw [Int.toNat_natCast, H.out] at h1; exact h1, h2⟩
theorem srput_at (n : Nat) (wd : Int) (w : World) (hn : Hid (n < 18446744073709551616)) {t : List UInt8} {r : Int} (H : Hid (putS n wd = (t, r))) :
    Calls Try.prog 117 #[.int .u64 n, .int .i64 wd] w fun e w' => e = .returned (.tuple #[.string (bs t), .int .i64 r]) ∧ Below w.heap.size w w' :=
  (rput_any n wd w (by omega) (hid (by rw [Int.toNat_natCast]; exact hn.out))).mono fun e w' ⟨h1, h2⟩ => ⟨by rw [Int.toNat_natCast, H.out] at h1; exact h1, h2⟩
theorem spoct_at (n : Nat) (wd : Int) (w : World) {t : List UInt8} {r : Int} (H : Hid (putS n wd = (t, r))) :
    Calls Try.prog 152 #[.int .u64 n, .int .i64 wd] w fun e w' => e = .returned (.string (bs t)) ∧ Below w.heap.size w w' := by
  go_enter Try.func152, Try.ntmps152
  go_wp2_with fail
  refine (oput_at n wd _ H).mono ?_
  rintro e w1 ⟨rfl, hb1⟩
  go_wp2_with fail
  go_ret
  exact ⟨rfl, hb1⟩
theorem spwide_at (n : Nat) (w : World) {t : List UInt8} {r : Int} (H : Hid (putS n 8 = (t, r))) :
    Calls Try.prog 145 #[.int .u64 n] w fun e w' => e = .returned (.string (bs t)) ∧ Below w.heap.size w w' := by
  go_enter Try.func145, Try.ntmps145
  go_wp2_with fail
  refine (spoct_at n 8 _ H).mono ?_
  rintro e w1 ⟨rfl, hb1⟩
  go_wp2_with fail
  go_ret
  exact ⟨rfl, hb1⟩
theorem eight_at (n : Nat) (w : World) (hn : Hid (n < 18446744073709551616)) {t : List UInt8} {r : Int} (H : Hid (putS n 8 = (t, r))) :
    Calls Try.prog 115 #[.int .u64 n] w fun e w' => e = .returned (.string (bs t)) ∧ Below w.heap.size w w' := by
  go_enter Try.func115, Try.ntmps115
  go_wp2_with fail
  refine (srput_at n 8 _ hn H).mono ?_
  rintro e w1 ⟨rfl, hb1⟩
  go_wp2_with fail
  go_ret
  exact ⟨rfl, hb1⟩
theorem spnum_at (n : Nat) (w : World) (hn : n ≤ 1099511627776) {t : List UInt8} (H : Hid (vput n = t)) :
    Calls Try.prog 147 #[.int .i64 (n : Int)] w fun e w' => e = .returned (.string (bs t)) ∧ Below w.heap.size w w' := by
  have HN := hid (show n < 18446744073709551616 by omega)
  have hw := wrap_u64_nat n HN.out
  go_enter Try.func147, Try.ntmps147
  go_wp2_with fail
  refine (vput_any n _ HN).mono ?_
  rintro e w1 ⟨rfl, hb1⟩
  go_wp2_with fail
  go_ret
  exact ⟨by rw [H.out]; rfl, hb1⟩
theorem svput_at (n : Nat) (w : World) (hn : Hid (n < 18446744073709551616)) {t : List UInt8} (H : Hid (vput n = t)) :
    Calls Try.prog 144 #[.int .u64 n] w fun e w' => e = .returned (.string (bs t)) ∧ Below w.heap.size w w' :=
  (vput_any n w hn).mono fun e w' ⟨h1, h2⟩ => ⟨by rw [← H.out]; exact h1, h2⟩
theorem srvput_at (n : Nat) (w : World) (hn : Hid (n < 18446744073709551616)) {t : List UInt8} (H : Hid (vput n = t)) :
    Calls Try.prog 79 #[.int .u64 n] w fun e w' => e = .returned (.string (bs t)) ∧ Below w.heap.size w w' :=
  (rvput_any 9 n w (by omega) (hid ⟨Nat.lt_of_lt_of_le hn.out (by decide), hn.out⟩)).mono fun e w' ⟨h1, h2⟩ => ⟨by rw [← H.out]; exact h1, h2⟩
theorem svtext_at (l : List UInt8) (w : World) (hs : l.length ≤ 140737488351232) {t : List UInt8} (H : Hid (textS l = t)) :
    Calls Try.prog 146 #[.string (bs l)] w fun e w' => e = .returned (.string (bs t)) ∧ Below w.heap.size w w' :=
  (vtext_any l w hs).mono fun e w' ⟨h1, h2⟩ => ⟨by rw [← H.out]; exact h1, h2⟩
theorem srvtext_at (l : List UInt8) (w : World) (hs : l.length ≤ 140737488351232) {t : List UInt8} (H : Hid (textS l = t)) :
    Calls Try.prog 116 #[.string (bs l)] w fun e w' => e = .returned (.string (bs t)) ∧ Below w.heap.size w w' :=
  (rvtext_any l w hs).mono fun e w' ⟨h1, h2⟩ => ⟨by rw [← H.out]; exact h1, h2⟩
theorem sbyte_at (n : Nat) (w : World) {t : List UInt8} (H : Hid ([UInt8.ofNat (n % 256)] = t)) :
    Calls Try.prog 114 #[.int .u64 (n : Int)] w fun e w' => e = .returned (.string (bs t)) ∧ Below w.heap.size w w' :=
  (byte_any n w (by omega)).mono fun e w' ⟨h1, h2⟩ => ⟨by rw [← H.out]; exact h1, h2⟩
theorem sbyte0 (w : World) {t : List UInt8} (H : Hid ([UInt8.ofNat (0 % 256)] = t)) :
    Calls Try.prog 114 #[.int .u64 0] w fun e w' => e = .returned (.string (bs t)) ∧ Below w.heap.size w w' := sbyte_at 0 w H
theorem sbyte1 (w : World) {t : List UInt8} (H : Hid ([UInt8.ofNat (1 % 256)] = t)) :
    Calls Try.prog 114 #[.int .u64 1] w fun e w' => e = .returned (.string (bs t)) ∧ Below w.heap.size w w' := sbyte_at 1 w H
theorem spshade_at (z : Bool) (w : World) {t : List UInt8} (H : Hid (shB z = t)) :
    Calls Try.prog 148 #[.bool z] w fun e w' => e = .returned (.string (bs t)) ∧ Below w.heap.size w w' := by
  cases z
  · have H0 := hid (show putS 0 1 = (t, 0) by rw [← H.out]; rfl)
    have h0 := fun w => spoct_at 0 1 w H0
    go_enter Try.func148, Try.ntmps148
    go_wp2_with fail
    refine (h0 _).mono ?_
    rintro e w1 ⟨rfl, hb1⟩
    go_wp2_with fail
    go_ret
    exact ⟨rfl, hb1⟩
  · have H0 := hid (show putS 1 1 = (t, 0) by rw [← H.out]; rfl)
    have h0 := fun w => spoct_at 1 1 w H0
    go_enter Try.func148, Try.ntmps148
    go_wp2_with fail
    refine (h0 _).mono ?_
    rintro e w1 ⟨rfl, hb1⟩
    go_wp2_with fail
    go_ret
    exact ⟨rfl, hb1⟩
theorem keepA {w1 w' : World} {g : Nat} {a b c d : Nat} {nm : List UInt8} {st sq kd : Int} {sh : Bool} {x y : Int} (h : SB w1 g a b c d nm st sq kd sh x y) (hb : Below w1.heap.size w1 w') : w'.cell? ⟨g, 0, none⟩ = some (.int .u64 (a : Int)) ∧ w'.cell? ⟨g, 1, none⟩ = some (.int .u64 (b : Int)) ∧ w'.cell? ⟨g, 2, none⟩ = some (.int .u64 (c : Int)) ∧ w'.cell? ⟨g, 3, none⟩ = some (.int .u64 (d : Int)) ∧ w'.cell? ⟨g, 4, none⟩ = some (.string (bs nm)) ∧ Below w1.heap.size w1 w' := by
  have h1 := h.up hb
  exact ⟨Blk.cell h1 0, Blk.cell h1 1, Blk.cell h1 2, Blk.cell h1 3, Blk.cell h1 4, hb⟩
theorem keepB {w1 w' : World} {g : Nat} {a b c d : Nat} {nm : List UInt8} {st sq kd : Int} {sh : Bool} {x y : Int} (h : SB w1 g a b c d nm st sq kd sh x y) (hb : Below w1.heap.size w1 w') : w'.cell? ⟨g, 5, none⟩ = some (.int .i64 st) ∧ w'.cell? ⟨g, 6, none⟩ = some (.int .i64 sq) ∧ w'.cell? ⟨g, 7, none⟩ = some (.int .i64 kd) ∧ w'.cell? ⟨g, 8, none⟩ = some (.bool sh) ∧ Below w1.heap.size w1 w' := by
  have h1 := h.up hb
  exact ⟨Blk.cell h1 5, Blk.cell h1 6, Blk.cell h1 7, Blk.cell h1 8, hb⟩
theorem keepC {w1 w' : World} {g : Nat} {a b c d : Nat} {nm : List UInt8} {st sq kd : Int} {sh : Bool} {x y : Int} (h : SB w1 g a b c d nm st sq kd sh x y) (hb : Below w1.heap.size w1 w') : w'.cell? ⟨g, 9, none⟩ = some (.int .i64 x) ∧ w'.cell? ⟨g, 10, none⟩ = some (.int .i64 y) ∧ Below w1.heap.size w1 w' := by
  have h1 := h.up hb
  exact ⟨Blk.cell h1 9, Blk.cell h1 10, hb⟩
theorem keepAll {w1 w' : World} {g : Nat} {a b c d : Nat} {nm : List UInt8} {st sq kd : Int} {sh : Bool} {x y : Int} (h : SB w1 g a b c d nm st sq kd sh x y) (hb : Below w1.heap.size w1 w') : w'.cell? ⟨g, 0, none⟩ = some (.int .u64 (a : Int)) ∧ w'.cell? ⟨g, 1, none⟩ = some (.int .u64 (b : Int)) ∧ w'.cell? ⟨g, 2, none⟩ = some (.int .u64 (c : Int)) ∧ w'.cell? ⟨g, 3, none⟩ = some (.int .u64 (d : Int)) ∧ w'.cell? ⟨g, 4, none⟩ = some (.string (bs nm)) ∧ w'.cell? ⟨g, 5, none⟩ = some (.int .i64 st) ∧ w'.cell? ⟨g, 6, none⟩ = some (.int .i64 sq) ∧ w'.cell? ⟨g, 7, none⟩ = some (.int .i64 kd) ∧ w'.cell? ⟨g, 8, none⟩ = some (.bool sh) ∧ w'.cell? ⟨g, 9, none⟩ = some (.int .i64 x) ∧ w'.cell? ⟨g, 10, none⟩ = some (.int .i64 y) ∧ Below w1.heap.size w1 w' := by
  have h1 := h.up hb
  exact ⟨Blk.cell h1 0, Blk.cell h1 1, Blk.cell h1 2, Blk.cell h1 3, Blk.cell h1 4, Blk.cell h1 5, Blk.cell h1 6, Blk.cell h1 7, Blk.cell h1 8, Blk.cell h1 9, Blk.cell h1 10, hb⟩
set_option maxRecDepth 100000 in
set_option maxHeartbeats 8000000 in
theorem spwrite_ok (a b c d : Nat) (nm : List UInt8) (st sq kd : Int) (sh : Bool) (x y : Int) (w : World) (wd : Hid (a < 18446744073709551616 ∧ b < 18446744073709551616 ∧ c < 18446744073709551616 ∧ d < 18446744073709551616)) (hc : chkS ⟨a, b, c, d, nm, st, sq, kd, sh, x, y⟩ = 0) :
    Calls Try.prog 139 #[.agg #[.int .u64 (a : Int), .int .u64 (b : Int), .int .u64 (c : Int), .int .u64 (d : Int), .string (bs nm), .int .i64 st, .int .i64 sq, .int .i64 kd, .bool sh, .int .i64 x, .int .i64 y]] w fun e w' => e = .returned (.tuple #[.string (bs (writeS ⟨a, b, c, d, nm, st, sq, kd, sh, x, y⟩).1), .int .i64 0]) ∧ Below w.heap.size w w' := by
  obtain ⟨_, hn0, hr⟩ := chkS_ok hc
  have hnl : nm.length ≤ 32 := nameB_len hn0
  clear hn0
  rw [rngS, decide_eq_true_eq] at hr
  obtain ⟨r1, r2, r3, r4, r5, r6, r7, r8, r9, r10⟩ := hr
  simp only at r1 r2 r3 r4 r5 r6 r7 r8 r9 r10
  obtain ⟨n1, rfl⟩ := Int.eq_ofNat_of_zero_le r1
  obtain ⟨n2, rfl⟩ := Int.eq_ofNat_of_zero_le r3
  obtain ⟨n3, rfl⟩ := Int.eq_ofNat_of_zero_le r5
  obtain ⟨n4, rfl⟩ := Int.eq_ofNat_of_zero_le r7
  obtain ⟨n5, hn5⟩ : ∃ n5 : Nat, y - (n4 : Int) = n5 := ⟨(y - (n4 : Int)).toNat, by omega⟩
  have ln5 : n5 ≤ 1099511627776 := by omega
  have hsub : IntKind.i64.wrap (y - (n4 : Int)) = (n5 : Int) := by rw [hn5]; exact IntWalk.i64_in _ (by omega)
  obtain ⟨wa, wb, wc, wdd⟩ := wd.out
  obtain ⟨ta, hta⟩ : ∃ t, be 8 a = t := ⟨_, rfl⟩
  obtain ⟨tb, htb⟩ : ∃ t, be 8 b = t := ⟨_, rfl⟩
  obtain ⟨tc, htc⟩ : ∃ t, be 8 c = t := ⟨_, rfl⟩
  obtain ⟨td, htd⟩ : ∃ t, be 8 d = t := ⟨_, rfl⟩
  obtain ⟨tn, htn⟩ : ∃ t, textS nm = t := ⟨_, rfl⟩
  obtain ⟨t1, ht1⟩ : ∃ t, vput n1 = t := ⟨_, rfl⟩
  obtain ⟨t2, ht2⟩ : ∃ t, vput n2 = t := ⟨_, rfl⟩
  obtain ⟨t3, ht3⟩ : ∃ t, vput n3 = t := ⟨_, rfl⟩
  obtain ⟨ts, hts⟩ : ∃ t, shB sh = t := ⟨_, rfl⟩
  obtain ⟨t4, ht4⟩ : ∃ t, vput n4 = t := ⟨_, rfl⟩
  obtain ⟨t5, ht5⟩ : ∃ t, vput n5 = t := ⟨_, rfl⟩
  have lta : ta.length ≤ 8 := by rw [← hta, be_length]; omega
  have ltb : tb.length ≤ 8 := by rw [← htb, be_length]; omega
  have ltc : tc.length ≤ 8 := by rw [← htc, be_length]; omega
  have ltd : td.length ≤ 8 := by rw [← htd, be_length]; omega
  have ltn : tn.length ≤ 42 := by rw [← htn, textS, List.length_append]; have := (vput_length_le nm.length).2; omega
  have lt1 : t1.length ≤ 10 := by rw [← ht1]; exact (vput_length_le _).2
  have lt2 : t2.length ≤ 10 := by rw [← ht2]; exact (vput_length_le _).2
  have lt3 : t3.length ≤ 10 := by rw [← ht3]; exact (vput_length_le _).2
  have lts : ts.length ≤ 1 := by rw [← hts]; exact Nat.le_refl 1
  have lt4 : t4.length ≤ 10 := by rw [← ht4]; exact (vput_length_le _).2
  have lt5 : t5.length ≤ 10 := by rw [← ht5]; exact (vput_length_le _).2
  have HW := hid (show writeS ⟨a, b, c, d, nm, (n1 : Int), (n2 : Int), (n3 : Int), sh, (n4 : Int), y⟩ = (ta ++ (tb ++ (tc ++ (td ++ (tn ++ (t1 ++ (t2 ++ (t3 ++ (ts ++ (t4 ++ t5))))))))), 0) by
    rw [writeS, if_pos hc]
    simp only [bytesS, Int.toNat_natCast, hn5, hta, htb, htc, htd, htn, ht1, ht2, ht3, hts, ht4, ht5])
  have Pa := hid (show putS a 8 = (ta, 0) by rw [← hta]; exact put8 wa)
  have Pb := hid (show putS b 8 = (tb, 0) by rw [← htb]; exact put8 wb)
  have Pc := hid (show putS c 8 = (tc, 0) by rw [← htc]; exact put8 wc)
  have Pd := hid (show putS d 8 = (td, 0) by rw [← htd]; exact put8 wdd)
  have Pn := hid htn
  have P1 := hid ht1
  have P2 := hid ht2
  have P3 := hid ht3
  have P4 := hid ht4
  have P5 := hid ht5
  have Ps := hid hts
  have HC := hid hc
  clear hc hn5 hta htb htc htd htn ht1 ht2 ht3 hts ht4 ht5
  have hb0 := sbelow_new w (.cells #[.int .u64 (a : Int), .int .u64 (b : Int), .int .u64 (c : Int), .int .u64 (d : Int), .string (bs nm), .int .i64 (n1 : Int), .int .i64 (n2 : Int), .int .i64 (n3 : Int), .bool sh, .int .i64 (n4 : Int), .int .i64 y] 37)
  have hs0 := SB.new w a b c d nm n1 n2 n3 sh n4 y
  go_enter Try.func139, Try.ntmps139
  go_wp2_with fail
  generalize w.alloc (.cells #[.int .u64 (a : Int), .int .u64 (b : Int), .int .u64 (c : Int), .int .u64 (d : Int), .string (bs nm), .int .i64 (n1 : Int), .int .i64 (n2 : Int), .int .i64 (n3 : Int), .bool sh, .int .i64 (n4 : Int), .int .i64 y] 37) = v0 at *
  obtain ⟨k0, k1, k2, k3, k4, k5, k6, k7, k8, k9, k10⟩ := hs0.cells
  go_wp2_with fail
  refine (spcheck_at a b c d nm n1 n2 n3 sh n4 y _ (by omega) HC).mono ?_
  rintro e w1 ⟨rfl, hb1⟩
  have hs1 := hs0.up hb1
  have hb2 := sbelow_step hb0 hb1
  clear k0 k1 k2 k3 k4 k5 k6 k7 k8 k9 k10 hb0 hb1 hs0
  go_wp2_with fail
  have hz : Below w1.heap.size w1 w1.drew := (Below.refl _ _).drew
  have u1 : ¬ 9223372036854775807 < ta.length + tb.length := by omega
  have u2 : ¬ 9223372036854775807 < ta.length + tb.length + tc.length := by omega
  have u3 : ¬ 9223372036854775807 < ta.length + (tb.length + tc.length) + td.length := by omega
  have u4 : ¬ 9223372036854775807 < ta.length + (tb.length + (tc.length + td.length)) + tn.length := by omega
  go_region_held3 (fun w' => w'.cell? ⟨w.heap.size, 0, none⟩ = some (.int .u64 (a : Int)) ∧ w'.cell? ⟨w.heap.size, 1, none⟩ = some (.int .u64 (b : Int)) ∧ w'.cell? ⟨w.heap.size, 2, none⟩ = some (.int .u64 (c : Int)) ∧ w'.cell? ⟨w.heap.size, 3, none⟩ = some (.int .u64 (d : Int)) ∧ w'.cell? ⟨w.heap.size, 4, none⟩ = some (.string (bs nm)) ∧ Below w1.heap.size w1 w') (first | exact keepA hs1 hz | exact keepA hs1 (hz.trans (Below.mono (by assumption) hz.size))) (first
    | (go_at_call 145
       first
         | ((with_reducible refine (spwide_at a _ Pa).mono ?_); rintro e w3 ⟨rfl, hy⟩)
         | ((with_reducible refine (spwide_at b _ Pb).mono ?_); rintro e w3 ⟨rfl, hy⟩)
         | ((with_reducible refine (spwide_at c _ Pc).mono ?_); rintro e w3 ⟨rfl, hy⟩)
         | ((with_reducible refine (spwide_at d _ Pd).mono ?_); rintro e w3 ⟨rfl, hy⟩)
       have hz := hz.trans (hy.mono hz.size))
    | (go_at_call 146
       ((with_reducible refine (svtext_at nm _ (by omega) Pn).mono ?_); rintro e w3 ⟨rfl, hy⟩)
       have hz := hz.trans (hy.mono hz.size)))
  all_goals
    have hs2 := hs1.up hz
    have hb3 := sbelow_step hb2 hz
    have lwho : (ta ++ (tb ++ (tc ++ (td ++ tn)))).length ≤ 100 := by simp only [List.length_append]; omega
    have HW2 := hid (show writeS ⟨a, b, c, d, nm, (n1 : Int), (n2 : Int), (n3 : Int), sh, (n4 : Int), y⟩ = ((ta ++ (tb ++ (tc ++ (td ++ tn)))) ++ (t1 ++ (t2 ++ (t3 ++ (ts ++ (t4 ++ t5))))), 0) by rw [HW.out]; simp)
    clear hz hb2 hs1 HW u1 u2 u3 u4 Pa Pb Pc Pd Pn
    generalize ta ++ (tb ++ (tc ++ (td ++ tn))) = who at *
    go_wp2_with fail
    have hz : Below w3.heap.size w3 w3.drew := (Below.refl _ _).drew
    have u1 : ¬ 9223372036854775807 < t1.length + t2.length := by omega
    have u2 : ¬ 9223372036854775807 < t1.length + t2.length + t3.length := by omega
    have u3 : ¬ 9223372036854775807 < t1.length + (t2.length + t3.length) + ts.length := by omega
    go_region_held3 (fun w' => w'.cell? ⟨w.heap.size, 5, none⟩ = some (.int .i64 (n1 : Int)) ∧ w'.cell? ⟨w.heap.size, 6, none⟩ = some (.int .i64 (n2 : Int)) ∧ w'.cell? ⟨w.heap.size, 7, none⟩ = some (.int .i64 (n3 : Int)) ∧ w'.cell? ⟨w.heap.size, 8, none⟩ = some (.bool sh) ∧ Below w3.heap.size w3 w') (first | exact keepB hs2 hz | exact keepB hs2 (hz.trans (Below.mono (by assumption) hz.size))) (first
      | (go_at_call 147
         first
           | ((with_reducible refine (spnum_at n1 _ (by omega) P1).mono ?_); rintro e w4 ⟨rfl, hy⟩)
           | ((with_reducible refine (spnum_at n2 _ (by omega) P2).mono ?_); rintro e w4 ⟨rfl, hy⟩)
           | ((with_reducible refine (spnum_at n3 _ (by omega) P3).mono ?_); rintro e w4 ⟨rfl, hy⟩)
         have hz := hz.trans (hy.mono hz.size))
      | (go_at_call 148
         ((with_reducible refine (spshade_at sh _ Ps).mono ?_); rintro e w4 ⟨rfl, hy⟩)
         have hz := hz.trans (hy.mono hz.size)))
    all_goals
      have hs3 := hs2.up hz
      have hb4 := sbelow_step hb3 hz
      have lwhat : (t1 ++ (t2 ++ (t3 ++ ts))).length ≤ 100 := by simp only [List.length_append]; omega
      have HW3 := hid (show writeS ⟨a, b, c, d, nm, (n1 : Int), (n2 : Int), (n3 : Int), sh, (n4 : Int), y⟩ = ((who ++ (t1 ++ (t2 ++ (t3 ++ ts)))) ++ (t4 ++ t5), 0) by rw [HW2.out]; simp)
      clear hz hb3 hs2 HW2 u1 u2 u3 P1 P2 P3 Ps
      generalize t1 ++ (t2 ++ (t3 ++ ts)) = what at *
      go_wp2_with fail
      have hz : Below w4.heap.size w4 w4.drew := (Below.refl _ _).drew
      have HW4 := hid (show writeS ⟨a, b, c, d, nm, (n1 : Int), (n2 : Int), (n3 : Int), sh, (n4 : Int), y⟩ = (who ++ (what ++ (t4 ++ t5)), 0) by rw [HW3.out]; simp)
      have u1 : ¬ 9223372036854775807 < who.length + what.length := by omega
      have u2 : ¬ 9223372036854775807 < who.length + what.length + t4.length := by omega
      have u3 : ¬ 9223372036854775807 < who.length + (what.length + t4.length) + t5.length := by omega
      go_region_held3 (fun w' => w'.cell? ⟨w.heap.size, 9, none⟩ = some (.int .i64 (n4 : Int)) ∧ w'.cell? ⟨w.heap.size, 10, none⟩ = some (.int .i64 y) ∧ Below w4.heap.size w4 w') (first | exact keepC hs3 hz | exact keepC hs3 (hz.trans (Below.mono (by assumption) hz.size))) (first
        | (go_at_call 147
           first
             | ((with_reducible refine (spnum_at n4 _ (by omega) P4).mono ?_); rintro e w5 ⟨rfl, hy⟩)
             | ((with_reducible refine (spnum_at n5 _ (by omega) P5).mono ?_); rintro e w5 ⟨rfl, hy⟩)
           have hz := hz.trans (hy.mono hz.size)))
      all_goals
        go_wp2_with fail
        go_returns
        exact ⟨by rw [HW4.out]; rfl, sbelow_step hb4 hz⟩
end Go.Proofs.Ytpfhmpblcmednaa
namespace Go.Proofs.Ytpfhmpblcmednaa
set_option linter.unusedVariables false
set_option linter.unusedSimpArgs false
open Go.RowKit Go.Joins

set_option maxRecDepth 100000 in
set_option maxHeartbeats 16000000 in
theorem rspwrite_ok (a b c d : Nat) (nm : List UInt8) (st sq kd : Int) (sh : Bool) (x y : Int) (w : World) (wd : Hid (a < 18446744073709551616 ∧ b < 18446744073709551616 ∧ c < 18446744073709551616 ∧ d < 18446744073709551616)) (hc : chkS ⟨a, b, c, d, nm, st, sq, kd, sh, x, y⟩ = 0) :
    Calls Try.prog 80 #[.agg #[.int .u64 (a : Int), .int .u64 (b : Int), .int .u64 (c : Int), .int .u64 (d : Int), .string (bs nm), .int .i64 st, .int .i64 sq, .int .i64 kd, .bool sh, .int .i64 x, .int .i64 y]] w fun e w' => e = .returned (.tuple #[.string (bs (writeS ⟨a, b, c, d, nm, st, sq, kd, sh, x, y⟩).1), .int .i64 0]) ∧ Below w.heap.size w w' := by
  obtain ⟨_, hn0, hr⟩ := chkS_ok hc
  have hnl : nm.length ≤ 32 := nameB_len hn0
  clear hn0
  rw [rngS, decide_eq_true_eq] at hr
  obtain ⟨r1, r2, r3, r4, r5, r6, r7, r8, r9, r10⟩ := hr
  simp only at r1 r2 r3 r4 r5 r6 r7 r8 r9 r10
  obtain ⟨n1, rfl⟩ := Int.eq_ofNat_of_zero_le r1
  obtain ⟨n2, rfl⟩ := Int.eq_ofNat_of_zero_le r3
  obtain ⟨n3, rfl⟩ := Int.eq_ofNat_of_zero_le r5
  obtain ⟨n4, rfl⟩ := Int.eq_ofNat_of_zero_le r7
  obtain ⟨n5, hn5⟩ : ∃ n5 : Nat, y - (n4 : Int) = n5 := ⟨(y - (n4 : Int)).toNat, by omega⟩
  have ln5 : n5 ≤ 1099511627776 := by omega
  have hsub : IntKind.i64.wrap (y - (n4 : Int)) = (n5 : Int) := by rw [hn5]; exact IntWalk.i64_in _ (by omega)
  obtain ⟨wa, wb, wc, wdd⟩ := wd.out
  obtain ⟨ta, hta⟩ : ∃ t, be 8 a = t := ⟨_, rfl⟩
  obtain ⟨tb, htb⟩ : ∃ t, be 8 b = t := ⟨_, rfl⟩
  obtain ⟨tc, htc⟩ : ∃ t, be 8 c = t := ⟨_, rfl⟩
  obtain ⟨td, htd⟩ : ∃ t, be 8 d = t := ⟨_, rfl⟩
  obtain ⟨tn, htn⟩ : ∃ t, textS nm = t := ⟨_, rfl⟩
  obtain ⟨t1, ht1⟩ : ∃ t, vput n1 = t := ⟨_, rfl⟩
  obtain ⟨t2, ht2⟩ : ∃ t, vput n2 = t := ⟨_, rfl⟩
  obtain ⟨t3, ht3⟩ : ∃ t, vput n3 = t := ⟨_, rfl⟩
  obtain ⟨ts, hts⟩ : ∃ t, shB sh = t := ⟨_, rfl⟩
  obtain ⟨t4, ht4⟩ : ∃ t, vput n4 = t := ⟨_, rfl⟩
  obtain ⟨t5, ht5⟩ : ∃ t, vput n5 = t := ⟨_, rfl⟩
  have lta : ta.length ≤ 8 := by rw [← hta, be_length]; omega
  have ltb : tb.length ≤ 8 := by rw [← htb, be_length]; omega
  have ltc : tc.length ≤ 8 := by rw [← htc, be_length]; omega
  have ltd : td.length ≤ 8 := by rw [← htd, be_length]; omega
  have ltn : tn.length ≤ 42 := by rw [← htn, textS, List.length_append]; have := (vput_length_le nm.length).2; omega
  have lt1 : t1.length ≤ 10 := by rw [← ht1]; exact (vput_length_le _).2
  have lt2 : t2.length ≤ 10 := by rw [← ht2]; exact (vput_length_le _).2
  have lt3 : t3.length ≤ 10 := by rw [← ht3]; exact (vput_length_le _).2
  have lts : ts.length ≤ 1 := by rw [← hts]; exact Nat.le_refl 1
  have lt4 : t4.length ≤ 10 := by rw [← ht4]; exact (vput_length_le _).2
  have lt5 : t5.length ≤ 10 := by rw [← ht5]; exact (vput_length_le _).2
  have HW := hid (show writeS ⟨a, b, c, d, nm, (n1 : Int), (n2 : Int), (n3 : Int), sh, (n4 : Int), y⟩ = (ta ++ (tb ++ (tc ++ (td ++ (tn ++ (t1 ++ (t2 ++ (t3 ++ (ts ++ (t4 ++ t5))))))))), 0) by
    rw [writeS, if_pos hc]
    simp only [bytesS, Int.toNat_natCast, hn5, hta, htb, htc, htd, htn, ht1, ht2, ht3, hts, ht4, ht5])
  have Pa := hid (show putS a 8 = (ta, 0) by rw [← hta]; exact put8 wa)
  have Pb := hid (show putS b 8 = (tb, 0) by rw [← htb]; exact put8 wb)
  have Pc := hid (show putS c 8 = (tc, 0) by rw [← htc]; exact put8 wc)
  have Pd := hid (show putS d 8 = (td, 0) by rw [← htd]; exact put8 wdd)
  have Pn := hid htn
  have P1 := hid ht1
  have P2 := hid ht2
  have P3 := hid ht3
  have P4 := hid ht4
  have P5 := hid ht5
  have Ps := hid hts
  have HC := hid hc
  clear hc hn5 hta htb htc htd htn ht1 ht2 ht3 hts ht4 ht5
  have GA := hid wa
  have GB := hid wb
  have GC := hid wc
  have GD := hid wdd
  have H1 := hid (show n1 < 18446744073709551616 by omega)
  have H2 := hid (show n2 < 18446744073709551616 by omega)
  have H3 := hid (show n3 < 18446744073709551616 by omega)
  have H4 := hid (show n4 < 18446744073709551616 by omega)
  have H5 := hid (show n5 < 18446744073709551616 by omega)
  have q1 := wrap_u64_nat n1 H1.out
  have q2 := wrap_u64_nat n2 H2.out
  have q3 := wrap_u64_nat n3 H3.out
  have q4 := wrap_u64_nat n4 H4.out
  have q5 := wrap_u64_nat n5 H5.out
  clear wa wb wc wdd wd
  cases sh
  · have hb0 := sbelow_new w (.cells #[.int .u64 (a : Int), .int .u64 (b : Int), .int .u64 (c : Int), .int .u64 (d : Int), .string (bs nm), .int .i64 (n1 : Int), .int .i64 (n2 : Int), .int .i64 (n3 : Int), .bool false, .int .i64 (n4 : Int), .int .i64 y] 37)
    have hs0 := SB.new w a b c d nm n1 n2 n3 false n4 y
    have PB := hid (show [UInt8.ofNat (0 % 256)] = ts by rw [← Ps.out]; rfl)
    go_enter Try.func80, Try.ntmps80
    go_wp2_with fail
    generalize w.alloc (.cells #[.int .u64 (a : Int), .int .u64 (b : Int), .int .u64 (c : Int), .int .u64 (d : Int), .string (bs nm), .int .i64 (n1 : Int), .int .i64 (n2 : Int), .int .i64 (n3 : Int), .bool false, .int .i64 (n4 : Int), .int .i64 y] 37) = v0 at *
    obtain ⟨k0, k1, k2, k3, k4, k5, k6, k7, k8, k9, k10⟩ := hs0.cells
    go_wp2_with fail
    refine (rspcheck_at a b c d nm n1 n2 n3 false n4 y _ (by omega) HC).mono ?_
    rintro e w1 ⟨rfl, hb1⟩
    have hs1 := hs0.up hb1
    have hb2 := sbelow_step hb0 hb1
    clear k0 k1 k2 k3 k4 k5 k6 k7 k8 k9 k10
    obtain ⟨k0, k1, k2, k3, k4, k5, k6, k7, k8, k9, k10⟩ := hs1.cells
    clear hb0 hb1 hs0
    go_wp2_with fail
    clear k0 k1 k2 k3 k4 k5 k6 k7 k8 k9 k10
    have hz : Below w1.heap.size w1 w1.drew := (Below.refl _ _).drew
    have u1 : ¬ 9223372036854775807 < ta.length + tb.length := by omega
    have u2 : ¬ 9223372036854775807 < ta.length + tb.length + tc.length := by omega
    have u3 : ¬ 9223372036854775807 < ta.length + (tb.length + tc.length) + td.length := by omega
    have u4 : ¬ 9223372036854775807 < ta.length + (tb.length + (tc.length + td.length)) + tn.length := by omega
    have u5 : ¬ 9223372036854775807 < ta.length + (tb.length + (tc.length + (td.length + tn.length))) + t1.length := by omega
    have u6 : ¬ 9223372036854775807 < ta.length + (tb.length + (tc.length + (td.length + (tn.length + t1.length)))) + t2.length := by omega
    have u7 : ¬ 9223372036854775807 < ta.length + (tb.length + (tc.length + (td.length + (tn.length + (t1.length + t2.length))))) + t3.length := by omega
    have u8 : ¬ 9223372036854775807 < ta.length + (tb.length + (tc.length + (td.length + (tn.length + (t1.length + (t2.length + t3.length)))))) + ts.length := by omega
    have u9 : ¬ 9223372036854775807 < ta.length + (tb.length + (tc.length + (td.length + (tn.length + (t1.length + (t2.length + (t3.length + ts.length))))))) + t4.length := by omega
    have u10 : ¬ 9223372036854775807 < ta.length + (tb.length + (tc.length + (td.length + (tn.length + (t1.length + (t2.length + (t3.length + (ts.length + t4.length)))))))) + t5.length := by omega
    go_region_held3 (fun w' => w'.cell? ⟨w.heap.size, 0, none⟩ = some (.int .u64 (a : Int)) ∧ w'.cell? ⟨w.heap.size, 1, none⟩ = some (.int .u64 (b : Int)) ∧ w'.cell? ⟨w.heap.size, 2, none⟩ = some (.int .u64 (c : Int)) ∧ w'.cell? ⟨w.heap.size, 3, none⟩ = some (.int .u64 (d : Int)) ∧ w'.cell? ⟨w.heap.size, 4, none⟩ = some (.string (bs nm)) ∧ w'.cell? ⟨w.heap.size, 5, none⟩ = some (.int .i64 (n1 : Int)) ∧ w'.cell? ⟨w.heap.size, 6, none⟩ = some (.int .i64 (n2 : Int)) ∧ w'.cell? ⟨w.heap.size, 7, none⟩ = some (.int .i64 (n3 : Int)) ∧ w'.cell? ⟨w.heap.size, 8, none⟩ = some (.bool false) ∧ w'.cell? ⟨w.heap.size, 9, none⟩ = some (.int .i64 (n4 : Int)) ∧ w'.cell? ⟨w.heap.size, 10, none⟩ = some (.int .i64 y) ∧ Below w1.heap.size w1 w') (first | exact keepAll hs1 hz | exact keepAll hs1 (hz.trans (Below.mono (by assumption) hz.size))) (first
      | (go_at_call 115
         first
           | ((with_reducible refine (eight_at a _ GA Pa).mono ?_); rintro e w5 ⟨rfl, hy⟩)
           | ((with_reducible refine (eight_at b _ GB Pb).mono ?_); rintro e w5 ⟨rfl, hy⟩)
           | ((with_reducible refine (eight_at c _ GC Pc).mono ?_); rintro e w5 ⟨rfl, hy⟩)
           | ((with_reducible refine (eight_at d _ GD Pd).mono ?_); rintro e w5 ⟨rfl, hy⟩)
         have hz := hz.trans (hy.mono hz.size))
      | (go_at_call 116
         ((with_reducible refine (srvtext_at nm _ (by omega) Pn).mono ?_); rintro e w5 ⟨rfl, hy⟩)
         have hz := hz.trans (hy.mono hz.size))
      | (go_at_call 114
         ((with_reducible refine (sbyte0 _ PB).mono ?_); rintro e w5 ⟨rfl, hy⟩)
         have hz := hz.trans (hy.mono hz.size))
      | (go_at_call 79
         first
           | ((with_reducible refine (srvput_at n1 _ H1 P1).mono ?_); rintro e w5 ⟨rfl, hy⟩)
           | ((with_reducible refine (srvput_at n2 _ H2 P2).mono ?_); rintro e w5 ⟨rfl, hy⟩)
           | ((with_reducible refine (srvput_at n3 _ H3 P3).mono ?_); rintro e w5 ⟨rfl, hy⟩)
           | ((with_reducible refine (srvput_at n4 _ H4 P4).mono ?_); rintro e w5 ⟨rfl, hy⟩)
           | ((with_reducible refine (srvput_at n5 _ H5 P5).mono ?_); rintro e w5 ⟨rfl, hy⟩)
         have hz := hz.trans (hy.mono hz.size)))
    all_goals
      go_wp2_with fail
      go_returns
      exact ⟨by rw [HW.out]; rfl, sbelow_step hb2 hz⟩
  · have hb0 := sbelow_new w (.cells #[.int .u64 (a : Int), .int .u64 (b : Int), .int .u64 (c : Int), .int .u64 (d : Int), .string (bs nm), .int .i64 (n1 : Int), .int .i64 (n2 : Int), .int .i64 (n3 : Int), .bool true, .int .i64 (n4 : Int), .int .i64 y] 37)
    have hs0 := SB.new w a b c d nm n1 n2 n3 true n4 y
    have PB := hid (show [UInt8.ofNat (1 % 256)] = ts by rw [← Ps.out]; rfl)
    go_enter Try.func80, Try.ntmps80
    go_wp2_with fail
    generalize w.alloc (.cells #[.int .u64 (a : Int), .int .u64 (b : Int), .int .u64 (c : Int), .int .u64 (d : Int), .string (bs nm), .int .i64 (n1 : Int), .int .i64 (n2 : Int), .int .i64 (n3 : Int), .bool true, .int .i64 (n4 : Int), .int .i64 y] 37) = v0 at *
    obtain ⟨k0, k1, k2, k3, k4, k5, k6, k7, k8, k9, k10⟩ := hs0.cells
    go_wp2_with fail
    refine (rspcheck_at a b c d nm n1 n2 n3 true n4 y _ (by omega) HC).mono ?_
    rintro e w1 ⟨rfl, hb1⟩
    have hs1 := hs0.up hb1
    have hb2 := sbelow_step hb0 hb1
    clear k0 k1 k2 k3 k4 k5 k6 k7 k8 k9 k10
    obtain ⟨k0, k1, k2, k3, k4, k5, k6, k7, k8, k9, k10⟩ := hs1.cells
    clear hb0 hb1 hs0
    go_wp2_with fail
    clear k0 k1 k2 k3 k4 k5 k6 k7 k8 k9 k10
    have hz : Below w1.heap.size w1 w1.drew := (Below.refl _ _).drew
    have u1 : ¬ 9223372036854775807 < ta.length + tb.length := by omega
    have u2 : ¬ 9223372036854775807 < ta.length + tb.length + tc.length := by omega
    have u3 : ¬ 9223372036854775807 < ta.length + (tb.length + tc.length) + td.length := by omega
    have u4 : ¬ 9223372036854775807 < ta.length + (tb.length + (tc.length + td.length)) + tn.length := by omega
    have u5 : ¬ 9223372036854775807 < ta.length + (tb.length + (tc.length + (td.length + tn.length))) + t1.length := by omega
    have u6 : ¬ 9223372036854775807 < ta.length + (tb.length + (tc.length + (td.length + (tn.length + t1.length)))) + t2.length := by omega
    have u7 : ¬ 9223372036854775807 < ta.length + (tb.length + (tc.length + (td.length + (tn.length + (t1.length + t2.length))))) + t3.length := by omega
    have u8 : ¬ 9223372036854775807 < ta.length + (tb.length + (tc.length + (td.length + (tn.length + (t1.length + (t2.length + t3.length)))))) + ts.length := by omega
    have u9 : ¬ 9223372036854775807 < ta.length + (tb.length + (tc.length + (td.length + (tn.length + (t1.length + (t2.length + (t3.length + ts.length))))))) + t4.length := by omega
    have u10 : ¬ 9223372036854775807 < ta.length + (tb.length + (tc.length + (td.length + (tn.length + (t1.length + (t2.length + (t3.length + (ts.length + t4.length)))))))) + t5.length := by omega
    go_region_held3 (fun w' => w'.cell? ⟨w.heap.size, 0, none⟩ = some (.int .u64 (a : Int)) ∧ w'.cell? ⟨w.heap.size, 1, none⟩ = some (.int .u64 (b : Int)) ∧ w'.cell? ⟨w.heap.size, 2, none⟩ = some (.int .u64 (c : Int)) ∧ w'.cell? ⟨w.heap.size, 3, none⟩ = some (.int .u64 (d : Int)) ∧ w'.cell? ⟨w.heap.size, 4, none⟩ = some (.string (bs nm)) ∧ w'.cell? ⟨w.heap.size, 5, none⟩ = some (.int .i64 (n1 : Int)) ∧ w'.cell? ⟨w.heap.size, 6, none⟩ = some (.int .i64 (n2 : Int)) ∧ w'.cell? ⟨w.heap.size, 7, none⟩ = some (.int .i64 (n3 : Int)) ∧ w'.cell? ⟨w.heap.size, 8, none⟩ = some (.bool true) ∧ w'.cell? ⟨w.heap.size, 9, none⟩ = some (.int .i64 (n4 : Int)) ∧ w'.cell? ⟨w.heap.size, 10, none⟩ = some (.int .i64 y) ∧ Below w1.heap.size w1 w') (first | exact keepAll hs1 hz | exact keepAll hs1 (hz.trans (Below.mono (by assumption) hz.size))) (first
      | (go_at_call 115
         first
           | ((with_reducible refine (eight_at a _ GA Pa).mono ?_); rintro e w5 ⟨rfl, hy⟩)
           | ((with_reducible refine (eight_at b _ GB Pb).mono ?_); rintro e w5 ⟨rfl, hy⟩)
           | ((with_reducible refine (eight_at c _ GC Pc).mono ?_); rintro e w5 ⟨rfl, hy⟩)
           | ((with_reducible refine (eight_at d _ GD Pd).mono ?_); rintro e w5 ⟨rfl, hy⟩)
         have hz := hz.trans (hy.mono hz.size))
      | (go_at_call 116
         ((with_reducible refine (srvtext_at nm _ (by omega) Pn).mono ?_); rintro e w5 ⟨rfl, hy⟩)
         have hz := hz.trans (hy.mono hz.size))
      | (go_at_call 114
         ((with_reducible refine (sbyte1 _ PB).mono ?_); rintro e w5 ⟨rfl, hy⟩)
         have hz := hz.trans (hy.mono hz.size))
      | (go_at_call 79
         first
           | ((with_reducible refine (srvput_at n1 _ H1 P1).mono ?_); rintro e w5 ⟨rfl, hy⟩)
           | ((with_reducible refine (srvput_at n2 _ H2 P2).mono ?_); rintro e w5 ⟨rfl, hy⟩)
           | ((with_reducible refine (srvput_at n3 _ H3 P3).mono ?_); rintro e w5 ⟨rfl, hy⟩)
           | ((with_reducible refine (srvput_at n4 _ H4 P4).mono ?_); rintro e w5 ⟨rfl, hy⟩)
           | ((with_reducible refine (srvput_at n5 _ H5 P5).mono ?_); rintro e w5 ⟨rfl, hy⟩)
         have hz := hz.trans (hy.mono hz.size)))
    all_goals
      go_wp2_with fail
      go_returns
      exact ⟨by rw [HW.out]; rfl, sbelow_step hb2 hz⟩
end Go.Proofs.Ytpfhmpblcmednaa
