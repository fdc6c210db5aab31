import Derived.Test.YtgpioafkahoahaaSa
import Derived.Test.YtgpioafkahoahaaVq
namespace Go.Proofs.Ytgpioafkahoahaa
set_option linter.unusedVariables false
set_option linter.unusedSimpArgs false
open Go.RowKit Go.Joins

/-- A reader's variable: the text, the place, the error. -/
def RC (w : World) (g : Nat) (l : List UInt8) (a e : Int) : Prop := Blk w g 62 #[.string (bs l), .int .i64 a, .int .i64 e]
section
variable {w w' : World} {g : Nat} {l : List UInt8} {a e : Int}
theorem RC.lt (h : RC w g l a e) : g < w.heap.size := Blk.lt h
theorem RC.cells (h : RC w g l a e) : w.cell? ⟨g, 0, none⟩ = some (.string (bs l)) ∧ w.cell? ⟨g, 1, none⟩ = some (.int .i64 a) ∧ w.cell? ⟨g, 2, none⟩ = some (.int .i64 e) ∧ w.frozen? ⟨g, 1, none⟩ = false ∧ w.frozen? ⟨g, 2, none⟩ = false :=
  ⟨Blk.cell h 0, Blk.cell h 1, Blk.cell h 2, Blk.frozen h 1, Blk.frozen h 2⟩
theorem RC.set1 (h : RC w g l a e) (x : Int) : RC (w.setCell ⟨g, 1, none⟩ (.int .i64 x)) g l x e := Blk.set_ h 1 (.int .i64 x)
theorem RC.set2 (h : RC w g l a e) (x : Int) : RC (w.setCell ⟨g, 2, none⟩ (.int .i64 x)) g l a x := Blk.set_ h 2 (.int .i64 x)
theorem RC.drewN (h : RC w g l a e) (n : Nat) : RC (w.drewN n) g l a e := h
theorem RC.drew (h : RC w g l a e) : RC w.drew g l a e := h
theorem RC.new (w : World) (l : List UInt8) (a e : Int) : RC (w.alloc (.cells #[.string (bs l), .int .i64 a, .int .i64 e] 62)) w.heap.size l a e := Blk.new _ _ _
theorem RC.up (h : RC w g l a e) (hb : Below w.heap.size w w') : RC w' g l a e := Blk.below h hb (Blk.lt h)
end
theorem step_any (g : Nat) (l : List UInt8) (a e nx er : Int) (w : World) (h : RC w g l a e) {a' : Int} (H : Hid ((if er = 0 then nx else a) = a')) :
    Calls Try.prog 87 #[.pointer (some ⟨g, 0, none⟩), .int .i64 nx, .int .i64 er] w fun r w' => r = .returned (.tuple #[]) ∧ RC w' g l a' er ∧ Only g w w' := by
  obtain ⟨k0, k1, k2, f1, f2⟩ := h.cells
  have h1 := h.set2 er
  have h2 := h1.set1 nx
  have o1 := (Only.refl g w).set 2 (.int .i64 er)
  have o2 := o1.set 1 (.int .i64 nx)
  have H1 := hid (And.intro h1 (And.intro h2 (And.intro o1 o2)))
  clear h h1 h2 o1 o2
  by_cases he : er = 0
  · subst he
    obtain rfl : nx = a' := H.out
    go_enter Try.func87, Try.ntmps87
    go_wp2_with fail
    go_end0
    exact ⟨rfl, H1.out.2.1, H1.out.2.2.2⟩
  · have hb : (er == 0) = false := by simpa using he
    have H0 := H.out
    rw [if_neg he] at H0
    subst H0
    go_enter Try.func87, Try.ntmps87
    go_wp2_with fail
    go_end0
    exact ⟨rfl, H1.out.1, H1.out.2.2.1⟩
theorem sget_at (l : List UInt8) (a wd : Int) (w : World) (hs : l.length ≤ 140737488351232) (ha : a ≤ 9223372036854775807) {n : Nat} {e : Int} (H : Hid (getS l a wd = (n, e))) :
    Calls Try.prog 90 #[.string (bs l), .int .i64 a, .int .i64 wd] w fun r w' => r = .returned (.tuple #[.int .u64 n, .int .i64 e]) ∧ w' = w :=
  (oget_any (bs l) a wd w (by rw [bs_size]; unfold maxLen; omega) ha).mono fun r w' ⟨h1, h2⟩ => ⟨by rw [bs_data, H.out] at h1; exact h1, h2.symm⟩
theorem getS_err0 {l : List UInt8} {a wd : Int} {n : Nat} {e : Int} (h : getS l a wd = (n, e)) (he : e ≠ 0) : n = 0 := by
  unfold getS at h
  split at h
  · simp only [Prod.mk.injEq] at h; exact h.1.symm
  · split at h
    · simp only [Prod.mk.injEq] at h; exact h.1.symm
    · simp only [Prod.mk.injEq] at h; exact absurd h.2.symm he
set_option maxHeartbeats 1600000 in
theorem roct_any (g : Nat) (l : List UInt8) (a e wd : Int) (w : World) (h : RC w g l a e) (hs : l.length ≤ 140737488351232) (ha : -9223372036854775808 ≤ a) (ha2 : a ≤ 9223372036854775807) (hw : 1 ≤ wd) (hw2 : wd ≤ 8) {n : Nat} {a' e' : Int} (H : Hid (octP l wd a e = (n, a', e'))) :
    Calls Try.prog 85 #[.pointer (some ⟨g, 0, none⟩), .int .i64 wd] w fun r w' => r = .returned (.int .u64 n) ∧ RC w' g l a' e' ∧ Only g w w' := by
  obtain ⟨k0, k1, k2, f1, f2⟩ := h.cells
  have HR := hid h
  clear h
  by_cases he : e = 0
  rotate_left
  · have hb : (e != 0) = true := by simpa using he
    have H0 := H.out
    rw [octP_err he] at H0
    simp only [Prod.mk.injEq] at H0
    obtain ⟨rfl, rfl, rfl⟩ := H0
    clear he H
    go_enter Try.func85, Try.ntmps85
    go_wp2_with fail
    go_ret
    exact ⟨rfl, HR.out, Only.refl _ _⟩
  subst he
  obtain ⟨m, er, hg⟩ : ∃ m er, getS l a wd = (m, er) := ⟨_, _, rfl⟩
  have HG := hid hg
  have HS : Hid ((if er = 0 then IntKind.i64.wrap (a + wd) else a) = a' ∧ m = n ∧ er = e') := by
    have H0 := H.out
    rw [octP, if_neg (by simp), hg] at H0
    by_cases h0 : er = 0
    · simp only [h0, if_true, Prod.mk.injEq] at H0
      obtain ⟨h1, h2, h3⟩ := H0
      have hlen : a + wd ≤ 9223372036854775807 := by
        by_cases hc : wd < 1 ∨ 8 < wd ∨ a < 0
        · rw [getS_arg hc] at hg; simp only [Prod.mk.injEq] at hg; omega
        · by_cases hc2 : (l.length : Int) - a < wd
          · rw [getS_short hc hc2] at hg; simp only [Prod.mk.injEq] at hg; omega
          · omega
      exact hid ⟨by rw [if_pos h0, IntWalk.i64_in _ (by omega)]; exact h2, h1, by rw [h0]; exact h3⟩
    · simp only [h0, if_false, Prod.mk.injEq] at H0
      obtain ⟨h1, h2, h3⟩ := H0
      exact hid ⟨by rw [if_neg h0]; exact h2, h1, h3⟩
  clear hg H
  obtain ⟨nx, hnx⟩ : ∃ nx, IntKind.i64.wrap (a + wd) = nx := ⟨_, rfl⟩
  rw [hnx] at HS
  obtain ⟨hs1, rfl, rfl⟩ := HS.out
  have HS1 := hid hs1
  clear hs1 HS
  go_enter Try.func85, Try.ntmps85
  go_wp2_with fail
  go_quiet ((go_at_call 90; exact Calls.quiet_of_same (sget_at l a wd _ hs ha2 HG)))
  go_wp2_with fail
  refine (step_any g l a 0 nx er _ (HR.out.drewN _) HS1).mono ?_
  rintro r w1 ⟨rfl, h1, o1⟩
  have H1 := hid (And.intro h1 (((Only.refl g w).drewN nq).trans o1))
  clear h1 o1 k0 k1 k2 f1 f2
  go_wp2_with fail
  go_ret
  exact ⟨rfl, H1.out.1, H1.out.2⟩
theorem rwide_any (g : Nat) (l : List UInt8) (a e : Int) (w : World) (h : RC w g l a e) (hs : l.length ≤ 140737488351232) (ha : -9223372036854775808 ≤ a) (ha2 : a ≤ 9223372036854775807) {n : Nat} {a' e' : Int} (H : Hid (octP l 8 a e = (n, a', e'))) :
    Calls Try.prog 68 #[.pointer (some ⟨g, 0, none⟩)] w fun r w' => r = .returned (.int .u64 n) ∧ RC w' g l a' e' ∧ Only g w w' := by
  go_enter Try.func68, Try.ntmps68
  go_wp2_with fail
  refine (roct_any g l a e 8 _ h hs ha ha2 (by omega) (by omega) H).mono ?_
  rintro r w1 ⟨rfl, h1, o1⟩
  have H1 := hid (And.intro h1 o1)
  clear h1 o1 h
  go_wp2_with fail
  go_ret
  exact ⟨rfl, H1.out.1, H1.out.2⟩
theorem rshadow_any (g : Nat) (l : List UInt8) (a e : Int) (w : World) (h : RC w g l a e) (hs : l.length ≤ 140737488351232) (ha : -9223372036854775808 ≤ a) (ha2 : a ≤ 9223372036854775807) {z : Bool} {a' e' : Int} (H : Hid (shaP l a e = (z, a', e'))) :
    Calls Try.prog 71 #[.pointer (some ⟨g, 0, none⟩)] w fun r w' => r = .returned (.bool z) ∧ RC w' g l a' e' ∧ Only g w w' := by
  obtain ⟨n, b, x, ho⟩ : ∃ n b x, octP l 1 a e = (n, b, x) := ⟨_, _, _, rfl⟩
  have HO := hid ho
  have HX := H.out
  rw [shaP, ho] at HX
  simp only at HX
  clear ho H
  by_cases h1 : 1 < n
  · rw [if_pos h1] at HX
    simp only [Prod.mk.injEq] at HX
    obtain ⟨rfl, rfl, rfl⟩ := HX
    have hgt : decide ((1 : Int) < (n : Int)) = true := by simp; omega
    have hne : ((n : Int) == 1) = false := by simp; omega
    go_enter Try.func71, Try.ntmps71
    go_wp2_with fail
    refine (roct_any g l a e 1 _ h hs ha ha2 (by omega) (by omega) HO).mono ?_
    rintro r w1 ⟨rfl, hr, o1⟩
    obtain ⟨k0, k1, k2, f1, f2⟩ := hr.cells
    have H1 := hid (And.intro hr o1)
    clear hr o1 h
    go_wp2_with fail
    go_ret
    exact ⟨rfl, H1.out.1.set2 _, H1.out.2.set _ _⟩
  · rw [if_neg h1] at HX
    simp only [Prod.mk.injEq] at HX
    obtain ⟨rfl, rfl, rfl⟩ := HX
    have hgt : decide ((1 : Int) < (n : Int)) = false := by simp; omega
    have hne : ((n : Int) == 1) = decide (n = 1) := by rw [Bool.eq_iff_iff]; simp; omega
    go_enter Try.func71, Try.ntmps71
    go_wp2_with fail
    refine (roct_any g l a e 1 _ h hs ha ha2 (by omega) (by omega) HO).mono ?_
    rintro r w1 ⟨rfl, hr, o1⟩
    have H1 := hid (And.intro hr o1)
    clear hr o1 h
    go_wp2_with fail
    go_ret
    exact ⟨rfl, H1.out.1, H1.out.2⟩
theorem svget_at (l : List UInt8) (a : Int) (w : World) (hs : l.length ≤ 140737488351232) {n : Nat} {b e : Int} (H : Hid (vgetS l a = (n, b, e))) :
    Calls Try.prog 80 #[.string (bs l), .int .i64 a] w fun r w' => r = .returned (.tuple #[.int .u64 n, .int .i64 b, .int .i64 e]) ∧ w' = w :=
  (vget_any l a w (by omega)).mono fun r w' ⟨h1, h2⟩ => ⟨by rw [H.out] at h1; exact h1, h2.symm⟩
theorem svtake_at (l : List UInt8) (a m : Int) (w : World) (hs : l.length ≤ 140737488351232) (ha : a ≤ 9223372036854775807) (hm : m ≤ 9223372036854775807) {n : List UInt8} {b e : Int} (H : Hid (takeS l a m = (n, b, e))) :
    Calls Try.prog 86 #[.string (bs l), .int .i64 a, .int .i64 m] w fun r w' => r = .returned (.tuple #[.string (bs n), .int .i64 b, .int .i64 e]) ∧ w' = w :=
  (vtake_any l a m w hs ha hm).mono fun r w' ⟨h1, h2⟩ => ⟨by rw [H.out] at h1; exact h1, h2.symm⟩
theorem vget_err0 {l : List UInt8} {a : Int} {n : Nat} {b e : Int} (h : vgetS l a = (n, b, e)) (he : e ≠ 0) : n = 0 := by
  have := vgetS_cases l a
  rw [h] at this
  simp only [Prod.mk.injEq] at this
  omega
set_option maxHeartbeats 1600000 in
theorem rnum_any (g : Nat) (l : List UInt8) (a e : Int) (w : World) (h : RC w g l a e) (hs : l.length ≤ 140737488351232) {n : Nat} {a' e' : Int} (H : Hid (numP l a e = (n, a', e'))) :
    Calls Try.prog 70 #[.pointer (some ⟨g, 0, none⟩)] w fun r w' => r = .returned (.int .i64 n) ∧ RC w' g l a' e' ∧ Only g w w' := by
  obtain ⟨k0, k1, k2, f1, f2⟩ := h.cells
  have HR := hid h
  clear h
  by_cases he : e = 0
  rotate_left
  · have hb : (e != 0) = true := by simpa using he
    have H0 := H.out
    rw [numP_err he] at H0
    simp only [Prod.mk.injEq] at H0
    obtain ⟨rfl, rfl, rfl⟩ := H0
    clear he H
    go_enter Try.func70, Try.ntmps70
    go_wp2_with fail
    go_ret
    exact ⟨rfl, HR.out, Only.refl _ _⟩
  subst he
  obtain ⟨m, b, er, hg⟩ : ∃ m b er, vgetS l a = (m, b, er) := ⟨_, _, _, rfl⟩
  have HG := hid hg
  have H0 := H.out
  rw [numP, if_neg (by simp), hg] at H0
  simp only at H0
  by_cases h0 : er = 0
  · subst h0
    rw [if_neg (by simp)] at H0
    by_cases hm : 1099511627776 < m
    · rw [if_pos hm] at H0
      simp only [Prod.mk.injEq] at H0
      obtain ⟨rfl, rfl, rfl⟩ := H0
      have hgt : decide ((1099511627776 : Int) < (m : Int)) = true := by simp; omega
      have HS := hid (show (if (12 : Int) = 0 then b else a) = a from if_neg (by omega))
      clear hg H
      go_enter Try.func70, Try.ntmps70
      go_wp2_with fail
      go_quiet ((go_at_call 80; exact Calls.quiet_of_same (svget_at l a _ hs HG)))
      go_wp2_with fail
      refine (step_any g l a 0 b 12 _ (HR.out.drewN _) HS).mono ?_
      rintro r w1 ⟨rfl, h1, o1⟩
      have H1 := hid (And.intro h1 (((Only.refl g w).drewN nq).trans o1))
      clear h1 o1 k0 k1 k2 f1 f2
      go_wp2_with fail
      go_ret
      exact ⟨rfl, H1.out.1, H1.out.2⟩
    · rw [if_neg hm] at H0
      simp only [Prod.mk.injEq] at H0
      obtain ⟨rfl, rfl, rfl⟩ := H0
      have hgt : decide ((1099511627776 : Int) < (m : Int)) = false := by simp; omega
      have hwr : IntKind.i64.wrap (m : Int) = m := IntWalk.i64_in _ (by omega)
      have HS := hid (show (if (0 : Int) = 0 then b else a) = b from if_pos rfl)
      clear hg H
      go_enter Try.func70, Try.ntmps70
      go_wp2_with fail
      go_quiet ((go_at_call 80; exact Calls.quiet_of_same (svget_at l a _ hs HG)))
      go_wp2_with fail
      refine (step_any g l a 0 b 0 _ (HR.out.drewN _) HS).mono ?_
      rintro r w1 ⟨rfl, h1, o1⟩
      have H1 := hid (And.intro h1 (((Only.refl g w).drewN nq).trans o1))
      clear h1 o1 k0 k1 k2 f1 f2
      go_wp2_with fail
      go_ret
      exact ⟨rfl, H1.out.1, H1.out.2⟩
  · rw [if_pos h0] at H0
    simp only [Prod.mk.injEq] at H0
    obtain ⟨rfl, rfl, rfl⟩ := H0
    obtain rfl := vget_err0 hg h0
    have hb : (er == 0) = false := by simpa using h0
    have HS := hid (show (if er = 0 then b else a) = a from if_neg h0)
    clear hg H h0
    go_enter Try.func70, Try.ntmps70
    go_wp2_with fail
    go_quiet ((go_at_call 80; exact Calls.quiet_of_same (svget_at l a _ hs HG)))
    go_wp2_with fail
    refine (step_any g l a 0 b er _ (HR.out.drewN _) HS).mono ?_
    rintro r w1 ⟨rfl, h1, o1⟩
    have H1 := hid (And.intro h1 (((Only.refl g w).drewN nq).trans o1))
    clear h1 o1 k0 k1 k2 f1 f2
    go_wp2_with fail
    go_ret
    exact ⟨rfl, H1.out.1, H1.out.2⟩
set_option maxHeartbeats 1600000 in
theorem rnam_any (g : Nat) (l : List UInt8) (a e : Int) (w : World) (h : RC w g l a e) (hs : l.length ≤ 140737488351232) (ha2 : a ≤ 9223372036854775807) {n : List UInt8} {a' e' : Int} (H : Hid (namP l a e = (n, a', e'))) :
    Calls Try.prog 69 #[.pointer (some ⟨g, 0, none⟩)] w fun r w' => r = .returned (.string (bs n)) ∧ RC w' g l a' e' ∧ Only g w w' := by
  obtain ⟨k0, k1, k2, f1, f2⟩ := h.cells
  have HR := hid h
  clear h
  by_cases he : e = 0
  rotate_left
  · have hb : (e != 0) = true := by simpa using he
    have H0 := H.out
    rw [namP_err he] at H0
    simp only [Prod.mk.injEq] at H0
    obtain ⟨rfl, rfl, rfl⟩ := H0
    clear he H
    go_enter Try.func69, Try.ntmps69
    go_wp2_with fail
    go_ret
    exact ⟨rfl, HR.out, Only.refl _ _⟩
  subst he
  obtain ⟨m, b, er, hg⟩ : ∃ m b er, takeS l a 32 = (m, b, er) := ⟨_, _, _, rfl⟩
  have HG := hid hg
  have HS : Hid ((if er = 0 then b else a) = a' ∧ m = n ∧ er = e') := by
    have H0 := H.out
    rw [namP, if_neg (by simp), hg] at H0
    by_cases h0 : er = 0
    · subst h0
      simp only [ne_eq, not_true_eq_false, if_false, Prod.mk.injEq] at H0
      exact hid ⟨by rw [if_pos rfl]; exact H0.2.1, H0.1, H0.2.2⟩
    · simp only [ne_eq, h0, not_false_eq_true, if_true, Prod.mk.injEq] at H0
      exact hid ⟨by rw [if_neg h0]; exact H0.2.1, H0.1, H0.2.2⟩
  clear hg H
  obtain ⟨hs1, rfl, rfl⟩ := HS.out
  have HS1 := hid hs1
  clear hs1 HS
  go_enter Try.func69, Try.ntmps69
  go_wp2_with fail
  go_quiet ((go_at_call 86; exact Calls.quiet_of_same (svtake_at l a 32 _ hs ha2 (by omega) HG)))
  go_wp2_with fail
  refine (step_any g l a 0 b er _ (HR.out.drewN _) HS1).mono ?_
  rintro r w1 ⟨rfl, h1, o1⟩
  have H1 := hid (And.intro h1 (((Only.refl g w).drewN nq).trans o1))
  clear h1 o1 k0 k1 k2 f1 f2
  go_wp2_with fail
  go_ret
  exact ⟨rfl, H1.out.1, H1.out.2⟩
end Go.Proofs.Ytgpioafkahoahaa
