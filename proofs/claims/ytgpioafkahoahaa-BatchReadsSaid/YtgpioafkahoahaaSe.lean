import Derived.Test.YtgpioafkahoahaaSd
import Derived.Handy
namespace Go.Proofs.Ytgpioafkahoahaa
set_option linter.unusedVariables false
set_option linter.unusedSimpArgs false
open Go.RowKit Go.Joins

theorem Blk.only {w w' : World} {g q : Nat} {t : TypeId} {cs : Array Value} (h : Blk w q t cs) (o : Only g w w') (hn : q ≠ g) : Blk w' q t cs := (o.block q (Blk.lt h) hn).trans h
theorem Only.far {g q : Nat} {a b : World} (h : Only g a b) (hq : a.heap.size ≤ q) (i : Nat) (u : Value) : Only g a (b.setCell ⟨q, i, none⟩ u) :=
  ⟨h.os, h.tape, h.output, by have := h.size; simp [World.setCell]; omega, fun k hk hn => (Below.heap_setCell b ⟨q, i, none⟩ u k (by simp only [ne_eq]; omega)).trans (h.block k hk hn)⟩

def zs : Array Value := #[.int .u64 0, .int .u64 0, .int .u64 0, .int .u64 0, .string (bs []), .int .i64 0, .int .i64 0, .int .i64 0, .bool false, .int .i64 0, .int .i64 0]
/-- Where span() is: the reader, what it puts together, and its result's variable. -/
structure St (w : World) (g : Nat) (l : List UInt8) (v : World) (a e : Int) (cs : Array Value) : Prop where
  rc : RC v g l a e
  own : Blk v (w.heap.size + 1) 26 cs
  res : Blk v w.heap.size 26 zs
  only : Only g w v
  lt : g < w.heap.size
section
variable {w : World} {g : Nat} {l : List UInt8} {v v' : World} {a e a' e' : Int} {cs : Array Value}
theorem St.step (h : St w g l v a e cs) (hr : RC v' g l a' e') (o : Only g v v') : St w g l v' a' e' cs :=
  ⟨hr, h.own.only o (by have := h.lt; omega), h.res.only o (by have := h.lt; omega), h.only.trans o, h.lt⟩
theorem St.put (h : St w g l v a e cs) (i : Nat) (u : Value) : St w g l (v.setCell ⟨w.heap.size + 1, i, none⟩ u) a e (cs.setIfInBounds i u) :=
  ⟨Blk.far h.rc (by have := h.lt; simp only [ne_eq]; omega) u, Blk.set_ h.own i u, Blk.far h.res (by simp) u, h.only.far (by omega) i u, h.lt⟩
theorem St.cell (h : St w g l v a e cs) (i : Nat) : v.cell? ⟨w.heap.size + 1, i, none⟩ = cs[i]? ∧ v.frozen? ⟨w.heap.size + 1, i, none⟩ = false := ⟨Blk.cell h.own i, Blk.frozen h.own i⟩
theorem St.drew (h : St w g l v a e cs) : St w g l v.drew a e cs := ⟨h.rc, h.own, h.res, h.only.drew, h.lt⟩
theorem St.drewN (h : St w g l v a e cs) (n : Nat) : St w g l (v.drewN n) a e cs := ⟨h.rc, h.own, h.res, h.only.drewN n, h.lt⟩
theorem St.new (h : RC w g l a e) : St w g l ((w.alloc (.cells zs 26)).alloc (.cells zs 26)) a e zs := by
  have hlt := RC.lt h
  have h1 := (sbelow_new w (.cells zs 26))
  have h2 := (sbelow_new (w.alloc (.cells zs 26)) (.cells zs 26))
  have hsz : (w.alloc (.cells zs 26)).heap.size = w.heap.size + 1 := by simp
  refine ⟨(h.up h1).up h2, ?_, ?_, (Only.of_below h1 (Nat.le_refl _)).trans (Only.of_below h2 (Nat.le_refl _)), hlt⟩
  · have := Blk.new (w.alloc (.cells zs 26)) 26 zs
    rwa [hsz] at this
  · exact Blk.below (Blk.new w 26 zs) h2 (by rw [hsz]; omega)
end
/-- The result's variable, a reader beside it. -/
structure RS (w : World) (g : Nat) (l : List UInt8) (v : World) (a e : Int) (cs : Array Value) : Prop where
  rc : RC v g l a e
  res : Blk v w.heap.size 26 cs
  only : Only g w v
  lt : g < w.heap.size
theorem RS.put {w : World} {g : Nat} {l : List UInt8} {v : World} {a e : Int} {cs : Array Value} (h : RS w g l v a e cs) (i : Nat) (u : Value) : RS w g l (v.setCell ⟨w.heap.size, i, none⟩ u) a e (cs.setIfInBounds i u) :=
  ⟨Blk.far h.rc (by have := h.lt; simp only [ne_eq]; omega) u, Blk.set_ h.res i u, h.only.far (Nat.le_refl _) i u, h.lt⟩
theorem RS.fill {w : World} {g : Nat} {l : List UInt8} {v : World} {a e : Int} (h : RS w g l v a e zs) (x0 x1 x2 x3 x4 x5 x6 x7 x8 x9 x10 : Value) :
    RS w g l (((((((((((v.setCell ⟨w.heap.size, 0, none⟩ x0).setCell ⟨w.heap.size, 1, none⟩ x1).setCell ⟨w.heap.size, 2, none⟩ x2).setCell ⟨w.heap.size, 3, none⟩ x3).setCell ⟨w.heap.size, 4, none⟩ x4).setCell ⟨w.heap.size, 5, none⟩ x5).setCell ⟨w.heap.size, 6, none⟩ x6).setCell ⟨w.heap.size, 7, none⟩ x7).setCell ⟨w.heap.size, 8, none⟩ x8).setCell ⟨w.heap.size, 9, none⟩ x9).setCell ⟨w.heap.size, 10, none⟩ x10) a e #[x0, x1, x2, x3, x4, x5, x6, x7, x8, x9, x10] := by
  have h0 : RS w g l (v.setCell ⟨w.heap.size, 0, none⟩ x0) a e #[x0, .int .u64 0, .int .u64 0, .int .u64 0, .string (bs []), .int .i64 0, .int .i64 0, .int .i64 0, .bool false, .int .i64 0, .int .i64 0] := h.put 0 x0
  have h1 : RS w g l ((v.setCell ⟨w.heap.size, 0, none⟩ x0).setCell ⟨w.heap.size, 1, none⟩ x1) a e #[x0, x1, .int .u64 0, .int .u64 0, .string (bs []), .int .i64 0, .int .i64 0, .int .i64 0, .bool false, .int .i64 0, .int .i64 0] := h0.put 1 x1
  have h2 : RS w g l (((v.setCell ⟨w.heap.size, 0, none⟩ x0).setCell ⟨w.heap.size, 1, none⟩ x1).setCell ⟨w.heap.size, 2, none⟩ x2) a e #[x0, x1, x2, .int .u64 0, .string (bs []), .int .i64 0, .int .i64 0, .int .i64 0, .bool false, .int .i64 0, .int .i64 0] := h1.put 2 x2
  have h3 : RS w g l ((((v.setCell ⟨w.heap.size, 0, none⟩ x0).setCell ⟨w.heap.size, 1, none⟩ x1).setCell ⟨w.heap.size, 2, none⟩ x2).setCell ⟨w.heap.size, 3, none⟩ x3) a e #[x0, x1, x2, x3, .string (bs []), .int .i64 0, .int .i64 0, .int .i64 0, .bool false, .int .i64 0, .int .i64 0] := h2.put 3 x3
  have h4 : RS w g l (((((v.setCell ⟨w.heap.size, 0, none⟩ x0).setCell ⟨w.heap.size, 1, none⟩ x1).setCell ⟨w.heap.size, 2, none⟩ x2).setCell ⟨w.heap.size, 3, none⟩ x3).setCell ⟨w.heap.size, 4, none⟩ x4) a e #[x0, x1, x2, x3, x4, .int .i64 0, .int .i64 0, .int .i64 0, .bool false, .int .i64 0, .int .i64 0] := h3.put 4 x4
  have h5 : RS w g l ((((((v.setCell ⟨w.heap.size, 0, none⟩ x0).setCell ⟨w.heap.size, 1, none⟩ x1).setCell ⟨w.heap.size, 2, none⟩ x2).setCell ⟨w.heap.size, 3, none⟩ x3).setCell ⟨w.heap.size, 4, none⟩ x4).setCell ⟨w.heap.size, 5, none⟩ x5) a e #[x0, x1, x2, x3, x4, x5, .int .i64 0, .int .i64 0, .bool false, .int .i64 0, .int .i64 0] := h4.put 5 x5
  have h6 : RS w g l (((((((v.setCell ⟨w.heap.size, 0, none⟩ x0).setCell ⟨w.heap.size, 1, none⟩ x1).setCell ⟨w.heap.size, 2, none⟩ x2).setCell ⟨w.heap.size, 3, none⟩ x3).setCell ⟨w.heap.size, 4, none⟩ x4).setCell ⟨w.heap.size, 5, none⟩ x5).setCell ⟨w.heap.size, 6, none⟩ x6) a e #[x0, x1, x2, x3, x4, x5, x6, .int .i64 0, .bool false, .int .i64 0, .int .i64 0] := h5.put 6 x6
  have h7 : RS w g l ((((((((v.setCell ⟨w.heap.size, 0, none⟩ x0).setCell ⟨w.heap.size, 1, none⟩ x1).setCell ⟨w.heap.size, 2, none⟩ x2).setCell ⟨w.heap.size, 3, none⟩ x3).setCell ⟨w.heap.size, 4, none⟩ x4).setCell ⟨w.heap.size, 5, none⟩ x5).setCell ⟨w.heap.size, 6, none⟩ x6).setCell ⟨w.heap.size, 7, none⟩ x7) a e #[x0, x1, x2, x3, x4, x5, x6, x7, .bool false, .int .i64 0, .int .i64 0] := h6.put 7 x7
  have h8 : RS w g l (((((((((v.setCell ⟨w.heap.size, 0, none⟩ x0).setCell ⟨w.heap.size, 1, none⟩ x1).setCell ⟨w.heap.size, 2, none⟩ x2).setCell ⟨w.heap.size, 3, none⟩ x3).setCell ⟨w.heap.size, 4, none⟩ x4).setCell ⟨w.heap.size, 5, none⟩ x5).setCell ⟨w.heap.size, 6, none⟩ x6).setCell ⟨w.heap.size, 7, none⟩ x7).setCell ⟨w.heap.size, 8, none⟩ x8) a e #[x0, x1, x2, x3, x4, x5, x6, x7, x8, .int .i64 0, .int .i64 0] := h7.put 8 x8
  have h9 : RS w g l ((((((((((v.setCell ⟨w.heap.size, 0, none⟩ x0).setCell ⟨w.heap.size, 1, none⟩ x1).setCell ⟨w.heap.size, 2, none⟩ x2).setCell ⟨w.heap.size, 3, none⟩ x3).setCell ⟨w.heap.size, 4, none⟩ x4).setCell ⟨w.heap.size, 5, none⟩ x5).setCell ⟨w.heap.size, 6, none⟩ x6).setCell ⟨w.heap.size, 7, none⟩ x7).setCell ⟨w.heap.size, 8, none⟩ x8).setCell ⟨w.heap.size, 9, none⟩ x9) a e #[x0, x1, x2, x3, x4, x5, x6, x7, x8, x9, .int .i64 0] := h8.put 9 x9
  have h10 : RS w g l (((((((((((v.setCell ⟨w.heap.size, 0, none⟩ x0).setCell ⟨w.heap.size, 1, none⟩ x1).setCell ⟨w.heap.size, 2, none⟩ x2).setCell ⟨w.heap.size, 3, none⟩ x3).setCell ⟨w.heap.size, 4, none⟩ x4).setCell ⟨w.heap.size, 5, none⟩ x5).setCell ⟨w.heap.size, 6, none⟩ x6).setCell ⟨w.heap.size, 7, none⟩ x7).setCell ⟨w.heap.size, 8, none⟩ x8).setCell ⟨w.heap.size, 9, none⟩ x9).setCell ⟨w.heap.size, 10, none⟩ x10) a e #[x0, x1, x2, x3, x4, x5, x6, x7, x8, x9, x10] := h9.put 10 x10
  exact h10
theorem St.rs {w : World} {g : Nat} {l : List UInt8} {v : World} {a e : Int} {cs : Array Value} (h : St w g l v a e cs) : RS w g l v a e zs := ⟨h.rc, h.res, h.only, h.lt⟩
theorem vgetS_pos {l : List UInt8} {a b e : Int} {n : Nat} (h : vgetS l a = (n, b, e)) : 0 ≤ b ∧ b ≤ l.length := by
  have := vgetS_cases l a
  rw [h] at this
  simp only [Prod.mk.injEq] at this
  omega
theorem octP_pos {l : List UInt8} {wd a e a' e' : Int} {n : Nat} (h : octP l wd a e = (n, a', e')) (hs : l.length ≤ 140737488351232) (h1 : -9223372036854775808 ≤ a ∧ a ≤ 9223372036854775807) (hw : 1 ≤ wd ∧ wd ≤ 8) : -9223372036854775808 ≤ a' ∧ a' ≤ 9223372036854775807 := by
  unfold octP at h
  split at h
  · simp only [Prod.mk.injEq] at h; omega
  · split at h
    · rename_i h0
      simp only [Prod.mk.injEq] at h
      by_cases hc : wd < 1 ∨ 8 < wd ∨ a < 0
      · rw [getS_arg hc] at h0; simp at h0
      · by_cases hc2 : (l.length : Int) - a < wd
        · rw [getS_short hc hc2] at h0; simp at h0
        · omega
    · simp only [Prod.mk.injEq] at h; omega
theorem namP_pos {l : List UInt8} {a e a' e' : Int} {n : List UInt8} (h : namP l a e = (n, a', e')) (hs : l.length ≤ 140737488351232) (h1 : -9223372036854775808 ≤ a ∧ a ≤ 9223372036854775807) : -9223372036854775808 ≤ a' ∧ a' ≤ 9223372036854775807 := by
  unfold namP at h
  split at h
  · simp only [Prod.mk.injEq] at h; omega
  · split at h
    · simp only [Prod.mk.injEq] at h; omega
    · rename_i h0
      simp only [Prod.mk.injEq] at h
      obtain ⟨_, h, _⟩ := h
      obtain ⟨N, B, E, hv⟩ : ∃ N B E, vgetS l a = (N, B, E) := ⟨_, _, _, rfl⟩
      have hp := vgetS_pos hv
      unfold takeS at h h0
      rw [hv] at h h0
      simp only at h h0
      split at h
      · simp only at h; omega
      · split at h
        · simp only at h; omega
        · split at h
          · simp only at h; omega
          · simp only at h; omega
theorem numP_pos {l : List UInt8} {a e a' e' : Int} {n : Nat} (h : numP l a e = (n, a', e')) (hs : l.length ≤ 140737488351232) (h1 : -9223372036854775808 ≤ a ∧ a ≤ 9223372036854775807) : -9223372036854775808 ≤ a' ∧ a' ≤ 9223372036854775807 := by
  obtain ⟨N, B, E, hv⟩ : ∃ N B E, vgetS l a = (N, B, E) := ⟨_, _, _, rfl⟩
  have hp := vgetS_pos hv
  unfold numP at h
  rw [hv] at h
  simp only at h
  split at h
  · simp only [Prod.mk.injEq] at h; omega
  · split at h
    · simp only [Prod.mk.injEq] at h; omega
    · split at h
      · simp only [Prod.mk.injEq] at h; omega
      · simp only [Prod.mk.injEq] at h; omega
theorem shaP_pos {l : List UInt8} {a e a' e' : Int} {n : Bool} (h : shaP l a e = (n, a', e')) (hs : l.length ≤ 140737488351232) (h1 : -9223372036854775808 ≤ a ∧ a ≤ 9223372036854775807) : -9223372036854775808 ≤ a' ∧ a' ≤ 9223372036854775807 := by
  obtain ⟨N, B, E, hv⟩ : ∃ N B E, octP l 1 a e = (N, B, E) := ⟨_, _, _, rfl⟩
  have hp := octP_pos hv hs h1 (by omega)
  unfold shaP at h
  rw [hv] at h
  simp only at h
  split at h
  · simp only [Prod.mk.injEq] at h; omega
  · simp only [Prod.mk.injEq] at h; omega
/-- A span, as a value. -/
def spA (s : Sp) : Array Value := #[.int .u64 (s.hi : Int), .int .u64 (s.lo : Int), .int .u64 (s.id : Int), .int .u64 (s.up : Int), .string (bs s.name), .int .i64 s.status, .int .i64 s.seq, .int .i64 s.kids, .bool s.shade, .int .i64 s.start, .int .i64 s.fin]
set_option maxRecDepth 100000 in
set_option maxHeartbeats 8000000 in
theorem rspan_any (g : Nat) (l : List UInt8) (a : Int) (w : World) (h : RC w g l a 0) (hs : l.length ≤ 140737488351232) (ha : -9223372036854775808 ≤ a ∧ a ≤ 9223372036854775807) {s : Sp} {a' e' : Int} (H : Hid (runS l a = (s, a', e'))) :
    Calls Try.prog 45 #[.pointer (some ⟨g, 0, none⟩)] w fun r w' => r = .returned (.agg (spA s)) ∧ RC w' g l a' e' ∧ Only g w w' := by
  obtain ⟨hi, a1, e1, h1⟩ : ∃ p q r, octP l 8 a 0 = (p, q, r) := ⟨_, _, _, rfl⟩
  obtain ⟨lo, a2, e2, h2⟩ : ∃ p q r, octP l 8 a1 e1 = (p, q, r) := ⟨_, _, _, rfl⟩
  obtain ⟨id, a3, e3, h3⟩ : ∃ p q r, octP l 8 a2 e2 = (p, q, r) := ⟨_, _, _, rfl⟩
  obtain ⟨up, a4, e4, h4⟩ : ∃ p q r, octP l 8 a3 e3 = (p, q, r) := ⟨_, _, _, rfl⟩
  obtain ⟨nm, a5, e5, h5⟩ : ∃ p q r, namP l a4 e4 = (p, q, r) := ⟨_, _, _, rfl⟩
  obtain ⟨st, a6, e6, h6⟩ : ∃ p q r, numP l a5 e5 = (p, q, r) := ⟨_, _, _, rfl⟩
  obtain ⟨sq, a7, e7, h7⟩ : ∃ p q r, numP l a6 e6 = (p, q, r) := ⟨_, _, _, rfl⟩
  obtain ⟨kd, a8, e8, h8⟩ : ∃ p q r, numP l a7 e7 = (p, q, r) := ⟨_, _, _, rfl⟩
  obtain ⟨sh, a9, e9, h9⟩ : ∃ p q r, shaP l a8 e8 = (p, q, r) := ⟨_, _, _, rfl⟩
  obtain ⟨s0, a10, e10, h10⟩ : ∃ p q r, numP l a9 e9 = (p, q, r) := ⟨_, _, _, rfl⟩
  obtain ⟨s1, a11, e11, h11⟩ : ∃ p q r, numP l a10 e10 = (p, q, r) := ⟨_, _, _, rfl⟩
  have hru := runS_eq h1 h2 h3 h4 h5 h6 h7 h8 h9 h10 h11
  rw [H.out] at hru
  simp only [Prod.mk.injEq] at hru
  obtain ⟨rfl, rfl, rfl⟩ := hru
  have b1 := octP_pos h1 hs ha (by omega)
  have b2 := octP_pos h2 hs b1 (by omega)
  have b3 := octP_pos h3 hs b2 (by omega)
  have b4 := octP_pos h4 hs b3 (by omega)
  have b5 := namP_pos h5 hs b4
  have b6 := numP_pos h6 hs b5
  have b7 := numP_pos h7 hs b6
  have b8 := numP_pos h8 hs b7
  have b9 := shaP_pos h9 hs b8
  have b10 := numP_pos h10 hs b9
  have b11 := numP_pos h11 hs b10
  have n10 := numP_le l a9 e9
  have n11 := numP_le l a10 e10
  rw [h10] at n10
  rw [h11] at n11
  simp only at n10 n11
  have hsum : IntKind.i64.wrap ((s0 : Int) + (s1 : Int)) = (s0 : Int) + s1 := IntWalk.i64_in _ (by omega)
  have H1 := hid h1
  have H2 := hid h2
  have H3 := hid h3
  have H4 := hid h4
  have H5 := hid h5
  have H6 := hid h6
  have H7 := hid h7
  have H8 := hid h8
  have H9 := hid h9
  have H10 := hid h10
  have H11 := hid h11
  have B0 := hid ha
  have B1 := hid b1
  have B2 := hid b2
  have B3 := hid b3
  have B4 := hid b4
  have B5 := hid b5
  have B6 := hid b6
  have B7 := hid b7
  have B8 := hid b8
  have B9 := hid b9
  have B10 := hid b10
  have T0 := hid (St.new h)
  clear H h ha h1 b1 h2 b2 h3 b3 h4 b4 h5 b5 h6 b6 h7 b7 h8 b8 h9 b9 h10 b10 h11 b11
  go_enter Try.func45, Try.ntmps45
  go_wp2_with fail
  have eZ : (.cells #[.int .u64 0, .int .u64 0, .int .u64 0, .int .u64 0, .string (ByteArray.mk #[]), .int .i64 0, .int .i64 0, .int .i64 0, .bool false, .int .i64 0, .int .i64 0] 26 : Obj) = .cells zs 26 := rfl
  rw [eZ]
  clear eZ
  generalize (w.alloc (.cells zs 26)).alloc (.cells zs 26) = v0 at *
  refine (rwide_any g l a 0 _ T0.out.rc hs B0.out.1 B0.out.2 H1).mono ?_
  rintro r u1 ⟨rfl, hr1, o1⟩
  have hT := T0.out.step hr1 o1
  obtain ⟨c1, f1⟩ := hT.cell 0
  rw [show (zs : Array Value)[0]? = some (.int .u64 0) from rfl] at c1
  have T1 := hid (show St w g l _ a1 e1 #[.int .u64 (hi : Int), .int .u64 0, .int .u64 0, .int .u64 0, .string (bs []), .int .i64 0, .int .i64 0, .int .i64 0, .bool false, .int .i64 0, .int .i64 0] from hT.put 0 (.int .u64 (hi : Int)))
  clear hr1 o1 hT T0
  go_wp2_with fail
  clear c1 f1
  generalize u1.setCell ⟨w.heap.size + 1, 0, none⟩ (.int .u64 (hi : Int)) = v1 at *
  clear u1
  refine (rwide_any g l a1 e1 _ T1.out.rc hs B1.out.1 B1.out.2 H2).mono ?_
  rintro r u1 ⟨rfl, hr1, o1⟩
  have hT := T1.out.step hr1 o1
  obtain ⟨c1, f1⟩ := hT.cell 1
  rw [show (#[.int .u64 (hi : Int), .int .u64 0, .int .u64 0, .int .u64 0, .string (bs []), .int .i64 0, .int .i64 0, .int .i64 0, .bool false, .int .i64 0, .int .i64 0] : Array Value)[1]? = some (.int .u64 0) from rfl] at c1
  have T2 := hid (show St w g l _ a2 e2 #[.int .u64 (hi : Int), .int .u64 (lo : Int), .int .u64 0, .int .u64 0, .string (bs []), .int .i64 0, .int .i64 0, .int .i64 0, .bool false, .int .i64 0, .int .i64 0] from hT.put 1 (.int .u64 (lo : Int)))
  clear hr1 o1 hT T1
  go_wp2_with fail
  clear c1 f1
  generalize u1.setCell ⟨w.heap.size + 1, 1, none⟩ (.int .u64 (lo : Int)) = v2 at *
  clear u1
  refine (rwide_any g l a2 e2 _ T2.out.rc hs B2.out.1 B2.out.2 H3).mono ?_
  rintro r u1 ⟨rfl, hr1, o1⟩
  have hT := T2.out.step hr1 o1
  obtain ⟨c1, f1⟩ := hT.cell 2
  rw [show (#[.int .u64 (hi : Int), .int .u64 (lo : Int), .int .u64 0, .int .u64 0, .string (bs []), .int .i64 0, .int .i64 0, .int .i64 0, .bool false, .int .i64 0, .int .i64 0] : Array Value)[2]? = some (.int .u64 0) from rfl] at c1
  have T3 := hid (show St w g l _ a3 e3 #[.int .u64 (hi : Int), .int .u64 (lo : Int), .int .u64 (id : Int), .int .u64 0, .string (bs []), .int .i64 0, .int .i64 0, .int .i64 0, .bool false, .int .i64 0, .int .i64 0] from hT.put 2 (.int .u64 (id : Int)))
  clear hr1 o1 hT T2
  go_wp2_with fail
  clear c1 f1
  generalize u1.setCell ⟨w.heap.size + 1, 2, none⟩ (.int .u64 (id : Int)) = v3 at *
  clear u1
  refine (rwide_any g l a3 e3 _ T3.out.rc hs B3.out.1 B3.out.2 H4).mono ?_
  rintro r u1 ⟨rfl, hr1, o1⟩
  have hT := T3.out.step hr1 o1
  obtain ⟨c1, f1⟩ := hT.cell 3
  rw [show (#[.int .u64 (hi : Int), .int .u64 (lo : Int), .int .u64 (id : Int), .int .u64 0, .string (bs []), .int .i64 0, .int .i64 0, .int .i64 0, .bool false, .int .i64 0, .int .i64 0] : Array Value)[3]? = some (.int .u64 0) from rfl] at c1
  have T4 := hid (show St w g l _ a4 e4 #[.int .u64 (hi : Int), .int .u64 (lo : Int), .int .u64 (id : Int), .int .u64 (up : Int), .string (bs []), .int .i64 0, .int .i64 0, .int .i64 0, .bool false, .int .i64 0, .int .i64 0] from hT.put 3 (.int .u64 (up : Int)))
  clear hr1 o1 hT T3
  go_wp2_with fail
  clear c1 f1
  generalize u1.setCell ⟨w.heap.size + 1, 3, none⟩ (.int .u64 (up : Int)) = v4 at *
  clear u1
  refine (rnam_any g l a4 e4 _ T4.out.rc hs B4.out.2 H5).mono ?_
  rintro r u1 ⟨rfl, hr1, o1⟩
  have hT := T4.out.step hr1 o1
  obtain ⟨c1, f1⟩ := hT.cell 4
  rw [show (#[.int .u64 (hi : Int), .int .u64 (lo : Int), .int .u64 (id : Int), .int .u64 (up : Int), .string (bs []), .int .i64 0, .int .i64 0, .int .i64 0, .bool false, .int .i64 0, .int .i64 0] : Array Value)[4]? = some (.string (bs [])) from rfl] at c1
  have T5 := hid (show St w g l _ a5 e5 #[.int .u64 (hi : Int), .int .u64 (lo : Int), .int .u64 (id : Int), .int .u64 (up : Int), .string (bs nm), .int .i64 0, .int .i64 0, .int .i64 0, .bool false, .int .i64 0, .int .i64 0] from hT.put 4 (.string (bs nm)))
  clear hr1 o1 hT T4
  go_wp2_with fail
  clear c1 f1
  generalize u1.setCell ⟨w.heap.size + 1, 4, none⟩ (.string (bs nm)) = v5 at *
  clear u1
  refine (rnum_any g l a5 e5 _ T5.out.rc hs H6).mono ?_
  rintro r u1 ⟨rfl, hr1, o1⟩
  have hT := T5.out.step hr1 o1
  obtain ⟨c1, f1⟩ := hT.cell 5
  rw [show (#[.int .u64 (hi : Int), .int .u64 (lo : Int), .int .u64 (id : Int), .int .u64 (up : Int), .string (bs nm), .int .i64 0, .int .i64 0, .int .i64 0, .bool false, .int .i64 0, .int .i64 0] : Array Value)[5]? = some (.int .i64 0) from rfl] at c1
  have T6 := hid (show St w g l _ a6 e6 #[.int .u64 (hi : Int), .int .u64 (lo : Int), .int .u64 (id : Int), .int .u64 (up : Int), .string (bs nm), .int .i64 (st : Int), .int .i64 0, .int .i64 0, .bool false, .int .i64 0, .int .i64 0] from hT.put 5 (.int .i64 (st : Int)))
  clear hr1 o1 hT T5
  go_wp2_with fail
  clear c1 f1
  generalize u1.setCell ⟨w.heap.size + 1, 5, none⟩ (.int .i64 (st : Int)) = v6 at *
  clear u1
  refine (rnum_any g l a6 e6 _ T6.out.rc hs H7).mono ?_
  rintro r u1 ⟨rfl, hr1, o1⟩
  have hT := T6.out.step hr1 o1
  obtain ⟨c1, f1⟩ := hT.cell 6
  rw [show (#[.int .u64 (hi : Int), .int .u64 (lo : Int), .int .u64 (id : Int), .int .u64 (up : Int), .string (bs nm), .int .i64 (st : Int), .int .i64 0, .int .i64 0, .bool false, .int .i64 0, .int .i64 0] : Array Value)[6]? = some (.int .i64 0) from rfl] at c1
  have T7 := hid (show St w g l _ a7 e7 #[.int .u64 (hi : Int), .int .u64 (lo : Int), .int .u64 (id : Int), .int .u64 (up : Int), .string (bs nm), .int .i64 (st : Int), .int .i64 (sq : Int), .int .i64 0, .bool false, .int .i64 0, .int .i64 0] from hT.put 6 (.int .i64 (sq : Int)))
  clear hr1 o1 hT T6
  go_wp2_with fail
  clear c1 f1
  generalize u1.setCell ⟨w.heap.size + 1, 6, none⟩ (.int .i64 (sq : Int)) = v7 at *
  clear u1
  refine (rnum_any g l a7 e7 _ T7.out.rc hs H8).mono ?_
  rintro r u1 ⟨rfl, hr1, o1⟩
  have hT := T7.out.step hr1 o1
  obtain ⟨c1, f1⟩ := hT.cell 7
  rw [show (#[.int .u64 (hi : Int), .int .u64 (lo : Int), .int .u64 (id : Int), .int .u64 (up : Int), .string (bs nm), .int .i64 (st : Int), .int .i64 (sq : Int), .int .i64 0, .bool false, .int .i64 0, .int .i64 0] : Array Value)[7]? = some (.int .i64 0) from rfl] at c1
  have T8 := hid (show St w g l _ a8 e8 #[.int .u64 (hi : Int), .int .u64 (lo : Int), .int .u64 (id : Int), .int .u64 (up : Int), .string (bs nm), .int .i64 (st : Int), .int .i64 (sq : Int), .int .i64 (kd : Int), .bool false, .int .i64 0, .int .i64 0] from hT.put 7 (.int .i64 (kd : Int)))
  clear hr1 o1 hT T7
  go_wp2_with fail
  clear c1 f1
  generalize u1.setCell ⟨w.heap.size + 1, 7, none⟩ (.int .i64 (kd : Int)) = v8 at *
  clear u1
  refine (rshadow_any g l a8 e8 _ T8.out.rc hs B8.out.1 B8.out.2 H9).mono ?_
  rintro r u1 ⟨rfl, hr1, o1⟩
  have hT := T8.out.step hr1 o1
  obtain ⟨c1, f1⟩ := hT.cell 8
  rw [show (#[.int .u64 (hi : Int), .int .u64 (lo : Int), .int .u64 (id : Int), .int .u64 (up : Int), .string (bs nm), .int .i64 (st : Int), .int .i64 (sq : Int), .int .i64 (kd : Int), .bool false, .int .i64 0, .int .i64 0] : Array Value)[8]? = some (.bool false) from rfl] at c1
  have T9 := hid (show St w g l _ a9 e9 #[.int .u64 (hi : Int), .int .u64 (lo : Int), .int .u64 (id : Int), .int .u64 (up : Int), .string (bs nm), .int .i64 (st : Int), .int .i64 (sq : Int), .int .i64 (kd : Int), .bool sh, .int .i64 0, .int .i64 0] from hT.put 8 (.bool sh))
  clear hr1 o1 hT T8
  go_wp2_with fail
  clear c1 f1
  generalize u1.setCell ⟨w.heap.size + 1, 8, none⟩ (.bool sh) = v9 at *
  clear u1
  refine (rnum_any g l a9 e9 _ T9.out.rc hs H10).mono ?_
  rintro r u1 ⟨rfl, hr1, o1⟩
  have hT := T9.out.step hr1 o1
  obtain ⟨c1, f1⟩ := hT.cell 9
  rw [show (#[.int .u64 (hi : Int), .int .u64 (lo : Int), .int .u64 (id : Int), .int .u64 (up : Int), .string (bs nm), .int .i64 (st : Int), .int .i64 (sq : Int), .int .i64 (kd : Int), .bool sh, .int .i64 0, .int .i64 0] : Array Value)[9]? = some (.int .i64 0) from rfl] at c1
  have T10 := hid (show St w g l _ a10 e10 #[.int .u64 (hi : Int), .int .u64 (lo : Int), .int .u64 (id : Int), .int .u64 (up : Int), .string (bs nm), .int .i64 (st : Int), .int .i64 (sq : Int), .int .i64 (kd : Int), .bool sh, .int .i64 (s0 : Int), .int .i64 0] from hT.put 9 (.int .i64 (s0 : Int)))
  clear hr1 o1 hT T9
  go_wp2_with fail
  clear c1 f1
  generalize u1.setCell ⟨w.heap.size + 1, 9, none⟩ (.int .i64 (s0 : Int)) = v10 at *
  clear u1
  have k9 : v10.drew.cell? ⟨w.heap.size + 1, 9, none⟩ = some (.int .i64 (s0 : Int)) := (T10.out.drew.cell 9).1
  go_region_held3 (fun w' => w'.cell? ⟨w.heap.size + 1, 9, none⟩ = some (.int .i64 (s0 : Int))) (first | assumption | exact k9 | exact k10 | exact k11) (first
    | (go_at_call 70
       ((with_reducible refine (rnum_any g l a10 e10 _ T10.out.drew.rc hs H11).mono ?_); rintro r u1 ⟨rfl, hr1, o1⟩)
       have T11 := hid (T10.out.drew.step hr1 o1)
       have k10 : u1.cell? ⟨w.heap.size + 1, 9, none⟩ = some (.int .i64 (s0 : Int)) := (T11.out.cell 9).1
       obtain ⟨c1, f1⟩ := T11.out.cell 10
       rw [show (#[.int .u64 (hi : Int), .int .u64 (lo : Int), .int .u64 (id : Int), .int .u64 (up : Int), .string (bs nm), .int .i64 (st : Int), .int .i64 (sq : Int), .int .i64 (kd : Int), .bool sh, .int .i64 (s0 : Int), .int .i64 0] : Array Value)[10]? = some (.int .i64 0) from rfl] at c1
       have k11 : (u1.setCell ⟨w.heap.size + 1, 10, none⟩ (.int .i64 ((s0 : Int) + s1))).cell? ⟨w.heap.size + 1, 9, none⟩ = some (.int .i64 (s0 : Int)) := ((T11.out.put 10 (.int .i64 ((s0 : Int) + s1))).cell 9).1))
  have T12 := hid (show St w g l _ a' e' #[.int .u64 (hi : Int), .int .u64 (lo : Int), .int .u64 (id : Int), .int .u64 (up : Int), .string (bs nm), .int .i64 (st : Int), .int .i64 (sq : Int), .int .i64 (kd : Int), .bool sh, .int .i64 (s0 : Int), .int .i64 ((s0 : Int) + s1)] from T11.out.put 10 (.int .i64 ((s0 : Int) + s1)))
  clear k9 k10 k11 c1 f1 hr1 o1 T10 T11
  generalize u1.setCell ⟨w.heap.size + 1, 10, none⟩ (.int .i64 ((s0 : Int) + s1)) = v11 at *
  have c0 : v11.cell? ⟨w.heap.size + 1, 0, none⟩ = some (.int .u64 (hi : Int)) := (T12.out.cell 0).1
  have c1 : v11.cell? ⟨w.heap.size + 1, 1, none⟩ = some (.int .u64 (lo : Int)) := (T12.out.cell 1).1
  have c2 : v11.cell? ⟨w.heap.size + 1, 2, none⟩ = some (.int .u64 (id : Int)) := (T12.out.cell 2).1
  have c3 : v11.cell? ⟨w.heap.size + 1, 3, none⟩ = some (.int .u64 (up : Int)) := (T12.out.cell 3).1
  have c4 : v11.cell? ⟨w.heap.size + 1, 4, none⟩ = some (.string (bs nm)) := (T12.out.cell 4).1
  have c5 : v11.cell? ⟨w.heap.size + 1, 5, none⟩ = some (.int .i64 (st : Int)) := (T12.out.cell 5).1
  have c6 : v11.cell? ⟨w.heap.size + 1, 6, none⟩ = some (.int .i64 (sq : Int)) := (T12.out.cell 6).1
  have c7 : v11.cell? ⟨w.heap.size + 1, 7, none⟩ = some (.int .i64 (kd : Int)) := (T12.out.cell 7).1
  have c8 : v11.cell? ⟨w.heap.size + 1, 8, none⟩ = some (.bool sh) := (T12.out.cell 8).1
  have c9 : v11.cell? ⟨w.heap.size + 1, 9, none⟩ = some (.int .i64 (s0 : Int)) := (T12.out.cell 9).1
  have c10 : v11.cell? ⟨w.heap.size + 1, 10, none⟩ = some (.int .i64 ((s0 : Int) + s1)) := (T12.out.cell 10).1
  have r0 : v11.cell? ⟨w.heap.size, 0, none⟩ = some (.int .u64 0) := Blk.cell T12.out.res 0
  have z0 : v11.frozen? ⟨w.heap.size, 0, none⟩ = false := Blk.frozen T12.out.res 0
  have r1 : v11.cell? ⟨w.heap.size, 1, none⟩ = some (.int .u64 0) := Blk.cell T12.out.res 1
  have z1 : v11.frozen? ⟨w.heap.size, 1, none⟩ = false := Blk.frozen T12.out.res 1
  have r2 : v11.cell? ⟨w.heap.size, 2, none⟩ = some (.int .u64 0) := Blk.cell T12.out.res 2
  have z2 : v11.frozen? ⟨w.heap.size, 2, none⟩ = false := Blk.frozen T12.out.res 2
  have r3 : v11.cell? ⟨w.heap.size, 3, none⟩ = some (.int .u64 0) := Blk.cell T12.out.res 3
  have z3 : v11.frozen? ⟨w.heap.size, 3, none⟩ = false := Blk.frozen T12.out.res 3
  have r4 : v11.cell? ⟨w.heap.size, 4, none⟩ = some (.string (bs [])) := Blk.cell T12.out.res 4
  have z4 : v11.frozen? ⟨w.heap.size, 4, none⟩ = false := Blk.frozen T12.out.res 4
  have r5 : v11.cell? ⟨w.heap.size, 5, none⟩ = some (.int .i64 0) := Blk.cell T12.out.res 5
  have z5 : v11.frozen? ⟨w.heap.size, 5, none⟩ = false := Blk.frozen T12.out.res 5
  have r6 : v11.cell? ⟨w.heap.size, 6, none⟩ = some (.int .i64 0) := Blk.cell T12.out.res 6
  have z6 : v11.frozen? ⟨w.heap.size, 6, none⟩ = false := Blk.frozen T12.out.res 6
  have r7 : v11.cell? ⟨w.heap.size, 7, none⟩ = some (.int .i64 0) := Blk.cell T12.out.res 7
  have z7 : v11.frozen? ⟨w.heap.size, 7, none⟩ = false := Blk.frozen T12.out.res 7
  have r8 : v11.cell? ⟨w.heap.size, 8, none⟩ = some (.bool false) := Blk.cell T12.out.res 8
  have z8 : v11.frozen? ⟨w.heap.size, 8, none⟩ = false := Blk.frozen T12.out.res 8
  have r9 : v11.cell? ⟨w.heap.size, 9, none⟩ = some (.int .i64 0) := Blk.cell T12.out.res 9
  have z9 : v11.frozen? ⟨w.heap.size, 9, none⟩ = false := Blk.frozen T12.out.res 9
  have r10 : v11.cell? ⟨w.heap.size, 10, none⟩ = some (.int .i64 0) := Blk.cell T12.out.res 10
  have z10 : v11.frozen? ⟨w.heap.size, 10, none⟩ = false := Blk.frozen T12.out.res 10
  go_wp2_with fail
  have T13 := hid (show RS w g l _ a' e' #[.int .u64 (hi : Int), .int .u64 (lo : Int), .int .u64 (id : Int), .int .u64 (up : Int), .string (bs nm), .int .i64 (st : Int), .int .i64 (sq : Int), .int .i64 (kd : Int), .bool sh, .int .i64 (s0 : Int), .int .i64 ((s0 : Int) + s1)] from T12.out.rs.fill (.int .u64 (hi : Int)) (.int .u64 (lo : Int)) (.int .u64 (id : Int)) (.int .u64 (up : Int)) (.string (bs nm)) (.int .i64 (st : Int)) (.int .i64 (sq : Int)) (.int .i64 (kd : Int)) (.bool sh) (.int .i64 (s0 : Int)) (.int .i64 ((s0 : Int) + s1)))
  clear c0 r0 z0 c1 r1 z1 c2 r2 z2 c3 r3 z3 c4 r4 z4 c5 r5 z5 c6 r6 z6 c7 r7 z7 c8 r8 z8 c9 r9 z9 c10 r10 z10 T12
  generalize (((((((((((v11.setCell ⟨w.heap.size, 0, none⟩ (.int .u64 (hi : Int))).setCell ⟨w.heap.size, 1, none⟩ (.int .u64 (lo : Int))).setCell ⟨w.heap.size, 2, none⟩ (.int .u64 (id : Int))).setCell ⟨w.heap.size, 3, none⟩ (.int .u64 (up : Int))).setCell ⟨w.heap.size, 4, none⟩ (.string (bs nm))).setCell ⟨w.heap.size, 5, none⟩ (.int .i64 (st : Int))).setCell ⟨w.heap.size, 6, none⟩ (.int .i64 (sq : Int))).setCell ⟨w.heap.size, 7, none⟩ (.int .i64 (kd : Int))).setCell ⟨w.heap.size, 8, none⟩ (.bool sh)).setCell ⟨w.heap.size, 9, none⟩ (.int .i64 (s0 : Int))).setCell ⟨w.heap.size, 10, none⟩ (.int .i64 ((s0 : Int) + s1))) = v12 at *
  have c0 : v12.cell? ⟨w.heap.size, 0, none⟩ = some (.int .u64 (hi : Int)) := Blk.cell T13.out.res 0
  have c1 : v12.cell? ⟨w.heap.size, 1, none⟩ = some (.int .u64 (lo : Int)) := Blk.cell T13.out.res 1
  have c2 : v12.cell? ⟨w.heap.size, 2, none⟩ = some (.int .u64 (id : Int)) := Blk.cell T13.out.res 2
  have c3 : v12.cell? ⟨w.heap.size, 3, none⟩ = some (.int .u64 (up : Int)) := Blk.cell T13.out.res 3
  have c4 : v12.cell? ⟨w.heap.size, 4, none⟩ = some (.string (bs nm)) := Blk.cell T13.out.res 4
  have c5 : v12.cell? ⟨w.heap.size, 5, none⟩ = some (.int .i64 (st : Int)) := Blk.cell T13.out.res 5
  have c6 : v12.cell? ⟨w.heap.size, 6, none⟩ = some (.int .i64 (sq : Int)) := Blk.cell T13.out.res 6
  have c7 : v12.cell? ⟨w.heap.size, 7, none⟩ = some (.int .i64 (kd : Int)) := Blk.cell T13.out.res 7
  have c8 : v12.cell? ⟨w.heap.size, 8, none⟩ = some (.bool sh) := Blk.cell T13.out.res 8
  have c9 : v12.cell? ⟨w.heap.size, 9, none⟩ = some (.int .i64 (s0 : Int)) := Blk.cell T13.out.res 9
  have c10 : v12.cell? ⟨w.heap.size, 10, none⟩ = some (.int .i64 ((s0 : Int) + s1)) := Blk.cell T13.out.res 10
  (try simp only [Exit.inBlock, Exit.then])
  refine bodyPost_ret (v := .agg (spA ⟨hi, lo, id, up, nm, st, sq, kd, sh, s0, (s0 : Int) + s1⟩)) (by simp [results, Try.results45, go_sem, c0, c1, c2, c3, c4, c5, c6, c7, c8, c9, c10, spA]; try rfl) rfl ?_
  exact ⟨rfl, T13.out.rc, T13.out.only⟩
end Go.Proofs.Ytgpioafkahoahaa
