import Derived.Test.YtgpioafkahoahaaSe
import Derived.BigRegion
import Derived.Deep.Cut
import Derived.StillTailTactics
namespace Go.Proofs.Ytgpioafkahoahaa
set_option linter.unusedVariables false
set_option linter.unusedSimpArgs false
open Go.RowKit Go.Joins

/-- The variable of a result that is a span. -/
structure RB (w v : World) (cs : Array Value) : Prop where
  res : Blk v w.heap.size 26 cs
  bel : Below w.heap.size w v
theorem RB.put {w v : World} {cs : Array Value} (h : RB w v cs) (i : Nat) (u : Value) : RB w (v.setCell ⟨w.heap.size, i, none⟩ u) (cs.setIfInBounds i u) :=
  ⟨Blk.set_ h.res i u, Below.setCell h.bel (Nat.le_refl _) u⟩
theorem RB.new (w : World) : RB w (w.alloc (.cells zs 26)) zs := ⟨Blk.new _ _ _, sbelow_new _ _⟩
theorem RB.up {w v v' : World} {cs : Array Value} (h : RB w v cs) (hb : Below v.heap.size v v') : RB w v' cs := ⟨Blk.below h.res hb (Blk.lt h.res), sbelow_step h.bel hb⟩
theorem RB.only {w v v' : World} {cs : Array Value} {g : Nat} (h : RB w v cs) (o : Only g v v') (hg : w.heap.size < g) : RB w v' cs := ⟨h.res.only o (by omega), Only.below h.bel o (by omega) h.bel.size⟩
theorem RB.cell {w v : World} {cs : Array Value} (h : RB w v cs) (i : Nat) : v.cell? ⟨w.heap.size, i, none⟩ = cs[i]? ∧ v.frozen? ⟨w.heap.size, i, none⟩ = false := ⟨Blk.cell h.res i, Blk.frozen h.res i⟩
theorem RB.fill {w v : World} (h : RB w v zs) (x0 x1 x2 x3 x4 x5 x6 x7 x8 x9 x10 : Value) : RB w (((((((((((v.setCell ⟨w.heap.size, 0, none⟩ x0).setCell ⟨w.heap.size, 1, none⟩ x1).setCell ⟨w.heap.size, 2, none⟩ x2).setCell ⟨w.heap.size, 3, none⟩ x3).setCell ⟨w.heap.size, 4, none⟩ x4).setCell ⟨w.heap.size, 5, none⟩ x5).setCell ⟨w.heap.size, 6, none⟩ x6).setCell ⟨w.heap.size, 7, none⟩ x7).setCell ⟨w.heap.size, 8, none⟩ x8).setCell ⟨w.heap.size, 9, none⟩ x9).setCell ⟨w.heap.size, 10, none⟩ x10) #[x0, x1, x2, x3, x4, x5, x6, x7, x8, x9, x10] := by
  have h0 : RB w (v.setCell ⟨w.heap.size, 0, none⟩ x0) #[x0, .int .u64 0, .int .u64 0, .int .u64 0, .string (bs []), .int .i64 0, .int .i64 0, .int .i64 0, .bool false, .int .i64 0, .int .i64 0] := h.put 0 x0
  have h1 : RB w ((v.setCell ⟨w.heap.size, 0, none⟩ x0).setCell ⟨w.heap.size, 1, none⟩ x1) #[x0, x1, .int .u64 0, .int .u64 0, .string (bs []), .int .i64 0, .int .i64 0, .int .i64 0, .bool false, .int .i64 0, .int .i64 0] := h0.put 1 x1
  have h2 : RB w (((v.setCell ⟨w.heap.size, 0, none⟩ x0).setCell ⟨w.heap.size, 1, none⟩ x1).setCell ⟨w.heap.size, 2, none⟩ x2) #[x0, x1, x2, .int .u64 0, .string (bs []), .int .i64 0, .int .i64 0, .int .i64 0, .bool false, .int .i64 0, .int .i64 0] := h1.put 2 x2
  have h3 : RB w ((((v.setCell ⟨w.heap.size, 0, none⟩ x0).setCell ⟨w.heap.size, 1, none⟩ x1).setCell ⟨w.heap.size, 2, none⟩ x2).setCell ⟨w.heap.size, 3, none⟩ x3) #[x0, x1, x2, x3, .string (bs []), .int .i64 0, .int .i64 0, .int .i64 0, .bool false, .int .i64 0, .int .i64 0] := h2.put 3 x3
  have h4 : RB w (((((v.setCell ⟨w.heap.size, 0, none⟩ x0).setCell ⟨w.heap.size, 1, none⟩ x1).setCell ⟨w.heap.size, 2, none⟩ x2).setCell ⟨w.heap.size, 3, none⟩ x3).setCell ⟨w.heap.size, 4, none⟩ x4) #[x0, x1, x2, x3, x4, .int .i64 0, .int .i64 0, .int .i64 0, .bool false, .int .i64 0, .int .i64 0] := h3.put 4 x4
  have h5 : RB w ((((((v.setCell ⟨w.heap.size, 0, none⟩ x0).setCell ⟨w.heap.size, 1, none⟩ x1).setCell ⟨w.heap.size, 2, none⟩ x2).setCell ⟨w.heap.size, 3, none⟩ x3).setCell ⟨w.heap.size, 4, none⟩ x4).setCell ⟨w.heap.size, 5, none⟩ x5) #[x0, x1, x2, x3, x4, x5, .int .i64 0, .int .i64 0, .bool false, .int .i64 0, .int .i64 0] := h4.put 5 x5
  have h6 : RB w (((((((v.setCell ⟨w.heap.size, 0, none⟩ x0).setCell ⟨w.heap.size, 1, none⟩ x1).setCell ⟨w.heap.size, 2, none⟩ x2).setCell ⟨w.heap.size, 3, none⟩ x3).setCell ⟨w.heap.size, 4, none⟩ x4).setCell ⟨w.heap.size, 5, none⟩ x5).setCell ⟨w.heap.size, 6, none⟩ x6) #[x0, x1, x2, x3, x4, x5, x6, .int .i64 0, .bool false, .int .i64 0, .int .i64 0] := h5.put 6 x6
  have h7 : RB w ((((((((v.setCell ⟨w.heap.size, 0, none⟩ x0).setCell ⟨w.heap.size, 1, none⟩ x1).setCell ⟨w.heap.size, 2, none⟩ x2).setCell ⟨w.heap.size, 3, none⟩ x3).setCell ⟨w.heap.size, 4, none⟩ x4).setCell ⟨w.heap.size, 5, none⟩ x5).setCell ⟨w.heap.size, 6, none⟩ x6).setCell ⟨w.heap.size, 7, none⟩ x7) #[x0, x1, x2, x3, x4, x5, x6, x7, .bool false, .int .i64 0, .int .i64 0] := h6.put 7 x7
  have h8 : RB w (((((((((v.setCell ⟨w.heap.size, 0, none⟩ x0).setCell ⟨w.heap.size, 1, none⟩ x1).setCell ⟨w.heap.size, 2, none⟩ x2).setCell ⟨w.heap.size, 3, none⟩ x3).setCell ⟨w.heap.size, 4, none⟩ x4).setCell ⟨w.heap.size, 5, none⟩ x5).setCell ⟨w.heap.size, 6, none⟩ x6).setCell ⟨w.heap.size, 7, none⟩ x7).setCell ⟨w.heap.size, 8, none⟩ x8) #[x0, x1, x2, x3, x4, x5, x6, x7, x8, .int .i64 0, .int .i64 0] := h7.put 8 x8
  have h9 : RB w ((((((((((v.setCell ⟨w.heap.size, 0, none⟩ x0).setCell ⟨w.heap.size, 1, none⟩ x1).setCell ⟨w.heap.size, 2, none⟩ x2).setCell ⟨w.heap.size, 3, none⟩ x3).setCell ⟨w.heap.size, 4, none⟩ x4).setCell ⟨w.heap.size, 5, none⟩ x5).setCell ⟨w.heap.size, 6, none⟩ x6).setCell ⟨w.heap.size, 7, none⟩ x7).setCell ⟨w.heap.size, 8, none⟩ x8).setCell ⟨w.heap.size, 9, none⟩ x9) #[x0, x1, x2, x3, x4, x5, x6, x7, x8, x9, .int .i64 0] := h8.put 9 x9
  have h10 : RB w (((((((((((v.setCell ⟨w.heap.size, 0, none⟩ x0).setCell ⟨w.heap.size, 1, none⟩ x1).setCell ⟨w.heap.size, 2, none⟩ x2).setCell ⟨w.heap.size, 3, none⟩ x3).setCell ⟨w.heap.size, 4, none⟩ x4).setCell ⟨w.heap.size, 5, none⟩ x5).setCell ⟨w.heap.size, 6, none⟩ x6).setCell ⟨w.heap.size, 7, none⟩ x7).setCell ⟨w.heap.size, 8, none⟩ x8).setCell ⟨w.heap.size, 9, none⟩ x9).setCell ⟨w.heap.size, 10, none⟩ x10) #[x0, x1, x2, x3, x4, x5, x6, x7, x8, x9, x10] := h9.put 10 x10
  exact h10
theorem rspan_at (g : Nat) (l : List UInt8) (a : Int) (w : World) (h : RC w g l a 0) (hs : l.length ≤ 140737488351232) (ha : -9223372036854775808 ≤ a ∧ a ≤ 9223372036854775807) {hi lo id up : Nat} {nm : List UInt8} {st sq kd : Int} {sh : Bool} {s0 s1 : Int} {a' e' : Int} (H : Hid (runS l a = (⟨hi, lo, id, up, nm, st, sq, kd, sh, s0, s1⟩, a', e'))) :
    Calls Try.prog 45 #[.pointer (some ⟨g, 0, none⟩)] w fun r w' => r = .returned (.agg #[.int .u64 (hi : Int), .int .u64 (lo : Int), .int .u64 (id : Int), .int .u64 (up : Int), .string (bs nm), .int .i64 st, .int .i64 sq, .int .i64 kd, .bool sh, .int .i64 s0, .int .i64 s1]) ∧ RC w' g l a' e' ∧ Only g w w' := rspan_any g l a w h hs ha H
/-- A span's name that was read is short. -/
theorem runS_name {l : List UInt8} {a b e : Int} {s : Sp} (h : runS l a = (s, b, e)) : s.name.length ≤ l.length := by
  have : ∀ a e, (namP l a e).1.length ≤ l.length := by
    intro a e
    unfold namP
    split
    · simp
    · split
      · unfold takeS
        split
        · simp
        · split
          · simp
          · split
            · simp
            · simp only [List.length_take, List.length_drop]; omega
      · unfold takeS
        split
        · simp
        · split
          · simp
          · split
            · simp
            · simp only [List.length_take, List.length_drop]; omega
  have e1 := congrArg (fun x => x.1.name) h
  simp only [runS] at e1
  rw [← e1]
  exact this _ _
theorem keepR0 {v : World} {q g : Nat} {l : List UInt8} {hi lo id up : Nat} {nm : List UInt8} {st sq kd : Int} {sh : Bool} {s0 s1 : Int} {a e : Int} (h : SB v q hi lo id up nm st sq kd sh s0 s1) (hr : RC v g l a e) : v.cell? ⟨q, 0, none⟩ = some (.int .u64 (hi : Int)) ∧ v.cell? ⟨q, 1, none⟩ = some (.int .u64 (lo : Int)) ∧ v.cell? ⟨q, 2, none⟩ = some (.int .u64 (id : Int)) ∧ v.cell? ⟨q, 3, none⟩ = some (.int .u64 (up : Int)) ∧ v.cell? ⟨q, 4, none⟩ = some (.string (bs nm)) ∧ v.cell? ⟨q, 5, none⟩ = some (.int .i64 st) ∧ v.cell? ⟨q, 6, none⟩ = some (.int .i64 sq) ∧ v.cell? ⟨q, 7, none⟩ = some (.int .i64 kd) ∧ v.cell? ⟨q, 8, none⟩ = some (.bool sh) ∧ v.cell? ⟨q, 9, none⟩ = some (.int .i64 s0) ∧ v.cell? ⟨q, 10, none⟩ = some (.int .i64 s1) ∧ v.cell? ⟨g, 1, none⟩ = some (.int .i64 a) :=
  ⟨Blk.cell h 0, Blk.cell h 1, Blk.cell h 2, Blk.cell h 3, Blk.cell h 4, Blk.cell h 5, Blk.cell h 6, Blk.cell h 7, Blk.cell h 8, Blk.cell h 9, Blk.cell h 10, Blk.cell hr 1⟩
theorem keepRd {v : World} {q g p : Nat} {l : List UInt8} {hi lo id up : Nat} {nm : List UInt8} {st sq kd : Int} {sh : Bool} {s0 s1 : Int} {a e : Int} (h : SB v q hi lo id up nm st sq kd sh s0 s1) (hr : RC v g l a e) (n1 : q ≠ p) (n2 : g ≠ p) (x0 x1 x2 x3 x4 x5 x6 x7 x8 x9 x10 : Value) : ((((((((((((v.setCell ⟨p, 0, none⟩ x0).setCell ⟨p, 1, none⟩ x1).setCell ⟨p, 2, none⟩ x2).setCell ⟨p, 3, none⟩ x3).setCell ⟨p, 4, none⟩ x4).setCell ⟨p, 5, none⟩ x5).setCell ⟨p, 6, none⟩ x6).setCell ⟨p, 7, none⟩ x7).setCell ⟨p, 8, none⟩ x8).setCell ⟨p, 9, none⟩ x9).setCell ⟨p, 10, none⟩ x10).drew).cell? ⟨q, 0, none⟩ = some (.int .u64 (hi : Int)) ∧ ((((((((((((v.setCell ⟨p, 0, none⟩ x0).setCell ⟨p, 1, none⟩ x1).setCell ⟨p, 2, none⟩ x2).setCell ⟨p, 3, none⟩ x3).setCell ⟨p, 4, none⟩ x4).setCell ⟨p, 5, none⟩ x5).setCell ⟨p, 6, none⟩ x6).setCell ⟨p, 7, none⟩ x7).setCell ⟨p, 8, none⟩ x8).setCell ⟨p, 9, none⟩ x9).setCell ⟨p, 10, none⟩ x10).drew).cell? ⟨q, 1, none⟩ = some (.int .u64 (lo : Int)) ∧ ((((((((((((v.setCell ⟨p, 0, none⟩ x0).setCell ⟨p, 1, none⟩ x1).setCell ⟨p, 2, none⟩ x2).setCell ⟨p, 3, none⟩ x3).setCell ⟨p, 4, none⟩ x4).setCell ⟨p, 5, none⟩ x5).setCell ⟨p, 6, none⟩ x6).setCell ⟨p, 7, none⟩ x7).setCell ⟨p, 8, none⟩ x8).setCell ⟨p, 9, none⟩ x9).setCell ⟨p, 10, none⟩ x10).drew).cell? ⟨q, 2, none⟩ = some (.int .u64 (id : Int)) ∧ ((((((((((((v.setCell ⟨p, 0, none⟩ x0).setCell ⟨p, 1, none⟩ x1).setCell ⟨p, 2, none⟩ x2).setCell ⟨p, 3, none⟩ x3).setCell ⟨p, 4, none⟩ x4).setCell ⟨p, 5, none⟩ x5).setCell ⟨p, 6, none⟩ x6).setCell ⟨p, 7, none⟩ x7).setCell ⟨p, 8, none⟩ x8).setCell ⟨p, 9, none⟩ x9).setCell ⟨p, 10, none⟩ x10).drew).cell? ⟨q, 3, none⟩ = some (.int .u64 (up : Int)) ∧ ((((((((((((v.setCell ⟨p, 0, none⟩ x0).setCell ⟨p, 1, none⟩ x1).setCell ⟨p, 2, none⟩ x2).setCell ⟨p, 3, none⟩ x3).setCell ⟨p, 4, none⟩ x4).setCell ⟨p, 5, none⟩ x5).setCell ⟨p, 6, none⟩ x6).setCell ⟨p, 7, none⟩ x7).setCell ⟨p, 8, none⟩ x8).setCell ⟨p, 9, none⟩ x9).setCell ⟨p, 10, none⟩ x10).drew).cell? ⟨q, 4, none⟩ = some (.string (bs nm)) ∧ ((((((((((((v.setCell ⟨p, 0, none⟩ x0).setCell ⟨p, 1, none⟩ x1).setCell ⟨p, 2, none⟩ x2).setCell ⟨p, 3, none⟩ x3).setCell ⟨p, 4, none⟩ x4).setCell ⟨p, 5, none⟩ x5).setCell ⟨p, 6, none⟩ x6).setCell ⟨p, 7, none⟩ x7).setCell ⟨p, 8, none⟩ x8).setCell ⟨p, 9, none⟩ x9).setCell ⟨p, 10, none⟩ x10).drew).cell? ⟨q, 5, none⟩ = some (.int .i64 st) ∧ ((((((((((((v.setCell ⟨p, 0, none⟩ x0).setCell ⟨p, 1, none⟩ x1).setCell ⟨p, 2, none⟩ x2).setCell ⟨p, 3, none⟩ x3).setCell ⟨p, 4, none⟩ x4).setCell ⟨p, 5, none⟩ x5).setCell ⟨p, 6, none⟩ x6).setCell ⟨p, 7, none⟩ x7).setCell ⟨p, 8, none⟩ x8).setCell ⟨p, 9, none⟩ x9).setCell ⟨p, 10, none⟩ x10).drew).cell? ⟨q, 6, none⟩ = some (.int .i64 sq) ∧ ((((((((((((v.setCell ⟨p, 0, none⟩ x0).setCell ⟨p, 1, none⟩ x1).setCell ⟨p, 2, none⟩ x2).setCell ⟨p, 3, none⟩ x3).setCell ⟨p, 4, none⟩ x4).setCell ⟨p, 5, none⟩ x5).setCell ⟨p, 6, none⟩ x6).setCell ⟨p, 7, none⟩ x7).setCell ⟨p, 8, none⟩ x8).setCell ⟨p, 9, none⟩ x9).setCell ⟨p, 10, none⟩ x10).drew).cell? ⟨q, 7, none⟩ = some (.int .i64 kd) ∧ ((((((((((((v.setCell ⟨p, 0, none⟩ x0).setCell ⟨p, 1, none⟩ x1).setCell ⟨p, 2, none⟩ x2).setCell ⟨p, 3, none⟩ x3).setCell ⟨p, 4, none⟩ x4).setCell ⟨p, 5, none⟩ x5).setCell ⟨p, 6, none⟩ x6).setCell ⟨p, 7, none⟩ x7).setCell ⟨p, 8, none⟩ x8).setCell ⟨p, 9, none⟩ x9).setCell ⟨p, 10, none⟩ x10).drew).cell? ⟨q, 8, none⟩ = some (.bool sh) ∧ ((((((((((((v.setCell ⟨p, 0, none⟩ x0).setCell ⟨p, 1, none⟩ x1).setCell ⟨p, 2, none⟩ x2).setCell ⟨p, 3, none⟩ x3).setCell ⟨p, 4, none⟩ x4).setCell ⟨p, 5, none⟩ x5).setCell ⟨p, 6, none⟩ x6).setCell ⟨p, 7, none⟩ x7).setCell ⟨p, 8, none⟩ x8).setCell ⟨p, 9, none⟩ x9).setCell ⟨p, 10, none⟩ x10).drew).cell? ⟨q, 9, none⟩ = some (.int .i64 s0) ∧ ((((((((((((v.setCell ⟨p, 0, none⟩ x0).setCell ⟨p, 1, none⟩ x1).setCell ⟨p, 2, none⟩ x2).setCell ⟨p, 3, none⟩ x3).setCell ⟨p, 4, none⟩ x4).setCell ⟨p, 5, none⟩ x5).setCell ⟨p, 6, none⟩ x6).setCell ⟨p, 7, none⟩ x7).setCell ⟨p, 8, none⟩ x8).setCell ⟨p, 9, none⟩ x9).setCell ⟨p, 10, none⟩ x10).drew).cell? ⟨q, 10, none⟩ = some (.int .i64 s1) ∧ ((((((((((((v.setCell ⟨p, 0, none⟩ x0).setCell ⟨p, 1, none⟩ x1).setCell ⟨p, 2, none⟩ x2).setCell ⟨p, 3, none⟩ x3).setCell ⟨p, 4, none⟩ x4).setCell ⟨p, 5, none⟩ x5).setCell ⟨p, 6, none⟩ x6).setCell ⟨p, 7, none⟩ x7).setCell ⟨p, 8, none⟩ x8).setCell ⟨p, 9, none⟩ x9).setCell ⟨p, 10, none⟩ x10).drew).cell? ⟨g, 1, none⟩ = some (.int .i64 a) := by
  have h0 : SB (v.setCell ⟨p, 0, none⟩ x0) q hi lo id up nm st sq kd sh s0 s1 := Blk.far h n1 _
  have r0 : RC (v.setCell ⟨p, 0, none⟩ x0) g l a e := Blk.far hr n2 _
  have h1 : SB ((v.setCell ⟨p, 0, none⟩ x0).setCell ⟨p, 1, none⟩ x1) q hi lo id up nm st sq kd sh s0 s1 := Blk.far h0 n1 _
  have r1 : RC ((v.setCell ⟨p, 0, none⟩ x0).setCell ⟨p, 1, none⟩ x1) g l a e := Blk.far r0 n2 _
  have h2 : SB (((v.setCell ⟨p, 0, none⟩ x0).setCell ⟨p, 1, none⟩ x1).setCell ⟨p, 2, none⟩ x2) q hi lo id up nm st sq kd sh s0 s1 := Blk.far h1 n1 _
  have r2 : RC (((v.setCell ⟨p, 0, none⟩ x0).setCell ⟨p, 1, none⟩ x1).setCell ⟨p, 2, none⟩ x2) g l a e := Blk.far r1 n2 _
  have h3 : SB ((((v.setCell ⟨p, 0, none⟩ x0).setCell ⟨p, 1, none⟩ x1).setCell ⟨p, 2, none⟩ x2).setCell ⟨p, 3, none⟩ x3) q hi lo id up nm st sq kd sh s0 s1 := Blk.far h2 n1 _
  have r3 : RC ((((v.setCell ⟨p, 0, none⟩ x0).setCell ⟨p, 1, none⟩ x1).setCell ⟨p, 2, none⟩ x2).setCell ⟨p, 3, none⟩ x3) g l a e := Blk.far r2 n2 _
  have h4 : SB (((((v.setCell ⟨p, 0, none⟩ x0).setCell ⟨p, 1, none⟩ x1).setCell ⟨p, 2, none⟩ x2).setCell ⟨p, 3, none⟩ x3).setCell ⟨p, 4, none⟩ x4) q hi lo id up nm st sq kd sh s0 s1 := Blk.far h3 n1 _
  have r4 : RC (((((v.setCell ⟨p, 0, none⟩ x0).setCell ⟨p, 1, none⟩ x1).setCell ⟨p, 2, none⟩ x2).setCell ⟨p, 3, none⟩ x3).setCell ⟨p, 4, none⟩ x4) g l a e := Blk.far r3 n2 _
  have h5 : SB ((((((v.setCell ⟨p, 0, none⟩ x0).setCell ⟨p, 1, none⟩ x1).setCell ⟨p, 2, none⟩ x2).setCell ⟨p, 3, none⟩ x3).setCell ⟨p, 4, none⟩ x4).setCell ⟨p, 5, none⟩ x5) q hi lo id up nm st sq kd sh s0 s1 := Blk.far h4 n1 _
  have r5 : RC ((((((v.setCell ⟨p, 0, none⟩ x0).setCell ⟨p, 1, none⟩ x1).setCell ⟨p, 2, none⟩ x2).setCell ⟨p, 3, none⟩ x3).setCell ⟨p, 4, none⟩ x4).setCell ⟨p, 5, none⟩ x5) g l a e := Blk.far r4 n2 _
  have h6 : SB (((((((v.setCell ⟨p, 0, none⟩ x0).setCell ⟨p, 1, none⟩ x1).setCell ⟨p, 2, none⟩ x2).setCell ⟨p, 3, none⟩ x3).setCell ⟨p, 4, none⟩ x4).setCell ⟨p, 5, none⟩ x5).setCell ⟨p, 6, none⟩ x6) q hi lo id up nm st sq kd sh s0 s1 := Blk.far h5 n1 _
  have r6 : RC (((((((v.setCell ⟨p, 0, none⟩ x0).setCell ⟨p, 1, none⟩ x1).setCell ⟨p, 2, none⟩ x2).setCell ⟨p, 3, none⟩ x3).setCell ⟨p, 4, none⟩ x4).setCell ⟨p, 5, none⟩ x5).setCell ⟨p, 6, none⟩ x6) g l a e := Blk.far r5 n2 _
  have h7 : SB ((((((((v.setCell ⟨p, 0, none⟩ x0).setCell ⟨p, 1, none⟩ x1).setCell ⟨p, 2, none⟩ x2).setCell ⟨p, 3, none⟩ x3).setCell ⟨p, 4, none⟩ x4).setCell ⟨p, 5, none⟩ x5).setCell ⟨p, 6, none⟩ x6).setCell ⟨p, 7, none⟩ x7) q hi lo id up nm st sq kd sh s0 s1 := Blk.far h6 n1 _
  have r7 : RC ((((((((v.setCell ⟨p, 0, none⟩ x0).setCell ⟨p, 1, none⟩ x1).setCell ⟨p, 2, none⟩ x2).setCell ⟨p, 3, none⟩ x3).setCell ⟨p, 4, none⟩ x4).setCell ⟨p, 5, none⟩ x5).setCell ⟨p, 6, none⟩ x6).setCell ⟨p, 7, none⟩ x7) g l a e := Blk.far r6 n2 _
  have h8 : SB (((((((((v.setCell ⟨p, 0, none⟩ x0).setCell ⟨p, 1, none⟩ x1).setCell ⟨p, 2, none⟩ x2).setCell ⟨p, 3, none⟩ x3).setCell ⟨p, 4, none⟩ x4).setCell ⟨p, 5, none⟩ x5).setCell ⟨p, 6, none⟩ x6).setCell ⟨p, 7, none⟩ x7).setCell ⟨p, 8, none⟩ x8) q hi lo id up nm st sq kd sh s0 s1 := Blk.far h7 n1 _
  have r8 : RC (((((((((v.setCell ⟨p, 0, none⟩ x0).setCell ⟨p, 1, none⟩ x1).setCell ⟨p, 2, none⟩ x2).setCell ⟨p, 3, none⟩ x3).setCell ⟨p, 4, none⟩ x4).setCell ⟨p, 5, none⟩ x5).setCell ⟨p, 6, none⟩ x6).setCell ⟨p, 7, none⟩ x7).setCell ⟨p, 8, none⟩ x8) g l a e := Blk.far r7 n2 _
  have h9 : SB ((((((((((v.setCell ⟨p, 0, none⟩ x0).setCell ⟨p, 1, none⟩ x1).setCell ⟨p, 2, none⟩ x2).setCell ⟨p, 3, none⟩ x3).setCell ⟨p, 4, none⟩ x4).setCell ⟨p, 5, none⟩ x5).setCell ⟨p, 6, none⟩ x6).setCell ⟨p, 7, none⟩ x7).setCell ⟨p, 8, none⟩ x8).setCell ⟨p, 9, none⟩ x9) q hi lo id up nm st sq kd sh s0 s1 := Blk.far h8 n1 _
  have r9 : RC ((((((((((v.setCell ⟨p, 0, none⟩ x0).setCell ⟨p, 1, none⟩ x1).setCell ⟨p, 2, none⟩ x2).setCell ⟨p, 3, none⟩ x3).setCell ⟨p, 4, none⟩ x4).setCell ⟨p, 5, none⟩ x5).setCell ⟨p, 6, none⟩ x6).setCell ⟨p, 7, none⟩ x7).setCell ⟨p, 8, none⟩ x8).setCell ⟨p, 9, none⟩ x9) g l a e := Blk.far r8 n2 _
  have h10 : SB (((((((((((v.setCell ⟨p, 0, none⟩ x0).setCell ⟨p, 1, none⟩ x1).setCell ⟨p, 2, none⟩ x2).setCell ⟨p, 3, none⟩ x3).setCell ⟨p, 4, none⟩ x4).setCell ⟨p, 5, none⟩ x5).setCell ⟨p, 6, none⟩ x6).setCell ⟨p, 7, none⟩ x7).setCell ⟨p, 8, none⟩ x8).setCell ⟨p, 9, none⟩ x9).setCell ⟨p, 10, none⟩ x10) q hi lo id up nm st sq kd sh s0 s1 := Blk.far h9 n1 _
  have r10 : RC (((((((((((v.setCell ⟨p, 0, none⟩ x0).setCell ⟨p, 1, none⟩ x1).setCell ⟨p, 2, none⟩ x2).setCell ⟨p, 3, none⟩ x3).setCell ⟨p, 4, none⟩ x4).setCell ⟨p, 5, none⟩ x5).setCell ⟨p, 6, none⟩ x6).setCell ⟨p, 7, none⟩ x7).setCell ⟨p, 8, none⟩ x8).setCell ⟨p, 9, none⟩ x9).setCell ⟨p, 10, none⟩ x10) g l a e := Blk.far r9 n2 _
  exact keepR0 (Blk.drew h10) (Blk.drew r10)
theorem RB.drew {w v : World} {cs : Array Value} (h : RB w v cs) : RB w v.drew cs := ⟨h.res, h.bel.drew⟩
set_option maxRecDepth 100000 in
set_option maxHeartbeats 8000000 in
theorem spread_any (l : List UInt8) (a : Int) (w : World) (hs : l.length ≤ 140737488351232) (ha : -9223372036854775808 ≤ a ∧ a ≤ 9223372036854775807) {s : Sp} {b e : Int} (H : Hid (readS l a = (s, b, e))) :
    Calls Try.prog 15 #[.string (bs l), .int .i64 a] w fun r w' => r = .returned (.tuple #[.agg (spA s), .int .i64 b, .int .i64 e]) ∧ Below w.heap.size w w' := by
  obtain ⟨x, a', e', hr⟩ : ∃ x a' e', runS l a = (x, a', e') := ⟨_, _, _, rfl⟩
  have hnl := runS_name hr
  obtain ⟨hi, lo, id, up, nm, st, sq, kd, sh, s0, s1⟩ := x
  have hnl : nm.length ≤ 140737488351232 := Nat.le_trans hnl hs
  have HR := hid hr
  by_cases he : e' = 0
  rotate_left
  · skip
    have hb : (e' == 0) = false := by simpa using he
    have hb2 : (e' != 0) = true := by simpa using he
    have H0 := H.out
    rw [readS_err hr he] at H0
    simp only [Prod.mk.injEq] at H0
    obtain ⟨rfl, rfl, rfl⟩ := H0
    clear he H hr
    go_enter Try.func15, Try.ntmps15
    go_wp2_with fail
    have eZ : (.cells #[.int .u64 0, .int .u64 0, .int .u64 0, .int .u64 0, .string (ByteArray.mk #[]), .int .i64 0, .int .i64 0, .int .i64 0, .bool false, .int .i64 0, .int .i64 0] 26 : Obj) = .cells zs 26 := rfl
    rw [eZ]
    clear eZ
    have hsz : (w.alloc (.cells zs 26)).heap.size = w.heap.size + 1 := by simp
    have t1 := RB.new w
    have rc0 := RC.new (w.alloc (.cells zs 26)) l a 0
    rw [hsz] at rc0
    have t2 := t1.up (sbelow_new _ (.cells #[.string (bs l), .int .i64 a, .int .i64 0] 62))
    clear t1 hsz
    generalize (w.alloc (.cells zs 26)).alloc (.cells #[.string (bs l), .int .i64 a, .int .i64 0] 62) = v0 at *
    refine (rspan_at (w.heap.size + 1) l a v0 rc0 hs ha HR).mono ?_
    rintro r v1 ⟨rfl, hr1, o1⟩
    have t3 := t2.only o1 (by omega)
    clear t2 o1 rc0
    obtain ⟨k0, k1, k2, f1, f2⟩ := hr1.cells
    have hlt := hr1.lt
    have q0 := sbelow_new v1 (.cells #[.int .u64 (hi : Int), .int .u64 (lo : Int), .int .u64 (id : Int), .int .u64 (up : Int), .string (bs nm), .int .i64 st, .int .i64 sq, .int .i64 kd, .bool sh, .int .i64 s0, .int .i64 s1] 26)
    have t4 := t3.up q0
    have hr2 := hr1.up q0
    have s1B := SB.new v1 hi lo id up nm st sq kd sh s0 s1
    go_upto_region 3 with (fail)
    clear k0 k1 k2 f1 f2
    generalize v1.alloc (.cells #[.int .u64 (hi : Int), .int .u64 (lo : Int), .int .u64 (id : Int), .int .u64 (up : Int), .string (bs nm), .int .i64 st, .int .i64 sq, .int .i64 kd, .bool sh, .int .i64 s0, .int .i64 s1] 26) = v2 at *
    obtain ⟨k0, k1, k2, f1, f2⟩ := hr2.cells
    have r0 : v2.cell? ⟨w.heap.size, 0, none⟩ = some (.int .u64 0) := (t4.cell 0).1
    have z0 : v2.frozen? ⟨w.heap.size, 0, none⟩ = false := (t4.cell 0).2
    have r1 : v2.cell? ⟨w.heap.size, 1, none⟩ = some (.int .u64 0) := (t4.cell 1).1
    have z1 : v2.frozen? ⟨w.heap.size, 1, none⟩ = false := (t4.cell 1).2
    have r2 : v2.cell? ⟨w.heap.size, 2, none⟩ = some (.int .u64 0) := (t4.cell 2).1
    have z2 : v2.frozen? ⟨w.heap.size, 2, none⟩ = false := (t4.cell 2).2
    have r3 : v2.cell? ⟨w.heap.size, 3, none⟩ = some (.int .u64 0) := (t4.cell 3).1
    have z3 : v2.frozen? ⟨w.heap.size, 3, none⟩ = false := (t4.cell 3).2
    have r4 : v2.cell? ⟨w.heap.size, 4, none⟩ = some (.string (bs [])) := (t4.cell 4).1
    have z4 : v2.frozen? ⟨w.heap.size, 4, none⟩ = false := (t4.cell 4).2
    have r5 : v2.cell? ⟨w.heap.size, 5, none⟩ = some (.int .i64 0) := (t4.cell 5).1
    have z5 : v2.frozen? ⟨w.heap.size, 5, none⟩ = false := (t4.cell 5).2
    have r6 : v2.cell? ⟨w.heap.size, 6, none⟩ = some (.int .i64 0) := (t4.cell 6).1
    have z6 : v2.frozen? ⟨w.heap.size, 6, none⟩ = false := (t4.cell 6).2
    have r7 : v2.cell? ⟨w.heap.size, 7, none⟩ = some (.int .i64 0) := (t4.cell 7).1
    have z7 : v2.frozen? ⟨w.heap.size, 7, none⟩ = false := (t4.cell 7).2
    have r8 : v2.cell? ⟨w.heap.size, 8, none⟩ = some (.bool false) := (t4.cell 8).1
    have z8 : v2.frozen? ⟨w.heap.size, 8, none⟩ = false := (t4.cell 8).2
    have r9 : v2.cell? ⟨w.heap.size, 9, none⟩ = some (.int .i64 0) := (t4.cell 9).1
    have z9 : v2.frozen? ⟨w.heap.size, 9, none⟩ = false := (t4.cell 9).2
    have r10 : v2.cell? ⟨w.heap.size, 10, none⟩ = some (.int .i64 0) := (t4.cell 10).1
    have z10 : v2.frozen? ⟨w.heap.size, 10, none⟩ = false := (t4.cell 10).2
    clear t3 hr1 q0 s1B hlt f1 f2
    go_wp2_with fail
    clear k0 k1 k2 hr2
    have t9 := RB.fill t4 (.int .u64 0) (.int .u64 0) (.int .u64 0) (.int .u64 0) (.string (ByteArray.mk #[])) (.int .i64 0) (.int .i64 0) (.int .i64 0) (.bool false) (.int .i64 0) (.int .i64 0)
    clear r0 z0 r1 z1 r2 z2 r3 z3 r4 z4 r5 z5 r6 z6 r7 z7 r8 z8 r9 z9 r10 z10
    generalize (((((((((((v2.setCell ⟨w.heap.size, 0, none⟩ (.int .u64 0)).setCell ⟨w.heap.size, 1, none⟩ (.int .u64 0)).setCell ⟨w.heap.size, 2, none⟩ (.int .u64 0)).setCell ⟨w.heap.size, 3, none⟩ (.int .u64 0)).setCell ⟨w.heap.size, 4, none⟩ (.string (ByteArray.mk #[]))).setCell ⟨w.heap.size, 5, none⟩ (.int .i64 0)).setCell ⟨w.heap.size, 6, none⟩ (.int .i64 0)).setCell ⟨w.heap.size, 7, none⟩ (.int .i64 0)).setCell ⟨w.heap.size, 8, none⟩ (.bool false)).setCell ⟨w.heap.size, 9, none⟩ (.int .i64 0)).setCell ⟨w.heap.size, 10, none⟩ (.int .i64 0)) = v9 at *
    have r0 : v9.cell? ⟨w.heap.size, 0, none⟩ = some (.int .u64 0) := (t9.cell 0).1
    have r1 : v9.cell? ⟨w.heap.size, 1, none⟩ = some (.int .u64 0) := (t9.cell 1).1
    have r2 : v9.cell? ⟨w.heap.size, 2, none⟩ = some (.int .u64 0) := (t9.cell 2).1
    have r3 : v9.cell? ⟨w.heap.size, 3, none⟩ = some (.int .u64 0) := (t9.cell 3).1
    have r4 : v9.cell? ⟨w.heap.size, 4, none⟩ = some (.string (ByteArray.mk #[])) := (t9.cell 4).1
    have r5 : v9.cell? ⟨w.heap.size, 5, none⟩ = some (.int .i64 0) := (t9.cell 5).1
    have r6 : v9.cell? ⟨w.heap.size, 6, none⟩ = some (.int .i64 0) := (t9.cell 6).1
    have r7 : v9.cell? ⟨w.heap.size, 7, none⟩ = some (.int .i64 0) := (t9.cell 7).1
    have r8 : v9.cell? ⟨w.heap.size, 8, none⟩ = some (.bool false) := (t9.cell 8).1
    have r9 : v9.cell? ⟨w.heap.size, 9, none⟩ = some (.int .i64 0) := (t9.cell 9).1
    have r10 : v9.cell? ⟨w.heap.size, 10, none⟩ = some (.int .i64 0) := (t9.cell 10).1
    (try simp only [Exit.inBlock, Exit.then])
    refine bodyPost_ret (v := .tuple #[.agg #[.int .u64 0, .int .u64 0, .int .u64 0, .int .u64 0, .string (ByteArray.mk #[]), .int .i64 0, .int .i64 0, .int .i64 0, .bool false, .int .i64 0, .int .i64 0], .int .i64 0, .int .i64 e']) (by simp [results, Try.results15, go_sem, r0, r1, r2, r3, r4, r5, r6, r7, r8, r9, r10]; try rfl) rfl ?_
    exact ⟨rfl, t9.bel⟩
  subst he
  obtain ⟨c, hc⟩ : ∃ c, chkS ⟨hi, lo, id, up, nm, st, sq, kd, sh, s0, s1⟩ = c := ⟨_, rfl⟩
  by_cases hc0 : c = 0
  rotate_left
  · skip
    have HC := hid hc
    have hb : (c == 0) = false := by simpa using hc0
    have hb2 : (c != 0) = true := by simpa using hc0
    have H0 := H.out
    rw [readS_chk hr (by rw [hc]; exact hc0), hc] at H0
    simp only [Prod.mk.injEq] at H0
    obtain ⟨rfl, rfl, rfl⟩ := H0
    clear hc hc0 H hr
    go_enter Try.func15, Try.ntmps15
    go_wp2_with fail
    have eZ : (.cells #[.int .u64 0, .int .u64 0, .int .u64 0, .int .u64 0, .string (ByteArray.mk #[]), .int .i64 0, .int .i64 0, .int .i64 0, .bool false, .int .i64 0, .int .i64 0] 26 : Obj) = .cells zs 26 := rfl
    rw [eZ]
    clear eZ
    have hsz : (w.alloc (.cells zs 26)).heap.size = w.heap.size + 1 := by simp
    have t1 := RB.new w
    have rc0 := RC.new (w.alloc (.cells zs 26)) l a 0
    rw [hsz] at rc0
    have t2 := t1.up (sbelow_new _ (.cells #[.string (bs l), .int .i64 a, .int .i64 0] 62))
    clear t1 hsz
    generalize (w.alloc (.cells zs 26)).alloc (.cells #[.string (bs l), .int .i64 a, .int .i64 0] 62) = v0 at *
    refine (rspan_at (w.heap.size + 1) l a v0 rc0 hs ha HR).mono ?_
    rintro r v1 ⟨rfl, hr1, o1⟩
    have t3 := t2.only o1 (by omega)
    clear t2 o1 rc0
    obtain ⟨k0, k1, k2, f1, f2⟩ := hr1.cells
    have hlt := hr1.lt
    have q0 := sbelow_new v1 (.cells #[.int .u64 (hi : Int), .int .u64 (lo : Int), .int .u64 (id : Int), .int .u64 (up : Int), .string (bs nm), .int .i64 st, .int .i64 sq, .int .i64 kd, .bool sh, .int .i64 s0, .int .i64 s1] 26)
    have t4 := t3.up q0
    have hr2 := hr1.up q0
    have s1B := SB.new v1 hi lo id up nm st sq kd sh s0 s1
    go_upto_region 3 with (fail)
    clear k0 k1 k2 f1 f2
    generalize v1.alloc (.cells #[.int .u64 (hi : Int), .int .u64 (lo : Int), .int .u64 (id : Int), .int .u64 (up : Int), .string (bs nm), .int .i64 st, .int .i64 sq, .int .i64 kd, .bool sh, .int .i64 s0, .int .i64 s1] 26) = v2 at *
    obtain ⟨k0, k1, k2, f1, f2⟩ := hr2.cells
    obtain ⟨c0, c1, c2, c3, c4, c5, c6, c7, c8, c9, c10⟩ := s1B.cells
    go_wp2_with fail
    clear c0 c1 c2 c3 c4 c5 c6 c7 c8 c9 c10
    refine (spcheck_at hi lo id up nm st sq kd sh s0 s1 _ hnl HC).mono ?_
    rintro r v3 ⟨rfl, hb2'⟩
    have t5 := t4.up hb2'
    clear t3 t4 hr2 hr1 q0 s1B hlt k0 k1 k2 f1 f2 hb2'
    have r0 : v3.cell? ⟨w.heap.size, 0, none⟩ = some (.int .u64 0) := (t5.cell 0).1
    have z0 : v3.frozen? ⟨w.heap.size, 0, none⟩ = false := (t5.cell 0).2
    have r1 : v3.cell? ⟨w.heap.size, 1, none⟩ = some (.int .u64 0) := (t5.cell 1).1
    have z1 : v3.frozen? ⟨w.heap.size, 1, none⟩ = false := (t5.cell 1).2
    have r2 : v3.cell? ⟨w.heap.size, 2, none⟩ = some (.int .u64 0) := (t5.cell 2).1
    have z2 : v3.frozen? ⟨w.heap.size, 2, none⟩ = false := (t5.cell 2).2
    have r3 : v3.cell? ⟨w.heap.size, 3, none⟩ = some (.int .u64 0) := (t5.cell 3).1
    have z3 : v3.frozen? ⟨w.heap.size, 3, none⟩ = false := (t5.cell 3).2
    have r4 : v3.cell? ⟨w.heap.size, 4, none⟩ = some (.string (bs [])) := (t5.cell 4).1
    have z4 : v3.frozen? ⟨w.heap.size, 4, none⟩ = false := (t5.cell 4).2
    have r5 : v3.cell? ⟨w.heap.size, 5, none⟩ = some (.int .i64 0) := (t5.cell 5).1
    have z5 : v3.frozen? ⟨w.heap.size, 5, none⟩ = false := (t5.cell 5).2
    have r6 : v3.cell? ⟨w.heap.size, 6, none⟩ = some (.int .i64 0) := (t5.cell 6).1
    have z6 : v3.frozen? ⟨w.heap.size, 6, none⟩ = false := (t5.cell 6).2
    have r7 : v3.cell? ⟨w.heap.size, 7, none⟩ = some (.int .i64 0) := (t5.cell 7).1
    have z7 : v3.frozen? ⟨w.heap.size, 7, none⟩ = false := (t5.cell 7).2
    have r8 : v3.cell? ⟨w.heap.size, 8, none⟩ = some (.bool false) := (t5.cell 8).1
    have z8 : v3.frozen? ⟨w.heap.size, 8, none⟩ = false := (t5.cell 8).2
    have r9 : v3.cell? ⟨w.heap.size, 9, none⟩ = some (.int .i64 0) := (t5.cell 9).1
    have z9 : v3.frozen? ⟨w.heap.size, 9, none⟩ = false := (t5.cell 9).2
    have r10 : v3.cell? ⟨w.heap.size, 10, none⟩ = some (.int .i64 0) := (t5.cell 10).1
    have z10 : v3.frozen? ⟨w.heap.size, 10, none⟩ = false := (t5.cell 10).2
    go_wp2_with fail
    have t9 := RB.fill t5 (.int .u64 0) (.int .u64 0) (.int .u64 0) (.int .u64 0) (.string (ByteArray.mk #[])) (.int .i64 0) (.int .i64 0) (.int .i64 0) (.bool false) (.int .i64 0) (.int .i64 0)
    clear r0 z0 r1 z1 r2 z2 r3 z3 r4 z4 r5 z5 r6 z6 r7 z7 r8 z8 r9 z9 r10 z10
    generalize (((((((((((v3.setCell ⟨w.heap.size, 0, none⟩ (.int .u64 0)).setCell ⟨w.heap.size, 1, none⟩ (.int .u64 0)).setCell ⟨w.heap.size, 2, none⟩ (.int .u64 0)).setCell ⟨w.heap.size, 3, none⟩ (.int .u64 0)).setCell ⟨w.heap.size, 4, none⟩ (.string (ByteArray.mk #[]))).setCell ⟨w.heap.size, 5, none⟩ (.int .i64 0)).setCell ⟨w.heap.size, 6, none⟩ (.int .i64 0)).setCell ⟨w.heap.size, 7, none⟩ (.int .i64 0)).setCell ⟨w.heap.size, 8, none⟩ (.bool false)).setCell ⟨w.heap.size, 9, none⟩ (.int .i64 0)).setCell ⟨w.heap.size, 10, none⟩ (.int .i64 0)) = v9 at *
    have r0 : v9.cell? ⟨w.heap.size, 0, none⟩ = some (.int .u64 0) := (t9.cell 0).1
    have r1 : v9.cell? ⟨w.heap.size, 1, none⟩ = some (.int .u64 0) := (t9.cell 1).1
    have r2 : v9.cell? ⟨w.heap.size, 2, none⟩ = some (.int .u64 0) := (t9.cell 2).1
    have r3 : v9.cell? ⟨w.heap.size, 3, none⟩ = some (.int .u64 0) := (t9.cell 3).1
    have r4 : v9.cell? ⟨w.heap.size, 4, none⟩ = some (.string (ByteArray.mk #[])) := (t9.cell 4).1
    have r5 : v9.cell? ⟨w.heap.size, 5, none⟩ = some (.int .i64 0) := (t9.cell 5).1
    have r6 : v9.cell? ⟨w.heap.size, 6, none⟩ = some (.int .i64 0) := (t9.cell 6).1
    have r7 : v9.cell? ⟨w.heap.size, 7, none⟩ = some (.int .i64 0) := (t9.cell 7).1
    have r8 : v9.cell? ⟨w.heap.size, 8, none⟩ = some (.bool false) := (t9.cell 8).1
    have r9 : v9.cell? ⟨w.heap.size, 9, none⟩ = some (.int .i64 0) := (t9.cell 9).1
    have r10 : v9.cell? ⟨w.heap.size, 10, none⟩ = some (.int .i64 0) := (t9.cell 10).1
    (try simp only [Exit.inBlock, Exit.then])
    refine bodyPost_ret (v := .tuple #[.agg #[.int .u64 0, .int .u64 0, .int .u64 0, .int .u64 0, .string (ByteArray.mk #[]), .int .i64 0, .int .i64 0, .int .i64 0, .bool false, .int .i64 0, .int .i64 0], .int .i64 0, .int .i64 c]) (by simp [results, Try.results15, go_sem, r0, r1, r2, r3, r4, r5, r6, r7, r8, r9, r10]; try rfl) rfl ?_
    exact ⟨rfl, t9.bel⟩
  subst hc0
  have HC := hid hc
  have H0 := H.out
  rw [readS_ok hr hc] at H0
  simp only [Prod.mk.injEq] at H0
  obtain ⟨rfl, rfl, rfl⟩ := H0
  clear hc H hr
  go_enter Try.func15, Try.ntmps15
  go_wp2_with fail
  have eZ : (.cells #[.int .u64 0, .int .u64 0, .int .u64 0, .int .u64 0, .string (ByteArray.mk #[]), .int .i64 0, .int .i64 0, .int .i64 0, .bool false, .int .i64 0, .int .i64 0] 26 : Obj) = .cells zs 26 := rfl
  rw [eZ]
  clear eZ
  have hsz : (w.alloc (.cells zs 26)).heap.size = w.heap.size + 1 := by simp
  have t1 := RB.new w
  have rc0 := RC.new (w.alloc (.cells zs 26)) l a 0
  rw [hsz] at rc0
  have t2 := t1.up (sbelow_new _ (.cells #[.string (bs l), .int .i64 a, .int .i64 0] 62))
  clear t1 hsz
  generalize (w.alloc (.cells zs 26)).alloc (.cells #[.string (bs l), .int .i64 a, .int .i64 0] 62) = v0 at *
  refine (rspan_at (w.heap.size + 1) l a v0 rc0 hs ha HR).mono ?_
  rintro r v1 ⟨rfl, hr1, o1⟩
  have t3 := t2.only o1 (by omega)
  clear t2 o1 rc0
  obtain ⟨k0, k1, k2, f1, f2⟩ := hr1.cells
  have hlt := hr1.lt
  have q0 := sbelow_new v1 (.cells #[.int .u64 (hi : Int), .int .u64 (lo : Int), .int .u64 (id : Int), .int .u64 (up : Int), .string (bs nm), .int .i64 st, .int .i64 sq, .int .i64 kd, .bool sh, .int .i64 s0, .int .i64 s1] 26)
  have t4 := t3.up q0
  have hr2 := hr1.up q0
  have s1B := SB.new v1 hi lo id up nm st sq kd sh s0 s1
  go_upto_region 3 with (fail)
  clear k0 k1 k2 f1 f2
  generalize v1.alloc (.cells #[.int .u64 (hi : Int), .int .u64 (lo : Int), .int .u64 (id : Int), .int .u64 (up : Int), .string (bs nm), .int .i64 st, .int .i64 sq, .int .i64 kd, .bool sh, .int .i64 s0, .int .i64 s1] 26) = v2 at *
  obtain ⟨k0, k1, k2, f1, f2⟩ := hr2.cells
  obtain ⟨c0, c1, c2, c3, c4, c5, c6, c7, c8, c9, c10⟩ := s1B.cells
  go_wp2_with fail
  clear c0 c1 c2 c3 c4 c5 c6 c7 c8 c9 c10
  refine (spcheck_at hi lo id up nm st sq kd sh s0 s1 _ hnl HC).mono ?_
  rintro r v3 ⟨rfl, hb2'⟩
  have t5 := t4.up hb2'
  have s5 := s1B.up hb2'
  have rr5 := hr2.up hb2'
  clear t3 t4 hr2 hr1 q0 s1B k0 k1 k2 f1 f2 hb2'
  obtain ⟨k0, k1, k2, f1, f2⟩ := rr5.cells
  obtain ⟨c0, c1, c2, c3, c4, c5, c6, c7, c8, c9, c10⟩ := s5.cells
  have r0 : v3.cell? ⟨w.heap.size, 0, none⟩ = some (.int .u64 0) := (t5.cell 0).1
  have z0 : v3.frozen? ⟨w.heap.size, 0, none⟩ = false := (t5.cell 0).2
  have r1 : v3.cell? ⟨w.heap.size, 1, none⟩ = some (.int .u64 0) := (t5.cell 1).1
  have z1 : v3.frozen? ⟨w.heap.size, 1, none⟩ = false := (t5.cell 1).2
  have r2 : v3.cell? ⟨w.heap.size, 2, none⟩ = some (.int .u64 0) := (t5.cell 2).1
  have z2 : v3.frozen? ⟨w.heap.size, 2, none⟩ = false := (t5.cell 2).2
  have r3 : v3.cell? ⟨w.heap.size, 3, none⟩ = some (.int .u64 0) := (t5.cell 3).1
  have z3 : v3.frozen? ⟨w.heap.size, 3, none⟩ = false := (t5.cell 3).2
  have r4 : v3.cell? ⟨w.heap.size, 4, none⟩ = some (.string (bs [])) := (t5.cell 4).1
  have z4 : v3.frozen? ⟨w.heap.size, 4, none⟩ = false := (t5.cell 4).2
  have r5 : v3.cell? ⟨w.heap.size, 5, none⟩ = some (.int .i64 0) := (t5.cell 5).1
  have z5 : v3.frozen? ⟨w.heap.size, 5, none⟩ = false := (t5.cell 5).2
  have r6 : v3.cell? ⟨w.heap.size, 6, none⟩ = some (.int .i64 0) := (t5.cell 6).1
  have z6 : v3.frozen? ⟨w.heap.size, 6, none⟩ = false := (t5.cell 6).2
  have r7 : v3.cell? ⟨w.heap.size, 7, none⟩ = some (.int .i64 0) := (t5.cell 7).1
  have z7 : v3.frozen? ⟨w.heap.size, 7, none⟩ = false := (t5.cell 7).2
  have r8 : v3.cell? ⟨w.heap.size, 8, none⟩ = some (.bool false) := (t5.cell 8).1
  have z8 : v3.frozen? ⟨w.heap.size, 8, none⟩ = false := (t5.cell 8).2
  have r9 : v3.cell? ⟨w.heap.size, 9, none⟩ = some (.int .i64 0) := (t5.cell 9).1
  have z9 : v3.frozen? ⟨w.heap.size, 9, none⟩ = false := (t5.cell 9).2
  have r10 : v3.cell? ⟨w.heap.size, 10, none⟩ = some (.int .i64 0) := (t5.cell 10).1
  have z10 : v3.frozen? ⟨w.heap.size, 10, none⟩ = false := (t5.cell 10).2
  go_wp2_with fail
  have n1 : v1.heap.size ≠ w.heap.size := by omega
  have n2 : w.heap.size + 1 ≠ w.heap.size := by omega
  have sd : SB v3.drew v1.heap.size hi lo id up nm st sq kd sh s0 s1 := s5
  have rd : RC v3.drew (w.heap.size + 1) l a' 0 := rr5
  go_region_held3 (fun w' => w'.cell? ⟨v1.heap.size, 0, none⟩ = some (.int .u64 (hi : Int)) ∧ w'.cell? ⟨v1.heap.size, 1, none⟩ = some (.int .u64 (lo : Int)) ∧ w'.cell? ⟨v1.heap.size, 2, none⟩ = some (.int .u64 (id : Int)) ∧ w'.cell? ⟨v1.heap.size, 3, none⟩ = some (.int .u64 (up : Int)) ∧ w'.cell? ⟨v1.heap.size, 4, none⟩ = some (.string (bs nm)) ∧ w'.cell? ⟨v1.heap.size, 5, none⟩ = some (.int .i64 st) ∧ w'.cell? ⟨v1.heap.size, 6, none⟩ = some (.int .i64 sq) ∧ w'.cell? ⟨v1.heap.size, 7, none⟩ = some (.int .i64 kd) ∧ w'.cell? ⟨v1.heap.size, 8, none⟩ = some (.bool sh) ∧ w'.cell? ⟨v1.heap.size, 9, none⟩ = some (.int .i64 s0) ∧ w'.cell? ⟨v1.heap.size, 10, none⟩ = some (.int .i64 s1) ∧ w'.cell? ⟨w.heap.size + 1, 1, none⟩ = some (.int .i64 a')) (first | (with_reducible exact keepR0 sd rd) | (with_reducible exact keepRd s5 rr5 n1 n2 _ _ _ _ _ _ _ _ _ _ _)) (fail)
  all_goals
    have t9 := RB.drew (RB.fill t5 (.int .u64 (hi : Int)) (.int .u64 (lo : Int)) (.int .u64 (id : Int)) (.int .u64 (up : Int)) (.string (bs nm)) (.int .i64 st) (.int .i64 sq) (.int .i64 kd) (.bool sh) (.int .i64 s0) (.int .i64 s1))
    clear r0 z0 c0 r1 z1 c1 r2 z2 c2 r3 z3 c3 r4 z4 c4 r5 z5 c5 r6 z6 c6 r7 z7 c7 r8 z8 c8 r9 z9 c9 r10 z10 c10 k0 k1 k2 f1 f2 t5 s5 rr5 sd rd
    generalize (((((((((((v3.setCell ⟨w.heap.size, 0, none⟩ (.int .u64 (hi : Int))).setCell ⟨w.heap.size, 1, none⟩ (.int .u64 (lo : Int))).setCell ⟨w.heap.size, 2, none⟩ (.int .u64 (id : Int))).setCell ⟨w.heap.size, 3, none⟩ (.int .u64 (up : Int))).setCell ⟨w.heap.size, 4, none⟩ (.string (bs nm))).setCell ⟨w.heap.size, 5, none⟩ (.int .i64 st)).setCell ⟨w.heap.size, 6, none⟩ (.int .i64 sq)).setCell ⟨w.heap.size, 7, none⟩ (.int .i64 kd)).setCell ⟨w.heap.size, 8, none⟩ (.bool sh)).setCell ⟨w.heap.size, 9, none⟩ (.int .i64 s0)).setCell ⟨w.heap.size, 10, none⟩ (.int .i64 s1)).drew = v9 at *
    have r0 : v9.cell? ⟨w.heap.size, 0, none⟩ = some (.int .u64 (hi : Int)) := (t9.cell 0).1
    have r1 : v9.cell? ⟨w.heap.size, 1, none⟩ = some (.int .u64 (lo : Int)) := (t9.cell 1).1
    have r2 : v9.cell? ⟨w.heap.size, 2, none⟩ = some (.int .u64 (id : Int)) := (t9.cell 2).1
    have r3 : v9.cell? ⟨w.heap.size, 3, none⟩ = some (.int .u64 (up : Int)) := (t9.cell 3).1
    have r4 : v9.cell? ⟨w.heap.size, 4, none⟩ = some (.string (bs nm)) := (t9.cell 4).1
    have r5 : v9.cell? ⟨w.heap.size, 5, none⟩ = some (.int .i64 st) := (t9.cell 5).1
    have r6 : v9.cell? ⟨w.heap.size, 6, none⟩ = some (.int .i64 sq) := (t9.cell 6).1
    have r7 : v9.cell? ⟨w.heap.size, 7, none⟩ = some (.int .i64 kd) := (t9.cell 7).1
    have r8 : v9.cell? ⟨w.heap.size, 8, none⟩ = some (.bool sh) := (t9.cell 8).1
    have r9 : v9.cell? ⟨w.heap.size, 9, none⟩ = some (.int .i64 s0) := (t9.cell 9).1
    have r10 : v9.cell? ⟨w.heap.size, 10, none⟩ = some (.int .i64 s1) := (t9.cell 10).1
    go_wp2_with fail
    (try simp only [Exit.inBlock, Exit.then])
    refine bodyPost_ret (v := .tuple #[.agg #[.int .u64 (hi : Int), .int .u64 (lo : Int), .int .u64 (id : Int), .int .u64 (up : Int), .string (bs nm), .int .i64 st, .int .i64 sq, .int .i64 kd, .bool sh, .int .i64 s0, .int .i64 s1], .int .i64 a', .int .i64 0]) (by simp [results, Try.results15, go_sem, r0, r1, r2, r3, r4, r5, r6, r7, r8, r9, r10]; try rfl) rfl ?_
    exact ⟨rfl, t9.bel⟩
end Go.Proofs.Ytgpioafkahoahaa
