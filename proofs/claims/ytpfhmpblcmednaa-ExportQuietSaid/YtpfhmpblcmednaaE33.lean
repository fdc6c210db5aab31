/- Texts put together: Sf. -/
import Derived.Test.YtpfhmpblcmednaaE31
import Derived.BigRegion
import Derived.Deep.Cut
import Derived.StillTailTactics
namespace Go.Proofs.Ytpfhmpblcmednaa
set_option linter.unusedVariables false
set_option linter.unusedSimpArgs false
open Go.RowKit Go.Joins

/-- The variable of a result that is a span. -/
structure RB (w v : World) (cs : Array Value) : Prop where
  res : Blk v w.heap.size 37 cs
  bel : Below w.heap.size w v
theorem RB.put {w v : World} {cs : Array Value} (h : RB w v cs) (i : Nat) (u : Value) : RB w (v.setCell ⟨w.heap.size, i, none⟩ u) (cs.setIfInBounds i u) :=
  ⟨Blk.set_ h.res i u, Below.setCell h.bel (Nat.le_refl _) u⟩
theorem RB.new (w : World) : RB w (w.alloc (.cells zs 37)) zs := ⟨Blk.new _ _ _, sbelow_new _ _⟩
theorem RB.up {w v v' : World} {cs : Array Value} (h : RB w v cs) (hb : Below v.heap.size v v') : RB w v' cs := ⟨Blk.below h.res hb (Blk.lt h.res), sbelow_step h.bel hb⟩
theorem RB.only {w v v' : World} {cs : Array Value} {g : Nat} (h : RB w v cs) (o : Only g v v') (hg : w.heap.size < g) : RB w v' cs := ⟨h.res.only o (by omega), Only.below h.bel o (by omega) h.bel.size⟩
theorem RB.cell {w v : World} {cs : Array Value} (h : RB w v cs) (i : Nat) : v.cell? ⟨w.heap.size, i, none⟩ = cs[i]? ∧ v.frozen? ⟨w.heap.size, i, none⟩ = false := ⟨Blk.cell h.res i, Blk.frozen h.res i⟩
theorem RB.fill {w v : World} (h : RB w v zs) (x0 x1 x2 x3 x4 x5 x6 x7 x8 x9 x10 : Value) : RB w (((((((((((v.setCell ⟨w.heap.size, 0, none⟩ x0).setCell ⟨w.heap.size, 1, none⟩ x1).setCell ⟨w.heap.size, 2, none⟩ x2).setCell ⟨w.heap.size, 3, none⟩ x3).setCell ⟨w.heap.size, 4, none⟩ x4).setCell ⟨w.heap.size, 5, none⟩ x5).setCell ⟨w.heap.size, 6, none⟩ x6).setCell ⟨w.heap.size, 7, none⟩ x7).setCell ⟨w.heap.size, 8, none⟩ x8).setCell ⟨w.heap.size, 9, none⟩ x9).setCell ⟨w.heap.size, 10, none⟩ x10) #[x0, x1, x2, x3, x4, x5, x6, x7, x8, x9, x10] := by
  have h0 : RB w (v.setCell ⟨w.heap.size, 0, none⟩ x0) #[x0, .int .u64 0, .int .u64 0, .int .u64 0, .string (bs []), .int .i64 0, .int .i64 0, .int .i64 0, .bool false, .int .i64 0, .int .i64 0] := h.put 0 x0
  have h1 : RB w ((v.setCell ⟨w.heap.size, 0, none⟩ x0).setCell ⟨w.heap.size, 1, none⟩ x1) #[x0, x1, .int .u64 0, .int .u64 0, .string (bs []), .int .i64 0, .int .i64 0, .int .i64 0, .bool false, .int .i64 0, .int .i64 0] := h0.put 1 x1
  have h2 : RB w (((v.setCell ⟨w.heap.size, 0, none⟩ x0).setCell ⟨w.heap.size, 1, none⟩ x1).setCell ⟨w.heap.size, 2, none⟩ x2) #[x0, x1, x2, .int .u64 0, .string (bs []), .int .i64 0, .int .i64 0, .int .i64 0, .bool false, .int .i64 0, .int .i64 0] := h1.put 2 x2
  have h3 : RB w ((((v.setCell ⟨w.heap.size, 0, none⟩ x0).setCell ⟨w.heap.size, 1, none⟩ x1).setCell ⟨w.heap.size, 2, none⟩ x2).setCell ⟨w.heap.size, 3, none⟩ x3) #[x0, x1, x2, x3, .string (bs []), .int .i64 0, .int .i64 0, .int .i64 0, .bool false, .int .i64 0, .int .i64 0] := h2.put 3 x3
  have h4 : RB w (((((v.setCell ⟨w.heap.size, 0, none⟩ x0).setCell ⟨w.heap.size, 1, none⟩ x1).setCell ⟨w.heap.size, 2, none⟩ x2).setCell ⟨w.heap.size, 3, none⟩ x3).setCell ⟨w.heap.size, 4, none⟩ x4) #[x0, x1, x2, x3, x4, .int .i64 0, .int .i64 0, .int .i64 0, .bool false, .int .i64 0, .int .i64 0] := h3.put 4 x4
  have h5 : RB w ((((((v.setCell ⟨w.heap.size, 0, none⟩ x0).setCell ⟨w.heap.size, 1, none⟩ x1).setCell ⟨w.heap.size, 2, none⟩ x2).setCell ⟨w.heap.size, 3, none⟩ x3).setCell ⟨w.heap.size, 4, none⟩ x4).setCell ⟨w.heap.size, 5, none⟩ x5) #[x0, x1, x2, x3, x4, x5, .int .i64 0, .int .i64 0, .bool false, .int .i64 0, .int .i64 0] := h4.put 5 x5
  have h6 : RB w (((((((v.setCell ⟨w.heap.size, 0, none⟩ x0).setCell ⟨w.heap.size, 1, none⟩ x1).setCell ⟨w.heap.size, 2, none⟩ x2).setCell ⟨w.heap.size, 3, none⟩ x3).setCell ⟨w.heap.size, 4, none⟩ x4).setCell ⟨w.heap.size, 5, none⟩ x5).setCell ⟨w.heap.size, 6, none⟩ x6) #[x0, x1, x2, x3, x4, x5, x6, .int .i64 0, .bool false, .int .i64 0, .int .i64 0] := h5.put 6 x6
  have h7 : RB w ((((((((v.setCell ⟨w.heap.size, 0, none⟩ x0).setCell ⟨w.heap.size, 1, none⟩ x1).setCell ⟨w.heap.size, 2, none⟩ x2).setCell ⟨w.heap.size, 3, none⟩ x3).setCell ⟨w.heap.size, 4, none⟩ x4).setCell ⟨w.heap.size, 5, none⟩ x5).setCell ⟨w.heap.size, 6, none⟩ x6).setCell ⟨w.heap.size, 7, none⟩ x7) #[x0, x1, x2, x3, x4, x5, x6, x7, .bool false, .int .i64 0, .int .i64 0] := h6.put 7 x7
  have h8 : RB w (((((((((v.setCell ⟨w.heap.size, 0, none⟩ x0).setCell ⟨w.heap.size, 1, none⟩ x1).setCell ⟨w.heap.size, 2, none⟩ x2).setCell ⟨w.heap.size, 3, none⟩ x3).setCell ⟨w.heap.size, 4, none⟩ x4).setCell ⟨w.heap.size, 5, none⟩ x5).setCell ⟨w.heap.size, 6, none⟩ x6).setCell ⟨w.heap.size, 7, none⟩ x7).setCell ⟨w.heap.size, 8, none⟩ x8) #[x0, x1, x2, x3, x4, x5, x6, x7, x8, .int .i64 0, .int .i64 0] := h7.put 8 x8
  have h9 : RB w ((((((((((v.setCell ⟨w.heap.size, 0, none⟩ x0).setCell ⟨w.heap.size, 1, none⟩ x1).setCell ⟨w.heap.size, 2, none⟩ x2).setCell ⟨w.heap.size, 3, none⟩ x3).setCell ⟨w.heap.size, 4, none⟩ x4).setCell ⟨w.heap.size, 5, none⟩ x5).setCell ⟨w.heap.size, 6, none⟩ x6).setCell ⟨w.heap.size, 7, none⟩ x7).setCell ⟨w.heap.size, 8, none⟩ x8).setCell ⟨w.heap.size, 9, none⟩ x9) #[x0, x1, x2, x3, x4, x5, x6, x7, x8, x9, .int .i64 0] := h8.put 9 x9
  have h10 : RB w (((((((((((v.setCell ⟨w.heap.size, 0, none⟩ x0).setCell ⟨w.heap.size, 1, none⟩ x1).setCell ⟨w.heap.size, 2, none⟩ x2).setCell ⟨w.heap.size, 3, none⟩ x3).setCell ⟨w.heap.size, 4, none⟩ x4).setCell ⟨w.heap.size, 5, none⟩ x5).setCell ⟨w.heap.size, 6, none⟩ x6).setCell ⟨w.heap.size, 7, none⟩ x7).setCell ⟨w.heap.size, 8, none⟩ x8).setCell ⟨w.heap.size, 9, none⟩ x9).setCell ⟨w.heap.size, 10, none⟩ x10) #[x0, x1, x2, x3, x4, x5, x6, x7, x8, x9, x10] := h9.put 10 x10
  exact h10
/-- A span's name that was read is short. -/
theorem runS_name {l : List UInt8} {a b e : Int} {s : Sp} (h : runS l a = (s, b, e)) : s.name.length ≤ l.length := by
  have : ∀ a e, (namP l a e).1.length ≤ l.length := by
    intro a e
    unfold namP
    split
    · simp
    · split
      · unfold takeS
        split
        · simp
        · split
          · simp
          · split
            · simp
            · simp only [List.length_take, List.length_drop]; omega
      · unfold takeS
        split
        · simp
        · split
          · simp
          · split
            · simp
            · simp only [List.length_take, List.length_drop]; omega
  have e1 := congrArg (fun x => x.1.name) h
  simp only [runS] at e1
  rw [← e1]
  exact this _ _
theorem RB.drew {w v : World} {cs : Array Value} (h : RB w v cs) : RB w v.drew cs := ⟨h.res, h.bel.drew⟩
end Go.Proofs.Ytpfhmpblcmednaa
