import Derived.Test.YtddmmpjamnjilaaDoorPb
import Derived.Lib.SmallJoins
namespace Go.Proofs.YtddmmpjamnjilaaDoor
set_option linter.unusedVariables false
set_option linter.unusedSimpArgs false
open Go.RowKit Go.Joins

theorem gPieces : Tryd.prog.globalNamed "periscope/parent.pieces" = some 0 := by kernel_rfl
/-- The table of pieces, as it stands. -/
def tab7 : Array Value := #[.int .i64 2, .string (bs [45]), .int .i64 16, .string (bs []), .int .i64 16, .string (bs [45]), .int .i64 16, .string (bs [45]), .int .i64 2, .string (bs [])]
def Pce (w : World) : Prop := w.var? Tryd.prog "periscope/parent.pieces" = some tab7
theorem Pce.later {w w' : World} (h : Pce w) (hb : Below w.heap.size w w') : Pce w' := var_stays gPieces h hb (Nat.le_refl _)
theorem Pce.cell {w : World} (h : Pce w) (i : Nat) : w.cell? ⟨0, i, none⟩ = tab7[i]? := World.var?_cell gPieces h i
set_option maxHeartbeats 800000 in
theorem mayend_any (v : Nat) (r : List UInt8) (w : World) :
    Calls Tryd.prog 32 #[.int .u64 v, .string (bs r)] w fun e w' => e = .returned (.bool (endS v r)) ∧ w = w' := by
  by_cases h1 : v = 255
  · have HE := hid (show endS v r = false by rw [endS, if_pos h1])
    have b1 : ((v : Int) == 255) = true := by simp; omega
    clear h1
    go_enter Tryd.func32, Tryd.ntmps32
    go_wp2_with fail
    go_returns
    exact ⟨by rw [HE.out]; rfl, rfl⟩
  have b1 : ((v : Int) == 255) = false := by simp; omega
  by_cases h2 : v = 0
  · have HE := hid (show endS v r = r.isEmpty by rw [endS, if_neg h1, if_pos h2])
    have b2 : ((v : Int) == 0) = true := by simp; omega
    clear h1 h2
    go_enter Tryd.func32, Tryd.ntmps32
    go_wp2_with fail
    go_returns
    exact ⟨by rw [HE.out]; rfl, rfl⟩
  have b2 : ((v : Int) == 0) = false := by simp; omega
  have HE := hid (show endS v r = (r.isEmpty || List.isPrefixOf [45] r) by rw [endS, if_neg h1, if_neg h2])
  clear h1 h2
  by_cases h0 : r = []
  · have b0 : (r == []) = true := by simpa using h0
    have HR := hid h0
    clear h0
    go_enter Tryd.func32, Tryd.ntmps32
    go_wp2_with fail
    go_returns
    exact ⟨by rw [HE.out, HR.out]; rfl, rfl⟩
  · have b0 : (r == []) = false := by simpa using h0
    have HR := hid h0
    have c1 : (ByteArray.mk #[45]) = bs [45] := rfl
    clear h0
    go_enter Tryd.func32, Tryd.ntmps32
    go_wp2_with fail
    refine (lib_hasPrefix r [45] _).mono ?_
    rintro e w1 ⟨rfl, rfl⟩
    go_wp2_with fail
    go_returns
    refine ⟨?_, rfl⟩
    rw [HE.out, show r.isEmpty = false from by have := HR.out; cases r <;> simp_all]
    rfl
set_option maxHeartbeats 800000 in
theorem parzero_any (a b s : Nat) (f : Int) (w : World) :
    Calls Tryd.prog 33 #[.agg #[.int .u64 a, .int .u64 b, .int .u64 s, .int .i64 f]] w fun e w' => e = .returned (.bool (pzero (a, b, s, 0))) ∧ Below w.heap.size w w' := by
  have bs0 := beq0 s
  have HP := hid (show pzero (a, b, s, 0) = (decide (a = 0 ∧ b = 0) || decide (s = 0)) from rfl)
  have hz := zero_any a b
  cases hd : decide (a = 0 ∧ b = 0)
  all_goals
    rw [hd] at hz
    have HD := hid hd
    clear hd
    go_enter Tryd.func33, Tryd.ntmps33
    go_wp2_with fail
    refine (hz _).mono ?_
    rintro e w1 ⟨rfl, rfl⟩
    go_wp2_with fail
    go_returns
    exact ⟨by rw [HP.out, HD.out]; first | rfl | (rw [← bs0]; rfl), by go_grown⟩
theorem parzero_at (a b s : Nat) (f : Int) (w : World) {z : Bool} (H : Hid (pzero (a, b, s, 0) = z)) :
    Calls Tryd.prog 33 #[.agg #[.int .u64 a, .int .u64 b, .int .u64 s, .int .i64 f]] w fun e w' => e = .returned (.bool z) ∧ Below w.heap.size w w' :=
  (parzero_any a b s f w).mono fun e w' ⟨x, y⟩ => ⟨by rw [H.out] at x; exact x, y⟩
theorem cp_none (s : List UInt8) (w : World) : Calls Tryd.prog 55 #[.string (bs s), .string (bs [])] w fun e w' => e = .returned (.tuple #[.string (bs s), .bool true]) ∧ w' = w :=
  (lib_cutPrefix s [] w).mono fun e w' ⟨a, b⟩ => ⟨by rw [show Lib.hasPrefix s [] = true by simp [Lib.hasPrefix], show Lib.trimPrefix s [] = s by simp [Lib.trimPrefix]] at a; exact a, b.symm⟩
theorem cp_hit (s : List UInt8) (w : World) (H : Hid (s[0]? = some 45)) : Calls Tryd.prog 55 #[.string (bs s), .string (bs [45])] w fun e w' => e = .returned (.tuple #[.string (bs (s.drop 1)), .bool true]) ∧ w' = w := by
  have h := H.out
  refine (lib_cutPrefix s [45] w).mono fun e w' ⟨a, b⟩ => ⟨?_, b.symm⟩
  have hp : Lib.hasPrefix s [45] = true := by
    cases s with
    | nil => simp at h
    | cons x r => simp at h; subst h; simp [Lib.hasPrefix]
  rw [a, Lib.trimPrefix, hp]; rfl
theorem cp_miss (s : List UInt8) (w : World) (H : Hid (¬ s[0]? = some 45)) : Calls Tryd.prog 55 #[.string (bs s), .string (bs [45])] w fun e w' => e = .returned (.tuple #[.string (bs s), .bool false]) ∧ w' = w := by
  have h := H.out
  refine (lib_cutPrefix s [45] w).mono fun e w' ⟨a, b⟩ => ⟨?_, b.symm⟩
  have hp : Lib.hasPrefix s [45] = false := by
    cases s with
    | nil => rfl
    | cons x r => simp at h; rw [Lib.hasPrefix, List.isPrefixOf_cons_cons, show ((45 : UInt8) == x) = false from by simpa using fun e => h (Eq.symm e)]; rfl
  rw [a, Lib.trimPrefix, hp]; rfl
/-- Five cells of a variable, free to be written. -/
def C5 (w : World) (g : Nat) (x0 x1 x2 x3 x4 : Value) : Prop :=
  w.cell? ⟨g, 0, none⟩ = some x0 ∧ w.cell? ⟨g, 1, none⟩ = some x1 ∧ w.cell? ⟨g, 2, none⟩ = some x2 ∧ w.cell? ⟨g, 3, none⟩ = some x3 ∧ w.cell? ⟨g, 4, none⟩ = some x4 ∧ w.frozen? ⟨g, 0, none⟩ = false ∧ w.frozen? ⟨g, 1, none⟩ = false ∧ w.frozen? ⟨g, 2, none⟩ = false ∧ w.frozen? ⟨g, 3, none⟩ = false ∧ w.frozen? ⟨g, 4, none⟩ = false
theorem C5.below {w w' : World} {g : Nat} {x0 x1 x2 x3 x4 : Value} (h : C5 w g x0 x1 x2 x3 x4) (hb : Below w.heap.size w w') : C5 w' g x0 x1 x2 x3 x4 := by
  obtain ⟨h0, h1, h2, h3, h4, f0, f1, f2, f3, f4⟩ := h
  have hg : g < w.heap.size := lt_of_cell h0
  exact ⟨(hb.cell hg).trans h0, (hb.cell hg).trans h1, (hb.cell hg).trans h2, (hb.cell hg).trans h3, (hb.cell hg).trans h4, (hb.frozen hg).trans f0, (hb.frozen hg).trans f1, (hb.frozen hg).trans f2, (hb.frozen hg).trans f3, (hb.frozen hg).trans f4⟩
theorem C5.new (w : World) (x0 x1 x2 x3 x4 : Value) (t : TypeId) : C5 (w.alloc (.cells #[x0, x1, x2, x3, x4] t)) w.heap.size x0 x1 x2 x3 x4 := by
  refine ⟨?_, ?_, ?_, ?_, ?_, ?_, ?_, ?_, ?_, ?_⟩ <;> simp
theorem C5.set0 {w : World} {g : Nat} {x0 x1 x2 x3 x4 : Value} (h : C5 w g x0 x1 x2 x3 x4) (u : Value) : C5 (w.setCell ⟨g, 0, none⟩ u) g u x1 x2 x3 x4 := by
  obtain ⟨h0, h1, h2, h3, h4, f0, f1, f2, f3, f4⟩ := h
  refine ⟨?_, ?_, ?_, ?_, ?_, ?_, ?_, ?_, ?_, ?_⟩ <;> go_simp
theorem C5.set1 {w : World} {g : Nat} {x0 x1 x2 x3 x4 : Value} (h : C5 w g x0 x1 x2 x3 x4) (u : Value) : C5 (w.setCell ⟨g, 1, none⟩ u) g x0 u x2 x3 x4 := by
  obtain ⟨h0, h1, h2, h3, h4, f0, f1, f2, f3, f4⟩ := h
  refine ⟨?_, ?_, ?_, ?_, ?_, ?_, ?_, ?_, ?_, ?_⟩ <;> go_simp
theorem C5.set2 {w : World} {g : Nat} {x0 x1 x2 x3 x4 : Value} (h : C5 w g x0 x1 x2 x3 x4) (u : Value) : C5 (w.setCell ⟨g, 2, none⟩ u) g x0 x1 u x3 x4 := by
  obtain ⟨h0, h1, h2, h3, h4, f0, f1, f2, f3, f4⟩ := h
  refine ⟨?_, ?_, ?_, ?_, ?_, ?_, ?_, ?_, ?_, ?_⟩ <;> go_simp
theorem C5.set3 {w : World} {g : Nat} {x0 x1 x2 x3 x4 : Value} (h : C5 w g x0 x1 x2 x3 x4) (u : Value) : C5 (w.setCell ⟨g, 3, none⟩ u) g x0 x1 x2 u x4 := by
  obtain ⟨h0, h1, h2, h3, h4, f0, f1, f2, f3, f4⟩ := h
  refine ⟨?_, ?_, ?_, ?_, ?_, ?_, ?_, ?_, ?_, ?_⟩ <;> go_simp
theorem C5.set4 {w : World} {g : Nat} {x0 x1 x2 x3 x4 : Value} (h : C5 w g x0 x1 x2 x3 x4) (u : Value) : C5 (w.setCell ⟨g, 4, none⟩ u) g x0 x1 x2 x3 u := by
  obtain ⟨h0, h1, h2, h3, h4, f0, f1, f2, f3, f4⟩ := h
  refine ⟨?_, ?_, ?_, ?_, ?_, ?_, ?_, ?_, ?_, ?_⟩ <;> go_simp
end Go.Proofs.YtddmmpjamnjilaaDoor
