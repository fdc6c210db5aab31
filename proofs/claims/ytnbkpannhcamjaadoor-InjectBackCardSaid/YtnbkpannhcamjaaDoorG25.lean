/- Texts put together: Pa Pb Pc Pd Pe Pf Pg Ph Pi Pj Pk Pl. -/
import Derived.Test.YtnbkpannhcamjaaDoorG24
import Derived.Test.YtnbkpannhcamjaaDoorG01
import Derived.Test.YtnbkpannhcamjaaDoorG14
import Derived.Lib.SmallJoins
import Derived.Deep.RegionHeld3
namespace Go.Proofs.YtnbkpannhcamjaaDoor
set_option linter.unusedVariables false
set_option linter.unusedSimpArgs false
open Go.RowKit

theorem lib_cutPrefix (s p : List UInt8) (w : World) :
    Calls Tryd.prog 46 #[.string (bs s), .string (bs p)] w fun e w' => e = .returned (.tuple #[.string (bs (Lib.trimPrefix s p)), .bool (Lib.hasPrefix s p)]) ∧ w = w' :=
  (Tryd.strings_CutPrefix (bs s) (bs p) w).mono fun e w' ⟨a, b⟩ => ⟨by rw [bs_data, bs_data] at a; exact a, b.symm⟩
theorem lib_hasPrefix (s p : List UInt8) (w : World) :
    Calls Tryd.prog 47 #[.string (bs s), .string (bs p)] w fun e w' => e = .returned (.bool (List.isPrefixOf p s)) ∧ w = w' :=
  (Tryd.strings_HasPrefix (bs s) (bs p) w).mono fun e w' ⟨a, b⟩ => ⟨by rw [bs_data, bs_data] at a; exact a, b.symm⟩
theorem allx_hit {l : List UInt8} {p : UInt8 → Bool} {k : Nat} (h : k < l.length) (hp : p l[k] = false) : l.all p = false := by
  rw [Bool.eq_false_iff]; intro ha
  have := List.all_eq_true.1 ha l[k] (List.getElem_mem h)
  rw [hp] at this; cases this
theorem allx_step {l : List UInt8} {p : UInt8 → Bool} {k : Nat} (h : k < l.length) (h1 : (l.take k).all p = true) (hp : p l[k] = true) : (l.take (k + 1)).all p = true := by
  rw [take_snoc l k h, List.all_append, h1]; simp [hp]
theorem at_ne {l : List UInt8} {i : Nat} (h : i < l.length) {b : Bool} (hb : decide (l[i]? = some 45) = b) : ((l[i].toNat : Int) != 45) = !b := by
  rw [← hb, at_of h, Bool.eq_iff_iff]
  simp
  constructor
  · intro x e; apply x; rw [e]; rfl
  · intro x e; apply x; apply UInt8.toNat_inj.1; have : ((45 : UInt8).toNat : Int) = 45 := rfl; omega
theorem not_form {l : List UInt8} (h : ¬ formR l) : formS l = false := by rw [Bool.eq_false_iff]; exact fun e => h ((formS_iff l).1 e)
end Go.Proofs.YtnbkpannhcamjaaDoor
namespace Go.Proofs.YtnbkpannhcamjaaDoor
set_option linter.unusedVariables false
set_option linter.unusedSimpArgs false
open Go.RowKit

def prV (p : Pr) : Value := .agg #[.int .u64 p.1, .int .u64 p.2.1, .int .u64 p.2.2.1, .int .i64 p.2.2.2]
/-- A block of four cells, kept. -/
theorem four_keep {w w1 : World} {x0 x1 x2 x3 : Value} {t : TypeId} (hb : Below (w.alloc (.cells #[x0, x1, x2, x3] t)).heap.size (w.alloc (.cells #[x0, x1, x2, x3] t)) w1) :
    w1.cell? ⟨w.heap.size, 0, none⟩ = some x0 ∧ w1.cell? ⟨w.heap.size, 1, none⟩ = some x1 ∧ w1.cell? ⟨w.heap.size, 2, none⟩ = some x2 ∧ w1.cell? ⟨w.heap.size, 3, none⟩ = some x3 ∧ (∀ i, w1.frozen? ⟨w.heap.size, i, none⟩ = false) ∧ w.heap.size < w1.heap.size ∧ Below w.heap.size w w1 := by
  have hlt : w.heap.size < (w.alloc (.cells #[x0, x1, x2, x3] t)).heap.size := by simp
  refine ⟨(hb.cell (p := ⟨w.heap.size, 0, none⟩) hlt).trans (by simp), (hb.cell (p := ⟨w.heap.size, 1, none⟩) hlt).trans (by simp), (hb.cell (p := ⟨w.heap.size, 2, none⟩) hlt).trans (by simp), (hb.cell (p := ⟨w.heap.size, 3, none⟩) hlt).trans (by simp), fun i => (hb.frozen (p := ⟨w.heap.size, i, none⟩) hlt).trans (by simp), Nat.lt_of_lt_of_le hlt hb.size, ?_⟩
  exact ((Below.refl _ _).alloc (Nat.le_refl _) _).trans (hb.mono (Nat.le_of_lt hlt))
end Go.Proofs.YtnbkpannhcamjaaDoor
namespace Go.Proofs.YtnbkpannhcamjaaDoor
set_option linter.unusedVariables false
set_option linter.unusedSimpArgs false
open Go.RowKit Go.Joins

theorem gPieces : Tryd.prog.globalNamed "periscope/parent.pieces" = some 0 := by kernel_rfl
/-- The table of pieces, as it stands. -/
def tab7 : Array Value := #[.int .i64 2, .string (bs [45]), .int .i64 16, .string (bs []), .int .i64 16, .string (bs [45]), .int .i64 16, .string (bs [45]), .int .i64 2, .string (bs [])]
def Pce (w : World) : Prop := w.var? Tryd.prog "periscope/parent.pieces" = some tab7
theorem Pce.later {w w' : World} (h : Pce w) (hb : Below w.heap.size w w') : Pce w' := var_stays gPieces h hb (Nat.le_refl _)
theorem Pce.cell {w : World} (h : Pce w) (i : Nat) : w.cell? ⟨0, i, none⟩ = tab7[i]? := World.var?_cell gPieces h i
set_option maxHeartbeats 800000 in
theorem mayend_any (v : Nat) (r : List UInt8) (w : World) :
    Calls Tryd.prog 31 #[.int .u64 v, .string (bs r)] w fun e w' => e = .returned (.bool (endS v r)) ∧ w = w' := by
  by_cases h1 : v = 255
  · have HE := hid (show endS v r = false by rw [endS, if_pos h1])
    have b1 : ((v : Int) == 255) = true := by simp; omega
    clear h1
    go_enter Tryd.func31, Tryd.ntmps31
    go_wp2_with fail
    go_returns
    exact ⟨by rw [HE.out]; rfl, rfl⟩
  have b1 : ((v : Int) == 255) = false := by simp; omega
  by_cases h2 : v = 0
  · have HE := hid (show endS v r = r.isEmpty by rw [endS, if_neg h1, if_pos h2])
    have b2 : ((v : Int) == 0) = true := by simp; omega
    clear h1 h2
    go_enter Tryd.func31, Tryd.ntmps31
    go_wp2_with fail
    go_returns
    exact ⟨by rw [HE.out]; rfl, rfl⟩
  have b2 : ((v : Int) == 0) = false := by simp; omega
  have HE := hid (show endS v r = (r.isEmpty || List.isPrefixOf [45] r) by rw [endS, if_neg h1, if_neg h2])
  clear h1 h2
  by_cases h0 : r = []
  · have b0 : (r == []) = true := by simpa using h0
    have HR := hid h0
    clear h0
    go_enter Tryd.func31, Tryd.ntmps31
    go_wp2_with fail
    go_returns
    exact ⟨by rw [HE.out, HR.out]; rfl, rfl⟩
  · have b0 : (r == []) = false := by simpa using h0
    have HR := hid h0
    have c1 : (ByteArray.mk #[45]) = bs [45] := rfl
    clear h0
    go_enter Tryd.func31, Tryd.ntmps31
    go_wp2_with fail
    refine (lib_hasPrefix r [45] _).mono ?_
    rintro e w1 ⟨rfl, rfl⟩
    go_wp2_with fail
    go_returns
    refine ⟨?_, rfl⟩
    rw [HE.out, show r.isEmpty = false from by have := HR.out; cases r <;> simp_all]
    rfl
set_option maxHeartbeats 800000 in
theorem parzero_any (a b s : Nat) (f : Int) (w : World) :
    Calls Tryd.prog 21 #[.agg #[.int .u64 a, .int .u64 b, .int .u64 s, .int .i64 f]] w fun e w' => e = .returned (.bool (pzero (a, b, s, 0))) ∧ Below w.heap.size w w' := by
  have bs0 := beq0 s
  have HP := hid (show pzero (a, b, s, 0) = (decide (a = 0 ∧ b = 0) || decide (s = 0)) from rfl)
  have hz := zero_any a b
  cases hd : decide (a = 0 ∧ b = 0)
  all_goals
    rw [hd] at hz
    have HD := hid hd
    clear hd
    go_enter Tryd.func21, Tryd.ntmps21
    go_wp2_with fail
    refine (hz _).mono ?_
    rintro e w1 ⟨rfl, rfl⟩
    go_wp2_with fail
    go_returns
    exact ⟨by rw [HP.out, HD.out]; first | rfl | (rw [← bs0]; rfl), by go_grown⟩
theorem parzero_at (a b s : Nat) (f : Int) (w : World) {z : Bool} (H : Hid (pzero (a, b, s, 0) = z)) :
    Calls Tryd.prog 21 #[.agg #[.int .u64 a, .int .u64 b, .int .u64 s, .int .i64 f]] w fun e w' => e = .returned (.bool z) ∧ Below w.heap.size w w' :=
  (parzero_any a b s f w).mono fun e w' ⟨x, y⟩ => ⟨by rw [H.out] at x; exact x, y⟩
theorem cp_none (s : List UInt8) (w : World) : Calls Tryd.prog 46 #[.string (bs s), .string (bs [])] w fun e w' => e = .returned (.tuple #[.string (bs s), .bool true]) ∧ w' = w :=
  (lib_cutPrefix s [] w).mono fun e w' ⟨a, b⟩ => ⟨by rw [show Lib.hasPrefix s [] = true by simp [Lib.hasPrefix], show Lib.trimPrefix s [] = s by simp [Lib.trimPrefix]] at a; exact a, b.symm⟩
theorem cp_hit (s : List UInt8) (w : World) (H : Hid (s[0]? = some 45)) : Calls Tryd.prog 46 #[.string (bs s), .string (bs [45])] w fun e w' => e = .returned (.tuple #[.string (bs (s.drop 1)), .bool true]) ∧ w' = w := by
  have h := H.out
  refine (lib_cutPrefix s [45] w).mono fun e w' ⟨a, b⟩ => ⟨?_, b.symm⟩
  have hp : Lib.hasPrefix s [45] = true := by
    cases s with
    | nil => simp at h
    | cons x r => simp at h; subst h; simp [Lib.hasPrefix]
  rw [a, Lib.trimPrefix, hp]; rfl
theorem cp_miss (s : List UInt8) (w : World) (H : Hid (¬ s[0]? = some 45)) : Calls Tryd.prog 46 #[.string (bs s), .string (bs [45])] w fun e w' => e = .returned (.tuple #[.string (bs s), .bool false]) ∧ w' = w := by
  have h := H.out
  refine (lib_cutPrefix s [45] w).mono fun e w' ⟨a, b⟩ => ⟨?_, b.symm⟩
  have hp : Lib.hasPrefix s [45] = false := by
    cases s with
    | nil => rfl
    | cons x r => simp at h; rw [Lib.hasPrefix, List.isPrefixOf_cons_cons, show ((45 : UInt8) == x) = false from by simpa using fun e => h (Eq.symm e)]; rfl
  rw [a, Lib.trimPrefix, hp]; rfl
/-- Five cells of a variable, free to be written. -/
def C5 (w : World) (g : Nat) (x0 x1 x2 x3 x4 : Value) : Prop :=
  w.cell? ⟨g, 0, none⟩ = some x0 ∧ w.cell? ⟨g, 1, none⟩ = some x1 ∧ w.cell? ⟨g, 2, none⟩ = some x2 ∧ w.cell? ⟨g, 3, none⟩ = some x3 ∧ w.cell? ⟨g, 4, none⟩ = some x4 ∧ w.frozen? ⟨g, 0, none⟩ = false ∧ w.frozen? ⟨g, 1, none⟩ = false ∧ w.frozen? ⟨g, 2, none⟩ = false ∧ w.frozen? ⟨g, 3, none⟩ = false ∧ w.frozen? ⟨g, 4, none⟩ = false
theorem C5.below {w w' : World} {g : Nat} {x0 x1 x2 x3 x4 : Value} (h : C5 w g x0 x1 x2 x3 x4) (hb : Below w.heap.size w w') : C5 w' g x0 x1 x2 x3 x4 := by
  obtain ⟨h0, h1, h2, h3, h4, f0, f1, f2, f3, f4⟩ := h
  have hg : g < w.heap.size := lt_of_cell h0
  exact ⟨(hb.cell hg).trans h0, (hb.cell hg).trans h1, (hb.cell hg).trans h2, (hb.cell hg).trans h3, (hb.cell hg).trans h4, (hb.frozen hg).trans f0, (hb.frozen hg).trans f1, (hb.frozen hg).trans f2, (hb.frozen hg).trans f3, (hb.frozen hg).trans f4⟩
theorem C5.new (w : World) (x0 x1 x2 x3 x4 : Value) (t : TypeId) : C5 (w.alloc (.cells #[x0, x1, x2, x3, x4] t)) w.heap.size x0 x1 x2 x3 x4 := by
  refine ⟨?_, ?_, ?_, ?_, ?_, ?_, ?_, ?_, ?_, ?_⟩ <;> simp
theorem C5.set0 {w : World} {g : Nat} {x0 x1 x2 x3 x4 : Value} (h : C5 w g x0 x1 x2 x3 x4) (u : Value) : C5 (w.setCell ⟨g, 0, none⟩ u) g u x1 x2 x3 x4 := by
  obtain ⟨h0, h1, h2, h3, h4, f0, f1, f2, f3, f4⟩ := h
  refine ⟨?_, ?_, ?_, ?_, ?_, ?_, ?_, ?_, ?_, ?_⟩ <;> go_simp
theorem C5.set1 {w : World} {g : Nat} {x0 x1 x2 x3 x4 : Value} (h : C5 w g x0 x1 x2 x3 x4) (u : Value) : C5 (w.setCell ⟨g, 1, none⟩ u) g x0 u x2 x3 x4 := by
  obtain ⟨h0, h1, h2, h3, h4, f0, f1, f2, f3, f4⟩ := h
  refine ⟨?_, ?_, ?_, ?_, ?_, ?_, ?_, ?_, ?_, ?_⟩ <;> go_simp
theorem C5.set2 {w : World} {g : Nat} {x0 x1 x2 x3 x4 : Value} (h : C5 w g x0 x1 x2 x3 x4) (u : Value) : C5 (w.setCell ⟨g, 2, none⟩ u) g x0 x1 u x3 x4 := by
  obtain ⟨h0, h1, h2, h3, h4, f0, f1, f2, f3, f4⟩ := h
  refine ⟨?_, ?_, ?_, ?_, ?_, ?_, ?_, ?_, ?_, ?_⟩ <;> go_simp
theorem C5.set3 {w : World} {g : Nat} {x0 x1 x2 x3 x4 : Value} (h : C5 w g x0 x1 x2 x3 x4) (u : Value) : C5 (w.setCell ⟨g, 3, none⟩ u) g x0 x1 x2 u x4 := by
  obtain ⟨h0, h1, h2, h3, h4, f0, f1, f2, f3, f4⟩ := h
  refine ⟨?_, ?_, ?_, ?_, ?_, ?_, ?_, ?_, ?_, ?_⟩ <;> go_simp
theorem C5.set4 {w : World} {g : Nat} {x0 x1 x2 x3 x4 : Value} (h : C5 w g x0 x1 x2 x3 x4) (u : Value) : C5 (w.setCell ⟨g, 4, none⟩ u) g x0 x1 x2 x3 u := by
  obtain ⟨h0, h1, h2, h3, h4, f0, f1, f2, f3, f4⟩ := h
  refine ⟨?_, ?_, ?_, ?_, ?_, ?_, ?_, ?_, ?_, ?_⟩ <;> go_simp
end Go.Proofs.YtnbkpannhcamjaaDoor
namespace Go.Proofs.YtnbkpannhcamjaaDoor
set_option linter.unusedVariables false
set_option linter.unusedSimpArgs false
open Go.RowKit Go.Joins

/-- The first k pieces are as they must be, and these are their numbers. -/
def Up (l : List UInt8) (k : Int) (c0 c1 c2 c3 c4 : Nat) : Prop :=
  (1 ≤ k → pcOk l 0 2 true = true ∧ c0 = (pc l 0 2).1) ∧ (2 ≤ k → pcOk l 3 16 false = true ∧ c1 = (pc l 3 16).1) ∧ (3 ≤ k → pcOk l 19 16 true = true ∧ c2 = (pc l 19 16).1) ∧ (4 ≤ k → pcOk l 36 16 true = true ∧ c3 = (pc l 36 16).1) ∧ (5 ≤ k → pcOk l 53 2 false = true ∧ c4 = (pc l 53 2).1)
def offP (k : Int) : Nat := if k = 0 then 0 else if k = 1 then 3 else if k = 2 then 19 else if k = 3 then 36 else if k = 4 then 53 else 55
theorem pcOk_no {l : List UInt8} {a n : Nat} {m : Bool} (h : ¬ (pc l a n).2 = 0) : pcOk l a n m = false := by rw [pcOk, decide_eq_false h]; rfl
theorem pcOk_no2 {l : List UInt8} {a n : Nat} (h : ¬ l[a + n]? = some 45) : pcOk l a n true = false := by rw [pcOk, decide_eq_false h]; simp
theorem pcOk_yes {l : List UInt8} {a n : Nat} (h : (pc l a n).2 = 0) (h2 : l[a + n]? = some 45) : pcOk l a n true = true := by rw [pcOk, decide_eq_true h, decide_eq_true h2]; rfl
theorem pcOk_yes2 {l : List UInt8} {a n : Nat} (h : (pc l a n).2 = 0) : pcOk l a n false = true := by rw [pcOk, decide_eq_true h]; rfl
theorem cutOk_no0 {l : List UInt8} (h : pcOk l 0 2 true = false) : cutOk l = false := by rw [cutOk, h]; rfl
theorem cutOk_no1 {l : List UInt8} (h : pcOk l 3 16 false = false) : cutOk l = false := by rw [cutOk, h]; simp
theorem cutOk_no2 {l : List UInt8} (h : pcOk l 19 16 true = false) : cutOk l = false := by rw [cutOk, h]; simp
theorem cutOk_no3 {l : List UInt8} (h : pcOk l 36 16 true = false) : cutOk l = false := by rw [cutOk, h]; simp
theorem cutOk_no4 {l : List UInt8} (h : pcOk l 53 2 false = false) : cutOk l = false := by rw [cutOk, h]; simp
/-- What cut answers: the numbers, where all pieces are as they must be. -/
def cutV (l : List UInt8) (e : Ending) : Prop := ∃ c0 c1 c2 c3 c4 : Nat, ∃ r : List UInt8, e = .returned (.tuple #[.agg #[.int .u64 c0, .int .u64 c1, .int .u64 c2, .int .u64 c3, .int .u64 c4], .string (bs r), .bool (decide (55 ≤ l.length) && cutOk l)]) ∧
  ((decide (55 ≤ l.length) && cutOk l) = true → c0 = (pc l 0 2).1 ∧ c1 = (pc l 3 16).1 ∧ c2 = (pc l 19 16).1 ∧ c3 = (pc l 36 16).1 ∧ c4 = (pc l 53 2).1 ∧ r = l.drop 55)
theorem cutV_no {l : List UInt8} {c0 c1 c2 c3 c4 : Nat} (h : (decide (55 ≤ l.length) && cutOk l) = false) : cutV l (.returned (.tuple #[.agg #[.int .u64 c0, .int .u64 c1, .int .u64 c2, .int .u64 c3, .int .u64 c4], .string (bs []), .bool false])) :=
  ⟨c0, c1, c2, c3, c4, [], by rw [h], fun h' => by rw [h] at h'; cases h'⟩
theorem idx7_0 (w : World) : (Instr.index 57 (.agg #[.int .i64 2, .string (bs [45]), .int .i64 16, .string (bs []), .int .i64 16, .string (bs [45]), .int .i64 16, .string (bs [45]), .int .i64 2, .string (bs [])]) (.int .i64 0)).run Tryd.prog w = .ok (.agg #[.int .i64 2, .string (bs [45])]) w := by kernel_rfl
theorem idx7_1 (w : World) : (Instr.index 57 (.agg #[.int .i64 2, .string (bs [45]), .int .i64 16, .string (bs []), .int .i64 16, .string (bs [45]), .int .i64 16, .string (bs [45]), .int .i64 2, .string (bs [])]) (.int .i64 1)).run Tryd.prog w = .ok (.agg #[.int .i64 16, .string (bs [])]) w := by kernel_rfl
theorem idx7_2 (w : World) : (Instr.index 57 (.agg #[.int .i64 2, .string (bs [45]), .int .i64 16, .string (bs []), .int .i64 16, .string (bs [45]), .int .i64 16, .string (bs [45]), .int .i64 2, .string (bs [])]) (.int .i64 2)).run Tryd.prog w = .ok (.agg #[.int .i64 16, .string (bs [45])]) w := by kernel_rfl
theorem idx7_3 (w : World) : (Instr.index 57 (.agg #[.int .i64 2, .string (bs [45]), .int .i64 16, .string (bs []), .int .i64 16, .string (bs [45]), .int .i64 16, .string (bs [45]), .int .i64 2, .string (bs [])]) (.int .i64 3)).run Tryd.prog w = .ok (.agg #[.int .i64 16, .string (bs [45])]) w := by kernel_rfl
theorem idx7_4 (w : World) : (Instr.index 57 (.agg #[.int .i64 2, .string (bs [45]), .int .i64 16, .string (bs []), .int .i64 16, .string (bs [45]), .int .i64 16, .string (bs [45]), .int .i64 2, .string (bs [])]) (.int .i64 4)).run Tryd.prog w = .ok (.agg #[.int .i64 2, .string (bs [])]) w := by kernel_rfl
theorem cp_gen (s p : List UInt8) (w : World) : Calls Tryd.prog 46 #[.string (bs s), .string (bs p)] w fun e w' => e = .returned (.tuple #[.string (bs (Lib.trimPrefix s p)), .bool (Lib.hasPrefix s p)]) ∧ w' = w :=
  (lib_cutPrefix s p w).mono fun e w' ⟨a, b⟩ => ⟨a, b.symm⟩
set_option maxRecDepth 100000 in
set_option maxHeartbeats 4000000 in
theorem parcut_any (l : List UInt8) (w : World) (hs : l.length ≤ 140737488351232) (HT : Hid (Pce w)) :
    Calls Tryd.prog 30 #[.string (bs l)] w fun e w' => cutV l e ∧ Below w.heap.size w w' := by
  by_cases hl : (l.length : Int) < 55
  · have HF := hid (show (decide (55 ≤ l.length) && cutOk l) = false by rw [decide_eq_false (by omega)]; rfl)
    go_enter Tryd.func30, Tryd.ntmps30
    go_wp2_with fail
    go_returns
    exact ⟨cutV_no HF.out, by go_grown⟩
  have t0 : w.cell? ⟨0, 0, none⟩ = some (.int .i64 2) := HT.out.cell 0
  have t1 : w.cell? ⟨0, 1, none⟩ = some (.string (bs [45])) := HT.out.cell 1
  have t2 : w.cell? ⟨0, 2, none⟩ = some (.int .i64 16) := HT.out.cell 2
  have t3 : w.cell? ⟨0, 3, none⟩ = some (.string (bs [])) := HT.out.cell 3
  have t4 : w.cell? ⟨0, 4, none⟩ = some (.int .i64 16) := HT.out.cell 4
  have t5 : w.cell? ⟨0, 5, none⟩ = some (.string (bs [45])) := HT.out.cell 5
  have t6 : w.cell? ⟨0, 6, none⟩ = some (.int .i64 16) := HT.out.cell 6
  have t7 : w.cell? ⟨0, 7, none⟩ = some (.string (bs [45])) := HT.out.cell 7
  have t8 : w.cell? ⟨0, 8, none⟩ = some (.int .i64 2) := HT.out.cell 8
  have t9 : w.cell? ⟨0, 9, none⟩ = some (.string (bs [])) := HT.out.cell 9
  have hg0 := lt_of_cell t0
  go_enter Tryd.func30, Tryd.ntmps30
  go_wp2_with fail
  clear t0 t1 t2 t3 t4 t5 t6 t7 t8 t9 hg0 HT
  go_loopw [0, 16] (fun s0 i wr => ∃ k : Int, ∃ c0 c1 c2 c3 c4 : Nat, ∃ s' : List UInt8, (k = 0 ∨ k = 1 ∨ k = 2 ∨ k = 3 ∨ k = 4 ∨ k = 5) ∧ i = .int .i64 k ∧ s0 = .string (bs s') ∧ Hid (s' = l.drop (offP k) ∧ Up l k c0 c1 c2 c3 c4 ∧ Below w.heap.size w wr) ∧ C5 wr w.heap.size (.int .u64 c0) (.int .u64 c1) (.int .u64 c2) (.int .u64 c3) (.int .u64 c4)) (fun _ i _ => (5 - intOf i).toNat)
  case atStart => exact ⟨0, 0, 0, 0, 0, 0, l, by omega, rfl, rfl, hid ⟨rfl, ⟨fun h => absurd h (by omega), fun h => absurd h (by omega), fun h => absurd h (by omega), fun h => absurd h (by omega), fun h => absurd h (by omega)⟩, by go_grown⟩, C5.new _ _ _ _ _ _ _⟩
  case round =>
    obtain ⟨k, c0, c1, c2, c3, c4, s', hk, rfl, rfl, HU, hc⟩ := hrel
    have HC := hid hc
    obtain ⟨k0, k1, k2, k3, k4, f0, f1, f2, f3, f4⟩ := hc
    have hg1 : w.heap.size < wr.heap.size := lt_of_cell k0
    rcases hk with rfl | rfl | rfl | rfl | rfl | rfl
    · have hS : s' = l.drop 0 := by rw [HU.out.1]; rfl
      have hlen : s'.length = l.length - 0 := by rw [hS, List.length_drop]
      have hn1 : 2 ≤ s'.length := by omega
      have hn2 : (2 : Int) ≤ (s'.length : Int) := by omega
      have hn3 : s'.length ≤ 140737488351232 := by omega
      have hn4 : (s'.take 2).length ≤ 140737488351232 := by rw [List.length_take]; omega
      obtain ⟨x, ex, hp⟩ : ∃ x ex, unhexS (s'.take 2) = (x, ex) := ⟨_, _, rfl⟩
      have HPC := hid (show pc l 0 2 = (x, ex) by rw [pc, ← hS]; exact hp)
      have HX := hid hp
      have x1 : (bs s').extract 0 2 = bs (s'.take 2) := by rw [bs_extract]; simp
      have x2 : (bs s').extract 2 s'.length = bs (s'.drop 2) := by rw [bs_extract, List.take_of_length_le (by simp)]
      have HAT := hid (show (s'.drop 2)[0]? = l[2]? by rw [hS, List.drop_drop, List.getElem?_drop])
      have HD1 := hid (show s'.drop 3 = l.drop 3 by rw [hS, List.drop_drop])
      clear hp hS hlen
      have hix := idx7_0
      by_cases e0 : ex = 0
      rotate_left
      · have hb : (ex != 0) = true := by simpa using e0
        have HF := hid (show (decide (55 ≤ l.length) && cutOk l) = false by rw [cutOk_no0 (pcOk_no (by rw [HPC.out]; exact e0))]; simp)
        clear e0
        go_wp2_with fail
        refine (unhex_at _ _ hn4 HX).mono ?_
        rintro e w1 ⟨rfl, rfl⟩
        go_wp2_with fail
        go_quiet ((go_at_call 46; exact Calls.quiet_of_same (cp_gen (s'.drop 2) [45] _)))
        go_wp2_with fail
        (try simp only [Exit.inBlock, Exit.then])
        refine bodyPost_ret (by simp [results, Tryd.results30, go_sem, hg1, k0, k1, k2, k3, k4, f0, f1, f2, f3, f4]; try rfl) rfl ?_
        exact ⟨cutV_no HF.out, by have := HU.out.2.2; go_grown; all_goals (refine below_drewN ?_ _; go_grown)⟩
      subst e0
      by_cases e1 : (s'.drop 2)[0]? = some 45
      rotate_left
      · have HM := hid e1
        have HF := hid (show (decide (55 ≤ l.length) && cutOk l) = false by rw [cutOk_no0 (pcOk_no2 (by rw [← HAT.out]; exact e1))]; simp)
        clear e1
        go_wp2_with fail
        refine (unhex_at _ _ hn4 HX).mono ?_
        rintro e w1 ⟨rfl, rfl⟩
        go_wp2_with fail
        go_quiet ((go_at_call 46; exact Calls.quiet_of_same (cp_miss _ _ HM)))
        go_wp2_with fail
        (try simp only [Exit.inBlock, Exit.then])
        refine bodyPost_ret (by simp [results, Tryd.results30, go_sem, hg1, k0, k1, k2, k3, k4, f0, f1, f2, f3, f4]; try rfl) rfl ?_
        exact ⟨cutV_no HF.out, by have := HU.out.2.2; go_grown; all_goals (refine below_drewN ?_ _; go_grown)⟩
      have HM := hid e1
      clear e1
      have HO := hid (show pcOk l 0 2 true = true from pcOk_yes (by rw [HPC.out]) (by rw [← HAT.out]; exact HM.out))
      go_wp2_with fail
      refine (unhex_at _ _ hn4 HX).mono ?_
      rintro e w1 ⟨rfl, rfl⟩
      go_wp2_with fail
      go_quiet ((go_at_call 46; exact Calls.quiet_of_same (cp_hit _ _ HM)))
      go_wp2_with fail
      go_roundw
      case rel =>
        have hw := (Below.refl wr.heap.size wr).alloc (Nat.le_refl _)
        refine ⟨1, x, c1, c2, c3, c4, s'.drop 3, by omega, rfl, rfl, hid ⟨HD1.out, ⟨fun _ => ⟨HO.out, by rw [HPC.out]⟩, fun h => absurd h (by omega), fun h => absurd h (by omega), fun h => absurd h (by omega), fun h => absurd h (by omega)⟩, ?_⟩, ?_⟩
        · have := HU.out.2.2; go_grown; all_goals (refine below_drewN ?_ _; go_grown)
        · exact C5.set0 (HC.out.below (by go_grown; all_goals (refine below_drewN ?_ _; go_grown))) _
      case measure => simp [intOf]
    · have hS : s' = l.drop 3 := by rw [HU.out.1]; rfl
      have hlen : s'.length = l.length - 3 := by rw [hS, List.length_drop]
      have hn1 : 16 ≤ s'.length := by omega
      have hn2 : (16 : Int) ≤ (s'.length : Int) := by omega
      have hn3 : s'.length ≤ 140737488351232 := by omega
      have hn4 : (s'.take 16).length ≤ 140737488351232 := by rw [List.length_take]; omega
      obtain ⟨x, ex, hp⟩ : ∃ x ex, unhexS (s'.take 16) = (x, ex) := ⟨_, _, rfl⟩
      have HPC := hid (show pc l 3 16 = (x, ex) by rw [pc, ← hS]; exact hp)
      have HX := hid hp
      have x1 : (bs s').extract 0 16 = bs (s'.take 16) := by rw [bs_extract]; simp
      have x2 : (bs s').extract 16 s'.length = bs (s'.drop 16) := by rw [bs_extract, List.take_of_length_le (by simp)]
      have HAT := hid (show (s'.drop 16)[0]? = l[19]? by rw [hS, List.drop_drop, List.getElem?_drop])
      have HD1 := hid (show s'.drop 16 = l.drop 19 by rw [hS, List.drop_drop])
      clear hp hS hlen
      have hix := idx7_1
      by_cases e0 : ex = 0
      rotate_left
      · have hb : (ex != 0) = true := by simpa using e0
        have HF := hid (show (decide (55 ≤ l.length) && cutOk l) = false by rw [cutOk_no1 (pcOk_no (by rw [HPC.out]; exact e0))]; simp)
        clear e0
        go_wp2_with fail
        refine (unhex_at _ _ hn4 HX).mono ?_
        rintro e w1 ⟨rfl, rfl⟩
        go_wp2_with fail
        go_quiet ((go_at_call 46; exact Calls.quiet_of_same (cp_gen (s'.drop 16) [] _)))
        go_wp2_with fail
        (try simp only [Exit.inBlock, Exit.then])
        refine bodyPost_ret (by simp [results, Tryd.results30, go_sem, hg1, k0, k1, k2, k3, k4, f0, f1, f2, f3, f4]; try rfl) rfl ?_
        exact ⟨cutV_no HF.out, by have := HU.out.2.2; go_grown; all_goals (refine below_drewN ?_ _; go_grown)⟩
      subst e0
      have HO := hid (show pcOk l 3 16 false = true from pcOk_yes2 (by rw [HPC.out]))
      go_wp2_with fail
      refine (unhex_at _ _ hn4 HX).mono ?_
      rintro e w1 ⟨rfl, rfl⟩
      go_wp2_with fail
      go_quiet ((go_at_call 46; exact Calls.quiet_of_same (cp_none _ _)))
      go_wp2_with fail
      go_roundw
      case rel =>
        have hw := (Below.refl wr.heap.size wr).alloc (Nat.le_refl _)
        refine ⟨2, c0, x, c2, c3, c4, s'.drop 16, by omega, rfl, rfl, hid ⟨HD1.out, ⟨fun _ => HU.out.2.1.1 (by omega), fun _ => ⟨HO.out, by rw [HPC.out]⟩, fun h => absurd h (by omega), fun h => absurd h (by omega), fun h => absurd h (by omega)⟩, ?_⟩, ?_⟩
        · have := HU.out.2.2; go_grown; all_goals (refine below_drewN ?_ _; go_grown)
        · exact C5.set1 (HC.out.below (by go_grown; all_goals (refine below_drewN ?_ _; go_grown))) _
      case measure => simp [intOf]
    · have hS : s' = l.drop 19 := by rw [HU.out.1]; rfl
      have hlen : s'.length = l.length - 19 := by rw [hS, List.length_drop]
      have hn1 : 16 ≤ s'.length := by omega
      have hn2 : (16 : Int) ≤ (s'.length : Int) := by omega
      have hn3 : s'.length ≤ 140737488351232 := by omega
      have hn4 : (s'.take 16).length ≤ 140737488351232 := by rw [List.length_take]; omega
      obtain ⟨x, ex, hp⟩ : ∃ x ex, unhexS (s'.take 16) = (x, ex) := ⟨_, _, rfl⟩
      have HPC := hid (show pc l 19 16 = (x, ex) by rw [pc, ← hS]; exact hp)
      have HX := hid hp
      have x1 : (bs s').extract 0 16 = bs (s'.take 16) := by rw [bs_extract]; simp
      have x2 : (bs s').extract 16 s'.length = bs (s'.drop 16) := by rw [bs_extract, List.take_of_length_le (by simp)]
      have HAT := hid (show (s'.drop 16)[0]? = l[35]? by rw [hS, List.drop_drop, List.getElem?_drop])
      have HD1 := hid (show s'.drop 17 = l.drop 36 by rw [hS, List.drop_drop])
      clear hp hS hlen
      have hix := idx7_2
      by_cases e0 : ex = 0
      rotate_left
      · have hb : (ex != 0) = true := by simpa using e0
        have HF := hid (show (decide (55 ≤ l.length) && cutOk l) = false by rw [cutOk_no2 (pcOk_no (by rw [HPC.out]; exact e0))]; simp)
        clear e0
        go_wp2_with fail
        refine (unhex_at _ _ hn4 HX).mono ?_
        rintro e w1 ⟨rfl, rfl⟩
        go_wp2_with fail
        go_quiet ((go_at_call 46; exact Calls.quiet_of_same (cp_gen (s'.drop 16) [45] _)))
        go_wp2_with fail
        (try simp only [Exit.inBlock, Exit.then])
        refine bodyPost_ret (by simp [results, Tryd.results30, go_sem, hg1, k0, k1, k2, k3, k4, f0, f1, f2, f3, f4]; try rfl) rfl ?_
        exact ⟨cutV_no HF.out, by have := HU.out.2.2; go_grown; all_goals (refine below_drewN ?_ _; go_grown)⟩
      subst e0
      by_cases e1 : (s'.drop 16)[0]? = some 45
      rotate_left
      · have HM := hid e1
        have HF := hid (show (decide (55 ≤ l.length) && cutOk l) = false by rw [cutOk_no2 (pcOk_no2 (by rw [← HAT.out]; exact e1))]; simp)
        clear e1
        go_wp2_with fail
        refine (unhex_at _ _ hn4 HX).mono ?_
        rintro e w1 ⟨rfl, rfl⟩
        go_wp2_with fail
        go_quiet ((go_at_call 46; exact Calls.quiet_of_same (cp_miss _ _ HM)))
        go_wp2_with fail
        (try simp only [Exit.inBlock, Exit.then])
        refine bodyPost_ret (by simp [results, Tryd.results30, go_sem, hg1, k0, k1, k2, k3, k4, f0, f1, f2, f3, f4]; try rfl) rfl ?_
        exact ⟨cutV_no HF.out, by have := HU.out.2.2; go_grown; all_goals (refine below_drewN ?_ _; go_grown)⟩
      have HM := hid e1
      clear e1
      have HO := hid (show pcOk l 19 16 true = true from pcOk_yes (by rw [HPC.out]) (by rw [← HAT.out]; exact HM.out))
      go_wp2_with fail
      refine (unhex_at _ _ hn4 HX).mono ?_
      rintro e w1 ⟨rfl, rfl⟩
      go_wp2_with fail
      go_quiet ((go_at_call 46; exact Calls.quiet_of_same (cp_hit _ _ HM)))
      go_wp2_with fail
      go_roundw
      case rel =>
        have hw := (Below.refl wr.heap.size wr).alloc (Nat.le_refl _)
        refine ⟨3, c0, c1, x, c3, c4, s'.drop 17, by omega, rfl, rfl, hid ⟨HD1.out, ⟨fun _ => HU.out.2.1.1 (by omega), fun _ => HU.out.2.1.2.1 (by omega), fun _ => ⟨HO.out, by rw [HPC.out]⟩, fun h => absurd h (by omega), fun h => absurd h (by omega)⟩, ?_⟩, ?_⟩
        · have := HU.out.2.2; go_grown; all_goals (refine below_drewN ?_ _; go_grown)
        · exact C5.set2 (HC.out.below (by go_grown; all_goals (refine below_drewN ?_ _; go_grown))) _
      case measure => simp [intOf]
    · have hS : s' = l.drop 36 := by rw [HU.out.1]; rfl
      have hlen : s'.length = l.length - 36 := by rw [hS, List.length_drop]
      have hn1 : 16 ≤ s'.length := by omega
      have hn2 : (16 : Int) ≤ (s'.length : Int) := by omega
      have hn3 : s'.length ≤ 140737488351232 := by omega
      have hn4 : (s'.take 16).length ≤ 140737488351232 := by rw [List.length_take]; omega
      obtain ⟨x, ex, hp⟩ : ∃ x ex, unhexS (s'.take 16) = (x, ex) := ⟨_, _, rfl⟩
      have HPC := hid (show pc l 36 16 = (x, ex) by rw [pc, ← hS]; exact hp)
      have HX := hid hp
      have x1 : (bs s').extract 0 16 = bs (s'.take 16) := by rw [bs_extract]; simp
      have x2 : (bs s').extract 16 s'.length = bs (s'.drop 16) := by rw [bs_extract, List.take_of_length_le (by simp)]
      have HAT := hid (show (s'.drop 16)[0]? = l[52]? by rw [hS, List.drop_drop, List.getElem?_drop])
      have HD1 := hid (show s'.drop 17 = l.drop 53 by rw [hS, List.drop_drop])
      clear hp hS hlen
      have hix := idx7_3
      by_cases e0 : ex = 0
      rotate_left
      · have hb : (ex != 0) = true := by simpa using e0
        have HF := hid (show (decide (55 ≤ l.length) && cutOk l) = false by rw [cutOk_no3 (pcOk_no (by rw [HPC.out]; exact e0))]; simp)
        clear e0
        go_wp2_with fail
        refine (unhex_at _ _ hn4 HX).mono ?_
        rintro e w1 ⟨rfl, rfl⟩
        go_wp2_with fail
        go_quiet ((go_at_call 46; exact Calls.quiet_of_same (cp_gen (s'.drop 16) [45] _)))
        go_wp2_with fail
        (try simp only [Exit.inBlock, Exit.then])
        refine bodyPost_ret (by simp [results, Tryd.results30, go_sem, hg1, k0, k1, k2, k3, k4, f0, f1, f2, f3, f4]; try rfl) rfl ?_
        exact ⟨cutV_no HF.out, by have := HU.out.2.2; go_grown; all_goals (refine below_drewN ?_ _; go_grown)⟩
      subst e0
      by_cases e1 : (s'.drop 16)[0]? = some 45
      rotate_left
      · have HM := hid e1
        have HF := hid (show (decide (55 ≤ l.length) && cutOk l) = false by rw [cutOk_no3 (pcOk_no2 (by rw [← HAT.out]; exact e1))]; simp)
        clear e1
        go_wp2_with fail
        refine (unhex_at _ _ hn4 HX).mono ?_
        rintro e w1 ⟨rfl, rfl⟩
        go_wp2_with fail
        go_quiet ((go_at_call 46; exact Calls.quiet_of_same (cp_miss _ _ HM)))
        go_wp2_with fail
        (try simp only [Exit.inBlock, Exit.then])
        refine bodyPost_ret (by simp [results, Tryd.results30, go_sem, hg1, k0, k1, k2, k3, k4, f0, f1, f2, f3, f4]; try rfl) rfl ?_
        exact ⟨cutV_no HF.out, by have := HU.out.2.2; go_grown; all_goals (refine below_drewN ?_ _; go_grown)⟩
      have HM := hid e1
      clear e1
      have HO := hid (show pcOk l 36 16 true = true from pcOk_yes (by rw [HPC.out]) (by rw [← HAT.out]; exact HM.out))
      go_wp2_with fail
      refine (unhex_at _ _ hn4 HX).mono ?_
      rintro e w1 ⟨rfl, rfl⟩
      go_wp2_with fail
      go_quiet ((go_at_call 46; exact Calls.quiet_of_same (cp_hit _ _ HM)))
      go_wp2_with fail
      go_roundw
      case rel =>
        have hw := (Below.refl wr.heap.size wr).alloc (Nat.le_refl _)
        refine ⟨4, c0, c1, c2, x, c4, s'.drop 17, by omega, rfl, rfl, hid ⟨HD1.out, ⟨fun _ => HU.out.2.1.1 (by omega), fun _ => HU.out.2.1.2.1 (by omega), fun _ => HU.out.2.1.2.2.1 (by omega), fun _ => ⟨HO.out, by rw [HPC.out]⟩, fun h => absurd h (by omega)⟩, ?_⟩, ?_⟩
        · have := HU.out.2.2; go_grown; all_goals (refine below_drewN ?_ _; go_grown)
        · exact C5.set3 (HC.out.below (by go_grown; all_goals (refine below_drewN ?_ _; go_grown))) _
      case measure => simp [intOf]
    · have hS : s' = l.drop 53 := by rw [HU.out.1]; rfl
      have hlen : s'.length = l.length - 53 := by rw [hS, List.length_drop]
      have hn1 : 2 ≤ s'.length := by omega
      have hn2 : (2 : Int) ≤ (s'.length : Int) := by omega
      have hn3 : s'.length ≤ 140737488351232 := by omega
      have hn4 : (s'.take 2).length ≤ 140737488351232 := by rw [List.length_take]; omega
      obtain ⟨x, ex, hp⟩ : ∃ x ex, unhexS (s'.take 2) = (x, ex) := ⟨_, _, rfl⟩
      have HPC := hid (show pc l 53 2 = (x, ex) by rw [pc, ← hS]; exact hp)
      have HX := hid hp
      have x1 : (bs s').extract 0 2 = bs (s'.take 2) := by rw [bs_extract]; simp
      have x2 : (bs s').extract 2 s'.length = bs (s'.drop 2) := by rw [bs_extract, List.take_of_length_le (by simp)]
      have HAT := hid (show (s'.drop 2)[0]? = l[55]? by rw [hS, List.drop_drop, List.getElem?_drop])
      have HD1 := hid (show s'.drop 2 = l.drop 55 by rw [hS, List.drop_drop])
      clear hp hS hlen
      have hix := idx7_4
      by_cases e0 : ex = 0
      rotate_left
      · have hb : (ex != 0) = true := by simpa using e0
        have HF := hid (show (decide (55 ≤ l.length) && cutOk l) = false by rw [cutOk_no4 (pcOk_no (by rw [HPC.out]; exact e0))]; simp)
        clear e0
        go_wp2_with fail
        refine (unhex_at _ _ hn4 HX).mono ?_
        rintro e w1 ⟨rfl, rfl⟩
        go_wp2_with fail
        go_quiet ((go_at_call 46; exact Calls.quiet_of_same (cp_gen (s'.drop 2) [] _)))
        go_wp2_with fail
        (try simp only [Exit.inBlock, Exit.then])
        refine bodyPost_ret (by simp [results, Tryd.results30, go_sem, hg1, k0, k1, k2, k3, k4, f0, f1, f2, f3, f4]; try rfl) rfl ?_
        exact ⟨cutV_no HF.out, by have := HU.out.2.2; go_grown; all_goals (refine below_drewN ?_ _; go_grown)⟩
      subst e0
      have HO := hid (show pcOk l 53 2 false = true from pcOk_yes2 (by rw [HPC.out]))
      go_wp2_with fail
      refine (unhex_at _ _ hn4 HX).mono ?_
      rintro e w1 ⟨rfl, rfl⟩
      go_wp2_with fail
      go_quiet ((go_at_call 46; exact Calls.quiet_of_same (cp_none _ _)))
      go_wp2_with fail
      go_roundw
      case rel =>
        have hw := (Below.refl wr.heap.size wr).alloc (Nat.le_refl _)
        refine ⟨5, c0, c1, c2, c3, x, s'.drop 2, by omega, rfl, rfl, hid ⟨HD1.out, ⟨fun _ => HU.out.2.1.1 (by omega), fun _ => HU.out.2.1.2.1 (by omega), fun _ => HU.out.2.1.2.2.1 (by omega), fun _ => HU.out.2.1.2.2.2.1 (by omega), fun _ => ⟨HO.out, by rw [HPC.out]⟩⟩, ?_⟩, ?_⟩
        · have := HU.out.2.2; go_grown; all_goals (refine below_drewN ?_ _; go_grown)
        · exact C5.set4 (HC.out.below (by go_grown; all_goals (refine below_drewN ?_ _; go_grown))) _
      case measure => simp [intOf]
    · have HF := hid (show (decide (55 ≤ l.length) && cutOk l) = true by
        obtain ⟨u0, u1, u2, u3, u4⟩ := HU.out.2.1
        rw [decide_eq_true (by omega), cutOk, (u0 (by omega)).1, (u1 (by omega)).1, (u2 (by omega)).1, (u3 (by omega)).1, (u4 (by omega)).1]; rfl)
      go_wp2_with fail
      (try simp only [Exit.inBlock, Exit.then])
      refine bodyPost_ret (by simp [results, Tryd.results30, go_sem, hg1, k0, k1, k2, k3, k4, f0, f1, f2, f3, f4]; try rfl) rfl ?_
      obtain ⟨u0, u1, u2, u3, u4⟩ := HU.out.2.1
      refine ⟨⟨c0, c1, c2, c3, c4, s', by rw [HF.out], fun _ => ⟨(u0 (by omega)).2, (u1 (by omega)).2, (u2 (by omega)).2, (u3 (by omega)).2, (u4 (by omega)).2, HU.out.1⟩⟩, ?_⟩
      have := HU.out.2.2
      go_grown
end Go.Proofs.YtnbkpannhcamjaaDoor
namespace Go.Proofs.YtnbkpannhcamjaaDoor
set_option linter.unusedVariables false
set_option linter.unusedSimpArgs false
open Go.RowKit Go.Joins

theorem keep84 {w1 w2 : World} {g : Nat} {c0 c1 c2 c3 c4 p0 p1 p2 p3 x0 x1 x2 x3 : Value} {t5 t4 : TypeId}
    (hb : Below ((w1.alloc (.cells #[c0, c1, c2, c3, c4] t5)).alloc (.cells #[p0, p1, p2, p3] t4)).heap.size ((w1.alloc (.cells #[c0, c1, c2, c3, c4] t5)).alloc (.cells #[p0, p1, p2, p3] t4)) w2)
    (k0 : w1.cell? ⟨g, 0, none⟩ = some x0) (k1 : w1.cell? ⟨g, 1, none⟩ = some x1) (k2 : w1.cell? ⟨g, 2, none⟩ = some x2) (k3 : w1.cell? ⟨g, 3, none⟩ = some x3) (kf : ∀ i, w1.frozen? ⟨g, i, none⟩ = false) :
    w2.cell? ⟨g, 0, none⟩ = some x0 ∧ w2.cell? ⟨g, 1, none⟩ = some x1 ∧ w2.cell? ⟨g, 2, none⟩ = some x2 ∧ w2.cell? ⟨g, 3, none⟩ = some x3 ∧ (∀ i, w2.frozen? ⟨g, i, none⟩ = false) ∧
    w2.cell? ⟨w1.heap.size + 1, 0, none⟩ = some p0 ∧ w2.cell? ⟨w1.heap.size + 1, 1, none⟩ = some p1 ∧ w2.cell? ⟨w1.heap.size + 1, 2, none⟩ = some p2 ∧ w2.cell? ⟨w1.heap.size + 1, 3, none⟩ = some p3 ∧ g < w2.heap.size ∧ Below w1.heap.size w1 w2 := by
  have hg : g < w1.heap.size := lt_of_cell k0
  have hW : Below w1.heap.size w1 w2 := (((Below.refl _ _).alloc (Nat.le_refl _) _).alloc (by simp) _).trans (hb.mono (by simp; omega))
  have hn : w1.heap.size + 1 < ((w1.alloc (.cells #[c0, c1, c2, c3, c4] t5)).alloc (.cells #[p0, p1, p2, p3] t4)).heap.size := by simp
  refine ⟨(hW.cell (p := ⟨g, 0, none⟩) hg).trans k0, (hW.cell (p := ⟨g, 1, none⟩) hg).trans k1, (hW.cell (p := ⟨g, 2, none⟩) hg).trans k2, (hW.cell (p := ⟨g, 3, none⟩) hg).trans k3, fun i => (hW.frozen (p := ⟨g, i, none⟩) hg).trans (kf i), ?_, ?_, ?_, ?_, Nat.lt_of_lt_of_le hg hW.size, hW⟩
  · exact (hb.cell (p := ⟨w1.heap.size + 1, 0, none⟩) hn).trans (by simp)
  · exact (hb.cell (p := ⟨w1.heap.size + 1, 1, none⟩) hn).trans (by simp)
  · exact (hb.cell (p := ⟨w1.heap.size + 1, 2, none⟩) hn).trans (by simp)
  · exact (hb.cell (p := ⟨w1.heap.size + 1, 3, none⟩) hn).trans (by simp)
theorem pzero_num (a b s f : Nat) : pzero (a, b, s, 0) = pzero (a, b, s, f) := rfl
set_option maxRecDepth 100000 in
set_option maxHeartbeats 4000000 in
theorem parread_any (l : List UInt8) (w : World) (hs : l.length ≤ 140737488351232) (HT : Hid (Pce w)) :
    Calls Tryd.prog 19 #[.string (bs l)] w fun e w' => e = .returned (.tuple #[prV (parS l).1, .int .i64 (parS l).2]) ∧ Below w.heap.size w w' := by
  have HT1 := hid (HT.out.later (w' := w.alloc (.cells #[.int .u64 0, .int .u64 0, .int .u64 0, .int .i64 0] 27)) ((Below.refl _ _).alloc (Nat.le_refl _) _))
  cases hok : (decide (55 ≤ l.length) && cutOk l)
  · have HP := hid (show parS l = (noP7, 3) by
      rw [parS, if_neg]
      unfold formS
      rw [← Bool.and_assoc, hok]; simp)
    have HK := hid hok
    clear hok
    go_enter Tryd.func19, Tryd.ntmps19
    go_wp2_with fail
    refine (parcut_any l _ hs HT1).mono ?_
    rintro e w1 ⟨⟨c0, c1, c2, c3, c4, r, rfl, hc⟩, hb1⟩
    rw [HK.out]
    clear hc
    obtain ⟨k0, k1, k2, k3, kf, ksz, hbw⟩ := four_keep hb1
    clear hb1
    go_wp2_with fail
    (try simp only [Exit.inBlock, Exit.then])
    refine bodyPost_ret (by simp [results, Tryd.results19, go_sem, ksz, k0, k1, k2, k3, kf]; try rfl) rfl ?_
    exact ⟨by rw [HP.out]; rfl, by go_grown⟩
  have hl : 55 ≤ l.length := by
    rw [Bool.and_eq_true, decide_eq_true_eq] at hok; exact hok.1
  have hF : formS l = endS (pc l 0 2).1 (l.drop 55) := by
    unfold formS
    rw [← Bool.and_assoc, hok]; rfl
  have hf4 := (numP_lt l hl).2.2.2
  have HK := hid hok
  have hps : parS l = if formS l = true then (if pzero (numP l) = true then (noP7, 11) else (numP l, 0)) else (noP7, 3) := rfl
  have hnum : numP l = ((pc l 3 16).1, (pc l 19 16).1, (pc l 36 16).1, (pc l 53 2).1) := rfl
  clear hok
  cases hen : endS (pc l 0 2).1 (l.drop 55)
  · have HP := hid (show parS l = (noP7, 3) by rw [hps, hF, hen]; rfl)
    have hen2 := hid hen
    clear hen hF hps hnum
    go_enter Tryd.func19, Tryd.ntmps19
    go_wp2_with fail
    refine (parcut_any l _ hs HT1).mono ?_
    rintro e w1 ⟨⟨c0, c1, c2, c3, c4, r, rfl, hc⟩, hb1⟩
    obtain ⟨e0, e1, e2, e3, e4, er⟩ := hc HK.out
    rw [HK.out]
    clear hc
    have hE := hid (show endS c0 r = false by rw [e0, er]; exact hen2.out)
    clear e0 e1 e2 e3 e4 er
    obtain ⟨k0, k1, k2, k3, kf, ksz, hbw⟩ := four_keep hb1
    clear hb1
    go_wp2_with fail
    refine (mayend_any c0 r _).mono ?_
    rintro e w2 ⟨rfl, rfl⟩
    rw [hE.out]
    go_wp2_with fail
    (try simp only [Exit.inBlock, Exit.then])
    refine bodyPost_ret (by simp [results, Tryd.results19, go_sem, ksz, k0, k1, k2, k3, kf]; try rfl) rfl ?_
    exact ⟨by rw [HP.out]; rfl, by go_grown⟩
  have hen2 := hid hen
  have HP := hid (show parS l = if pzero (numP l) = true then (noP7, 11) else (numP l, 0) by rw [hps, hF, hen]; rfl)
  have HN := hid hnum
  clear hen hF hps hnum
  cases hz : pzero (numP l)
  all_goals
    have HZ := hid hz
    clear hz
    go_enter Tryd.func19, Tryd.ntmps19
    go_wp2_with fail
    refine (parcut_any l _ hs HT1).mono ?_
    rintro e w1 ⟨⟨c0, c1, c2, c3, c4, r, rfl, hc⟩, hb1⟩
    obtain ⟨e0, e1, e2, e3, e4, er⟩ := hc HK.out
    rw [HK.out]
    clear hc
    have hE := hid (show endS c0 r = true by rw [e0, er]; exact hen2.out)
    have HN2 := hid (show numP l = (c1, c2, c3, c4) by rw [HN.out, e1, e2, e3, e4])
    have h4 : c4 < 256 := by rw [e4]; exact hf4
    clear e0 e1 e2 e3 e4 er
    obtain ⟨k0, k1, k2, k3, kf, ksz, hbw⟩ := four_keep hb1
    clear hb1
    have HZ2 := HZ.out
    rw [HN2.out] at HZ2
    have HZ3 := hid (show pzero (c1, c2, c3, 0) = _ from HZ2)
    clear HZ2
    go_wp2_with fail
    refine (mayend_any c0 r _).mono ?_
    rintro e w2 ⟨rfl, rfl⟩
    rw [hE.out]
    go_wp2_with fail
    refine (parzero_at c1 c2 c3 _ _ HZ3).mono ?_
    rintro e w2 ⟨rfl, hb2⟩
    obtain ⟨q0, q1, q2, q3, qf, r0, r1, r2, r3, qsz, qbw⟩ := keep84 hb2 k0 k1 k2 k3 kf
    clear hb2 k0 k1 k2 k3 kf
    go_wp2_with fail
    (try simp only [Exit.inBlock, Exit.then])
    refine bodyPost_ret (by simp [results, Tryd.results19, go_sem, qsz, q0, q1, q2, q3, qf]; try rfl) rfl ?_
    have hfin : Below w.heap.size w w2 := hbw.trans (qbw.mono (Nat.le_of_lt ksz))
    exact ⟨by rw [HP.out, HZ.out, HN2.out]; rfl, by go_grown⟩
end Go.Proofs.YtnbkpannhcamjaaDoor
namespace Go.Proofs.YtnbkpannhcamjaaDoor
set_option linter.unusedVariables false
set_option linter.unusedSimpArgs false
open Go.RowKit Go.Joins

theorem ohex_at (n : Nat) (wd : Int) (w : World) {t : List UInt8} {c : Int} (H : Hid (hexS n wd = (t, c))) :
    Calls Tryd.prog 22 #[.int .u64 n, .int .i64 wd] w fun e w' => e = .returned (.tuple #[.string (bs t), .int .i64 c]) ∧ Below w.heap.size w w' :=
  (ohex_any n wd w (by omega)).mono fun e w' ⟨x, y⟩ => ⟨by rw [Int.toNat_natCast, H.out] at x; exact x, y⟩
theorem ohex_zero (w : World) :
    Calls Tryd.prog 22 #[.int .u64 0, .int .i64 2] w fun e w' => e = .returned (.tuple #[.string (bs [48, 48]), .int .i64 0]) ∧ Below w.heap.size w w' :=
  (ohex_any 0 2 w (by omega)).mono fun e w' ⟨x, y⟩ => ⟨by rw [show hexS (Int.toNat 0) 2 = ([48, 48], 0) from by decide] at x; exact x, y⟩
theorem keep_three {w1 w' : World} {g h : Nat} {x y z : Value} {i : Nat} (h0 : w1.cell? ⟨g, i, none⟩ = some x) (h1 : w1.cell? ⟨h, 0, none⟩ = some y) (h2 : w1.cell? ⟨h, 1, none⟩ = some z) (hb : Below w1.heap.size w1 w') :
    w'.cell? ⟨g, i, none⟩ = some x ∧ w'.cell? ⟨h, 0, none⟩ = some y ∧ w'.cell? ⟨h, 1, none⟩ = some z ∧ Below w1.heap.size w1 w' :=
  ⟨(hb.cell (p := ⟨g, i, none⟩) (lt_of_cell h0)).trans h0, (hb.cell (p := ⟨h, 0, none⟩) (lt_of_cell h1)).trans h1, (hb.cell (p := ⟨h, 1, none⟩) (lt_of_cell h2)).trans h2, hb⟩
/-- The text of the first k pieces. -/
def wrT (a b s : Nat) (dv : List UInt8) (k : Int) : List UInt8 :=
  if k = 0 then [] else if k = 1 then [48, 48, 45] else if k = 2 then [48, 48, 45] ++ hx 16 a else if k = 3 then [48, 48, 45] ++ hx 16 a ++ hx 16 b ++ [45] else if k = 4 then [48, 48, 45] ++ hx 16 a ++ hx 16 b ++ [45] ++ hx 16 s ++ [45] else [48, 48, 45] ++ hx 16 a ++ hx 16 b ++ [45] ++ hx 16 s ++ [45] ++ dv
theorem flag_num (f : Int) (h1 : -9223372036854775808 ≤ f) (h2 : f ≤ 9223372036854775807) : ∃ v : Nat, IntKind.u64.wrap f = (v : Int) ∧ v < 18446744073709551616 ∧ ((0 ≤ f ∧ f ≤ 255) → v = f.toNat ∧ hexS v 2 = (hx 2 f.toNat, 0)) ∧ (¬ (0 ≤ f ∧ f ≤ 255) → hexS v 2 = ([], 12)) := by
  have hw : IntKind.u64.wrap f = if 0 ≤ f then f else f + 18446744073709551616 := by
    rw [IntKind.wrap_u64]; split <;> omega
  rw [hw]
  split
  · rename_i h0
    refine ⟨f.toNat, by omega, by omega, fun h => ⟨rfl, ?_⟩, fun h => ?_⟩
    · rw [hexS, putX_ok (by omega) (by omega) (Nat.div_eq_of_lt (by show f.toNat < 16 ^ 2; omega))]; rfl
    · rw [hexS, putX_range (by omega) (by omega)]
      intro e
      have := Nat.div_eq_zero_iff.1 e
      have h16 : (16 : Nat) ^ (2 : Int).toNat = 256 := rfl
      omega
  · rename_i h0
    refine ⟨(f + 18446744073709551616).toNat, by omega, by omega, fun h => absurd h.1 h0, fun h => ?_⟩
    rw [hexS, putX_range (by omega) (by omega)]
    intro e
    have := Nat.div_eq_zero_iff.1 e
    have h16 : (16 : Nat) ^ (2 : Int).toNat = 256 := rfl
    omega
set_option maxRecDepth 100000 in
set_option maxHeartbeats 4000000 in
theorem parwrite_any (a b s : Nat) (f : Int) (w : World) (ha : Hid (a < 18446744073709551616)) (hb : Hid (b < 18446744073709551616)) (hs : Hid (s < 18446744073709551616)) (hf : Hid (-9223372036854775808 ≤ f ∧ f ≤ 9223372036854775807)) (HT : Hid (Pce w)) :
    Calls Tryd.prog 14 #[.agg #[.int .u64 a, .int .u64 b, .int .u64 s, .int .i64 f]] w fun e w' => e = .returned (.tuple #[.string (bs (wrS a b s f).1), .int .i64 (wrS a b s f).2]) ∧ Below w.heap.size w w' := by
  cases hz : pzero (a, b, s, 0)
  rotate_left
  · have HW := hid (show wrS a b s f = ([], 11) by rw [wrS, if_pos hz])
    have HZ := hid hz
    clear hz
    go_enter Tryd.func14, Tryd.ntmps14
    go_wp2_with fail
    refine (parzero_at a b s f _ HZ).mono ?_
    rintro e w1 ⟨rfl, hb1⟩
    obtain ⟨k0, k1, k2, k3, kf, ksz, hbw⟩ := four_keep hb1
    clear hb1
    go_wp2_with fail
    go_returns
    exact ⟨by rw [HW.out]; rfl, hbw⟩
  have HW := hid (show wrS a b s f = if f < 0 ∨ 255 < f then ([], 12) else (parT (a, b, s, f.toNat), 0) by rw [wrS, if_neg (by rw [hz]; decide)])
  have HZ := hid hz
  clear hz
  obtain ⟨v, hv, hv64, hv1, hv2⟩ := flag_num f hf.out.1 hf.out.2
  have HVV := hid (And.intro hv1 hv2)
  have HV64 := hid hv64
  clear hv1 hv2 hv64
  obtain ⟨dv, cv, hdc⟩ : ∃ dv cv, hexS v 2 = (dv, cv) := ⟨_, _, rfl⟩
  have HV := hid hdc
  have hdl : dv.length ≤ 2 := by
    by_cases h : 0 ≤ f ∧ f ≤ 255
    · have := (HVV.out.1 h).2; rw [hdc, Prod.mk.injEq] at this; rw [this.1, hx_length]; omega
    · have := HVV.out.2 h; rw [hdc, Prod.mk.injEq] at this; rw [this.1]; simp
  clear hdc
  have HAa := hid (hexS16 ha.out)
  have HBb := hid (hexS16 hb.out)
  have HSs := hid (hexS16 hs.out)
  have hla : (hx 16 a).length ≤ 16 := by rw [hx_length]; omega
  have hlb : (hx 16 b).length ≤ 16 := by rw [hx_length]; omega
  have hls : (hx 16 s).length ≤ 16 := by rw [hx_length]; omega
  have HT0 := hid (HT.out.later (w' := w.alloc (.cells #[.int .u64 (a : Int), .int .u64 (b : Int), .int .u64 (s : Int), .int .i64 f] 27)) ((Below.refl _ _).alloc (Nat.le_refl _) _))
  go_enter Tryd.func14, Tryd.ntmps14
  go_wp2_with fail
  refine (parzero_at a b s f _ HZ).mono ?_
  rintro e w1 ⟨rfl, hb1⟩
  have HT1 := hid (HT0.out.later hb1)
  obtain ⟨k0, k1, k2, k3, kf, ksz, hbw⟩ := four_keep hb1
  clear hb1
  have t0 : w1.cell? ⟨0, 0, none⟩ = some (.int .i64 2) := HT1.out.cell 0
  have t1 : w1.cell? ⟨0, 1, none⟩ = some (.string (bs [45])) := HT1.out.cell 1
  have t2 : w1.cell? ⟨0, 2, none⟩ = some (.int .i64 16) := HT1.out.cell 2
  have t3 : w1.cell? ⟨0, 3, none⟩ = some (.string (bs [])) := HT1.out.cell 3
  have t4 : w1.cell? ⟨0, 4, none⟩ = some (.int .i64 16) := HT1.out.cell 4
  have t5 : w1.cell? ⟨0, 5, none⟩ = some (.string (bs [45])) := HT1.out.cell 5
  have t6 : w1.cell? ⟨0, 6, none⟩ = some (.int .i64 16) := HT1.out.cell 6
  have t7 : w1.cell? ⟨0, 7, none⟩ = some (.string (bs [45])) := HT1.out.cell 7
  have t8 : w1.cell? ⟨0, 8, none⟩ = some (.int .i64 2) := HT1.out.cell 8
  have t9 : w1.cell? ⟨0, 9, none⟩ = some (.string (bs [])) := HT1.out.cell 9
  have hg0 := lt_of_cell t0
  go_wp2_with fail
  clear t0 t1 t2 t3 t4 t5 t6 t7 t8 t9 hg0
  clear k0 k1 k2 k3 kf
  go_loopw [5, 25] (fun t0 i wr => ∃ k : Int, ∃ t : List UInt8, (k = 0 ∨ k = 1 ∨ k = 2 ∨ k = 3 ∨ k = 4 ∨ k = 5) ∧ i = .int .i64 k ∧ t0 = .string (bs t) ∧ t.length ≤ 60 ∧ Hid (t = wrT a b s dv k ∧ (k = 5 → cv = 0) ∧ Below w.heap.size w wr) ∧ C5 wr w1.heap.size (.int .u64 0) (.int .u64 a) (.int .u64 b) (.int .u64 s) (.int .u64 v)) (fun _ i _ => (5 - intOf i).toNat)
  case atStart => exact ⟨0, [], by omega, rfl, rfl, by simp, hid ⟨rfl, fun h => absurd h (by omega), by go_grown⟩, C5.new _ _ _ _ _ _ _⟩
  case round =>
    obtain ⟨k, t, hk, rfl, rfl, ht60, HU, hc⟩ := hrel
    have HC := hid hc
    obtain ⟨k0, k1, k2, k3, k4, f0, f1, f2, f3, f4⟩ := hc
    have hg1 : w1.heap.size < wr.heap.size := lt_of_cell k0
    rcases hk with rfl | rfl | rfl | rfl | rfl | rfl
    · have hix := idx7_0
      have hal := (Below.refl wr.heap.size wr).alloc (Nat.le_refl _) (.cells #[.int .i64 2, .string (bs [45])] 56)
      have d0 : (wr.alloc (.cells #[.int .i64 2, .string (bs [45])] 56)).cell? ⟨wr.heap.size, 0, none⟩ = some (.int .i64 2) := by simp
      have d1 : (wr.alloc (.cells #[.int .i64 2, .string (bs [45])] 56)).cell? ⟨wr.heap.size, 1, none⟩ = some (.string (bs [45])) := by simp
      have dk := (hal.cell (p := ⟨w1.heap.size, 0, none⟩) hg1).trans k0
      go_wp2_with fail
      generalize wr.alloc (.cells #[.int .i64 2, .string (bs [45])] 56) = w3 at *
      have hz : Below w3.heap.size w3 w3.drew := (Below.refl _ _).drew
      go_region_held3 (fun w' => w'.cell? ⟨w1.heap.size, 0, none⟩ = some (.int .u64 0) ∧ w'.cell? ⟨wr.heap.size, 0, none⟩ = some (.int .i64 2) ∧ w'.cell? ⟨wr.heap.size, 1, none⟩ = some (.string (bs [45])) ∧ Below w3.heap.size w3 w') (first | exact keep_three dk d0 d1 hz | exact keep_three dk d0 d1 (hz.trans (Below.mono (by assumption) hz.size))) (first
        | (go_at_call 22
           ((with_reducible refine (ohex_zero _).mono ?_); rintro e w4 ⟨rfl, hy⟩)
           have hz := hz.trans (hy.mono hz.size)))
      all_goals
        have hkeep := keep_three dk d0 d1 hz
        obtain ⟨m0, m1, m2, m3⟩ := hkeep
        go_wp2_with fail
        go_roundw
        case rel =>
          refine ⟨1, _, by omega, rfl, rfl, ?_, hid ⟨?_, ?_, ?_⟩, ?_⟩
          · rw [HU.out.1]; simp [wrT, hx_length]
          · rw [HU.out.1]; simp [wrT]
          · exact fun h => absurd h (by omega)
          · exact below_step2 (below_step2 HU.out.2.2 hal) m3
          · exact (HC.out.below hal).below m3
        case measure => simp [intOf]
    · have hix := idx7_1
      have hal := (Below.refl wr.heap.size wr).alloc (Nat.le_refl _) (.cells #[.int .i64 16, .string (bs [])] 56)
      have d0 : (wr.alloc (.cells #[.int .i64 16, .string (bs [])] 56)).cell? ⟨wr.heap.size, 0, none⟩ = some (.int .i64 16) := by simp
      have d1 : (wr.alloc (.cells #[.int .i64 16, .string (bs [])] 56)).cell? ⟨wr.heap.size, 1, none⟩ = some (.string (bs [])) := by simp
      have dk := (hal.cell (p := ⟨w1.heap.size, 1, none⟩) hg1).trans k1
      go_wp2_with fail
      generalize wr.alloc (.cells #[.int .i64 16, .string (bs [])] 56) = w3 at *
      have hz : Below w3.heap.size w3 w3.drew := (Below.refl _ _).drew
      go_region_held3 (fun w' => w'.cell? ⟨w1.heap.size, 1, none⟩ = some (.int .u64 (a : Int)) ∧ w'.cell? ⟨wr.heap.size, 0, none⟩ = some (.int .i64 16) ∧ w'.cell? ⟨wr.heap.size, 1, none⟩ = some (.string (bs [])) ∧ Below w3.heap.size w3 w') (first | exact keep_three dk d0 d1 hz | exact keep_three dk d0 d1 (hz.trans (Below.mono (by assumption) hz.size))) (first
        | (go_at_call 22
           ((with_reducible refine (ohex_at a 16 _ HAa).mono ?_); rintro e w4 ⟨rfl, hy⟩)
           have hz := hz.trans (hy.mono hz.size)))
      all_goals
        have hkeep := keep_three dk d0 d1 hz
        obtain ⟨m0, m1, m2, m3⟩ := hkeep
        go_wp2_with fail
        go_roundw
        case rel =>
          refine ⟨2, _, by omega, rfl, rfl, ?_, hid ⟨?_, ?_, ?_⟩, ?_⟩
          · rw [HU.out.1]; simp [wrT, hx_length]
          · rw [HU.out.1]; simp [wrT]
          · exact fun h => absurd h (by omega)
          · exact below_step2 (below_step2 HU.out.2.2 hal) m3
          · exact (HC.out.below hal).below m3
        case measure => simp [intOf]
    · have hix := idx7_2
      have hal := (Below.refl wr.heap.size wr).alloc (Nat.le_refl _) (.cells #[.int .i64 16, .string (bs [45])] 56)
      have d0 : (wr.alloc (.cells #[.int .i64 16, .string (bs [45])] 56)).cell? ⟨wr.heap.size, 0, none⟩ = some (.int .i64 16) := by simp
      have d1 : (wr.alloc (.cells #[.int .i64 16, .string (bs [45])] 56)).cell? ⟨wr.heap.size, 1, none⟩ = some (.string (bs [45])) := by simp
      have dk := (hal.cell (p := ⟨w1.heap.size, 2, none⟩) hg1).trans k2
      go_wp2_with fail
      generalize wr.alloc (.cells #[.int .i64 16, .string (bs [45])] 56) = w3 at *
      have hz : Below w3.heap.size w3 w3.drew := (Below.refl _ _).drew
      go_region_held3 (fun w' => w'.cell? ⟨w1.heap.size, 2, none⟩ = some (.int .u64 (b : Int)) ∧ w'.cell? ⟨wr.heap.size, 0, none⟩ = some (.int .i64 16) ∧ w'.cell? ⟨wr.heap.size, 1, none⟩ = some (.string (bs [45])) ∧ Below w3.heap.size w3 w') (first | exact keep_three dk d0 d1 hz | exact keep_three dk d0 d1 (hz.trans (Below.mono (by assumption) hz.size))) (first
        | (go_at_call 22
           ((with_reducible refine (ohex_at b 16 _ HBb).mono ?_); rintro e w4 ⟨rfl, hy⟩)
           have hz := hz.trans (hy.mono hz.size)))
      all_goals
        have hkeep := keep_three dk d0 d1 hz
        obtain ⟨m0, m1, m2, m3⟩ := hkeep
        go_wp2_with fail
        go_roundw
        case rel =>
          refine ⟨3, _, by omega, rfl, rfl, ?_, hid ⟨?_, ?_, ?_⟩, ?_⟩
          · rw [HU.out.1]; simp [wrT, hx_length]
          · rw [HU.out.1]; simp [wrT]
          · exact fun h => absurd h (by omega)
          · exact below_step2 (below_step2 HU.out.2.2 hal) m3
          · exact (HC.out.below hal).below m3
        case measure => simp [intOf]
    · have hix := idx7_3
      have hal := (Below.refl wr.heap.size wr).alloc (Nat.le_refl _) (.cells #[.int .i64 16, .string (bs [45])] 56)
      have d0 : (wr.alloc (.cells #[.int .i64 16, .string (bs [45])] 56)).cell? ⟨wr.heap.size, 0, none⟩ = some (.int .i64 16) := by simp
      have d1 : (wr.alloc (.cells #[.int .i64 16, .string (bs [45])] 56)).cell? ⟨wr.heap.size, 1, none⟩ = some (.string (bs [45])) := by simp
      have dk := (hal.cell (p := ⟨w1.heap.size, 3, none⟩) hg1).trans k3
      go_wp2_with fail
      generalize wr.alloc (.cells #[.int .i64 16, .string (bs [45])] 56) = w3 at *
      have hz : Below w3.heap.size w3 w3.drew := (Below.refl _ _).drew
      go_region_held3 (fun w' => w'.cell? ⟨w1.heap.size, 3, none⟩ = some (.int .u64 (s : Int)) ∧ w'.cell? ⟨wr.heap.size, 0, none⟩ = some (.int .i64 16) ∧ w'.cell? ⟨wr.heap.size, 1, none⟩ = some (.string (bs [45])) ∧ Below w3.heap.size w3 w') (first | exact keep_three dk d0 d1 hz | exact keep_three dk d0 d1 (hz.trans (Below.mono (by assumption) hz.size))) (first
        | (go_at_call 22
           ((with_reducible refine (ohex_at s 16 _ HSs).mono ?_); rintro e w4 ⟨rfl, hy⟩)
           have hz := hz.trans (hy.mono hz.size)))
      all_goals
        have hkeep := keep_three dk d0 d1 hz
        obtain ⟨m0, m1, m2, m3⟩ := hkeep
        go_wp2_with fail
        go_roundw
        case rel =>
          refine ⟨4, _, by omega, rfl, rfl, ?_, hid ⟨?_, ?_, ?_⟩, ?_⟩
          · rw [HU.out.1]; simp [wrT, hx_length]
          · rw [HU.out.1]; simp [wrT]
          · exact fun h => absurd h (by omega)
          · exact below_step2 (below_step2 HU.out.2.2 hal) m3
          · exact (HC.out.below hal).below m3
        case measure => simp [intOf]
    · have hix := idx7_4
      have hal := (Below.refl wr.heap.size wr).alloc (Nat.le_refl _) (.cells #[.int .i64 2, .string (bs [])] 56)
      have d0 : (wr.alloc (.cells #[.int .i64 2, .string (bs [])] 56)).cell? ⟨wr.heap.size, 0, none⟩ = some (.int .i64 2) := by simp
      have d1 : (wr.alloc (.cells #[.int .i64 2, .string (bs [])] 56)).cell? ⟨wr.heap.size, 1, none⟩ = some (.string (bs [])) := by simp
      have dk := (hal.cell (p := ⟨w1.heap.size, 4, none⟩) hg1).trans k4
      go_wp2_with fail
      generalize wr.alloc (.cells #[.int .i64 2, .string (bs [])] 56) = w3 at *
      have hz : Below w3.heap.size w3 w3.drew := (Below.refl _ _).drew
      go_region_held3 (fun w' => w'.cell? ⟨w1.heap.size, 4, none⟩ = some (.int .u64 (v : Int)) ∧ w'.cell? ⟨wr.heap.size, 0, none⟩ = some (.int .i64 2) ∧ w'.cell? ⟨wr.heap.size, 1, none⟩ = some (.string (bs [])) ∧ Below w3.heap.size w3 w') (first | exact keep_three dk d0 d1 hz | exact keep_three dk d0 d1 (hz.trans (Below.mono (by assumption) hz.size))) (first
        | (go_at_call 22
           ((with_reducible refine (ohex_at v 2 _ HV).mono ?_); rintro e w4 ⟨rfl, hy⟩)
           have hz := hz.trans (hy.mono hz.size)))
      all_goals
        have hkeep := keep_three dk d0 d1 hz
        obtain ⟨m0, m1, m2, m3⟩ := hkeep
        by_cases hcv : cv = 0
        · subst hcv
          go_wp2_with fail
          go_roundw
          case rel =>
            refine ⟨5, _, by omega, rfl, rfl, ?_, hid ⟨?_, ?_, ?_⟩, ?_⟩
            · rw [HU.out.1]; simp [wrT, hx_length]; omega
            · rw [HU.out.1]; simp [wrT]
            · first | trivial | (intro _; rfl)
            · exact below_step2 (below_step2 HU.out.2.2 hal) m3
            · exact (HC.out.below hal).below m3
          case measure => simp [intOf]
        · have hne : (cv != 0) = true := by simpa using hcv
          go_wp2_with fail
          go_returns
          have hbad : ¬ (0 ≤ f ∧ f ≤ 255) := fun h => by have h2 := (HVV.out.1 h).2; rw [HV.out, Prod.mk.injEq] at h2; exact hcv h2.2
          have h3 := HVV.out.2 hbad
          rw [HV.out, Prod.mk.injEq] at h3
          rw [HW.out, if_pos (by omega)]
          refine ⟨?_, below_step2 (below_step2 HU.out.2.2 hal) m3⟩
          rw [← h3.2]; rfl
    · go_wp2_with fail
      go_returns
      have h0 := HU.out.2.1 (by trivial)
      have hgood : 0 ≤ f ∧ f ≤ 255 := Classical.byContradiction fun h => by have h2 := HVV.out.2 h; rw [HV.out, Prod.mk.injEq] at h2; omega
      have h2 := (HVV.out.1 hgood).2
      rw [HV.out, Prod.mk.injEq] at h2
      rw [HW.out, if_neg (by omega)]
      refine ⟨?_, HU.out.2.2⟩
      rw [HU.out.1, h2.1]; rfl
end Go.Proofs.YtnbkpannhcamjaaDoor
namespace Go.Proofs.YtnbkpannhcamjaaDoor
set_option linter.unusedVariables false
set_option linter.unusedSimpArgs false
open Go.RowKit Go.Joins

theorem four_keep2 {w w1 : World} {g : Nat} {x0 x1 x2 x3 : Value} (hb : Below w.heap.size w w1) (k0 : w.cell? ⟨g, 0, none⟩ = some x0) (k1 : w.cell? ⟨g, 1, none⟩ = some x1) (k2 : w.cell? ⟨g, 2, none⟩ = some x2) (k3 : w.cell? ⟨g, 3, none⟩ = some x3) :
    w1.cell? ⟨g, 0, none⟩ = some x0 ∧ w1.cell? ⟨g, 1, none⟩ = some x1 ∧ w1.cell? ⟨g, 2, none⟩ = some x2 ∧ w1.cell? ⟨g, 3, none⟩ = some x3 := by
  have hg : g < w.heap.size := lt_of_cell k0
  exact ⟨(hb.cell (p := ⟨g, 0, none⟩) hg).trans k0, (hb.cell (p := ⟨g, 1, none⟩) hg).trans k1, (hb.cell (p := ⟨g, 2, none⟩) hg).trans k2, (hb.cell (p := ⟨g, 3, none⟩) hg).trans k3⟩
theorem keep_tr {w1 w' : World} {g : Nat} {x y z : Value} (h0 : w1.cell? ⟨g, 0, none⟩ = some x) (h1 : w1.cell? ⟨g, 1, none⟩ = some y) (h2 : w1.cell? ⟨g, 2, none⟩ = some z) (hb : Below w1.heap.size w1 w') :
    w'.cell? ⟨g, 0, none⟩ = some x ∧ w'.cell? ⟨g, 1, none⟩ = some y ∧ w'.cell? ⟨g, 2, none⟩ = some z ∧ Below w1.heap.size w1 w' :=
  ⟨(hb.cell (p := ⟨g, 0, none⟩) (lt_of_cell h0)).trans h0, (hb.cell (p := ⟨g, 1, none⟩) (lt_of_cell h1)).trans h1, (hb.cell (p := ⟨g, 2, none⟩) (lt_of_cell h2)).trans h2, hb⟩
end Go.Proofs.YtnbkpannhcamjaaDoor
namespace Go.Proofs.YtnbkpannhcamjaaDoor
set_option linter.unusedVariables false
set_option linter.unusedSimpArgs false
open Go.RowKit Go.Joins

def smp (f : Int) : Bool := !(f.tmod 2 == 0)
/-- What is said, held against what is said. -/
def samePr (a b s : Nat) (f : Int) (a' b' s' : Nat) (f' : Int) : Bool := decide (a = a' ∧ b = b' ∧ s = s' ∧ f = f')
theorem samePr_self (a b s : Nat) (f : Int) : samePr a b s f a b s f = true := by simp [samePr]
theorem pr_guard (op : BinOp) (x y : Operand) (xs ys : Array Value) (w : World) : (eqGuard op 27 x y (.agg xs) (.agg ys)).run Tryd.prog w = .ok () w := run_eqGuard_agg w op _ x y xs ys (by kernel_rfl)
theorem tr_eqIn' (w : World) (a b c d : Nat) : (Op.equalIn 9999 25 (.agg #[.int .u64 a, .int .u64 b]) (.agg #[.int .u64 c, .int .u64 d])).run Tryd.prog w = .ok (sameTr a b c d) w := by
  have us := Tryd.underlying23
  have asx := Tryd.isAgg23
  have zs := Tryd.sizeOf23
  rw [show (9999 : Nat) = 9998 + 1 from rfl, run_equalIn_agg w 9998 _ _ _ (by kernel_rfl) (by kernel_rfl)]
  simp only [Program.fieldsOf, Tryd.underlying25]
  go_simp
  unfold sameTr
  by_cases h1 : a = c <;> by_cases h2 : b = d <;> simp [h1, h2] <;> omega
theorem pr_eqIn (w : World) (a b s : Nat) (f : Int) (a' b' s' : Nat) (f' : Int) : (Op.equalIn 10000 27 (.agg #[.int .u64 a, .int .u64 b, .int .u64 s, .int .i64 f]) (.agg #[.int .u64 a', .int .u64 b', .int .u64 s', .int .i64 f'])).run Tryd.prog w = .ok (samePr a b s f a' b' s' f') w := by
  have us := Tryd.underlying23
  have asx := Tryd.isAgg23
  have zs := Tryd.sizeOf23
  have us2 := Tryd.underlying3
  have as2 := Tryd.isAgg3
  have zs2 := Tryd.sizeOf3
  have us3 := Tryd.underlying25
  have as3 := Tryd.isAgg25
  have zs3 := Tryd.sizeOf25
  have ht := tr_eqIn' w a b a' b'
  rw [show (10000 : Nat) = 9999 + 1 from rfl, run_equalIn_agg w 9999 _ _ _ (by kernel_rfl) (by kernel_rfl)]
  simp only [Program.fieldsOf, Tryd.underlying27]
  go_simp
  unfold samePr
  by_cases h1 : a = a' <;> by_cases h2 : b = b' <;> by_cases h3 : s = s' <;> by_cases h4 : f = f' <;> simp [h1, h2, h3, h4] <;> omega
theorem pr_neq (w : World) (a b s : Nat) (f : Int) (a' b' s' : Nat) (f' : Int) : (binOp .neq 27 (.agg #[.int .u64 a, .int .u64 b, .int .u64 s, .int .i64 f]) (.agg #[.int .u64 a', .int .u64 b', .int .u64 s', .int .i64 f'])).run Tryd.prog w = .ok (.bool (!samePr a b s f a' b' s' f')) w := by
  rw [run_neq_struct, pr_eqIn]; rfl
theorem pr_eql (w : World) (a b s : Nat) (f : Int) (a' b' s' : Nat) (f' : Int) : (binOp .eql 27 (.agg #[.int .u64 a, .int .u64 b, .int .u64 s, .int .i64 f]) (.agg #[.int .u64 a', .int .u64 b', .int .u64 s', .int .i64 f'])).run Tryd.prog w = .ok (.bool (samePr a b s f a' b' s' f')) w := by
  rw [run_eql_struct, pr_eqIn]; rfl
end Go.Proofs.YtnbkpannhcamjaaDoor
namespace Go.Proofs.YtnbkpannhcamjaaDoor
set_option linter.unusedVariables false
set_option linter.unusedSimpArgs false
open Go.RowKit Go.Joins

/-- The text of the document's example. -/
def lit7 : List UInt8 := [48, 48, 45, 48, 48, 48, 48, 48, 48, 48, 48, 48, 48, 48, 48, 48, 48, 48, 49, 48, 48, 48, 48, 48, 48, 48, 48, 48, 48, 48, 48, 48, 48, 48, 50, 45, 48, 48, 48, 48, 48, 48, 48, 48, 48, 48, 48, 48, 48, 48, 48, 51, 45, 48, 49]
theorem lit7_reads : parS lit7 = ((1, 2, 3, 1), 0) := by decide +kernel
theorem lit7_writes : wrS 1 2 3 1 = (lit7, 0) := by decide +kernel
theorem know_read (w : World) (HT : Hid (Pce w)) :
    Calls Tryd.prog 19 #[.string (bs lit7)] w fun e w' => e = .returned (.tuple #[.agg #[.int .u64 1, .int .u64 2, .int .u64 3, .int .i64 1], .int .i64 0]) ∧ Below w.heap.size w w' :=
  (parread_any lit7 w (by decide) HT).mono fun e w' ⟨x, y⟩ => ⟨by rw [lit7_reads] at x; exact x, y⟩
theorem know_write (w : World) (HT : Hid (Pce w)) :
    Calls Tryd.prog 14 #[.agg #[.int .u64 1, .int .u64 2, .int .u64 3, .int .i64 1]] w fun e w' => e = .returned (.tuple #[.string (bs lit7), .int .i64 0]) ∧ Below w.heap.size w w' :=
  (parwrite_any 1 2 3 1 w (hid (by omega)) (hid (by omega)) (hid (by omega)) (hid (by omega)) HT).mono fun e w' ⟨x, y⟩ => ⟨by rw [lit7_writes] at x; exact x, y⟩
/-- Four cells of a variable. -/
def C4 (w : World) (g : Nat) (x0 x1 x2 x3 : Value) : Prop := w.cell? ⟨g, 0, none⟩ = some x0 ∧ w.cell? ⟨g, 1, none⟩ = some x1 ∧ w.cell? ⟨g, 2, none⟩ = some x2 ∧ w.cell? ⟨g, 3, none⟩ = some x3
theorem C4.below {w w' : World} {g : Nat} {x0 x1 x2 x3 : Value} (h : C4 w g x0 x1 x2 x3) (hb : Below w.heap.size w w') : C4 w' g x0 x1 x2 x3 := by
  obtain ⟨h0, h1, h2, h3⟩ := h
  have hg : g < w.heap.size := lt_of_cell h0
  exact ⟨(hb.cell hg).trans h0, (hb.cell hg).trans h1, (hb.cell hg).trans h2, (hb.cell hg).trans h3⟩
theorem C4.new (w : World) (x0 x1 x2 x3 : Value) (t : TypeId) : C4 (w.alloc (.cells #[x0, x1, x2, x3] t)) w.heap.size x0 x1 x2 x3 := by
  refine ⟨?_, ?_, ?_, ?_⟩ <;> simp
theorem new_below (w : World) (o : Obj) : Below w.heap.size w (w.alloc o) := (Below.refl _ _).alloc (Nat.le_refl _) _
end Go.Proofs.YtnbkpannhcamjaaDoor
namespace Go.Proofs.YtnbkpannhcamjaaDoor
set_option linter.unusedVariables false
set_option linter.unusedSimpArgs false
open Go.RowKit Go.Joins

theorem parread_at (l : List UInt8) (w : World) (hs : l.length ≤ 140737488351232) (HT : Hid (Pce w)) {a b s f : Nat} {c : Int} (H : Hid (parS l = ((a, b, s, f), c))) :
    Calls Tryd.prog 19 #[.string (bs l)] w fun e w' => e = .returned (.tuple #[.agg #[.int .u64 a, .int .u64 b, .int .u64 s, .int .i64 (f : Int)], .int .i64 c]) ∧ Below w.heap.size w w' :=
  (parread_any l w hs HT).mono fun e w' ⟨x, y⟩ => ⟨by rw [H.out] at x; exact x, y⟩
theorem pr_parts (x : Pr × Int) : ∃ a b s f c, x = ((a, b, s, f), c) := by
  obtain ⟨⟨a, b, s, f⟩, c⟩ := x
  exact ⟨a, b, s, f, c, rfl⟩
end Go.Proofs.YtnbkpannhcamjaaDoor
namespace Go.Proofs.YtnbkpannhcamjaaDoor
set_option linter.unusedVariables false
set_option linter.unusedSimpArgs false
open Go.RowKit Go.Joins

theorem parwrite_at (a b s : Nat) (f : Int) (w : World) (ha : Hid (a < 18446744073709551616)) (hb : Hid (b < 18446744073709551616)) (hs : Hid (s < 18446744073709551616)) (hf : Hid (-9223372036854775808 ≤ f ∧ f ≤ 9223372036854775807)) (HT : Hid (Pce w)) {t : List UInt8} {c : Int} (H : Hid (wrS a b s f = (t, c))) :
    Calls Tryd.prog 14 #[.agg #[.int .u64 a, .int .u64 b, .int .u64 s, .int .i64 f]] w fun e w' => e = .returned (.tuple #[.string (bs t), .int .i64 c]) ∧ Below w.heap.size w w' :=
  (parwrite_any a b s f w ha hb hs hf HT).mono fun e w' ⟨x, y⟩ => ⟨by rw [H.out] at x; exact x, y⟩
theorem keep_c4 {w1 w' : World} {g : Nat} {x0 x1 x2 x3 : Value} (h : C4 w1 g x0 x1 x2 x3) (hb : Below w1.heap.size w1 w') :
    w'.cell? ⟨g, 0, none⟩ = some x0 ∧ w'.cell? ⟨g, 1, none⟩ = some x1 ∧ w'.cell? ⟨g, 2, none⟩ = some x2 ∧ w'.cell? ⟨g, 3, none⟩ = some x3 ∧ Below w1.heap.size w1 w' := by
  obtain ⟨h0, h1, h2, h3⟩ := h.below hb
  exact ⟨h0, h1, h2, h3, hb⟩
end Go.Proofs.YtnbkpannhcamjaaDoor
namespace Go.Proofs.YtnbkpannhcamjaaDoor
set_option linter.unusedVariables false
set_option linter.unusedSimpArgs false
open Go.RowKit Go.Joins

theorem wr_case {a b s : Nat} {f : Int} {t : List UInt8} {c : Int} (ha : a < 18446744073709551616) (hb : b < 18446744073709551616) (hs : s < 18446744073709551616) (h : wrS a b s f = (t, c)) :
    (c != 0) = true ∨ (c = 0 ∧ ∃ fn : Nat, f = (fn : Int) ∧ t.length = 55 ∧ parS t = ((a, b, s, fn), 0)) := by
  unfold wrS at h
  split at h
  · rw [Prod.mk.injEq] at h; left; rw [← h.2]; rfl
  · rename_i hz
    split at h
    · rw [Prod.mk.injEq] at h; left; rw [← h.2]; rfl
    · rename_i hr
      rw [Prod.mk.injEq] at h
      refine Or.inr ⟨h.2.symm, f.toNat, by omega, by rw [← h.1, parT_len], ?_⟩
      rw [← h.1]
      exact parS_parT ha hb hs (by show f.toNat < 256; omega) (by have : pzero (a, b, s, f.toNat) = pzero (a, b, s, 0) := rfl; rw [this]; simpa using hz)
theorem rd_case {l : List UInt8} {a b s f : Nat} {c : Int} (h : parS l = ((a, b, s, f), c)) :
    (c != 0) = true ∨ (c = 0 ∧ a < 18446744073709551616 ∧ b < 18446744073709551616 ∧ s < 18446744073709551616 ∧ f < 256 ∧ 55 ≤ l.length ∧ wrS a b s f = (parT (a, b, s, f), 0) ∧ (parT (a, b, s, f)).length = 55 ∧ parS (parT (a, b, s, f)) = ((a, b, s, f), 0) ∧ (l.take 2 = [48, 48] → parT (a, b, s, f) = l)) := by
  by_cases hc : c = 0
  · subst hc
    obtain ⟨hf, hn, hz, hl⟩ := parS_back h
    have hb := numP_lt l hl
    rw [hn] at hb
    obtain ⟨h1, h2, h3, h4⟩ := hb
    refine Or.inr ⟨rfl, h1, h2, h3, h4, hl, ?_, parT_len _, parS_parT h1 h2 h3 h4 hz, fun hv => ?_⟩
    · have hz' : pzero (a, b, s, 0) = false := hz
      rw [wrS, if_neg (by rw [hz']; decide), if_neg (by simp only at h4; omega), Int.toNat_natCast]
    · rw [← hn]; exact parT_parS hf hv
  · left; simpa using hc
end Go.Proofs.YtnbkpannhcamjaaDoor
