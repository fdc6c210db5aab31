/- Texts put together: Fi Fj Fk. -/
import Derived.Test.YtmejcchkoflciaaDoorG22
import Derived.Test.YtmejcchkoflciaaDoorG24
import Derived.Test.YtmejcchkoflciaaDoorG26
import Derived.Deep.RegionHeld3
namespace Go.Proofs.YtmejcchkoflciaaDoor
set_option linter.unusedVariables false
set_option linter.unusedSimpArgs false
open Go.RowKit Go.Joins

/-- A format's cells. -/
def FmB (w : World) (g : Nat) (s : List UInt8) (d m : Int) (v : Value) (er k : Int) : Prop := Bk w g 76 #[.string (bs s), .int .u32 d, .int .i32 m, .int .u32 0, v, .int .i64 er, .int .i64 k]
theorem FmB.cells {w : World} {g : Nat} {s : List UInt8} {d m er k : Int} {v : Value} (h : FmB w g s d m v er k) : w.cell? ⟨g, 0, none⟩ = some (.string (bs s)) ∧ w.cell? ⟨g, 1, none⟩ = some (.int .u32 d) ∧ w.cell? ⟨g, 2, none⟩ = some (.int .i32 m) ∧ w.cell? ⟨g, 3, none⟩ = some (.int .u32 0) ∧ w.cell? ⟨g, 4, none⟩ = some v ∧ w.cell? ⟨g, 5, none⟩ = some (.int .i64 er) ∧ w.cell? ⟨g, 6, none⟩ = some (.int .i64 k) := ⟨Bk.cell h 0, Bk.cell h 1, Bk.cell h 2, Bk.cell h 3, Bk.cell h 4, Bk.cell h 5, Bk.cell h 6⟩
theorem FmB.up {w w' : World} {g : Nat} {s : List UInt8} {d m er k : Int} {v : Value} (h : FmB w g s d m v er k) (hb : Below w.heap.size w w') : FmB w' g s d m v er k := Bk.up h hb
/-- A format that was compiled k times, its parts in blocks below B. -/
def FmS (w : World) (B g : Nat) (s : List UInt8) (d m k : Int) : Prop := ∃ A c, FmB w g s d m (.slice A (compileF s).1.length c) (compileF s).2.2 k ∧ GX encPt 2 w (fun b => b < B ∧ b ≠ g) A (compileF s).1 ∧ (A = none → c = 0) ∧ g < B ∧ B ≤ w.heap.size
theorem FmS.drew {w : World} {B g : Nat} {s : List UInt8} {d m k : Int} (h : FmS w B g s d m k) : FmS w.drew B g s d m k := h
theorem FmS.set1 {w : World} {B g : Nat} {s : List UInt8} {d m k : Int} (h : FmS w B g s d m k) (x : Int) : FmS (w.setCell ⟨g, 1, none⟩ (.int .u32 x)) B g s x m k := by
  obtain ⟨A, c, h1, h2, h3, h4, h5⟩ := h
  exact ⟨A, c, Bk.set_ h1 1 (.int .u32 x), h2.same fun b hb => Below.heap_setCell _ _ _ _ hb.2, h3, h4, by simpa [World.setCell] using h5⟩
theorem FmS.set2 {w : World} {B g : Nat} {s : List UInt8} {d m k : Int} (h : FmS w B g s d m k) (x : Int) : FmS (w.setCell ⟨g, 2, none⟩ (.int .i32 x)) B g s d x k := by
  obtain ⟨A, c, h1, h2, h3, h4, h5⟩ := h
  exact ⟨A, c, Bk.set_ h1 2 (.int .i32 x), h2.same fun b hb => Below.heap_setCell _ _ _ _ hb.2, h3, h4, by simpa [World.setCell] using h5⟩
theorem FmS.cells {w : World} {B g : Nat} {s : List UInt8} {d m k : Int} (h : FmS w B g s d m k) : w.cell? ⟨g, 1, none⟩ = some (.int .u32 d) ∧ w.cell? ⟨g, 2, none⟩ = some (.int .i32 m) ∧ w.cell? ⟨g, 6, none⟩ = some (.int .i64 k) ∧ ∀ i, w.frozen? ⟨g, i, none⟩ = false := by
  obtain ⟨A, c, h1, -⟩ := h
  exact ⟨h1.cells.2.1, h1.cells.2.2.1, h1.cells.2.2.2.2.2.2, fun i => Bk.frozen h1 i⟩
theorem FmS.keep {w w' : World} {B g : Nat} {s : List UInt8} {d m k : Int} (h : FmS w B g s d m k) (hb : Below B w w') : FmS w' B g s d m k := by
  obtain ⟨A, c, h1, h2, h3, h4, h5⟩ := h
  exact ⟨A, c, (hb.block g h4).trans h1, h2.same fun b hB => hb.block b hB.1, h3, h4, Nat.le_trans h5 hb.size⟩
theorem FmS.more {w : World} {B B' g : Nat} {s : List UInt8} {d m k : Int} (h : FmS w B g s d m k) (h1 : B ≤ B') (h2 : B' ≤ w.heap.size) : FmS w B' g s d m k := by
  obtain ⟨A, c, a, b, d, e, f⟩ := h
  exact ⟨A, c, a, b.imp fun x hx => ⟨by omega, hx.2⟩, d, by omega, h2⟩
theorem new_any (s : List UInt8) (w : World) :
    Calls Tryd.prog 14 #[.string (bs s)] w fun e w' => e = .returned (.pointer (some ⟨w.heap.size, 0, none⟩)) ∧ FmB w' w.heap.size s 0 0 (.slice none 0 0) 0 0 ∧ Below w.heap.size w w' := by
  go_enter Tryd.func14, Tryd.ntmps14
  go_wp2_with fail
  go_returns
  exact ⟨rfl, Bk.new _ _ _, enew _ _⟩
set_option maxRecDepth 100000 in
set_option maxHeartbeats 2000000 in
theorem fcompile_any (g : Nat) (s : List UInt8) (d m : Int) (w : World) (hs : s.length ≤ 9223372036854775807) (h : FmB w g s d m (.slice none 0 0) 0 0) (E : EnvF w) :
    Calls Tryd.prog 33 #[.pointer (some ⟨g, 0, none⟩)] w fun e w' => e = .returned (.tuple #[]) ∧ FmS w' w'.heap.size g s d m 1 ∧ Onl g w w' := by
  have HC := hid (compile_any s hs w E)
  have H := hid h
  have hgl := Bk.lt h
  obtain ⟨q0, q1, q2, q3, q4, q5, q6⟩ := h.cells
  clear h hs E q1 q2 q3 q4 q5 q6
  go_enter Tryd.func33, Tryd.ntmps33
  go_wp2_with fail
  refine HC.out.mono ?_
  rintro e w1 ⟨v, rfl, hv, hb⟩
  have h1 := H.out.up hb
  obtain ⟨A, c, rfl, hgx, hAc, -⟩ := GB.reads encPt_len hv
  have hgx2 : GX encPt 2 w1 (fun b => b < w1.heap.size ∧ b ≠ g) A (compileF s).1 := hgx.imp fun b hB => ⟨hB.2, by omega⟩
  have k1 : FmB (w1.setCell ⟨g, 4, none⟩ (.slice A (compileF s).1.length c)) g s d m (.slice A (compileF s).1.length c) 0 0 := Bk.set_ h1 4 (.slice A (compileF s).1.length c)
  have k2 : FmB ((w1.setCell ⟨g, 4, none⟩ (.slice A (compileF s).1.length c)).setCell ⟨g, 5, none⟩ (.int .i64 (compileF s).2.2)) g s d m (.slice A (compileF s).1.length c) (compileF s).2.2 0 := Bk.set_ k1 5 (.int .i64 (compileF s).2.2)
  have k3 : FmB (((w1.setCell ⟨g, 4, none⟩ (.slice A (compileF s).1.length c)).setCell ⟨g, 5, none⟩ (.int .i64 (compileF s).2.2)).setCell ⟨g, 6, none⟩ (.int .i64 1)) g s d m (.slice A (compileF s).1.length c) (compileF s).2.2 1 := Bk.set_ k2 6 (.int .i64 1)
  have HFIN := hid (show FmS (((w1.setCell ⟨g, 4, none⟩ (.slice A (compileF s).1.length c)).setCell ⟨g, 5, none⟩ (.int .i64 (compileF s).2.2)).setCell ⟨g, 6, none⟩ (.int .i64 1)) w1.heap.size g s d m 1 from
    ⟨A, c, k3, (((hgx2.same (fun b hb => Below.heap_setCell _ _ _ _ hb.2)).same (fun b hb => Below.heap_setCell _ _ _ _ hb.2)).same (fun b hb => Below.heap_setCell _ _ _ _ hb.2)), hAc, Nat.lt_of_lt_of_le hgl hb.size, by simp [World.setCell]⟩)
  have HSZ := hid (show (((w1.setCell ⟨g, 4, none⟩ (.slice A (compileF s).1.length c)).setCell ⟨g, 5, none⟩ (.int .i64 (compileF s).2.2)).setCell ⟨g, 6, none⟩ (.int .i64 1)).heap.size = w1.heap.size by simp [World.setCell])
  have HON := hid ((((Onl.of_below (g := g) hb (Nat.le_refl _)).set 4 (.slice A (compileF s).1.length c)).set 5 (.int .i64 (compileF s).2.2)).set 6 (.int .i64 1))
  have HAD := hid (nadd_any ⟨g, 6, none⟩ 0 1 ((w1.setCell ⟨g, 4, none⟩ (.slice A (compileF s).1.length c)).setCell ⟨g, 5, none⟩ (.int .i64 (compileF s).2.2)) k2.cells.2.2.2.2.2.2 (Bk.frozen k2 6) (by omega))
  obtain ⟨q0', q1, q2, q3, q4, q5, q6⟩ := h1.cells
  have f4 := Bk.frozen h1 4
  have f5 := Bk.frozen h1 5
  clear q0 q0' q1 q2 q3 q6 k1 k2 k3 hgx hgx2 h1 hb hv hAc
  generalize compileF s = cf at *
  obtain ⟨cl, cp, ce⟩ := cf
  go_wp2_with fail
  refine HAD.out.mono ?_
  rintro e w2 ⟨rfl, rfl⟩
  go_wp2_with fail
  go_end0
  exact ⟨rfl, by rw [HSZ.out]; exact HFIN.out, HON.out⟩
theorem EnvF.only {w w' : World} {g : Nat} {s : List UInt8} {d m er k : Int} {v : Value} (E : EnvF w) (ho : Onl g w w') (h : FmB w g s d m v er k) : EnvF w' := by
  obtain ⟨⟨m, hm⟩, hW⟩ := E
  have hne1 : 1 ≠ g := by
    intro e
    have h0 := World.var?_cell gMaxF hm 0
    rw [e, h.cells.1] at h0
    simp at h0
  have hne2 : 0 ≠ g := by
    intro e
    have h0 := hW 1 (by omega)
    rw [e, h.cells.2.1] at h0
    cases h0
  have hl1 : 1 < w.heap.size := by
    have h0 := World.var?_cell gMaxF hm 0
    exact lt_of_cell (v := .int .i64 m) (by simpa using h0)
  refine ⟨⟨m, ?_⟩, fun i hi => (World.cell?_of_block (ho.block _ (lt_of_cell (hW i hi)) hne2)).trans (hW i hi)⟩
  rw [World.var?, gMaxF, Option.bind_some] at hm ⊢
  rw [ho.block _ hl1 hne1]
  exact hm
theorem fnotB (x : Bool) (w : World) : (Op.unary .not (.bool x)).run Tryd.prog w = .ok (.bool (!x)) w := rfl
set_option maxRecDepth 100000 in
set_option maxHeartbeats 1600000 in
theorem fslow_any (g : Nat) (s : List UInt8) (w : World) (hs : s.length ≤ 9223372036854775807) (h : FmB w g s 0 0 (.slice none 0 0) 0 0) (E : EnvF w) :
    Calls Tryd.prog 53 #[.pointer (some ⟨g, 1, none⟩), .func (.func 33) #[.pointer (some ⟨g, 0, none⟩)] #[]] w fun e w' => e = .returned (.tuple #[]) ∧ FmS w' w'.heap.size g s 1 0 1 ∧ Onl g w w' := by
  have c1 := h.cells.2.2.1
  have z1 := Bk.frozen h 2
  have h1 : FmB (w.setCell ⟨g, 2, none⟩ (.int .i32 1)) g s 0 1 (.slice none 0 0) 0 0 := Bk.set_ h 2 (.int .i32 1)
  have b1 : Onl g w (w.setCell ⟨g, 2, none⟩ (.int .i32 1)) := (Onl.refl _ _).set _ _
  have hE1 : EnvF (w.setCell ⟨g, 2, none⟩ (.int .i32 1)) := by
    obtain ⟨⟨m, hm⟩, hW⟩ := E
    exact EnvF.only ⟨⟨m, hm⟩, hW⟩ b1 h
  have H1 := hid (And.intro h1 (And.intro b1 hE1))
  clear h h1 b1 hE1 E
  have hnot := fnotB
  go_enter_defers Tryd.func53, Tryd.ntmps53
  go_wp2_with fail
  refine (lock_free ⟨g, 2, none⟩ _ c1 z1).mono ?_
  rintro e w' ⟨rfl, rfl⟩
  clear c1 z1
  generalize w.setCell ⟨g, 2, none⟩ (.int .i32 1) = w1 at *
  go_wp2_with fail
  refine (bload_any ⟨g, 1, none⟩ 0 _ H1.out.1.cells.2.1).mono ?_
  rintro e w' ⟨rfl, rfl⟩
  go_wp2_with fail
  refine (fcompile_any g s 0 1 _ hs H1.out.1 H1.out.2.2).mono ?_
  rintro e w2 ⟨rfl, h2, b2⟩
  have H2 := hid (And.intro h2 (H1.out.2.1.trans b2))
  clear h2 b2
  go_wp2
  refine leaves_cons (f := 71) (args := #[.pointer (some ⟨g, 1, none⟩), .bool true]) (by simp) (by simp [go_sem]) ?_
  refine (store_deferred ⟨g, 1, none⟩ (.int .u32 0) .returning _ H2.out.1.cells.1 (H2.out.1.cells.2.2.2 1)).mono ?_
  rintro e u' w'' ⟨rfl, rfl, rfl⟩
  have h3 := H2.out.1.drew.set1 1
  refine leaves_cons (f := 70) (args := #[.pointer (some ⟨g, 2, none⟩)]) (by simp [settle]) (by simp [go_sem]) ?_
  refine (unlock_deferred ⟨g, 2, none⟩ _ _ h3.cells.2.1 (h3.cells.2.2.2 2)).mono ?_
  rintro e u' w'' ⟨rfl, rfl, rfl⟩
  have h4 := h3.set2 0
  have hb : Onl g w ((w2.drew.setCell ⟨g, 1, none⟩ (.int .u32 1)).setCell ⟨g, 2, none⟩ (.int .i32 0)) := ((H2.out.2.up (below_drewN (Below.refl w2.heap.size w2) 1)).set 1 (.int .u32 1)).set 2 (.int .i32 0)
  simp [Leaves, settle, results, Tryd.results53]
  exact ⟨h4, hb⟩
end Go.Proofs.YtmejcchkoflciaaDoor
namespace Go.Proofs.YtmejcchkoflciaaDoor
set_option linter.unusedVariables false
set_option linter.unusedSimpArgs false
open Go.RowKit Go.Joins

set_option maxRecDepth 100000 in
set_option maxHeartbeats 1600000 in
theorem fdo_first (g : Nat) (s : List UInt8) (w : World) (hs : s.length ≤ 9223372036854775807) (h : FmB w g s 0 0 (.slice none 0 0) 0 0) (E : EnvF w) :
    Calls Tryd.prog 32 #[.pointer (some ⟨g, 1, none⟩), .func (.func 33) #[.pointer (some ⟨g, 0, none⟩)] #[]] w fun e w' => e = .returned (.tuple #[]) ∧ FmS w' w'.heap.size g s 1 0 1 ∧ Onl g w w' := by
  have H := hid h
  have HE := hid E
  clear h E
  have hnot := fnotB
  go_enter Tryd.func32, Tryd.ntmps32
  go_wp2_with fail
  refine (bload_any ⟨g, 1, none⟩ 0 _ H.out.cells.2.1).mono ?_
  rintro e w' ⟨rfl, rfl⟩
  go_wp2_with fail
  refine (fslow_any g s _ hs H.out HE.out).mono ?_
  rintro e w2 ⟨rfl, h2, b2⟩
  have H2 := hid (And.intro h2 b2)
  clear h2 b2
  go_wp2
  go_end0
  exact ⟨rfl, H2.out⟩
set_option maxHeartbeats 400000 in
theorem fdo_done (g : Nat) (fv : Value) (w : World) (h : w.cell? ⟨g, 1, none⟩ = some (.int .u32 1)) :
    Calls Tryd.prog 32 #[.pointer (some ⟨g, 1, none⟩), fv] w fun e w' => e = .returned (.tuple #[]) ∧ w = w' := by
  have hnot := fnotB
  go_enter Tryd.func32, Tryd.ntmps32
  go_wp2_with fail
  refine (bload_any ⟨g, 1, none⟩ 1 _ h).mono ?_
  rintro e w' ⟨rfl, rfl⟩
  go_wp2
  go_end0
  exact ⟨rfl, rfl⟩
theorem feqnil (t e : TypeId) (ht : Tryd.prog.underlying t = some (.slice e)) (a : Option Addr) (n c : Nat) (w : World) : (binOp .eql t (.slice a n c) (.slice none 0 0)).run Tryd.prog w = .ok (.bool a.isNone) w := by
  simp only [binOp]
  simp [run_equal_slice_nil w t e a n c ht]
set_option maxRecDepth 100000 in
set_option maxHeartbeats 4000000 in
theorem pclone_any (A : Option Addr) (c : Nat) (l : List Prt) (w : World) (h1 : GX encPt 2 w (· < w.heap.size) A l) (hA : A = none → c = 0) (hl : l.length ≤ 1000) :
    Calls Tryd.prog 34 #[.slice A l.length c] w fun e w' => ∃ v, e = .returned v ∧ PB w' w.heap.size v l ∧ Below w.heap.size w w' := by
  have heq := feqnil 23 35 Tryd.underlying23
  rcases A with _ | ad
  · have hL0 : l = [] := by
      rcases l with _ | ⟨p, r⟩
      · rfl
      · obtain ⟨b, o, e, _⟩ := h1 0 (by simp)
        cases e
    subst hL0
    go_enter Tryd.func34, Tryd.ntmps34
    go_wp2_with fail
    go_returns
    exact ⟨_, rfl, PB.nil _ _, Below.refl _ _⟩
  · have hb0 := enew w (.cells #[] 35)
    have hown0 : PB (w.alloc (.cells #[] 35)) w.heap.size (.slice (some ⟨w.heap.size, 0, none⟩) 0 0) [] := by
      have := World.ownsRow_lit (e := 35) (size := 2) w #[] 0 (Nat.le_refl _) (by unfold maxLen; omega) (by simp)
      simpa [PB, GB, gvals] using this
    have H0 := hid (And.intro hb0 (And.intro hown0 (h1.up hb0)))
    clear hb0 hown0 h1 hA
    go_enter Tryd.func34, Tryd.ntmps34
    go_wp2_with (at_builtin; refine wpList_append_gx (W0 := w) rowPt rfl _ _ rfl w.heap.size (.slice (some ⟨w.heap.size, 0, none⟩) 0 0) [] l (some ad) c _ rfl H0.out.2.1 rfl H0.out.2.2 (fun h => by cases h) (by simp; omega) H0.out.1 (Nat.le_refl _) ?_)
    intro v1 w1 hown1 hbel1 _
    have H1 := hid (And.intro hown1 hbel1)
    clear hown1 hbel1
    go_wp2_with fail
    go_returns
    exact ⟨_, rfl, H1.out.1, H1.out.2⟩
theorem fkeep {v0 w' : World} {g : Nat} {s : List UInt8} {d m er k : Int} {v : Value} (h : FmB v0 g s d m v er k) (hz : Below v0.heap.size v0 w') : w'.cell? ⟨g, 4, none⟩ = some v ∧ w'.cell? ⟨g, 5, none⟩ = some (.int .i64 er) ∧ Below v0.heap.size v0 w' :=
  ⟨(h.up hz).cells.2.2.2.2.1, (h.up hz).cells.2.2.2.2.2.1, hz⟩
/-- What Parts answers of a format that was compiled: the parts lie in blocks at B and above, the format's own below. -/
def PrtR (g : Nat) (s : List UInt8) (w : World) (e : Ending) (w' : World) : Prop := ∃ (v : Value) (B : Nat), e = .returned (.tuple #[v, .int .i64 (compileF s).2.2]) ∧ PB w' B v (compileF s).1 ∧ FmS w' B g s 1 0 1 ∧ w.heap.size ≤ B ∧ Onl g w w'
set_option maxRecDepth 100000 in
set_option maxHeartbeats 4000000 in
theorem parts_tail (g : Nat) (s : List UInt8) (w v0 : World) (hDo : Calls Tryd.prog 32 #[.pointer (some ⟨g, 1, none⟩), .func (.func 33) #[.pointer (some ⟨g, 0, none⟩)] #[]] w fun e w' => e = .returned (.tuple #[]) ∧ FmS w' w'.heap.size g s 1 0 1 ∧ Onl g w w') :
    Calls Tryd.prog 16 #[.pointer (some ⟨g, 0, none⟩)] w fun e w' => PrtR g s w e w' := by
  have HD := hid hDo
  have HLN := hid (compileF_len s)
  clear hDo
  go_enter Tryd.func16, Tryd.ntmps16
  go_wp2_with fail
  refine HD.out.mono ?_
  rintro e w1 ⟨rfl, ⟨A, c, h1, h2, h3, h4, h5⟩, b1⟩
  have HFS := hid (show FmS w1 w1.heap.size g s 1 0 1 from ⟨A, c, h1, h2, h3, h4, h5⟩)
  have HB1 := hid b1
  have HH := hid h1
  have HGX := hid (h2.imp fun b hb => hb.1)
  have HA3 := hid h3
  obtain ⟨q0, q1, q2, q3, q4, q5, q6⟩ := h1.cells
  have HCL := hid (fun w2 (hz : Below w1.heap.size w1 w2) => pclone_any A c (compileF s).1 w2 (HGX.out.up hz) HA3.out (by have := HLN.out.2.1; omega))
  obtain ⟨⟨cl, cp, ce⟩, hcf⟩ : ∃ cf, compileF s = cf := ⟨_, rfl⟩
  have HCF := hid hcf
  rw [hcf] at HCL HH q4 q5
  simp only at HCL HH q4 q5
  clear h1 h2 h3 h4 h5 b1 q0 q1 q2 q3 q6 hcf
  go_wp2_with fail
  have hz : Below w1.heap.size w1 w1.drew := (Below.refl _ _).drew
  go_region_held3 (fun w' => w'.cell? ⟨g, 4, none⟩ = some (.slice A cl.length c) ∧ w'.cell? ⟨g, 5, none⟩ = some (.int .i64 ce) ∧ Below w1.heap.size w1 w') (first | (with_reducible exact fkeep HH.out hz)) ((go_at_call 34; ((with_reducible refine (HCL.out _ hz).mono ?_); rintro e wa ⟨va, rfl, hpa, hy⟩); have hz := hz.trans (hy.mono hz.size)))
  all_goals
    go_wp2_with fail
    go_returns
    exact ⟨va, w1.heap.size, by rw [HCF.out]; rfl, by rw [HCF.out]; exact hpa, HFS.out.keep hz, HB1.out.size, HB1.out.up hz⟩
theorem parts_first (g : Nat) (s : List UInt8) (w : World) (hs : s.length ≤ 9223372036854775807) (h : FmB w g s 0 0 (.slice none 0 0) 0 0) (E : EnvF w) :
    Calls Tryd.prog 16 #[.pointer (some ⟨g, 0, none⟩)] w fun e w' => PrtR g s w e w' :=
  parts_tail g s w w (fdo_first g s w hs h E)
theorem parts_again (g : Nat) (s : List UInt8) (B : Nat) (w : World) (h : FmS w B g s 1 0 1) :
    Calls Tryd.prog 16 #[.pointer (some ⟨g, 0, none⟩)] w fun e w' => PrtR g s w e w' :=
  parts_tail g s w w ((fdo_done g _ w h.cells.1).mono fun e w' ⟨a, b⟩ => ⟨a, b ▸ h.more (by obtain ⟨_, _, _, _, _, _, h5⟩ := h; exact h5) (Nat.le_refl _), b ▸ Onl.refl _ _⟩)
theorem parts_nil (w : World) :
    Calls Tryd.prog 16 #[.pointer none] w fun e w' => e = .returned (.tuple #[.slice none 0 0, .int .i64 1]) ∧ w = w' := by
  go_enter Tryd.func16, Tryd.ntmps16
  go_wp2_with fail
  go_returns
  exact ⟨rfl, rfl⟩
theorem made_nilF (w : World) :
    Calls Tryd.prog 15 #[.pointer none] w fun e w' => e = .returned (.int .i64 0) ∧ w = w' := by
  go_enter Tryd.func15, Tryd.ntmps15
  go_wp2
  go_ret
  exact ⟨rfl, rfl⟩
theorem made_anyF (g : Nat) (x : Int) (w : World) (h : w.cell? ⟨g, 6, none⟩ = some (.int .i64 x)) (h1 : -9223372036854775808 ≤ x) (h2 : x ≤ 9223372036854775807) :
    Calls Tryd.prog 15 #[.pointer (some ⟨g, 0, none⟩)] w fun e w' => e = .returned (.int .i64 x) ∧ w = w' := by
  have H := hid h
  clear h
  go_enter Tryd.func15, Tryd.ntmps15
  go_wp2_with fail
  refine (ncount_any _ x _ H.out h1 h2).mono ?_
  rintro e w' ⟨rfl, rfl⟩
  go_wp2
  go_ret
  exact ⟨rfl, rfl⟩
end Go.Proofs.YtmejcchkoflciaaDoor
namespace Go.Proofs.YtmejcchkoflciaaDoor
set_option linter.unusedVariables false
set_option linter.unusedSimpArgs false
open Go.RowKit Go.Joins

def kWant : List Prt := [(3, []), (0, [32, 105, 115, 32, 53, 37]), (9, [97, 45, 98])]
theorem kCmp1 : compileF [37, 80, 65, 84, 72, 37, 32, 105, 115, 32, 53, 37, 37, 37, 82, 69, 81, 40, 97, 45, 98, 41, 37] = (kWant, 0, 0) := by decide +kernel
theorem kCmp2 : compileF [97, 98, 37, 88, 37] = ([], 2, 3) := by decide +kernel
theorem kCmp3 : compileF [37, 72, 79, 83, 84, 37] = ([(2, [])], 0, 0) := by decide +kernel
theorem kWrA : wrA kWant = [37, 80, 65, 84, 72, 37, 32, 105, 115, 32, 53, 37, 37, 37, 82, 69, 81, 40, 97, 45, 98, 41, 37] := by decide +kernel
set_option maxRecDepth 100000 in
set_option maxHeartbeats 4000000 in
theorem known19_any (w : World) (E : EnvF w) :
    Calls Tryd.prog 10 #[] w fun e w' => e = .returned (.bool true) ∧ Below w.heap.size w w' := by
  have hnot := enot
  have c0 : (ByteArray.mk #[]) = bs [] := rfl
  have c1 : (ByteArray.mk #[37, 80, 65, 84, 72, 37, 32, 105, 115, 32, 53, 37, 37, 37, 82, 69, 81, 40, 97, 45, 98, 41, 37]) = bs [37, 80, 65, 84, 72, 37, 32, 105, 115, 32, 53, 37, 37, 37, 82, 69, 81, 40, 97, 45, 98, 41, 37] := rfl
  have c2 : (ByteArray.mk #[32, 105, 115, 32, 53, 37]) = bs [32, 105, 115, 32, 53, 37] := rfl
  have c3 : (ByteArray.mk #[97, 45, 98]) = bs [97, 45, 98] := rfl
  have HE := hid E
  have HC1 : Hid (∀ (w2 : World), EnvF w2 → Calls Tryd.prog 11 #[.string (ByteArray.mk #[37, 80, 65, 84, 72, 37, 32, 105, 115, 32, 53, 37, 37, 37, 82, 69, 81, 40, 97, 45, 98, 41, 37])] w2 fun e w' => ∃ v, e = .returned (.tuple #[v, .int .i64 0, .int .i64 0]) ∧ PtV w' v kWant ∧ Below w2.heap.size w2 w') := hid fun w2 e2 => (compile_any [37, 80, 65, 84, 72, 37, 32, 105, 115, 32, 53, 37, 37, 37, 82, 69, 81, 40, 97, 45, 98, 41, 37] (by decide) w2 e2).mono fun e w' ⟨v, a, b, c⟩ => by
    rw [kCmp1] at a b
    exact ⟨v, a, b.ptv, c⟩
  have HC2 : Hid (∀ (w2 : World), EnvF w2 → Calls Tryd.prog 11 #[.string (ByteArray.mk #[97, 98, 37, 88, 37])] w2 fun e w' => ∃ v, e = .returned (.tuple #[v, .int .i64 2, .int .i64 3]) ∧ Below w2.heap.size w2 w') := hid fun w2 e2 => (compile_any [97, 98, 37, 88, 37] (by decide) w2 e2).mono fun e w' ⟨v, a, b, c⟩ => by
    rw [kCmp2] at a
    exact ⟨v, a, c⟩
  have HN : Hid (∀ (w2 : World), Calls Tryd.prog 14 #[.string (ByteArray.mk #[37, 72, 79, 83, 84, 37])] w2 fun e w' => e = .returned (.pointer (some ⟨w2.heap.size, 0, none⟩)) ∧ FmB w' w2.heap.size [37, 72, 79, 83, 84, 37] 0 0 (.slice none 0 0) 0 0 ∧ Below w2.heap.size w2 w') := hid fun w2 => new_any [37, 72, 79, 83, 84, 37] w2
  clear E
  go_enter Tryd.func10, Tryd.ntmps10
  go_wp2_with fail
  refine (HC1.out _ HE.out).mono ?_
  rintro e w1 ⟨v1, rfl, hv1, hb1⟩
  have hnb := enew w1 (.cells #[.int .i64 3, .string (bs []), .int .i64 0, .string (bs [32, 105, 115, 32, 53, 37]), .int .i64 9, .string (bs [97, 45, 98])] 35)
  have kW : Bk (w1.alloc (.cells #[.int .i64 3, .string (bs []), .int .i64 0, .string (bs [32, 105, 115, 32, 53, 37]), .int .i64 9, .string (bs [97, 45, 98])] 35)) w1.heap.size 35 #[.int .i64 3, .string (bs []), .int .i64 0, .string (bs [32, 105, 115, 32, 53, 37]), .int .i64 9, .string (bs [97, 45, 98])] := Bk.new _ _ _
  have HB2 := hid (estep hb1 hnb)
  have HV1 := hid (hv1.up hnb)
  have HVW := hid (show PtV (w1.alloc (.cells #[.int .i64 3, .string (bs []), .int .i64 0, .string (bs [32, 105, 115, 32, 53, 37]), .int .i64 9, .string (bs [97, 45, 98])] 35)) (.slice (some ⟨w1.heap.size, 0, none⟩) 3 3) kWant from ⟨some ⟨w1.heap.size, 0, none⟩, 3, rfl, (gx_new encPt_len kW rfl).imp fun b hb => by rw [hb]; simp⟩)
  have HE2 := hid (HE.out.up HB2.out)
  clear hv1 hb1 hnb kW
  go_upto_region 3 with (fail)
  generalize w1.alloc (.cells #[.int .i64 3, .string (bs []), .int .i64 0, .string (bs [32, 105, 115, 32, 53, 37]), .int .i64 9, .string (bs [97, 45, 98])] 35) = w2 at *
  go_wp2_with fail
  refine (HC2.out _ HE2.out).mono ?_
  rintro e w3 ⟨v3, rfl, hb3⟩
  have HB3 := hid (estep HB2.out hb3)
  have HW3 := hid (And.intro (HV1.out.up hb3) (HVW.out.up hb3))
  have HE3 := hid (HE2.out.up hb3)
  clear hb3
  go_wp2_with fail
  refine (write_ok kWant _ _ (by decide) (by decide) (by decide) HW3.out.2 HE3.out).mono ?_
  rintro e w4 ⟨rfl, hb4⟩
  have HB4 := hid (estep HB3.out hb4)
  have HW4 := hid (And.intro (HW3.out.1.up hb4) (HW3.out.2.up hb4))
  have HE4 := hid (HE3.out.up hb4)
  have HKW := hid kWrA
  rw [HKW.out]
  clear hb4
  go_wp2_with fail
  refine (HN.out _).mono ?_
  rintro e w5 ⟨rfl, hf5, hb5⟩
  have HB5 := hid hb5
  have HF5 := hid hf5
  have HE5 := hid (HE4.out.up hb5)
  clear hf5 hb5
  go_wp2_with fail
  refine (made_anyF _ 0 _ HF5.out.cells.2.2.2.2.2.2 (by omega) (by omega)).mono ?_
  rintro e w5' ⟨rfl, rfl⟩
  go_wp2_with fail
  refine (parts_first _ [37, 72, 79, 83, 84, 37] _ (by decide) HF5.out HE5.out).mono ?_
  rintro e w6 ⟨v6, B, he6, hp6, hf6, hB6, ho6⟩
  rw [kCmp3] at he6 hp6
  subst he6
  have HB6 := hid (ho6.below HB5.out (Nat.le_refl _) HB5.out.size)
  have HBB := hid (estep HB4.out HB6.out)
  have HP6 := hid hp6.ptv
  have HF6 := hid hf6
  have HW6 := hid (And.intro (HW4.out.1.up HB6.out) (HW4.out.2.up HB6.out))
  have HBl : Hid (B ≤ w6.heap.size) := hid (by obtain ⟨_, _, _, _, _, _, h5⟩ := hf6; exact h5)
  clear hp6 hf6 hB6 ho6
  simp only
  go_wp2_with fail
  refine (psame_any kWant _ _ _ (by decide) HW6.out.1 HW6.out.2).mono ?_
  rintro e w7 ⟨rfl, hb7⟩
  have HB7 := hid hb7
  have hn7 := enew w7 (.cells #[.int .i64 2, .string (bs [])] 35)
  have k7 : Bk (w7.alloc (.cells #[.int .i64 2, .string (bs [])] 35)) w7.heap.size 35 #[.int .i64 2, .string (bs [])] := Bk.new _ _ _
  have HP7 := hid (HP6.out.up (estep hb7 hn7))
  have HQ7 := hid (show PtV (w7.alloc (.cells #[.int .i64 2, .string (bs [])] 35)) (.slice (some ⟨w7.heap.size, 0, none⟩) 1 1) [(2, [])] from ⟨some ⟨w7.heap.size, 0, none⟩, 1, rfl, (gx_new encPt_len k7 rfl).imp fun b hb => by rw [hb]; simp⟩)
  have HB8 := hid (estep hb7 hn7)
  clear hb7 hn7 k7
  go_wp2_with fail
  refine (psame_any [(2, [])] _ _ _ (by decide) HP7.out HQ7.out).mono ?_
  rintro e w9 ⟨rfl, hb9⟩
  have HB9 := hid (estep HB8.out hb9)
  clear hb9
  go_wp2_with fail
  refine (made_anyF _ 1 _ (HF6.out.keep (HB9.out.mono HBl.out)).cells.2.2.1 (by omega) (by omega)).mono ?_
  rintro e w10 ⟨rfl, rfl⟩
  go_wp2_with fail
  go_returns
  exact ⟨rfl, estep HBB.out HB9.out⟩
end Go.Proofs.YtmejcchkoflciaaDoor
