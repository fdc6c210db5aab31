/- What merge.py merges: the walk of InjectSays, the door. -/
import Derived.Test.YtnbkpannhcamjaaGreatDoorG27
import Derived.Test.YtnbkpannhcamjaaGreatDoorG29
import Derived.Test.YtnbkpannhcamjaaGreatDoorG26
import Derived.Test.YtnbkpannhcamjaaGreatDoorG05
namespace Go.Proofs.YtnbkpannhcamjaaGreatDoor
set_option linter.unusedVariables false
open Go.RowKit Go.ChangeShapes Go.WideShapes Go.ChangeAt Go.Deep Go.Joins

def laid23 : List (String × DataW Unit) := [("unicode/utf8.acceptRanges", Rows.laid_unicode_utf8_acceptRanges), ("periscope/parent.pieces", Rows.laid_periscope_parent_pieces), ("unicode/utf8.first", Rows.laid_unicode_utf8_first)]
def rows23 : List (Int × List UInt8) := [(2, [45]), (16, []), (16, [45]), (16, [45]), (2, [])]
theorem gPieces23 : Tryz.prog.globalNamed "periscope/parent.pieces" = some 0 := by kernel_rfl
theorem pce23 {W : World} (h : laidMet Tryz.prog laid23 W) : Pce W := by
  obtain ⟨ps, ⟨g0, t0, cs0, fuel0, p0, q0, _, _, _, _, hrest, _⟩, _⟩ := h
  obtain ⟨g', t', cs, fuel, p, q, hg', ht', hvar, hd, _, _⟩ := hrest
  obtain rfl := Option.some.inj (gPieces23.symm.trans hg')
  obtain rfl := Option.some.inj ((show (Tryz.prog.globals[0]?).map (·.type) = some 60 by kernel_rfl).symm.trans ht')
  have := pieces_of (L := rows23) Tryz.underlying60 Tryz.underlying59 Tryz.underlying3 Tryz.underlying9 ⟨rfl, rfl, rfl, rfl⟩ (by kernel_rfl) (by kernel_rfl) (by kernel_rfl) (by kernel_rfl) hd
  have h2 : W.var? Tryz.prog "periscope/parent.pieces" = some (rows23.flatMap fun x => [Value.int .i64 x.1, Value.string ⟨x.2.toArray⟩]).toArray := by rw [hvar, ← this]
  exact h2
theorem laid23_met (os : Os) (args : Array Value) : laidMet Tryz.prog laid23 ((World.laidAll Tryz.prog os laid23).forCall (fun _ _ => 0) ⟨#[], args, []⟩).memory :=
  laidMet_laidAll args (by kernel_rfl) (by kernel_rfl)
theorem tGMax23 {w : World} (h : w.ShapedOpen Tryz.prog) : ∃ m, w.cell? ⟨1, 0, none⟩ = some (.int .i64 m) := Tryz.laysM145.s1_3 w h
theorem envT_of23 {w : World} (h : w.ShapedOpen Tryz.prog) : EnvT w := by
  obtain ⟨m, hm⟩ := tGMax23 h
  obtain ⟨cs, hh, hs, _⟩ := h.1 1 #[.int .i64 0] 3 (of_decide_eq_true (by kernel_rfl)) (by kernel_rfl)
  have hcs : cs = #[.int .i64 m] := by
    obtain ⟨l⟩ := cs
    match l, hs with
    | [x], _ =>
      simp [World.cell?, hh] at hm
      rw [hm]
  exact ⟨m, by rw [World.var?, gMaxT]; simp [hh, hcs]⟩
end Go.Proofs.YtnbkpannhcamjaaGreatDoor
namespace Go.Proofs.YtnbkpannhcamjaaGreatDoor
theorem ay_here : True := trivial
end Go.Proofs.YtnbkpannhcamjaaGreatDoor
