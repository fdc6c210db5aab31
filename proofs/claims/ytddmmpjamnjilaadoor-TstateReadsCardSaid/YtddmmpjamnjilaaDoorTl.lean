/- The door of the tstate laws: what is listed, and the environment at the first world. -/
import Derived.Test.YtddmmpjamnjilaaDoorDr
import Derived.Test.YtddmmpjamnjilaaDoorSo
import Derived.Test.YtddmmpjamnjilaaDoorTk
namespace Go.Proofs.YtddmmpjamnjilaaDoor
set_option linter.unusedVariables false
open Go.RowKit Go.ChangeShapes Go.WideShapes Go.Deep Go.Joins

def laidT : List (String × DataW Unit) := Rows.tstateReadsRow.laid
theorem laidT_met (os : Os) (args : Array Value) : laidMet Tryd.prog laidT ((World.laidAll Tryd.prog os laidT).forCall (fun _ _ => 0) ⟨#[], args, []⟩).memory :=
  laidMet_laidAll args (by kernel_rfl) (by kernel_rfl)
theorem tGMaxT {w : World} (h : w.ShapedOpen Tryd.prog) : ∃ m, w.cell? ⟨1, 0, none⟩ = some (.int .i64 m) := Tryd.laysM145.s1_3 w h
theorem envT_of {w : World} (h : w.ShapedOpen Tryd.prog) : EnvT w := by
  obtain ⟨m, hm⟩ := tGMaxT h
  obtain ⟨cs, hh, hs, _⟩ := h.1 1 #[.int .i64 0] 3 (of_decide_eq_true (by kernel_rfl)) (by kernel_rfl)
  have hcs : cs = #[.int .i64 m] := by
    obtain ⟨l⟩ := cs
    match l, hs with
    | [x], _ =>
      simp [World.cell?, hh] at hm
      rw [hm]
  exact ⟨m, by rw [World.var?, gMaxT]; simp [hh, hcs]⟩
end Go.Proofs.YtddmmpjamnjilaaDoor
