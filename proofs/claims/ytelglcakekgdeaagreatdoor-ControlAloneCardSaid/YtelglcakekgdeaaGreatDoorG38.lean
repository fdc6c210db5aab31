/- Texts put together: Lq Ls Lr Lt Lu Lv Lw Lx. -/
import Derived.Test.YtelglcakekgdeaaGreatDoorG37
import Derived.Deep.RegionLaw
import Derived.Test.YtelglcakekgdeaaGreatDoorG18
namespace Go.Proofs.YtelglcakekgdeaaGreatDoor
set_option linter.unusedVariables false
set_option linter.unusedSimpArgs false
open Go.RowKit Go.Joins

set_option maxRecDepth 100000 in
set_option maxHeartbeats 4000000 in
theorem with_8 (rk : Int) (xa : Option Addr) (xn xc : Nat) (tg : List UInt8) (ap st dp dt mp : Int) (mi : List UInt8) (sm : Int) (b o c2 : Nat) (A1 : Option Addr) (n1 c1 : Nat) (x : List UInt8) (w : World) (h0 : w.cell? ⟨b, o, none⟩ = some (.string (bs x))) :
    Calls Tryz.prog 79 #[.agg #[.int .i64 rk, .slice xa xn xc, .string (bs tg), .int .i64 ap, .int .i64 st, .int .i64 dp, .int .i64 dt, .int .i64 mp, .string (bs mi), .int .i64 sm], .agg #[.int .i64 8, .slice A1 n1 c1, .slice (some ⟨b, o, none⟩) 1 c2]] w fun e w' => e = .returned (.agg #[.int .i64 rk, .slice xa xn xc, .string (bs x), .int .i64 ap, .int .i64 st, .int .i64 dp, .int .i64 dt, .int .i64 mp, .string (bs mi), .int .i64 sm]) ∧ Below w.heap.size w w' := by
  have c0 : (ByteArray.mk #[]) = bs [] := rfl
  have b0 := lt_of_cell h0
  simp only at b0
  have q0 := cell_a3 h0
  go_enter Tryz.func79, Tryz.ntmps79
  go_wp2_with fail
  go_returns
  exact ⟨rfl, by first | exact (below3 _ _ _ _).drew | exact below3 _ _ _ _⟩
set_option maxRecDepth 100000 in
set_option maxHeartbeats 4000000 in
theorem with_9 (rk : Int) (xa : Option Addr) (xn xc : Nat) (tg : List UInt8) (ap st dp dt mp : Int) (mi : List UInt8) (sm : Int) (b o c1 : Nat) (A2 : Option Addr) (n2 c2 : Nat) (i j : Int) (w : World) (h0 : w.cell? ⟨b, o, none⟩ = some (.int .i64 i)) (h1 : w.cell? ⟨b, o + 1, none⟩ = some (.int .i64 j)) :
    Calls Tryz.prog 79 #[.agg #[.int .i64 rk, .slice xa xn xc, .string (bs tg), .int .i64 ap, .int .i64 st, .int .i64 dp, .int .i64 dt, .int .i64 mp, .string (bs mi), .int .i64 sm], .agg #[.int .i64 9, .slice (some ⟨b, o, none⟩) 2 c1, .slice A2 n2 c2]] w fun e w' => e = .returned (.agg #[.int .i64 rk, .slice xa xn xc, .string (bs tg), .int .i64 i, .int .i64 j, .int .i64 dp, .int .i64 dt, .int .i64 mp, .string (bs mi), .int .i64 sm]) ∧ Below w.heap.size w w' := by
  have c0 : (ByteArray.mk #[]) = bs [] := rfl
  have b0 := lt_of_cell h0
  simp only at b0
  have q0 := cell_a3 h0
  have b1 := lt_of_cell h1
  simp only at b1
  have q1 := cell_a3 h1
  go_enter Tryz.func79, Tryz.ntmps79
  go_wp2_with fail
  go_region
  go_wp2_with fail
  go_returns
  exact ⟨rfl, by first | exact (below3 _ _ _ _).drew | exact below3 _ _ _ _⟩
set_option maxRecDepth 100000 in
set_option maxHeartbeats 4000000 in
theorem with_10 (rk : Int) (xa : Option Addr) (xn xc : Nat) (tg : List UInt8) (ap st dp dt mp : Int) (mi : List UInt8) (sm : Int) (b o c1 : Nat) (A2 : Option Addr) (n2 c2 : Nat) (i j : Int) (w : World) (h0 : w.cell? ⟨b, o, none⟩ = some (.int .i64 i)) (h1 : w.cell? ⟨b, o + 1, none⟩ = some (.int .i64 j)) :
    Calls Tryz.prog 79 #[.agg #[.int .i64 rk, .slice xa xn xc, .string (bs tg), .int .i64 ap, .int .i64 st, .int .i64 dp, .int .i64 dt, .int .i64 mp, .string (bs mi), .int .i64 sm], .agg #[.int .i64 10, .slice (some ⟨b, o, none⟩) 2 c1, .slice A2 n2 c2]] w fun e w' => e = .returned (.agg #[.int .i64 rk, .slice xa xn xc, .string (bs tg), .int .i64 ap, .int .i64 st, .int .i64 i, .int .i64 j, .int .i64 mp, .string (bs mi), .int .i64 sm]) ∧ Below w.heap.size w w' := by
  have c0 : (ByteArray.mk #[]) = bs [] := rfl
  have b0 := lt_of_cell h0
  simp only at b0
  have q0 := cell_a3 h0
  have b1 := lt_of_cell h1
  simp only at b1
  have q1 := cell_a3 h1
  go_enter Tryz.func79, Tryz.ntmps79
  go_wp2_with fail
  go_region
  go_wp2_with fail
  go_returns
  exact ⟨rfl, by first | exact (below3 _ _ _ _).drew | exact below3 _ _ _ _⟩
set_option maxRecDepth 100000 in
set_option maxHeartbeats 4000000 in
theorem with_11 (rk : Int) (xa : Option Addr) (xn xc : Nat) (tg : List UInt8) (ap st dp dt mp : Int) (mi : List UInt8) (sm : Int) (b o c1 b2 o2 c2 : Nat) (i : Int) (x : List UInt8) (w : World) (h0 : w.cell? ⟨b, o, none⟩ = some (.int .i64 i)) (h1 : w.cell? ⟨b2, o2, none⟩ = some (.string (bs x))) :
    Calls Tryz.prog 79 #[.agg #[.int .i64 rk, .slice xa xn xc, .string (bs tg), .int .i64 ap, .int .i64 st, .int .i64 dp, .int .i64 dt, .int .i64 mp, .string (bs mi), .int .i64 sm], .agg #[.int .i64 11, .slice (some ⟨b, o, none⟩) 1 c1, .slice (some ⟨b2, o2, none⟩) 1 c2]] w fun e w' => e = .returned (.agg #[.int .i64 rk, .slice xa xn xc, .string (bs tg), .int .i64 ap, .int .i64 st, .int .i64 dp, .int .i64 dt, .int .i64 i, .string (bs x), .int .i64 sm]) ∧ Below w.heap.size w w' := by
  have c0 : (ByteArray.mk #[]) = bs [] := rfl
  have b0 := lt_of_cell h0
  simp only at b0
  have q0 := cell_a3 h0
  have b1 := lt_of_cell h1
  simp only at b1
  have q1 := cell_a3 h1
  go_enter Tryz.func79, Tryz.ntmps79
  go_wp2_with fail
  go_region
  go_wp2_with fail
  go_returns
  exact ⟨rfl, by first | exact (below3 _ _ _ _).drew | exact below3 _ _ _ _⟩
set_option maxRecDepth 100000 in
set_option maxHeartbeats 4000000 in
theorem with_12 (rk : Int) (xa : Option Addr) (xn xc : Nat) (tg : List UInt8) (ap st dp dt mp : Int) (mi : List UInt8) (sm : Int) (b o c1 : Nat) (A2 : Option Addr) (n2 c2 : Nat) (i : Int) (w : World) (h0 : w.cell? ⟨b, o, none⟩ = some (.int .i64 i)) :
    Calls Tryz.prog 79 #[.agg #[.int .i64 rk, .slice xa xn xc, .string (bs tg), .int .i64 ap, .int .i64 st, .int .i64 dp, .int .i64 dt, .int .i64 mp, .string (bs mi), .int .i64 sm], .agg #[.int .i64 12, .slice (some ⟨b, o, none⟩) 1 c1, .slice A2 n2 c2]] w fun e w' => e = .returned (.agg #[.int .i64 rk, .slice xa xn xc, .string (bs tg), .int .i64 ap, .int .i64 st, .int .i64 dp, .int .i64 dt, .int .i64 mp, .string (bs mi), .int .i64 i]) ∧ Below w.heap.size w w' := by
  have c0 : (ByteArray.mk #[]) = bs [] := rfl
  have b0 := lt_of_cell h0
  simp only at b0
  have q0 := cell_a3 h0
  go_enter Tryz.func79, Tryz.ntmps79
  go_wp2_with fail
  go_returns
  exact ⟨rfl, by first | exact (below3 _ _ _ _).drew | exact below3 _ _ _ _⟩
end Go.Proofs.YtelglcakekgdeaaGreatDoor
namespace Go.Proofs.YtelglcakekgdeaaGreatDoor
set_option linter.unusedVariables false
set_option linter.unusedSimpArgs false
open Go.RowKit Go.Joins

theorem BR.set10 {w : World} {g : Nat} {u : Ru} (k : BR w g u) (u' : Ru) : BR ((((((((((w.setCell ⟨g, 0, none⟩ (.int .i64 u'.rank)).setCell ⟨g, 1, none⟩ (.slice u'.xa u'.xn u'.xc)).setCell ⟨g, 2, none⟩ (.string (bs u'.tg))).setCell ⟨g, 3, none⟩ (.int .i64 u'.ap)).setCell ⟨g, 4, none⟩ (.int .i64 u'.st)).setCell ⟨g, 5, none⟩ (.int .i64 u'.dp)).setCell ⟨g, 6, none⟩ (.int .i64 u'.dt)).setCell ⟨g, 7, none⟩ (.int .i64 u'.mp)).setCell ⟨g, 8, none⟩ (.string (bs u'.mi))).setCell ⟨g, 9, none⟩ (.int .i64 u'.sm)) g u' := by
  have k0 : Bk (w.setCell ⟨g, 0, none⟩ (.int .i64 u'.rank)) g 72 #[.int .i64 u'.rank, .slice u.xa u.xn u.xc, .string (bs u.tg), .int .i64 u.ap, .int .i64 u.st, .int .i64 u.dp, .int .i64 u.dt, .int .i64 u.mp, .string (bs u.mi), .int .i64 u.sm] := Bk.set_ k 0 (.int .i64 u'.rank)
  have k1 : Bk ((w.setCell ⟨g, 0, none⟩ (.int .i64 u'.rank)).setCell ⟨g, 1, none⟩ (.slice u'.xa u'.xn u'.xc)) g 72 #[.int .i64 u'.rank, .slice u'.xa u'.xn u'.xc, .string (bs u.tg), .int .i64 u.ap, .int .i64 u.st, .int .i64 u.dp, .int .i64 u.dt, .int .i64 u.mp, .string (bs u.mi), .int .i64 u.sm] := Bk.set_ k0 1 (.slice u'.xa u'.xn u'.xc)
  have k2 : Bk (((w.setCell ⟨g, 0, none⟩ (.int .i64 u'.rank)).setCell ⟨g, 1, none⟩ (.slice u'.xa u'.xn u'.xc)).setCell ⟨g, 2, none⟩ (.string (bs u'.tg))) g 72 #[.int .i64 u'.rank, .slice u'.xa u'.xn u'.xc, .string (bs u'.tg), .int .i64 u.ap, .int .i64 u.st, .int .i64 u.dp, .int .i64 u.dt, .int .i64 u.mp, .string (bs u.mi), .int .i64 u.sm] := Bk.set_ k1 2 (.string (bs u'.tg))
  have k3 : Bk ((((w.setCell ⟨g, 0, none⟩ (.int .i64 u'.rank)).setCell ⟨g, 1, none⟩ (.slice u'.xa u'.xn u'.xc)).setCell ⟨g, 2, none⟩ (.string (bs u'.tg))).setCell ⟨g, 3, none⟩ (.int .i64 u'.ap)) g 72 #[.int .i64 u'.rank, .slice u'.xa u'.xn u'.xc, .string (bs u'.tg), .int .i64 u'.ap, .int .i64 u.st, .int .i64 u.dp, .int .i64 u.dt, .int .i64 u.mp, .string (bs u.mi), .int .i64 u.sm] := Bk.set_ k2 3 (.int .i64 u'.ap)
  have k4 : Bk (((((w.setCell ⟨g, 0, none⟩ (.int .i64 u'.rank)).setCell ⟨g, 1, none⟩ (.slice u'.xa u'.xn u'.xc)).setCell ⟨g, 2, none⟩ (.string (bs u'.tg))).setCell ⟨g, 3, none⟩ (.int .i64 u'.ap)).setCell ⟨g, 4, none⟩ (.int .i64 u'.st)) g 72 #[.int .i64 u'.rank, .slice u'.xa u'.xn u'.xc, .string (bs u'.tg), .int .i64 u'.ap, .int .i64 u'.st, .int .i64 u.dp, .int .i64 u.dt, .int .i64 u.mp, .string (bs u.mi), .int .i64 u.sm] := Bk.set_ k3 4 (.int .i64 u'.st)
  have k5 : Bk ((((((w.setCell ⟨g, 0, none⟩ (.int .i64 u'.rank)).setCell ⟨g, 1, none⟩ (.slice u'.xa u'.xn u'.xc)).setCell ⟨g, 2, none⟩ (.string (bs u'.tg))).setCell ⟨g, 3, none⟩ (.int .i64 u'.ap)).setCell ⟨g, 4, none⟩ (.int .i64 u'.st)).setCell ⟨g, 5, none⟩ (.int .i64 u'.dp)) g 72 #[.int .i64 u'.rank, .slice u'.xa u'.xn u'.xc, .string (bs u'.tg), .int .i64 u'.ap, .int .i64 u'.st, .int .i64 u'.dp, .int .i64 u.dt, .int .i64 u.mp, .string (bs u.mi), .int .i64 u.sm] := Bk.set_ k4 5 (.int .i64 u'.dp)
  have k6 : Bk (((((((w.setCell ⟨g, 0, none⟩ (.int .i64 u'.rank)).setCell ⟨g, 1, none⟩ (.slice u'.xa u'.xn u'.xc)).setCell ⟨g, 2, none⟩ (.string (bs u'.tg))).setCell ⟨g, 3, none⟩ (.int .i64 u'.ap)).setCell ⟨g, 4, none⟩ (.int .i64 u'.st)).setCell ⟨g, 5, none⟩ (.int .i64 u'.dp)).setCell ⟨g, 6, none⟩ (.int .i64 u'.dt)) g 72 #[.int .i64 u'.rank, .slice u'.xa u'.xn u'.xc, .string (bs u'.tg), .int .i64 u'.ap, .int .i64 u'.st, .int .i64 u'.dp, .int .i64 u'.dt, .int .i64 u.mp, .string (bs u.mi), .int .i64 u.sm] := Bk.set_ k5 6 (.int .i64 u'.dt)
  have k7 : Bk ((((((((w.setCell ⟨g, 0, none⟩ (.int .i64 u'.rank)).setCell ⟨g, 1, none⟩ (.slice u'.xa u'.xn u'.xc)).setCell ⟨g, 2, none⟩ (.string (bs u'.tg))).setCell ⟨g, 3, none⟩ (.int .i64 u'.ap)).setCell ⟨g, 4, none⟩ (.int .i64 u'.st)).setCell ⟨g, 5, none⟩ (.int .i64 u'.dp)).setCell ⟨g, 6, none⟩ (.int .i64 u'.dt)).setCell ⟨g, 7, none⟩ (.int .i64 u'.mp)) g 72 #[.int .i64 u'.rank, .slice u'.xa u'.xn u'.xc, .string (bs u'.tg), .int .i64 u'.ap, .int .i64 u'.st, .int .i64 u'.dp, .int .i64 u'.dt, .int .i64 u'.mp, .string (bs u.mi), .int .i64 u.sm] := Bk.set_ k6 7 (.int .i64 u'.mp)
  have k8 : Bk (((((((((w.setCell ⟨g, 0, none⟩ (.int .i64 u'.rank)).setCell ⟨g, 1, none⟩ (.slice u'.xa u'.xn u'.xc)).setCell ⟨g, 2, none⟩ (.string (bs u'.tg))).setCell ⟨g, 3, none⟩ (.int .i64 u'.ap)).setCell ⟨g, 4, none⟩ (.int .i64 u'.st)).setCell ⟨g, 5, none⟩ (.int .i64 u'.dp)).setCell ⟨g, 6, none⟩ (.int .i64 u'.dt)).setCell ⟨g, 7, none⟩ (.int .i64 u'.mp)).setCell ⟨g, 8, none⟩ (.string (bs u'.mi))) g 72 #[.int .i64 u'.rank, .slice u'.xa u'.xn u'.xc, .string (bs u'.tg), .int .i64 u'.ap, .int .i64 u'.st, .int .i64 u'.dp, .int .i64 u'.dt, .int .i64 u'.mp, .string (bs u'.mi), .int .i64 u.sm] := Bk.set_ k7 8 (.string (bs u'.mi))
  have k9 : Bk ((((((((((w.setCell ⟨g, 0, none⟩ (.int .i64 u'.rank)).setCell ⟨g, 1, none⟩ (.slice u'.xa u'.xn u'.xc)).setCell ⟨g, 2, none⟩ (.string (bs u'.tg))).setCell ⟨g, 3, none⟩ (.int .i64 u'.ap)).setCell ⟨g, 4, none⟩ (.int .i64 u'.st)).setCell ⟨g, 5, none⟩ (.int .i64 u'.dp)).setCell ⟨g, 6, none⟩ (.int .i64 u'.dt)).setCell ⟨g, 7, none⟩ (.int .i64 u'.mp)).setCell ⟨g, 8, none⟩ (.string (bs u'.mi))).setCell ⟨g, 9, none⟩ (.int .i64 u'.sm)) g 72 #[.int .i64 u'.rank, .slice u'.xa u'.xn u'.xc, .string (bs u'.tg), .int .i64 u'.ap, .int .i64 u'.st, .int .i64 u'.dp, .int .i64 u'.dt, .int .i64 u'.mp, .string (bs u'.mi), .int .i64 u'.sm] := Bk.set_ k8 9 (.int .i64 u'.sm)
  exact k9
theorem below_set10 {B : Nat} {w w' : World} (h : Below B w w') (g : Nat) (hg : B ≤ g) (a0 a1 a2 a3 a4 a5 a6 a7 a8 a9 : Value) : Below B w ((((((((((w'.setCell ⟨g, 0, none⟩ a0).setCell ⟨g, 1, none⟩ a1).setCell ⟨g, 2, none⟩ a2).setCell ⟨g, 3, none⟩ a3).setCell ⟨g, 4, none⟩ a4).setCell ⟨g, 5, none⟩ a5).setCell ⟨g, 6, none⟩ a6).setCell ⟨g, 7, none⟩ a7).setCell ⟨g, 8, none⟩ a8).setCell ⟨g, 9, none⟩ a9) :=
  ((((((((((h.setCell hg _).setCell hg _).setCell hg _).setCell hg _).setCell hg _).setCell hg _).setCell hg _).setCell hg _).setCell hg _).setCell hg _)
set_option maxHeartbeats 1000000 in
theorem GB.set10 {α : Type} {enc : α → List Value} {k : Nat} {e : TypeId} {w : World} {b g : Nat} {v : Value} {L : List α} {u : Ru} (h : GB enc k e w b v L) (hB : BR w g u) (hte : 72 ≠ e) (u' : Ru) : GB enc k e ((((((((((w.setCell ⟨g, 0, none⟩ (.int .i64 u'.rank)).setCell ⟨g, 1, none⟩ (.slice u'.xa u'.xn u'.xc)).setCell ⟨g, 2, none⟩ (.string (bs u'.tg))).setCell ⟨g, 3, none⟩ (.int .i64 u'.ap)).setCell ⟨g, 4, none⟩ (.int .i64 u'.st)).setCell ⟨g, 5, none⟩ (.int .i64 u'.dp)).setCell ⟨g, 6, none⟩ (.int .i64 u'.dt)).setCell ⟨g, 7, none⟩ (.int .i64 u'.mp)).setCell ⟨g, 8, none⟩ (.string (bs u'.mi))).setCell ⟨g, 9, none⟩ (.int .i64 u'.sm)) b v L := by
  have k0 : Bk (w.setCell ⟨g, 0, none⟩ (.int .i64 u'.rank)) g 72 #[.int .i64 u'.rank, .slice u.xa u.xn u.xc, .string (bs u.tg), .int .i64 u.ap, .int .i64 u.st, .int .i64 u.dp, .int .i64 u.dt, .int .i64 u.mp, .string (bs u.mi), .int .i64 u.sm] := Bk.set_ hB 0 (.int .i64 u'.rank)
  have k1 : Bk ((w.setCell ⟨g, 0, none⟩ (.int .i64 u'.rank)).setCell ⟨g, 1, none⟩ (.slice u'.xa u'.xn u'.xc)) g 72 #[.int .i64 u'.rank, .slice u'.xa u'.xn u'.xc, .string (bs u.tg), .int .i64 u.ap, .int .i64 u.st, .int .i64 u.dp, .int .i64 u.dt, .int .i64 u.mp, .string (bs u.mi), .int .i64 u.sm] := Bk.set_ k0 1 (.slice u'.xa u'.xn u'.xc)
  have k2 : Bk (((w.setCell ⟨g, 0, none⟩ (.int .i64 u'.rank)).setCell ⟨g, 1, none⟩ (.slice u'.xa u'.xn u'.xc)).setCell ⟨g, 2, none⟩ (.string (bs u'.tg))) g 72 #[.int .i64 u'.rank, .slice u'.xa u'.xn u'.xc, .string (bs u'.tg), .int .i64 u.ap, .int .i64 u.st, .int .i64 u.dp, .int .i64 u.dt, .int .i64 u.mp, .string (bs u.mi), .int .i64 u.sm] := Bk.set_ k1 2 (.string (bs u'.tg))
  have k3 : Bk ((((w.setCell ⟨g, 0, none⟩ (.int .i64 u'.rank)).setCell ⟨g, 1, none⟩ (.slice u'.xa u'.xn u'.xc)).setCell ⟨g, 2, none⟩ (.string (bs u'.tg))).setCell ⟨g, 3, none⟩ (.int .i64 u'.ap)) g 72 #[.int .i64 u'.rank, .slice u'.xa u'.xn u'.xc, .string (bs u'.tg), .int .i64 u'.ap, .int .i64 u.st, .int .i64 u.dp, .int .i64 u.dt, .int .i64 u.mp, .string (bs u.mi), .int .i64 u.sm] := Bk.set_ k2 3 (.int .i64 u'.ap)
  have k4 : Bk (((((w.setCell ⟨g, 0, none⟩ (.int .i64 u'.rank)).setCell ⟨g, 1, none⟩ (.slice u'.xa u'.xn u'.xc)).setCell ⟨g, 2, none⟩ (.string (bs u'.tg))).setCell ⟨g, 3, none⟩ (.int .i64 u'.ap)).setCell ⟨g, 4, none⟩ (.int .i64 u'.st)) g 72 #[.int .i64 u'.rank, .slice u'.xa u'.xn u'.xc, .string (bs u'.tg), .int .i64 u'.ap, .int .i64 u'.st, .int .i64 u.dp, .int .i64 u.dt, .int .i64 u.mp, .string (bs u.mi), .int .i64 u.sm] := Bk.set_ k3 4 (.int .i64 u'.st)
  have k5 : Bk ((((((w.setCell ⟨g, 0, none⟩ (.int .i64 u'.rank)).setCell ⟨g, 1, none⟩ (.slice u'.xa u'.xn u'.xc)).setCell ⟨g, 2, none⟩ (.string (bs u'.tg))).setCell ⟨g, 3, none⟩ (.int .i64 u'.ap)).setCell ⟨g, 4, none⟩ (.int .i64 u'.st)).setCell ⟨g, 5, none⟩ (.int .i64 u'.dp)) g 72 #[.int .i64 u'.rank, .slice u'.xa u'.xn u'.xc, .string (bs u'.tg), .int .i64 u'.ap, .int .i64 u'.st, .int .i64 u'.dp, .int .i64 u.dt, .int .i64 u.mp, .string (bs u.mi), .int .i64 u.sm] := Bk.set_ k4 5 (.int .i64 u'.dp)
  have k6 : Bk (((((((w.setCell ⟨g, 0, none⟩ (.int .i64 u'.rank)).setCell ⟨g, 1, none⟩ (.slice u'.xa u'.xn u'.xc)).setCell ⟨g, 2, none⟩ (.string (bs u'.tg))).setCell ⟨g, 3, none⟩ (.int .i64 u'.ap)).setCell ⟨g, 4, none⟩ (.int .i64 u'.st)).setCell ⟨g, 5, none⟩ (.int .i64 u'.dp)).setCell ⟨g, 6, none⟩ (.int .i64 u'.dt)) g 72 #[.int .i64 u'.rank, .slice u'.xa u'.xn u'.xc, .string (bs u'.tg), .int .i64 u'.ap, .int .i64 u'.st, .int .i64 u'.dp, .int .i64 u'.dt, .int .i64 u.mp, .string (bs u.mi), .int .i64 u.sm] := Bk.set_ k5 6 (.int .i64 u'.dt)
  have k7 : Bk ((((((((w.setCell ⟨g, 0, none⟩ (.int .i64 u'.rank)).setCell ⟨g, 1, none⟩ (.slice u'.xa u'.xn u'.xc)).setCell ⟨g, 2, none⟩ (.string (bs u'.tg))).setCell ⟨g, 3, none⟩ (.int .i64 u'.ap)).setCell ⟨g, 4, none⟩ (.int .i64 u'.st)).setCell ⟨g, 5, none⟩ (.int .i64 u'.dp)).setCell ⟨g, 6, none⟩ (.int .i64 u'.dt)).setCell ⟨g, 7, none⟩ (.int .i64 u'.mp)) g 72 #[.int .i64 u'.rank, .slice u'.xa u'.xn u'.xc, .string (bs u'.tg), .int .i64 u'.ap, .int .i64 u'.st, .int .i64 u'.dp, .int .i64 u'.dt, .int .i64 u'.mp, .string (bs u.mi), .int .i64 u.sm] := Bk.set_ k6 7 (.int .i64 u'.mp)
  have k8 : Bk (((((((((w.setCell ⟨g, 0, none⟩ (.int .i64 u'.rank)).setCell ⟨g, 1, none⟩ (.slice u'.xa u'.xn u'.xc)).setCell ⟨g, 2, none⟩ (.string (bs u'.tg))).setCell ⟨g, 3, none⟩ (.int .i64 u'.ap)).setCell ⟨g, 4, none⟩ (.int .i64 u'.st)).setCell ⟨g, 5, none⟩ (.int .i64 u'.dp)).setCell ⟨g, 6, none⟩ (.int .i64 u'.dt)).setCell ⟨g, 7, none⟩ (.int .i64 u'.mp)).setCell ⟨g, 8, none⟩ (.string (bs u'.mi))) g 72 #[.int .i64 u'.rank, .slice u'.xa u'.xn u'.xc, .string (bs u'.tg), .int .i64 u'.ap, .int .i64 u'.st, .int .i64 u'.dp, .int .i64 u'.dt, .int .i64 u'.mp, .string (bs u'.mi), .int .i64 u.sm] := Bk.set_ k7 8 (.string (bs u'.mi))
  have h0 := GB.set h (show Bk w g 72 _ from hB) hte 0 (.int .i64 u'.rank)
  have h1 := h0.set k0 hte 1 (.slice u'.xa u'.xn u'.xc)
  have h2 := h1.set k1 hte 2 (.string (bs u'.tg))
  have h3 := h2.set k2 hte 3 (.int .i64 u'.ap)
  have h4 := h3.set k3 hte 4 (.int .i64 u'.st)
  have h5 := h4.set k4 hte 5 (.int .i64 u'.dp)
  have h6 := h5.set k5 hte 6 (.int .i64 u'.dt)
  have h7 := h6.set k6 hte 7 (.int .i64 u'.mp)
  have h8 := h7.set k7 hte 8 (.string (bs u'.mi))
  exact h8.set k8 hte 9 (.int .i64 u'.sm)
end Go.Proofs.YtelglcakekgdeaaGreatDoor
namespace Go.Proofs.YtelglcakekgdeaaGreatDoor
set_option linter.unusedVariables false
set_option linter.unusedSimpArgs false
open Go.RowKit Go.Joins

/-- append of a row to one of the call's own, at a step of a region that draws. -/
theorem step_append_gx {α : Type} {enc : α → List Value} {k : Nat} {e : TypeId} {P : Program} {t : TypeId} {z : Value} {bytes : Nat} (T : RowT P enc k t e z bytes) {ops : Array Oper} {o : Oper} {a : Act} {K : Act → World → Prop} {Q : Exit → Act → World → Prop} {E : Prop} {w : World} (hgd : o.guard = none) (s x : Operand)
    (ho : o.op = .call { callee := .builtin .append, args := #[s, x], argTypes := #[t, t] }) (base : Nat) (v : Value) (L M : List α) (g cap : Nat) (N : Nat → Prop)
    (hs : a.eval s = v) (hown : GB enc k e w base v L) (hx : a.eval x = .slice (some ⟨g, 0, none⟩) M.length cap) (hR : GX enc k w N (some ⟨g, 0, none⟩) M)
    (hl : L.length + M.length ≤ 10000000) (hbase : base ≤ w.heap.size) (h : ∀ v' w', GB enc k e w' base v' (L ++ M) → w.grownBy w' v.ownBlock → K (a.put o.dst v') w') :
    if Region.wanted o (yielded ops a.tmps) = true then Oper.wp P o a w K Q else E := by
  have hw : Region.wanted o (yielded ops a.tmps) = true := by simp [Region.wanted, hgd]
  rw [if_pos hw]
  obtain ⟨i0, hi, hz0, hz1, hz2⟩ := info_parts T.inf
  have hby : (L.length + M.length) * bytes ≤ 140737488355328 := Nat.le_trans (Nat.mul_le_mul hl T.hb) (by omega)
  have fin : ∀ v' w', w'.ownsRow base e k v' (L.length + M.length) (gvals enc L ++ gvals enc M) → w.grownBy w' v.ownBlock → (v' = .slice none 0 0 ↔ v = .slice none 0 0 ∧ M.length = 0) → K (a.put o.dst v') w' := by
    intro v' w' h1 h2 _
    refine h v' w' ?_ h2
    unfold GB
    rw [List.length_append, ← gvals_append]
    exact h1
  exact wp_append_own w s x t ho base e i0 z k bytes T.ht hi hz0 hz1 hz2 T.hzs T.k0 v L.length (gvals enc L) hs hown ⟨g, 0, none⟩ M.length cap
    (gvals enc M) hx (gvals_len enc k T.hk M) (GX.cell T.hk hR) (fun u hu => by
      simp only [gvals, List.mem_flatMap] at hu
      obtain ⟨y, _, hu⟩ := hu
      exact T.h1 y u hu) (by unfold maxLen; omega) hby hbase fin
/-- Grown by a row, before which and behind which blocks of the call's own alone were written. -/
theorem grown_mid {w a b c : World} {row : Option Nat} (h1 : Below w.heap.size w a) (hg : a.grownBy b row) (h2 : Below w.heap.size b c) : w.grownBy c row :=
  ⟨h2.os.trans (hg.os.trans h1.os), h2.tape.trans (hg.tape.trans h1.tape), h2.output.trans (hg.output.trans h1.output), Nat.le_trans h1.size (Nat.le_trans hg.size h2.size), fun k hk hne => (h2.block k hk).trans ((hg.block k (Nat.lt_of_lt_of_le hk h1.size) hne).trans (h1.block k hk))⟩
theorem Bk.set_other {w : World} {g g' : Nat} {t : TypeId} {cs : Array Value} (h : Bk w g t cs) (hne : g ≠ g') (i : Nat) (u : Value) : Bk (w.setCell ⟨g', i, none⟩ u) g t cs := by
  unfold Bk at h ⊢
  rw [Below.heap_setCell _ _ _ _ hne]; exact h
/-- What with returns, where a predicate came. -/
def Withd (base : Nat) (u : Ru) (p : Pd) (e : Ending) (w' : World) : Prop := ∃ xa xn xc, e = .returned (.agg #[.int .i64 u.rank, .slice xa xn xc, .string (bs u.tg), .int .i64 u.ap, .int .i64 u.st, .int .i64 u.dp, .int .i64 u.dt, .int .i64 u.mp, .string (bs u.mi), .int .i64 u.sm]) ∧ GB encP 3 83 w' base (.slice xa xn xc) (u.ps ++ [p])
def ru0 : Ru := ⟨0, none, 0, 0, [], [], 0, 0, 0, 0, 0, [], 0⟩
set_option maxRecDepth 100000 in
set_option maxHeartbeats 1500000 in
theorem with_p (ln : Int) (h2 : 2 ≤ ln) (h7 : ln ≤ 7) (u : Ru) (p : Pd) (A1 : Option Addr) (n1 c1 : Nat) (A2 : Option Addr) (n2 c2 : Nat) (w : World) (base : Nat) (hb : base ≤ w.heap.size) (hown : GB encP 3 83 w base (.slice u.xa u.xn u.xc) u.ps) (hlen : u.ps.length ≤ 5000)
    (HP : Hid (∀ w2, Below w.heap.size w w2 → Calls Tryz.prog 88 #[.agg #[.int .i64 ln, .slice A1 n1 c1, .slice A2 n2 c2]] w2 fun e w' => e = .returned (.agg #[.int .i64 p.k, .string (bs p.n), .string (bs p.v)]) ∧ Below w2.heap.size w2 w')) :
    Calls Tryz.prog 79 #[.agg #[.int .i64 u.rank, .slice u.xa u.xn u.xc, .string (bs u.tg), .int .i64 u.ap, .int .i64 u.st, .int .i64 u.dp, .int .i64 u.dt, .int .i64 u.mp, .string (bs u.mi), .int .i64 u.sm], .agg #[.int .i64 ln, .slice A1 n1 c1, .slice A2 n2 c2]] w fun e w' => Withd base u p e w' ∧ w.grownBy w' (Value.slice u.xa u.xn u.xc).ownBlock := by
  have c0 : (ByteArray.mk #[]) = bs [] := rfl
  have hbA := enew w (.cells #[.int .i64 u.rank, .slice u.xa u.xn u.xc, .string (bs u.tg), .int .i64 u.ap, .int .i64 u.st, .int .i64 u.dp, .int .i64 u.dt, .int .i64 u.mp, .string (bs u.mi), .int .i64 u.sm] 72)
  have hbB := enew (w.alloc (.cells #[.int .i64 u.rank, .slice u.xa u.xn u.xc, .string (bs u.tg), .int .i64 u.ap, .int .i64 u.st, .int .i64 u.dp, .int .i64 u.dt, .int .i64 u.mp, .string (bs u.mi), .int .i64 u.sm] 72)) (.cells #[.int .i64 ln, .slice A1 n1 c1, .slice A2 n2 c2] 101)
  have hr1 := BR.new w u
  have hs1 := BS.new (w.alloc (.cells #[.int .i64 u.rank, .slice u.xa u.xn u.xc, .string (bs u.tg), .int .i64 u.ap, .int .i64 u.st, .int .i64 u.dp, .int .i64 u.dt, .int .i64 u.mp, .string (bs u.mi), .int .i64 u.sm] 72)) ln (.slice A1 n1 c1) (.slice A2 n2 c2)
  rw [World.size_alloc] at hs1
  have hr2 := hr1.up hbB
  have hb2 := estep hbA hbB
  generalize hv1 : (w.alloc (.cells #[.int .i64 u.rank, .slice u.xa u.xn u.xc, .string (bs u.tg), .int .i64 u.ap, .int .i64 u.st, .int .i64 u.dp, .int .i64 u.dt, .int .i64 u.mp, .string (bs u.mi), .int .i64 u.sm] 72)).alloc (.cells #[.int .i64 ln, .slice A1 n1 c1, .slice A2 n2 c2] 101) = v1 at *
  have hsz1 : v1.heap.size = w.heap.size + 1 + 1 := by rw [← hv1]; simp
  have hbC := enew v1 (.cells #[.int .i64 0, .slice none 0 0, .string (bs []), .int .i64 0, .int .i64 0, .int .i64 0, .int .i64 0, .int .i64 0, .string (bs []), .int .i64 0] 72)
  have hz3 := BR.new v1 ru0
  rw [hsz1] at hz3
  have HB := hid (estep hb2 hbC)
  have HR := hid (hr2.up hbC)
  have HS := hid (hs1.up hbC)
  have HZ0 := hid hz3
  have HOW := hid (hown.below (estep hb2 hbC))
  have n8 : ¬ ln = 8 := by omega
  have n9 : ¬ ln = 9 := by omega
  have n10 : ¬ ln = 10 := by omega
  have n11 : ¬ ln = 11 := by omega
  have n12 : ¬ ln = 12 := by omega
  have e8 : decide (ln = 8) = false := decide_eq_false (by omega)
  have e9 : decide (ln = 9) = false := decide_eq_false (by omega)
  have e10 : decide (ln = 10) = false := decide_eq_false (by omega)
  have e11 : decide (ln = 11) = false := decide_eq_false (by omega)
  have e12 : decide (ln = 12) = false := decide_eq_false (by omega)
  have hbw : base ≤ w.heap.size := hb
  clear hr1 hs1 hr2 hb2 hbC hz3 hsz1 hbA hbB hown h2 h7
  subst hv1
  go_enter Tryz.func79, Tryz.ntmps79
  go_upto_region 1 with (fail)
  simp only [ru0] at HZ0
  generalize ((w.alloc (.cells #[.int .i64 u.rank, .slice u.xa u.xn u.xc, .string (bs u.tg), .int .i64 u.ap, .int .i64 u.st, .int .i64 u.dp, .int .i64 u.dt, .int .i64 u.mp, .string (bs u.mi), .int .i64 u.sm] 72)).alloc (.cells #[.int .i64 ln, .slice A1 n1 c1, .slice A2 n2 c2] 101)).alloc (.cells #[.int .i64 0, .slice none 0 0, .string (bs []), .int .i64 0, .int .i64 0, .int .i64 0, .int .i64 0, .int .i64 0, .string (bs []), .int .i64 0] 72) = v0 at *
  obtain ⟨s0, s1, s2⟩ := HS.out.cells
  obtain ⟨r0, r1, r2, r3, r4, r5, r6, r7, r8, r9⟩ := HR.out.cells
  go_upto_region 2 with (fail)
  clear r0 r2 r3 r4 r5 r6 r7 r8 r9
  have hz0 : Below v0.heap.size v0 v0.drew := (Below.refl _ _).drew
  have hpl : u.ps.length + [p].length ≤ 10000000 := by simp; omega
  have HLP := hid hpl
  have hbv : base ≤ v0.heap.size := Nat.le_trans hbw HB.out.size
  clear hpl
  go_region_law (first
    | (refine step_append_gx rowP rfl _ _ rfl base (.slice u.xa u.xn u.xc) u.ps [p] _ 1 _ rfl hown6 rfl hx6 HLP.out hb6 ?_
       intro y2 w7 hF hgF
       obtain ⟨A9, c9, rfl, -⟩ := GB.reads (enc := encP) encP_len hF
       rw [List.length_append] at hF
       have kb7 := Bk.grown (HR.out.up hzA) hown6 (by decide) hgF
       have kz7 := Bk.grown (HZ0.out.up hzA) hown6 (by decide) hgF
       have HGF := hid (And.intro hzA (And.intro hgF hF))
       clear hgF hF
       have p1 := BR.cells kb7
       have f1 := Bk.frozen kb7 1)
    | (go_simp
       go_at_call 88
       refine (HP.out _ (estep HB.out hz0)).mono ?_
       rintro e w6 ⟨rfl, hy⟩
       have hz1 := hz0.trans (hy.mono hz0.size)
       have hzA := hz1.alloc hz1.size (.cells #[.int .i64 p.k, .string (bs p.n), .string (bs p.v)] 83)
       have hown6 := HOW.out.below hzA
       have hx6 := GX.one (x := p) (enc := encP) (k := 3) (Bk.new w6 83 #[.int .i64 p.k, .string (bs p.n), .string (bs p.v)]) rfl
       have hb6 := Nat.le_trans hbv hzA.size
       have r1 := (HR.out.up hz1).cells.2.1
       have r1b := (HR.out.up hzA).cells.2.1))
  all_goals
    have hbr8 : BR (w7.setCell ⟨w.heap.size, 1, none⟩ (.slice A9 (u.ps.length + 1) c9)) w.heap.size ⟨u.rank, A9, u.ps.length + 1, c9, u.ps ++ [p], u.tg, u.ap, u.st, u.dp, u.dt, u.mp, u.mi, u.sm⟩ := Bk.set_ kb7 1 (.slice A9 (u.ps.length + 1) c9)
    have hz8 : BR (w7.setCell ⟨w.heap.size, 1, none⟩ (.slice A9 (u.ps.length + 1) c9)) (w.heap.size + 1 + 1) ⟨0, none, 0, 0, [], [], 0, 0, 0, 0, 0, [], 0⟩ := Bk.set_other kz7 (by omega) 1 _
    have hF8 : GB encP 3 83 (w7.setCell ⟨w.heap.size, 1, none⟩ (.slice A9 (u.ps.length + 1) c9)) base (.slice A9 (u.ps.length + 1) c9) (u.ps ++ [p]) := GB.set HGF.out.2.2 kb7 (by decide) 1 _
    have hb78 : Below w.heap.size w7 (w7.setCell ⟨w.heap.size, 1, none⟩ (.slice A9 (u.ps.length + 1) c9)) := (Below.refl w.heap.size w7).setCell (Nat.le_refl _) _
    have HB8 := hid hb78
    have HF8 := hid hF8
    have HZ8 := hid hz8
    have HBR8 := hid hbr8
    clear hF8 hb78 hz8 hbr8 kb7 kz7 p1 f1
    generalize w7.setCell ⟨w.heap.size, 1, none⟩ (.slice A9 (u.ps.length + 1) c9) = w8 at *
    obtain ⟨r0, r1, r2, r3, r4, r5, r6, r7, r8, r9⟩ := HBR8.out.cells
    obtain ⟨z0, z1, z2, z3, z4, z5, z6, z7, z8, z9⟩ := HZ8.out.cells
    have f0 := Bk.frozen HZ8.out 0
    have f1 := Bk.frozen HZ8.out 1
    have f2 := Bk.frozen HZ8.out 2
    have f3 := Bk.frozen HZ8.out 3
    have f4 := Bk.frozen HZ8.out 4
    have f5 := Bk.frozen HZ8.out 5
    have f6 := Bk.frozen HZ8.out 6
    have f7 := Bk.frozen HZ8.out 7
    have f8 := Bk.frozen HZ8.out 8
    have f9 := Bk.frozen HZ8.out 9
    have HA := hid (HZ8.out.set10 ⟨u.rank, A9, u.ps.length + 1, c9, u.ps ++ [p], u.tg, u.ap, u.st, u.dp, u.dt, u.mp, u.mi, u.sm⟩).cells
    have HG9 := hid (GB.set10 HF8.out HZ8.out (by decide) ⟨u.rank, A9, u.ps.length + 1, c9, u.ps ++ [p], u.tg, u.ap, u.st, u.dp, u.dt, u.mp, u.mi, u.sm⟩)
    have HGR := hid (grown_mid (estep HB.out HGF.out.1) HGF.out.2.1 (below_set10 HB8.out (w.heap.size + 1 + 1) (by omega) (.int .i64 u.rank) (.slice A9 (u.ps.length + 1) c9) (.string (bs u.tg)) (.int .i64 u.ap) (.int .i64 u.st) (.int .i64 u.dp) (.int .i64 u.dt) (.int .i64 u.mp) (.string (bs u.mi)) (.int .i64 u.sm)))
    simp only at r0 r1 r2 r3 r4 r5 r6 r7 r8 r9 z0 z1 z2 z3 z4 z5 z6 z7 z8 z9 HA HG9
    go_wp2_with fail
    (try simp only [Exit.inBlock, Exit.then])
    refine bodyPost_ret (v := .agg #[.int .i64 u.rank, .slice A9 (u.ps.length + 1) c9, .string (bs u.tg), .int .i64 u.ap, .int .i64 u.st, .int .i64 u.dp, .int .i64 u.dt, .int .i64 u.mp, .string (bs u.mi), .int .i64 u.sm]) (by simp [results, Tryz.results79, go_sem, HA.out.1, HA.out.2.1, HA.out.2.2.1, HA.out.2.2.2.1, HA.out.2.2.2.2.1, HA.out.2.2.2.2.2.1, HA.out.2.2.2.2.2.2.1, HA.out.2.2.2.2.2.2.2.1, HA.out.2.2.2.2.2.2.2.2.1, HA.out.2.2.2.2.2.2.2.2.2]; try rfl) rfl ?_
    exact ⟨⟨A9, _, c9, rfl, HG9.out⟩, HGR.out⟩
end Go.Proofs.YtelglcakekgdeaaGreatDoor
namespace Go.Proofs.YtelglcakekgdeaaGreatDoor
set_option linter.unusedVariables false
set_option linter.unusedSimpArgs false
open Go.RowKit Go.Joins

/-- The reader's variable. -/
def RB (w : World) (g : Nat) (rest : List UInt8) (num last : Int) (y : Value) (f : List UInt8) : Prop := Bk w g 75 #[.string (bs rest), .int .i64 num, .int .i64 last, y, .string (bs f)]
theorem RB.cells {w : World} {g : Nat} {rest f : List UInt8} {num last : Int} {y : Value} (k : RB w g rest num last y f) : w.cell? ⟨g, 0, none⟩ = some (.string (bs rest)) ∧ w.cell? ⟨g, 1, none⟩ = some (.int .i64 num) ∧ w.cell? ⟨g, 2, none⟩ = some (.int .i64 last) ∧ w.cell? ⟨g, 3, none⟩ = some y ∧ w.cell? ⟨g, 4, none⟩ = some (.string (bs f)) := ⟨Bk.cell k 0, Bk.cell k 1, Bk.cell k 2, Bk.cell k 3, Bk.cell k 4⟩
theorem RB.up {w w' : World} {g : Nat} {rest f : List UInt8} {num last : Int} {y : Value} (k : RB w g rest num last y f) (hb : Below w.heap.size w w') : RB w' g rest num last y f := Bk.up k hb
set_option maxRecDepth 100000 in
set_option maxHeartbeats 2000000 in
theorem keep_13 (rb : Nat) (A1 : Option Addr) (n1 c1 : Nat) (A2 : Option Addr) (n2 c2 : Nat) (rest f : List UInt8) (num last : Int) (y : Value) (w : World) (hk : RB w rb rest num last y f) (hy : ∃ A n c, y = .slice A n c) :
    Calls Tryz.prog 61 #[.pointer (some ⟨rb, 0, none⟩), .agg #[.int .i64 13, .slice A1 n1 c1, .slice A2 n2 c2]] w fun e w' => e = .returned (.tuple #[]) ∧ w' = w.alloc (.cells #[.int .i64 13, .slice A1 n1 c1, .slice A2 n2 c2] 101) := by
  obtain ⟨A, n, c, rfl⟩ := hy
  have hk1 := hk.up (enew w (.cells #[.int .i64 13, .slice A1 n1 c1, .slice A2 n2 c2] 101))
  obtain ⟨q0, q1, q2, q3, q4⟩ := hk1.cells
  clear hk1
  go_enter Tryz.func61, Tryz.ntmps61
  go_wp2_with fail
  go_end0
  exact ⟨rfl, rfl⟩
set_option maxRecDepth 100000 in
set_option maxHeartbeats 2000000 in
theorem keep_0 (rb b o : Nat) (x : List UInt8) (A1 : Option Addr) (n1 c1 c2 : Nat) (rest f : List UInt8) (num last : Int) (y : Value) (w : World) (hk : RB w rb rest num last y f) (hy : ∃ A n c, y = .slice A n c) (h0 : w.cell? ⟨b, o, none⟩ = some (.string (bs x))) :
    Calls Tryz.prog 61 #[.pointer (some ⟨rb, 0, none⟩), .agg #[.int .i64 0, .slice A1 n1 c1, .slice (some ⟨b, o, none⟩) 1 c2]] w fun e w' => e = .returned (.tuple #[]) ∧ w' = (w.setCell ⟨rb, 4, none⟩ (.string (bs x))).alloc (.cells #[.int .i64 0, .slice A1 n1 c1, .slice (some ⟨b, o, none⟩) 1 c2] 101) := by
  obtain ⟨A, n, c, rfl⟩ := hy
  have hb1 := enew w (.cells #[.int .i64 0, .slice A1 n1 c1, .slice (some ⟨b, o, none⟩) 1 c2] 101)
  have hk1 := hk.up hb1
  have h1 := (hb1.cell (lt_of_cell h0)).trans h0
  obtain ⟨q0, q1, q2, q3, q4⟩ := hk1.cells
  have f4 := Bk.frozen hk1 4
  have hrl := Bk.lt hk
  clear hk1 hb1
  go_enter Tryz.func61, Tryz.ntmps61
  go_wp2_with fail
  go_end0
  exact ⟨rfl, rfl⟩
def Keeps (w w' : World) : Prop := ∀ b v L, GB encP 3 83 w b v L → GB encP 3 83 w' b v L
theorem Keeps.trans {a b c : World} (h : Keeps a b) (k : Keeps b c) : Keeps a c := fun x v L hx => k x v L (h x v L hx)
theorem Keeps.below {w w' : World} (h : Below w.heap.size w w') : Keeps w w' := fun _ _ _ hx => hx.below h
theorem Keeps.set {w : World} {g : Nat} {t : TypeId} {cs : Array Value} (h : Bk w g t cs) (hte : t ≠ 83) (i : Nat) (u : Value) : Keeps w (w.setCell ⟨g, i, none⟩ u) := fun _ _ _ hx => hx.set h hte i u
def ru1 (n : Int) : Ru := ⟨n, none, 0, 0, [], [], 0, 0, 0, 0, 0, [], 0⟩
/-- What keep leaves, where a rule's first line came. -/
def Kept1 (B rb : Nat) (rest f : List UInt8) (num last : Int) (U : List Ru) (w w' : World) : Prop := (∃ A n c, RB w' rb rest num last (.slice A n c) f ∧ GB encR 10 72 w' B (.slice A n c) U) ∧ Keeps w w' ∧ Below B w w'
set_option maxRecDepth 100000 in
set_option maxHeartbeats 2000000 in
theorem keep_1 (B rb b o : Nat) (m : Int) (c1 : Nat) (A2 : Option Addr) (n2 c2 : Nat) (rest f : List UInt8) (num last : Int) (y : Value) (U : List Ru) (w : World) (hB : B ≤ rb) (hk : RB w rb rest num last y f) (hg : GB encR 10 72 w B y U) (hU : U.length ≤ 5000) (h0 : w.cell? ⟨b, o, none⟩ = some (.int .i64 m)) :
    Calls Tryz.prog 61 #[.pointer (some ⟨rb, 0, none⟩), .agg #[.int .i64 1, .slice (some ⟨b, o, none⟩) 1 c1, .slice A2 n2 c2]] w fun e w' => e = .returned (.tuple #[]) ∧ Kept1 B rb rest f num last (U ++ [ru1 m]) w w' := by
  have c0 : (ByteArray.mk #[]) = bs [] := rfl
  obtain ⟨A, c, rfl, -⟩ := GB.reads encR_len hg
  have hbA := enew w (.cells #[.int .i64 1, .slice (some ⟨b, o, none⟩) 1 c1, .slice A2 n2 c2] 101)
  have hbB := enew (w.alloc (.cells #[.int .i64 1, .slice (some ⟨b, o, none⟩) 1 c1, .slice A2 n2 c2] 101)) (.cells #[.int .i64 m, .slice none 0 0, .string (bs []), .int .i64 0, .int .i64 0, .int .i64 0, .int .i64 0, .int .i64 0, .string (bs []), .int .i64 0] 72)
  have hx := GX.one (x := ru1 m) (enc := encR) (k := 10) (Bk.new (w.alloc (.cells #[.int .i64 1, .slice (some ⟨b, o, none⟩) 1 c1, .slice A2 n2 c2] 101)) 72 #[.int .i64 m, .slice none 0 0, .string (bs []), .int .i64 0, .int .i64 0, .int .i64 0, .int .i64 0, .int .i64 0, .string (bs []), .int .i64 0]) rfl
  rw [World.size_alloc] at hx
  have hb2 := estep hbA hbB
  have hrl := Bk.lt hk
  have hBw : B ≤ w.heap.size := by omega
  have hk1 := RB.up hk hbA
  have hk2 := RB.up hk hb2
  have h1 := (hbA.cell (lt_of_cell h0)).trans h0
  have HX := hid hx
  have HG := hid (hg.below hb2)
  have HK2 := hid hk2
  have HB2 := hid hb2
  obtain ⟨q0, q1, q2, q3, q4⟩ := hk1.cells
  obtain ⟨p0, p1, p2, p3, p4⟩ := hk.cells
  clear hbA hbB hx hb2 hg hk1 hk2 q0 q1 q2 q4 p0 p1 p2 p4 hk
  go_enter Tryz.func61, Tryz.ntmps61
  go_wp2_with (at_builtin; refine wpList_append_gx (W0 := w) rowR rfl _ _ rfl B (.slice A U.length c) U [ru1 m] (some ⟨w.heap.size + 1, 0, none⟩) 1 _ rfl HG.out rfl HX.out (fun h => by cases h) (by simp; omega) (HB2.out.mono hBw) hBw ?_)
  intro y2 w3 hown hbel hgr
  obtain ⟨A9, c9, rfl, -⟩ := GB.reads encR_len hown
  rw [List.length_append] at hown
  have hk3 : RB w3 rb rest num last (.slice A U.length c) f := Bk.grown HK2.out HG.out (by decide) hgr
  have HK3 := hid hk3
  have HO := hid hown
  have HKP := hid (Keeps.trans (Keeps.below HB2.out) (show Keeps _ w3 from fun _ _ _ hp => hp.grown HG.out (by decide) hgr))
  have HBL := hid hbel
  obtain ⟨t0, t1, t2, t3, t4⟩ := hk3.cells
  have f3 := Bk.frozen hk3 3
  clear hown hbel hgr hk3
  go_wp2_with fail
  go_end0
  exact ⟨rfl, ⟨A9, _, c9, Bk.set_ HK3.out 3 _, HO.out.set HK3.out (by decide) 3 _⟩, HKP.out.trans (Keeps.set HK3.out (by decide) 3 _), HBL.out.setCell hB _⟩
end Go.Proofs.YtelglcakekgdeaaGreatDoor
namespace Go.Proofs.YtelglcakekgdeaaGreatDoor
set_option linter.unusedVariables false
set_option linter.unusedSimpArgs false
open Go.RowKit Go.Joins

theorem set_app {α : Type} (v : α) (B : List α) (j : Nat) : ∀ A : List α, (A ++ B).set (A.length + j) v = A ++ B.set j v
  | [] => by simp
  | a :: A => by
    have := set_app v B j A
    simp only [List.cons_append, List.length_cons]
    rw [show A.length + 1 + j = (A.length + j) + 1 by omega, List.set_cons_succ, this]
/-- The last rule of a row: its cells. -/
theorem row_last {w : World} {B g c : Nat} {U : List Ru} {u : Ru} {k : Nat} (h : GB encR 10 72 w B (.slice (some ⟨g, 0, none⟩) (k + 1) c) (U ++ [u])) (hk : U.length = k) (w' : World) (hs : w'.heap[g]? = w.heap[g]?) :
    (w'.cell? ⟨g, k * 10, none⟩ = some (.int .i64 u.rank) ∧ w'.cell? ⟨g, k * 10 + 1, none⟩ = some (.slice u.xa u.xn u.xc) ∧ w'.cell? ⟨g, k * 10 + 2, none⟩ = some (.string (bs u.tg)) ∧ w'.cell? ⟨g, k * 10 + 3, none⟩ = some (.int .i64 u.ap) ∧ w'.cell? ⟨g, k * 10 + 4, none⟩ = some (.int .i64 u.st) ∧ w'.cell? ⟨g, k * 10 + 5, none⟩ = some (.int .i64 u.dp) ∧ w'.cell? ⟨g, k * 10 + 6, none⟩ = some (.int .i64 u.dt) ∧ w'.cell? ⟨g, k * 10 + 7, none⟩ = some (.int .i64 u.mp) ∧ w'.cell? ⟨g, k * 10 + 8, none⟩ = some (.string (bs u.mi)) ∧ w'.cell? ⟨g, k * 10 + 9, none⟩ = some (.int .i64 u.sm)) ∧ (w'.frozen? ⟨g, k * 10, none⟩ = false ∧ w'.frozen? ⟨g, k * 10 + 1, none⟩ = false ∧ w'.frozen? ⟨g, k * 10 + 2, none⟩ = false ∧ w'.frozen? ⟨g, k * 10 + 3, none⟩ = false ∧ w'.frozen? ⟨g, k * 10 + 4, none⟩ = false ∧ w'.frozen? ⟨g, k * 10 + 5, none⟩ = false ∧ w'.frozen? ⟨g, k * 10 + 6, none⟩ = false ∧ w'.frozen? ⟨g, k * 10 + 7, none⟩ = false ∧ w'.frozen? ⟨g, k * 10 + 8, none⟩ = false ∧ w'.frozen? ⟨g, k * 10 + 9, none⟩ = false) := by
  rcases GB.form encR_len h with ⟨e, -⟩ | ⟨g', c', e, -, -, -, -, h5⟩
  · cases e
  · injection e with e1 e2 e3
    injection e1 with e1
    injection e1 with e1
    subst e1
    have hl : (gvals encR U).length = k * 10 := by rw [gvals_len encR 10 encR_len, hk]
    have hv : ∀ j, j < 10 → w'.cell? ⟨g, k * 10 + j, none⟩ = (encR u)[j]? ∧ w'.frozen? ⟨g, k * 10 + j, none⟩ = false := fun j hj => by
      have h6 := h5 (k * 10 + j) (by rw [List.length_append, List.length_cons, List.length_nil, hk]; omega)
      rw [World.cell?_of_block hs, World.frozen?_of_block hs]
      refine ⟨?_, h6.2⟩
      rw [h6.1, ← gvals_append, List.getElem?_append_right (by rw [hl]; omega), hl, Nat.add_sub_cancel_left]
      simp [gvals]
    exact ⟨⟨(hv 0 (by omega)).1, (hv 1 (by omega)).1, (hv 2 (by omega)).1, (hv 3 (by omega)).1, (hv 4 (by omega)).1, (hv 5 (by omega)).1, (hv 6 (by omega)).1, (hv 7 (by omega)).1, (hv 8 (by omega)).1, (hv 9 (by omega)).1⟩, ⟨(hv 0 (by omega)).2, (hv 1 (by omega)).2, (hv 2 (by omega)).2, (hv 3 (by omega)).2, (hv 4 (by omega)).2, (hv 5 (by omega)).2, (hv 6 (by omega)).2, (hv 7 (by omega)).2, (hv 8 (by omega)).2, (hv 9 (by omega)).2⟩⟩
theorem row_put {w : World} {B g c : Nat} {U : List Ru} {u : Ru} {k : Nat} (h : GB encR 10 72 w B (.slice (some ⟨g, 0, none⟩) (k + 1) c) (U ++ [u])) (hk : U.length = k) (u' : Ru) :
    GB encR 10 72 ((((((((((w.setCell ⟨g, k * 10, none⟩ (.int .i64 u'.rank)).setCell ⟨g, k * 10 + 1, none⟩ (.slice u'.xa u'.xn u'.xc)).setCell ⟨g, k * 10 + 2, none⟩ (.string (bs u'.tg))).setCell ⟨g, k * 10 + 3, none⟩ (.int .i64 u'.ap)).setCell ⟨g, k * 10 + 4, none⟩ (.int .i64 u'.st)).setCell ⟨g, k * 10 + 5, none⟩ (.int .i64 u'.dp)).setCell ⟨g, k * 10 + 6, none⟩ (.int .i64 u'.dt)).setCell ⟨g, k * 10 + 7, none⟩ (.int .i64 u'.mp)).setCell ⟨g, k * 10 + 8, none⟩ (.string (bs u'.mi))).setCell ⟨g, k * 10 + 9, none⟩ (.int .i64 u'.sm)) B (.slice (some ⟨g, 0, none⟩) (k + 1) c) (U ++ [u']) := by
  have hl : (gvals encR U).length = k * 10 := by rw [gvals_len encR 10 encR_len, hk]
  have hlen : ∀ x : Ru, (U ++ [x]).length = k + 1 := fun x => by simp [hk]
  unfold GB at h ⊢
  rw [hlen] at h ⊢
  have h0 := (World.ownsRow.stored h (k * 10) (.int .i64 u'.rank)).1
  have h1 := (World.ownsRow.stored h0 (k * 10 + 1) (.slice u'.xa u'.xn u'.xc)).1
  have h2 := (World.ownsRow.stored h1 (k * 10 + 2) (.string (bs u'.tg))).1
  have h3 := (World.ownsRow.stored h2 (k * 10 + 3) (.int .i64 u'.ap)).1
  have h4 := (World.ownsRow.stored h3 (k * 10 + 4) (.int .i64 u'.st)).1
  have h5 := (World.ownsRow.stored h4 (k * 10 + 5) (.int .i64 u'.dp)).1
  have h6 := (World.ownsRow.stored h5 (k * 10 + 6) (.int .i64 u'.dt)).1
  have h7 := (World.ownsRow.stored h6 (k * 10 + 7) (.int .i64 u'.mp)).1
  have h8 := (World.ownsRow.stored h7 (k * 10 + 8) (.string (bs u'.mi))).1
  have h9 := (World.ownsRow.stored h8 (k * 10 + 9) (.int .i64 u'.sm)).1
  have e : (((((((((((gvals encR (U ++ [u])).set (k * 10) (.int .i64 u'.rank)).set (k * 10 + 1) (.slice u'.xa u'.xn u'.xc)).set (k * 10 + 2) (.string (bs u'.tg))).set (k * 10 + 3) (.int .i64 u'.ap)).set (k * 10 + 4) (.int .i64 u'.st)).set (k * 10 + 5) (.int .i64 u'.dp)).set (k * 10 + 6) (.int .i64 u'.dt)).set (k * 10 + 7) (.int .i64 u'.mp)).set (k * 10 + 8) (.string (bs u'.mi))).set (k * 10 + 9) (.int .i64 u'.sm)) = gvals encR (U ++ [u']) := by
    rw [← gvals_append, ← gvals_append]
    have hs : ∀ (B : List Value) (j : Nat) (v : Value), (gvals encR U ++ B).set (k * 10 + j) v = gvals encR U ++ B.set j v := fun B j v => by rw [← hl]; exact set_app v B j _
    have hs0 : ∀ (B : List Value) (v : Value), (gvals encR U ++ B).set (k * 10) v = gvals encR U ++ B.set 0 v := fun B v => hs B 0 v
    rw [hs0]
    simp only [hs]
    simp [gvals, encR, Ru.x]
  rw [← e]
  exact h9
theorem below_put {B : Nat} {w w' : World} (h : Below B w w') {g : Nat} (hg : B ≤ g) (i0 i1 i2 i3 i4 i5 i6 i7 i8 i9 : Nat) (a0 a1 a2 a3 a4 a5 a6 a7 a8 a9 : Value) : Below B w ((((((((((w'.setCell ⟨g, i0, none⟩ a0).setCell ⟨g, i1, none⟩ a1).setCell ⟨g, i2, none⟩ a2).setCell ⟨g, i3, none⟩ a3).setCell ⟨g, i4, none⟩ a4).setCell ⟨g, i5, none⟩ a5).setCell ⟨g, i6, none⟩ a6).setCell ⟨g, i7, none⟩ a7).setCell ⟨g, i8, none⟩ a8).setCell ⟨g, i9, none⟩ a9) :=
  ((((((((((h.setCell hg _).setCell hg _).setCell hg _).setCell hg _).setCell hg _).setCell hg _).setCell hg _).setCell hg _).setCell hg _).setCell hg _)
theorem heap_put (w : World) (g b : Nat) (hne : b ≠ g) (i0 i1 i2 i3 i4 i5 i6 i7 i8 i9 : Nat) (a0 a1 a2 a3 a4 a5 a6 a7 a8 a9 : Value) : ((((((((((w.setCell ⟨g, i0, none⟩ a0).setCell ⟨g, i1, none⟩ a1).setCell ⟨g, i2, none⟩ a2).setCell ⟨g, i3, none⟩ a3).setCell ⟨g, i4, none⟩ a4).setCell ⟨g, i5, none⟩ a5).setCell ⟨g, i6, none⟩ a6).setCell ⟨g, i7, none⟩ a7).setCell ⟨g, i8, none⟩ a8).setCell ⟨g, i9, none⟩ a9).heap[b]? = w.heap[b]? := by
  rw [Below.heap_setCell _ _ _ _ hne, Below.heap_setCell _ _ _ _ hne, Below.heap_setCell _ _ _ _ hne, Below.heap_setCell _ _ _ _ hne, Below.heap_setCell _ _ _ _ hne, Below.heap_setCell _ _ _ _ hne, Below.heap_setCell _ _ _ _ hne, Below.heap_setCell _ _ _ _ hne, Below.heap_setCell _ _ _ _ hne, Below.heap_setCell _ _ _ _ hne]
/-- A row of another type is kept by stores into a block. -/
theorem GB.put_other {α β : Type} {enc : α → List Value} {enc2 : β → List Value} {k k2 : Nat} {e e2 : TypeId} {w : World} {b b2 g n c : Nat} {v : Value} {L : List α} {M : List β} (h : GB enc k e w b v L) (h2 : GB enc2 k2 e2 w b2 (.slice (some ⟨g, 0, none⟩) n c) M) (hte : e ≠ e2) {w' : World} (hb : Below g w w') (hs : ∀ x, x ≠ g → w'.heap[x]? = w.heap[x]?) : GB enc k e w' b v L := by
  refine World.ownsRow.kept (row := some g) h ⟨hb.os, hb.tape, hb.output, hb.size, fun x hx hne => hs x (fun e => hne (by rw [e]))⟩ ?_
  have := GB.apart h h2 hte
  exact this
theorem Bk.put_other {β : Type} {enc2 : β → List Value} {k2 : Nat} {e2 t : TypeId} {w : World} {b2 g n c r : Nat} {cs : Array Value} {M : List β} (h : Bk w r t cs) (h2 : GB enc2 k2 e2 w b2 (.slice (some ⟨g, 0, none⟩) n c) M) (hte : t ≠ e2) {w' : World} (hs : ∀ x, x ≠ g → w'.heap[x]? = w.heap[x]?) : Bk w' r t cs := by
  have hne := GB.not_bk h2 h hte
  unfold Bk at h ⊢
  rw [hs r (fun e => hne (by rw [e]; rfl))]; exact h
/-- What with answers, of whatever line. -/
def WithR (bL : Nat) (u : Ru) (r : Rs) (w : World) (e : Ending) (w' : World) : Prop := ∃ u' : Ru, e = .returned (.agg #[.int .i64 u'.rank, .slice u'.xa u'.xn u'.xc, .string (bs u'.tg), .int .i64 u'.ap, .int .i64 u'.st, .int .i64 u'.dp, .int .i64 u'.dt, .int .i64 u'.mp, .string (bs u'.mi), .int .i64 u'.sm]) ∧ u'.sem = r ∧ GB encP 3 83 w' bL (.slice u'.xa u'.xn u'.xc) u'.ps ∧ w.grownBy w' (Value.slice u.xa u.xn u.xc).ownBlock
/-- What keep leaves, where another line of a rule came. -/
def Kept2 (B bL rb : Nat) (rest f : List UInt8) (num last : Int) (y : Value) (U0 : List Ru) (u : Ru) (r : Rs) (w w' : World) : Prop := (∃ u' : Ru, u'.sem = r ∧ RB w' rb rest num last y f ∧ GB encR 10 72 w' B y (U0 ++ [u']) ∧ GB encP 3 83 w' bL (.slice u'.xa u'.xn u'.xc) u'.ps) ∧ (∀ b v L, GB encP 3 83 w b v L → v.ownBlock = none ∨ v.ownBlock ≠ (Value.slice u.xa u.xn u.xc).ownBlock → GB encP 3 83 w' b v L) ∧ Below B w w'
set_option maxRecDepth 100000 in
set_option maxHeartbeats 4000000 in
theorem keep_w (B rb bL g c k : Nat) (ln : Int) (hl0 : ¬ ln = 0) (hl1 : ¬ ln = 1) (hl13 : ¬ ln = 13) (A1 : Option Addr) (n1 c1 : Nat) (A2 : Option Addr) (n2 c2 : Nat) (rest f : List UInt8) (num last : Int) (U0 : List Ru) (u : Ru) (r : Rs) (w : World) (hB : B ≤ rb) (hBL : B ≤ bL) (hBg : B ≤ g) (hk : RB w rb rest num last (.slice (some ⟨g, 0, none⟩) (k + 1) c) f) (hg : GB encR 10 72 w B (.slice (some ⟨g, 0, none⟩) (k + 1) c) (U0 ++ [u])) (hU : U0.length = k) (hk5 : k ≤ 5000) (hL : GB encP 3 83 w bL (.slice u.xa u.xn u.xc) u.ps)
    (HW : Hid (∀ w2, Below w.heap.size w w2 → Calls Tryz.prog 79 #[.agg #[.int .i64 u.rank, .slice u.xa u.xn u.xc, .string (bs u.tg), .int .i64 u.ap, .int .i64 u.st, .int .i64 u.dp, .int .i64 u.dt, .int .i64 u.mp, .string (bs u.mi), .int .i64 u.sm], .agg #[.int .i64 ln, .slice A1 n1 c1, .slice A2 n2 c2]] w2 fun e w' => WithR bL u r w2 e w')) :
    Calls Tryz.prog 61 #[.pointer (some ⟨rb, 0, none⟩), .agg #[.int .i64 ln, .slice A1 n1 c1, .slice A2 n2 c2]] w fun e w' => e = .returned (.tuple #[]) ∧ Kept2 B bL rb rest f num last (.slice (some ⟨g, 0, none⟩) (k + 1) c) U0 u r w w' := by
  have hb1 := enew w (.cells #[.int .i64 ln, .slice A1 n1 c1, .slice A2 n2 c2] 101)
  have hs1 := BS.new w ln (.slice A1 n1 c1) (.slice A2 n2 c2)
  have hk1 := RB.up hk hb1
  have hg1 := hg.below hb1
  have hL1 := hL.below hb1
  have hgl : g < w.heap.size := by
    have := World.ownsRow.lt hg g rfl
    exact this.2
  have e0 : decide (ln = 0) = false := decide_eq_false hl0
  have e1 : decide (ln = 1) = false := decide_eq_false hl1
  have e13 : decide (ln = 13) = false := decide_eq_false hl13
  have hw1 : IntKind.i64.wrap (((k + 1 : Nat) : Int) - 1) = (k : Int) := by rw [IntWalk.i64_in _ (by omega)]; omega
  have hw2 : IntKind.i64.wrap ((k : Int) + 1 - 1) = (k : Int) := by rw [IntWalk.i64_in _ (by omega)]; omega
  have hk0 : (0 : Int) ≤ (k : Int) := by omega
  have hkk : (k : Int) < (k : Int) + 1 := by omega
  have HB1 := hid hb1
  have HS1 := hid hs1
  have HK1 := hid hk1
  have HG1 := hid hg1
  have HL1 := hid hL1
  clear hb1 hs1 hk1 hg1 hL1 hk hg hL
  go_enter Tryz.func61, Tryz.ntmps61
  go_upto_region 1 with (fail)
  generalize w.alloc (.cells #[.int .i64 ln, .slice A1 n1 c1, .slice A2 n2 c2] 101) = v0 at *
  obtain ⟨s0, s1, s2⟩ := HS1.out.cells
  obtain ⟨q0, q1, q2, q3, q4⟩ := HK1.out.cells
  obtain ⟨⟨r0, r1, r2, r3, r4, r5, r6, r7, r8, r9⟩, -⟩ := row_last HG1.out hU v0 rfl
  have hz0 : Below v0.heap.size v0 v0.drew := (Below.refl _ _).drew
  go_upto_region 4 with (fail)
  go_region_with (first
    | (go_at_call 79
       refine (HW.out _ (estep HB1.out hz0)).mono ?_
       rintro e w6 ⟨u', rfl, hsem, hgp, hgr0⟩
       have hgr : v0.grownBy w6 (Value.slice u.xa u.xn u.xc).ownBlock := ⟨hgr0.os, hgr0.tape, hgr0.output, hgr0.size, hgr0.block⟩
       have HH := hid (And.intro hsem (And.intro hgp hgr))
       obtain ⟨-, f0, f1, f2, f3, f4, f5, f6, f7, f8, f9⟩ := row_last (GB.grown HG1.out HL1.out (by decide) hgr) hU w6 rfl
       obtain ⟨⟨x0, x1, x2, x3, x4, x5, x6, x7, x8, x9⟩, -⟩ := row_last (GB.grown HG1.out HL1.out (by decide) hgr) hU w6 rfl
       clear hsem hgp hgr hgr0))
  all_goals
    have HG6 := hid (GB.grown HG1.out HL1.out (by decide) HH.out.2.2)
    have HK6 := hid (Bk.grown HK1.out HL1.out (by decide) HH.out.2.2)
    have HB6 := hid (Below.grown (HB1.out.mono (show B ≤ w.heap.size by omega)) HH.out.2.2 (Nat.le_trans (show B ≤ w.heap.size by omega) HB1.out.size) (fun x hx => Nat.le_trans hBL (World.ownsRow.lt HL1.out x hx).1))
    clear x0 x1 x2 x3 x4 x5 x6 x7 x8 x9 f0 f1 f2 f3 f4 f5 f6 f7 f8 f9
    go_wp2_with fail
    go_end0
    refine ⟨rfl, ⟨u', HH.out.1, ?_, row_put HG6.out hU u', ?_⟩, fun b v L hv hne => ?_, ?_⟩
    · exact Bk.put_other HK6.out HG6.out (by decide) (fun x hx => heap_put w6 g x hx _ _ _ _ _ _ _ _ _ _ _ _ _ _ _ _ _ _ _ _)
    · exact GB.put_other HH.out.2.1 HG6.out (by decide) (below_put (Below.refl g w6) (Nat.le_refl g) _ _ _ _ _ _ _ _ _ _ _ _ _ _ _ _ _ _ _ _) (fun x hx => heap_put w6 g x hx _ _ _ _ _ _ _ _ _ _ _ _ _ _ _ _ _ _ _ _)
    · exact GB.put_other (World.ownsRow.kept (hv.below HB1.out) HH.out.2.2 hne) HG6.out (by decide) (below_put (Below.refl g w6) (Nat.le_refl g) _ _ _ _ _ _ _ _ _ _ _ _ _ _ _ _ _ _ _ _) (fun x hx => heap_put w6 g x hx _ _ _ _ _ _ _ _ _ _ _ _ _ _ _ _ _ _ _ _)
    · exact below_put HB6.out hBg _ _ _ _ _ _ _ _ _ _ _ _ _ _ _ _ _ _ _ _
end Go.Proofs.YtelglcakekgdeaaGreatDoor
namespace Go.Proofs.YtelglcakekgdeaaGreatDoor
set_option linter.unusedVariables false
set_option linter.unusedSimpArgs false
open Go.RowKit Go.Joins

def nN (i : Nat) : Nat := ((frmB i).filter (fun c => c == 110)).length
def nW (i : Nat) : Nat := ((frmB i).filter (fun c => !(c == 110))).length
theorem takeP_shape {s s' : Sd} {sg : UInt8} {r : List UInt8} (h : takeP s sg r = some s') : s'.line = s.line ∧ s'.nums.length = s.nums.length + (if sg == 110 then 1 else 0) ∧ s'.words.length = s.words.length + (if sg == 110 then 0 else 1) ∧ ∀ M, r.length ≤ M → (∀ x ∈ s.words, x.length ≤ M) → ∀ x ∈ s'.words, x.length ≤ M := by
  unfold takeP at h
  split at h
  · rename_i h1
    subst h1
    split at h
    · injection h with h; subst h; simp
    · cases h
  · rename_i h1
    have h2 : (sg == 110) = false := by simpa using h1
    split at h
    · cases h
    · injection h with h; subst h; simp [h2]
      intro M hr hw x hx
      rcases hx with hx | rfl
      · exact hw x hx
      · exact hr
theorem behP_shape : ∀ (sg : List UInt8) (s : Sd) (r : List UInt8) (mo : Bool) (s' : Sd) (m' : Bool), behP sg s r mo = some (s', m') → s'.line = s.line ∧ s'.nums.length = s.nums.length + (sg.filter (fun c => c == 110)).length ∧ s'.words.length = s.words.length + (sg.filter (fun c => !(c == 110))).length ∧ ∀ M, r.length ≤ M → (∀ x ∈ s.words, x.length ≤ M) → ∀ x ∈ s'.words, x.length ≤ M
  | [], s, r, mo, s', m', h => by
    simp only [behP, Option.some.injEq, Prod.mk.injEq] at h
    obtain ⟨rfl, rfl⟩ := h
    simp
  | c :: t, s, r, mo, s', m', h => by
    cases mo with
    | false => simp [behP] at h
    | true =>
      cases ht : takeP s c (cutP c r).1 with
      | none => rw [behP_no ht] at h; cases h
      | some s1 =>
        rw [behP_yes ht] at h
        obtain ⟨a1, a2, a3, a4⟩ := takeP_shape ht
        obtain ⟨b1, b2, b3, b4⟩ := behP_shape t s1 _ _ s' m' h
        have hc := cutP_len c r
        refine ⟨b1.trans a1, ?_, ?_, fun M hr hw => b4 M (by omega) (a4 M (by omega) hw)⟩
        · rw [b2, a2]; cases hcc : (c == 110) <;> simp [hcc, List.filter_cons] <;> omega
        · rw [b3, a3]; cases hcc : (c == 110) <;> simp [hcc, List.filter_cons] <;> omega
theorem hearP_shape {l : List UInt8} {s : Sd} (h : hearP l = some s) : s.line < 14 ∧ s.nums.length = nN s.line ∧ s.words.length = nW s.line ∧ ∀ x ∈ s.words, x.length ≤ l.length := by
  unfold hearP at h
  split at h
  · cases h
  · rename_i i hi
    have h14 := ixI_bounds hi
    split at h
    · rename_i s2 hb
      injection h with h
      subst h
      obtain ⟨a1, a2, a3, a4⟩ := behP_shape _ _ _ _ _ _ hb
      have hc := cutC_len [32] l
      rw [a1, a2, a3]
      exact ⟨h14, by simp [nN], by simp [nW], a4 l.length hc.2 (by simp)⟩
    · cases h
theorem gb_grown {w w' : World} {row : Option Nat} (hb : Below w.heap.size w w') : w.grownBy w' row := ⟨hb.os, hb.tape, hb.output, hb.size, fun k hk _ => hb.block k hk⟩
set_option maxHeartbeats 1000000 in
theorem withR_any (s : Sd) (hl : s.line ∈ [2, 3, 4, 5, 6, 7, 8, 9, 10, 11, 12]) (hn : s.nums.length = nN s.line) (hw : s.words.length = nW s.line) (A1 : Option Addr) (n1 c1 : Nat) (A2 : Option Addr) (n2 c2 : Nat) (h1 : n1 = s.nums.length) (h2 : n2 = s.words.length) (u : Ru) (bL : Nat) (w : World) (g1 : GX encI 1 w (· < w.heap.size) A1 s.nums) (g2 : GX encS 1 w (· < w.heap.size) A2 s.words) (hbL : bL ≤ w.heap.size) (hL : GB encP 3 83 w bL (.slice u.xa u.xn u.xc) u.ps) (h5 : u.ps.length ≤ 5000) :
    Calls Tryz.prog 79 #[.agg #[.int .i64 u.rank, .slice u.xa u.xn u.xc, .string (bs u.tg), .int .i64 u.ap, .int .i64 u.st, .int .i64 u.dp, .int .i64 u.dt, .int .i64 u.mp, .string (bs u.mi), .int .i64 u.sm], .agg #[.int .i64 s.line, .slice A1 n1 c1, .slice A2 n2 c2]] w fun e w' => WithR bL u (withP u.sem s) w e w' := by
  have pred : s.line ∈ [2, 3, 4, 5, 6, 7] → s.words.length = (if s.line = 6 then 2 else 1) → withP u.sem s = (⟨u.rank, u.ps ++ [predP s], u.tg, u.ap, u.st, u.dp, u.dt, u.mp, u.mi, u.sm⟩ : Rs) → Calls Tryz.prog 79 #[.agg #[.int .i64 u.rank, .slice u.xa u.xn u.xc, .string (bs u.tg), .int .i64 u.ap, .int .i64 u.st, .int .i64 u.dp, .int .i64 u.dt, .int .i64 u.mp, .string (bs u.mi), .int .i64 u.sm], .agg #[.int .i64 s.line, .slice A1 n1 c1, .slice A2 n2 c2]] w fun e w' => WithR bL u (withP u.sem s) w e w' := fun m1 m2 m3 => by
    have hr : 2 ≤ (s.line : Int) ∧ (s.line : Int) ≤ 7 := by
      simp only [List.mem_cons, List.mem_nil_iff, or_false] at m1; omega
    refine (with_p s.line hr.1 hr.2 u (predP s) A1 n1 c1 A2 n2 c2 w bL hbL hL h5 (hid fun w2 hb => predOf_any s A1 n1 c1 A2 n2 c2 w2 m1 m2 h2 (g2.up hb))).mono ?_
    rintro e w' ⟨⟨xa, xn, xc, rfl, hg⟩, hgr⟩
    exact ⟨⟨u.rank, xa, xn, xc, u.ps ++ [predP s], u.tg, u.ap, u.st, u.dp, u.dt, u.mp, u.mi, u.sm⟩, rfl, m3.symm, hg, hgr⟩
  obtain ⟨line, nums, words⟩ := s
  simp only at hl hn hw h1 h2 g1 g2 pred ⊢
  subst h1 h2
  simp only [List.mem_cons, List.mem_nil_iff, or_false] at hl
  rcases hl with rfl | rfl | rfl | rfl | rfl | rfl | rfl | rfl | rfl | rfl | rfl
  · exact pred (by simp) (by rw [hw]; rfl) rfl
  · exact pred (by simp) (by rw [hw]; rfl) rfl
  · exact pred (by simp) (by rw [hw]; rfl) rfl
  · exact pred (by simp) (by rw [hw]; rfl) rfl
  · exact pred (by simp) (by rw [hw]; rfl) rfl
  · exact pred (by simp) (by rw [hw]; rfl) rfl
  · match words, (hw.trans (show nW 8 = 1 from by decide)), g2 with
    | [x], _, g2 =>
      obtain ⟨b, o, rfl, -⟩ := g2 0 (by simp)
      refine (with_8 u.rank u.xa u.xn u.xc u.tg u.ap u.st u.dp u.dt u.mp u.mi u.sm b o c2 A1 nums.length c1 x w (gxS_cell g2 (i := 0) (by simp))).mono ?_
      rintro e w' ⟨rfl, hb⟩
      exact ⟨⟨u.rank, u.xa, u.xn, u.xc, u.ps, x, u.ap, u.st, u.dp, u.dt, u.mp, u.mi, u.sm⟩, rfl, rfl, hL.below hb, gb_grown hb⟩
  · match nums, (hn.trans (show nN 9 = 2 from by decide)), g1 with
    | [i, j], _, g1 =>
      obtain ⟨b, o, rfl, -⟩ := g1 0 (by simp)
      refine (with_9 u.rank u.xa u.xn u.xc u.tg u.ap u.st u.dp u.dt u.mp u.mi u.sm b o c1 A2 words.length c2 i j w (gxI_cell g1 (i := 0) (by simp)) (gxI_cell g1 (i := 1) (by simp))).mono ?_
      rintro e w' ⟨rfl, hb⟩
      exact ⟨⟨u.rank, u.xa, u.xn, u.xc, u.ps, u.tg, i, j, u.dp, u.dt, u.mp, u.mi, u.sm⟩, rfl, rfl, hL.below hb, gb_grown hb⟩
  · match nums, (hn.trans (show nN 10 = 2 from by decide)), g1 with
    | [i, j], _, g1 =>
      obtain ⟨b, o, rfl, -⟩ := g1 0 (by simp)
      refine (with_10 u.rank u.xa u.xn u.xc u.tg u.ap u.st u.dp u.dt u.mp u.mi u.sm b o c1 A2 words.length c2 i j w (gxI_cell g1 (i := 0) (by simp)) (gxI_cell g1 (i := 1) (by simp))).mono ?_
      rintro e w' ⟨rfl, hb⟩
      exact ⟨⟨u.rank, u.xa, u.xn, u.xc, u.ps, u.tg, u.ap, u.st, i, j, u.mp, u.mi, u.sm⟩, rfl, rfl, hL.below hb, gb_grown hb⟩
  · match nums, (hn.trans (show nN 11 = 1 from by decide)), g1, words, (hw.trans (show nW 11 = 1 from by decide)), g2 with
    | [i], _, g1, [x], _, g2 =>
      obtain ⟨b, o, rfl, -⟩ := g1 0 (by simp)
      obtain ⟨b2, o2, rfl, -⟩ := g2 0 (by simp)
      refine (with_11 u.rank u.xa u.xn u.xc u.tg u.ap u.st u.dp u.dt u.mp u.mi u.sm b o c1 b2 o2 c2 i x w (gxI_cell g1 (i := 0) (by simp)) (gxS_cell g2 (i := 0) (by simp))).mono ?_
      rintro e w' ⟨rfl, hb⟩
      exact ⟨⟨u.rank, u.xa, u.xn, u.xc, u.ps, u.tg, u.ap, u.st, u.dp, u.dt, i, x, u.sm⟩, rfl, rfl, hL.below hb, gb_grown hb⟩
  · match nums, (hn.trans (show nN 12 = 1 from by decide)), g1 with
    | [i], _, g1 =>
      obtain ⟨b, o, rfl, -⟩ := g1 0 (by simp)
      refine (with_12 u.rank u.xa u.xn u.xc u.tg u.ap u.st u.dp u.dt u.mp u.mi u.sm b o c1 A2 words.length c2 i w (gxI_cell g1 (i := 0) (by simp))).mono ?_
      rintro e w' ⟨rfl, hb⟩
      exact ⟨⟨u.rank, u.xa, u.xn, u.xc, u.ps, u.tg, u.ap, u.st, u.dp, u.dt, u.mp, u.mi, i⟩, rfl, rfl, hL.below hb, gb_grown hb⟩
/-- The rules' predicates: rows of the call's own; the last one's lies behind the others'. -/
def RU (w : World) (B bL : Nat) (U : List Ru) : Prop := B ≤ bL ∧ bL ≤ w.heap.size ∧ (∀ u ∈ U.dropLast, GB encP 3 83 w B (.slice u.xa u.xn u.xc) u.ps ∧ ∀ g, (Value.slice u.xa u.xn u.xc).ownBlock = some g → g < bL) ∧ ∀ u, U.getLast? = some u → GB encP 3 83 w bL (.slice u.xa u.xn u.xc) u.ps
/-- The reader, and what it has read. -/
def RI (w : World) (B rb : Nat) (rest : List UInt8) (num last : Int) (f : List UInt8) (U : List Ru) : Prop := B ≤ rb ∧ ∃ A n c bL, RB w rb rest num last (.slice A n c) f ∧ GB encR 10 72 w B (.slice A n c) U ∧ RU w B bL U
theorem RU.up {w w' : World} {B bL : Nat} {U : List Ru} (h : RU w B bL U) (hk : Keeps w w') (hs : w.heap.size ≤ w'.heap.size) : RU w' B bL U := by
  obtain ⟨h1, h2, h3, h4⟩ := h
  exact ⟨h1, Nat.le_trans h2 hs, fun u hu => ⟨hk _ _ _ (h3 u hu).1, (h3 u hu).2⟩, fun u hu => hk _ _ _ (h4 u hu)⟩
theorem RI.up {w w' : World} {B rb : Nat} {rest f : List UInt8} {num last : Int} {U : List Ru} (h : RI w B rb rest num last f U) (hb : Below w.heap.size w w') : RI w' B rb rest num last f U := by
  obtain ⟨h0, A, n, c, bL, h1, h2, h3⟩ := h
  exact ⟨h0, A, n, c, bL, h1.up hb, h2.below hb, h3.up (Keeps.below hb) hb.size⟩
/-- Every rule's predicates, as rows of the call's own. -/
theorem RU.all {w : World} {B bL : Nat} {U : List Ru} (h : RU w B bL U) : ∀ u ∈ U, GB encP 3 83 w B (.slice u.xa u.xn u.xc) u.ps := fun u hu => by
  obtain ⟨h1, -, h3, h4⟩ := h
  by_cases hne : U = []
  · subst hne; cases hu
  · rw [← List.dropLast_concat_getLast hne] at hu
    rcases List.mem_append.1 hu with hu | hu
    · exact (h3 u hu).1
    · have e : u = U.getLast hne := by simpa using hu
      subst e
      exact (h4 _ (List.getLast?_eq_some_getLast hne)).more h1
end Go.Proofs.YtelglcakekgdeaaGreatDoor
namespace Go.Proofs.YtelglcakekgdeaaGreatDoor
set_option linter.unusedVariables false
set_option linter.unusedSimpArgs false
open Go.RowKit Go.Joins

theorem keep_any (B rb : Nat) (s : Sd) (h14 : s.line < 14) (hn : s.nums.length = nN s.line) (hw : s.words.length = nW s.line) (A1 : Option Addr) (n1 c1 : Nat) (A2 : Option Addr) (n2 c2 : Nat) (h1 : n1 = s.nums.length) (h2 : n2 = s.words.length) (rest f : List UInt8) (num last : Int) (U : List Ru) (w : World) (g1 : GX encI 1 w (· < w.heap.size) A1 s.nums) (g2 : GX encS 1 w (· < w.heap.size) A2 s.words) (hR : RI w B rb rest num last f U) (hU5 : U.length ≤ 5000) (hps : ∀ u ∈ U, u.ps.length ≤ 5000) (hne : s.line ≠ 0 → s.line ≠ 1 → s.line ≠ 13 → U ≠ []) :
    Calls Tryz.prog 61 #[.pointer (some ⟨rb, 0, none⟩), .agg #[.int .i64 s.line, .slice A1 n1 c1, .slice A2 n2 c2]] w fun e w' => e = .returned (.tuple #[]) ∧ (∃ f' U', RI w' B rb rest num last f' U' ∧ (f', U'.map Ru.sem) = keepP f (U.map Ru.sem) s) ∧ Below B w w' := by
  obtain ⟨hB, A, n, c, bL, hk, hg, hru⟩ := hR
  have hrl := Bk.lt hk
  have hBw : B ≤ w.heap.size := by omega
  by_cases l0 : s.line = 0
  · obtain ⟨line, nums, words⟩ := s
    simp only at l0 hn hw h1 h2 g1 g2 ⊢
    subst l0 h1 h2
    match words, (hw.trans (show nW 0 = 1 from by decide)), g2 with
    | [x], _, g2 =>
      obtain ⟨b, o, rfl, -⟩ := g2 0 (by simp)
      refine (keep_0 rb b o x A1 nums.length c1 c2 rest f num last _ w hk ⟨A, n, c, rfl⟩ (gxS_cell g2 (i := 0) (by simp))).mono ?_
      rintro e w' ⟨rfl, rfl⟩
      have hsz : B ≤ (w.setCell ⟨rb, 4, none⟩ (.string (bs x))).heap.size := by rw [World.size_setCell]; exact hBw
      have hal := enew (w.setCell ⟨rb, 4, none⟩ (.string (bs x))) (.cells #[.int .i64 0, .slice A1 nums.length c1, .slice (some ⟨b, o, none⟩) 1 c2] 101)
      refine ⟨rfl, ⟨x, U, ⟨hB, A, n, c, bL, ?_, ?_, ?_⟩, rfl⟩, ((Below.refl B w).setCell hB _).alloc hsz _⟩
      · have h : RB (w.setCell ⟨rb, 4, none⟩ (.string (bs x))) rb rest num last (.slice A n c) x := Bk.set_ hk 4 _
        exact h.up hal
      · exact (hg.set hk (by decide) 4 _).below hal
      · exact hru.up ((Keeps.set hk (by decide) 4 _).trans (Keeps.below hal)) (Nat.le_trans (by rw [World.size_setCell]; exact Nat.le_refl _) hal.size)
  by_cases l1 : s.line = 1
  · obtain ⟨line, nums, words⟩ := s
    simp only at l1 hn hw h1 h2 g1 g2 ⊢
    subst l1 h1 h2
    match nums, (hn.trans (show nN 1 = 1 from by decide)), g1 with
    | [m], _, g1 =>
      obtain ⟨b, o, rfl, -⟩ := g1 0 (by simp)
      refine (keep_1 B rb b o m c1 A2 words.length c2 rest f num last _ U w hB hk hg hU5 (gxI_cell g1 (i := 0) (by simp))).mono ?_
      rintro e w' ⟨rfl, ⟨A', n', c', hk', hg'⟩, hkp, hbl⟩
      refine ⟨rfl, ⟨f, U ++ [ru1 m], ⟨hB, A', n', c', w.heap.size, hk', hg', hBw, hbl.size, fun u hu => ?_, fun u hu => ?_⟩, ?_⟩, hbl⟩
      · rw [List.dropLast_concat] at hu
        have hgu := hru.all u hu
        exact ⟨hkp _ _ _ hgu, fun g hgg => (World.ownsRow.lt hgu g hgg).2⟩
      · have e : u = ru1 m := by simpa using hu.symm
        subst e
        exact GB.nil _ _
      · rw [List.map_append]; rfl
  by_cases l13 : s.line = 13
  · obtain ⟨line, nums, words⟩ := s
    simp only at l13 hn hw h1 h2 g1 g2 ⊢
    subst l13 h1 h2
    refine (keep_13 rb A1 nums.length c1 A2 words.length c2 rest f num last _ w hk ⟨A, n, c, rfl⟩).mono ?_
    rintro e w' ⟨rfl, rfl⟩
    have hal := enew w (.cells #[.int .i64 13, .slice A1 nums.length c1, .slice A2 words.length c2] 101)
    have hri : RI w B rb rest num last f U := ⟨hB, A, n, c, bL, hk, hg, hru⟩
    exact ⟨rfl, ⟨f, U, hri.up hal, rfl⟩, hal.mono hBw⟩
  · have hUne := hne l0 l1 l13
    obtain ⟨U0, u, rfl⟩ : ∃ U0 u, U = U0 ++ [u] := ⟨U.dropLast, U.getLast hUne, (List.dropLast_concat_getLast hUne).symm⟩
    rcases GB.form encR_len hg with ⟨-, e⟩ | ⟨g, cap, e, hBg, -, -, -, -⟩
    · exact absurd e (by simp)
    have hl : (U0 ++ [u]).length = U0.length + 1 := by simp
    rw [hl] at e hU5
    rw [e] at hk hg
    have hLu := hru.2.2.2 u (by simp)
    have hmem : s.line ∈ [2, 3, 4, 5, 6, 7, 8, 9, 10, 11, 12] := by
      simp only [List.mem_cons, List.mem_nil_iff, or_false]; omega
    refine (keep_w B rb bL g cap U0.length s.line (by omega) (by omega) (by omega) A1 n1 c1 A2 n2 c2 rest f num last U0 u (withP u.sem s) w hB hru.1 hBg hk hg rfl (by omega) hLu (hid fun w2 hb => withR_any s hmem hn hw A1 n1 c1 A2 n2 c2 h1 h2 u bL w2 (g1.up hb) (g2.up hb) (Nat.le_trans hru.2.1 hb.size) (hLu.below hb) (hps u (by simp)))).mono ?_
    rintro e' w' ⟨rfl, ⟨u', hsem, hk', hg', hl'⟩, hkeep, hbl⟩
    refine ⟨rfl, ⟨f, U0 ++ [u'], ⟨hB, _, _, _, bL, hk', hg', hru.1, ?_, fun x hx => ?_, fun x hx => ?_⟩, ?_⟩, hbl⟩
    · exact Nat.le_trans hru.2.1 hbl.size
    · rw [List.dropLast_concat] at hx
      have h3 := hru.2.2.1 x (by rw [List.dropLast_concat]; exact hx)
      refine ⟨hkeep _ _ _ h3.1 ?_, h3.2⟩
      rcases ho : (Value.slice x.xa x.xn x.xc).ownBlock with _ | gx
      · exact Or.inl rfl
      · refine Or.inr fun he => ?_
        have a1 := h3.2 gx ho
        have a2 := (World.ownsRow.lt hLu gx he.symm).1
        omega
    · have e9 : x = u' := by simpa using hx.symm
      subst e9
      exact hl'
    · rw [List.map_append, List.map_append, keepP, if_neg l0, if_neg l1, if_neg l13, keepU]
      simp [hsem]
def stepP (rest : List UInt8) (last : Int) (f : List UInt8) (U : List Rs) : Option (List UInt8 × Nat × List UInt8 × List Rs) :=
  if (cutS [10] rest).2.2 = false then none else match hearP (cutS [10] rest).1 with
    | none => none
    | some s => if folP s.line last = false then none else some ((cutS [10] rest).2.1, s.line, keepP f U s)
/-- What line leaves. -/
def LineR (B rb : Nat) (rest : List UInt8) (num last : Int) (f : List UInt8) (U : List Ru) (w' : World) : Option (List UInt8 × Nat × List UInt8 × List Rs) → Prop
  | none => RI w' B rb rest num last f U
  | some (r, ln, g) => ∃ U', RI w' B rb r num ln g.1 U' ∧ U'.map Ru.sem = g.2
theorem RI.set {w : World} {B rb : Nat} {rest f : List UInt8} {num last : Int} {U : List Ru} (h : RI w B rb rest num last f U) (r : List UInt8) (l : Int) : RI ((w.setCell ⟨rb, 0, none⟩ (.string (bs r))).setCell ⟨rb, 2, none⟩ (.int .i64 l)) B rb r num l f U := by
  obtain ⟨hB, A, n, c, bL, hk, hg, hru⟩ := h
  have k1 := Bk.set_ hk 0 (.string (bs r))
  have k2 : RB ((w.setCell ⟨rb, 0, none⟩ (.string (bs r))).setCell ⟨rb, 2, none⟩ (.int .i64 l)) rb r num l (.slice A n c) f := k1.set_ 2 (.int .i64 l)
  exact ⟨hB, A, n, c, bL, k2, (hg.set hk (by decide) 0 _).set k1 (by decide) 2 _, hru.up ((Keeps.set hk (by decide) 0 _).trans (Keeps.set k1 (by decide) 2 _)) (by rw [World.size_setCell, World.size_setCell]; exact Nat.le_refl _)⟩
end Go.Proofs.YtelglcakekgdeaaGreatDoor
namespace Go.Proofs.YtelglcakekgdeaaGreatDoor
set_option linter.unusedVariables false
set_option linter.unusedSimpArgs false
open Go.RowKit Go.Joins

theorem stepP_a {rest : List UInt8} {last : Int} {f : List UInt8} {U : List Rs} (h : (cutS [10] rest).2.2 = false) : stepP rest last f U = none := by rw [stepP, if_pos h]
theorem stepP_b {rest : List UInt8} {last : Int} {f : List UInt8} {U : List Rs} (h : hearP (cutS [10] rest).1 = none) : stepP rest last f U = none := by
  rw [stepP]; split
  · rfl
  · rw [h]
theorem stepP_c {rest : List UInt8} {last : Int} {f : List UInt8} {U : List Rs} {s : Sd} (h : hearP (cutS [10] rest).1 = some s) (h2 : folP s.line last = false) : stepP rest last f U = none := by
  rw [stepP]; split
  · rfl
  · rw [h]; simp [h2]
theorem stepP_d {rest : List UInt8} {last : Int} {f : List UInt8} {U : List Rs} {s : Sd} (h0 : (cutS [10] rest).2.2 = true) (h : hearP (cutS [10] rest).1 = some s) (h2 : folP s.line last = true) : stepP rest last f U = some ((cutS [10] rest).2.1, s.line, keepP f U s) := by
  rw [stepP, if_neg (by rw [h0]; simp), h]
  simp [h2]
set_option maxRecDepth 100000 in
set_option maxHeartbeats 8000000 in
theorem line_any (B rb : Nat) (rest f : List UInt8) (num last : Int) (U : List Ru) (w : World) (E : EnvC w) (hB : B ≤ w.heap.size) (hR : RI w B rb rest num last f U) (hl : rest.length ≤ 100000) (hU5 : U.length ≤ 5000) (hps : ∀ u ∈ U, u.ps.length ≤ 5000) (hne : ∀ s : Sd, folP s.line last = true → s.line < 14 → s.line ≠ 0 → s.line ≠ 1 → s.line ≠ 13 → U ≠ []) {z : Option (List UInt8 × Nat × List UInt8 × List Rs)} (H : Hid (stepP rest last f (U.map Ru.sem) = z)) :
    Calls Tryz.prog 46 #[.pointer (some ⟨rb, 0, none⟩)] w fun e w' => e = .returned (.bool z.isSome) ∧ LineR B rb rest num last f U w' z ∧ Below B w w' := by
  have hnot := enot
  have c1 : (ByteArray.mk #[10]) = bs [10] := rfl
  have HR := hid hR
  obtain ⟨-, A, n, c, bL, hk, -, -⟩ := hR
  obtain ⟨q0, q1, q2, q3, q4⟩ := RB.cells hk
  have hrl := Bk.lt hk
  have HL := hid (lib_cut rest [10] (by simp) hl w E.1)
  have HE := hid E
  have HA := hid (fun h => stepP_a (rest := rest) (last := last) (f := f) (U := U.map Ru.sem) h)
  have HBB := hid (fun h => stepP_b (rest := rest) (last := last) (f := f) (U := U.map Ru.sem) h)
  have HC := hid (fun (s : Sd) h h2 => stepP_c (rest := rest) (last := last) (f := f) (U := U.map Ru.sem) (s := s) h h2)
  have HD := hid (fun (s : Sd) h0 h h2 => stepP_d (rest := rest) (last := last) (f := f) (U := U.map Ru.sem) (s := s) h0 h h2)
  have hcl := cutC_len [10] rest
  rw [H.out] at HA HBB HC HD
  have HNE := hid hne
  have HPS := hid hps
  clear hk E H hne hps
  generalize cutS [10] rest = cc at *
  obtain ⟨t, r, en⟩ := cc
  simp only at HA HBB HC HD hcl HL
  obtain ⟨hcl1, hcl2⟩ := hcl
  obtain ⟨zh, hzh⟩ : ∃ zh, hearP t = zh := ⟨_, rfl⟩
  have HH := hid (fun w2 (e : EnvC w2) => hear_any t w2 e (by omega) (hid hzh))
  have HZH := hid hzh
  rw [hzh] at HBB HC HD
  clear hzh
  go_enter Tryz.func46, Tryz.ntmps46
  go_wp2_with fail
  refine HL.out.mono ?_
  rintro e w1 ⟨rfl, hb1⟩
  have HB1 := hid hb1
  clear hb1 q0 q1 q2 q3 q4
  go_wp2_with fail
  refine (HH.out _ (HE.out.up HB1.out)).mono ?_
  rintro e w2 ⟨⟨ln, A1, n1, c1', A2, n2, c2', rfl, ho⟩, hb2⟩
  have HO' := hid ho
  have hb3 := enew w2 (.cells #[.int .i64 ln, .slice A1 n1 c1', .slice A2 n2 c2'] 101)
  have hs3 := BS.new w2 ln (.slice A1 n1 c1') (.slice A2 n2 c2')
  have HB3 := hid (estep HB1.out (estep hb2 hb3))
  have hrb2 : rb < w2.heap.size := Nat.lt_of_lt_of_le hrl (Nat.le_trans HB1.out.size hb2.size)
  have hrw1 : rb < w1.heap.size := Nat.lt_of_lt_of_le hrl HB1.out.size
  have HGX := hid (fun (s : Sd) (h : zh = some s) => And.intro (((HO'.out s h).2.2.2.1.same (fun b hb => hb3.block b hb.2)).imp (M := fun b => rb < b ∧ b < (w2.alloc (.cells #[.int .i64 ln, .slice A1 n1 c1', .slice A2 n2 c2'] 101)).heap.size) (fun b hb => ⟨Nat.lt_of_lt_of_le hrw1 hb.1, Nat.lt_of_lt_of_le hb.2 hb3.size⟩)) (((HO'.out s h).2.2.2.2.same (fun b hb => hb3.block b hb.2)).imp (M := fun b => rb < b ∧ b < (w2.alloc (.cells #[.int .i64 ln, .slice A1 n1 c1', .slice A2 n2 c2'] 101)).heap.size) (fun b hb => ⟨Nat.lt_of_lt_of_le hrw1 hb.1, Nat.lt_of_lt_of_le hb.2 hb3.size⟩)))
  clear ho hb2 hb3
  obtain ⟨gs, hgs⟩ : ∃ g, w2.heap.size = g := ⟨_, rfl⟩
  go_upto_region 3 with (fail)
  generalize w2.alloc (.cells #[.int .i64 ln, .slice A1 n1 c1', .slice A2 n2 c2'] 101) = v3 at *
  rw [hgs] at hs3 hrb2
  try rw [hgs]
  have hn1 : ¬ rb = gs := by omega
  have hn2 : ¬ gs = rb := by omega
  clear hgs
  have HS3 := hid hs3
  have HR3 := hid (HR.out.up HB3.out)
  obtain ⟨-, A', n', c', bL', hk3, -, -⟩ := id HR3.out
  obtain ⟨q0, q1, q2, q3, q4⟩ := RB.cells hk3
  obtain ⟨s0, s1, s2⟩ := BS.cells hs3
  have S0 := BW.cell s0
  have Q2 := BW.cell q2
  clear q0 q1 q2 q3 q4 s0 s1 s2 hk3 hs3
  cases en
  · have HZ := hid (show z = none from (HA.out rfl).symm ▸ rfl)
    refine wp_region_bw (by kernel_rfl) (by kernel_rfl) ?_
    repeat (go_big_quiet_step (fail))
    refine wpQuiet_nil ?_
    rintro _ ⟨pq, rfl⟩
    clear S0 Q2
    have HQ := hid pq.h
    go_wp2_with fail
    go_returns
    rw [HZ.out]
    exact ⟨rfl, HR3.out.up HQ.out, (estep HB3.out HQ.out).mono hB⟩
  cases zh with
  | none =>
    have HZ := hid (show z = none from (HBB.out rfl).symm ▸ rfl)
    refine wp_region_bw (by kernel_rfl) (by kernel_rfl) ?_
    repeat (go_big_quiet_step (fail))
    refine wpQuiet_nil ?_
    rintro _ ⟨pq, rfl⟩
    clear S0 Q2
    have HQ := hid pq.h
    go_wp2_with fail
    go_returns
    rw [HZ.out]
    exact ⟨rfl, HR3.out.up HQ.out, (estep HB3.out HQ.out).mono hB⟩
  | some s =>
    obtain ⟨h14, hn, hw, -⟩ := hearP_shape HZH.out
    have HSH := hid (And.intro h14 (And.intro hn hw))
    obtain ⟨el, e1, e2, -, -⟩ := HO'.out s rfl
    have HEL := hid (And.intro el (And.intro e1 e2))
    obtain ⟨zf, hzf⟩ : ∃ b, folP s.line last = b := ⟨_, rfl⟩
    have HF := hid (fun w2 => follows_any s.line ln last el (by omega) w2)
    rw [hzf] at HF
    have HZF := hid hzf
    clear hzf el e1 e2 hn hw
    refine wp_region_bw (by kernel_rfl) (by kernel_rfl) ?_
    repeat (go_big_quiet_step ((go_at_call 60; exact calls_bw (HF.out _))))
    refine wpQuiet_nil ?_
    rintro _ ⟨pq, rfl⟩
    clear S0 Q2
    have HQ := hid pq.h
    obtain ⟨v4, hv4⟩ : ∃ v, pq.w = v := ⟨_, rfl⟩
    rw [hv4] at HQ ⊢
    clear hv4
    cases zf
    · have HZ := hid (show z = none from (HC.out s rfl HZF.out).symm ▸ rfl)
      go_wp2_with fail
      go_returns
      rw [HZ.out]
      exact ⟨rfl, HR3.out.up HQ.out, (estep HB3.out HQ.out).mono hB⟩
    · have HZ := hid (show z = some (r, s.line, keepP f (U.map Ru.sem) s) from (HD.out s rfl rfl HZF.out).symm ▸ rfl)
      have HR4 := hid (HR3.out.up HQ.out)
      obtain ⟨-, A5, n5, c5, bL5, hk5, -, -⟩ := id HR4.out
      obtain ⟨q0, q1, q2, q3, q4⟩ := RB.cells hk5
      obtain ⟨s0, s1, s2⟩ := BS.cells (HS3.out.up HQ.out)
      have f0 := Bk.frozen hk5 0
      have f2 := Bk.frozen hk5 2
      have HR5 := hid (RI.set HR4.out r ln)
      have hsz : ((v4.setCell ⟨rb, 0, none⟩ (.string (bs r))).setCell ⟨rb, 2, none⟩ (.int .i64 ln)).heap.size = v4.heap.size := by rw [World.size_setCell, World.size_setCell]
      have hsl : ∀ b, rb < b ∧ b < v3.heap.size → ((v4.setCell ⟨rb, 0, none⟩ (.string (bs r))).setCell ⟨rb, 2, none⟩ (.int .i64 ln)).heap[b]? = v3.heap[b]? := fun b hb => by
        rw [Below.heap_setCell _ _ _ _ (by simp; omega), Below.heap_setCell _ _ _ _ (by simp; omega)]
        exact HQ.out.block b hb.2
      have hgx := HGX.out s rfl
      have hsz2 := HQ.out.size
      have HK := hid (keep_any B rb s HSH.out.1 HSH.out.2.1 HSH.out.2.2 A1 n1 c1' A2 n2 c2' HEL.out.2.1 HEL.out.2.2 r f num ln U _ ((hgx.1.same hsl).imp fun b hb => by rw [hsz]; exact Nat.lt_of_lt_of_le hb.2 hsz2) ((hgx.2.same hsl).imp fun b hb => by rw [hsz]; exact Nat.lt_of_lt_of_le hb.2 hsz2) HR5.out hU5 HPS.out (fun x y z => HNE.out s HZF.out HSH.out.1 x y z))
      rw [← HEL.out.1] at HK
      have HBF := hid ((((estep HB3.out HQ.out).mono hB).setCell HR5.out.1 (p := ⟨rb, 0, none⟩) (.string (bs r))).setCell HR5.out.1 (p := ⟨rb, 2, none⟩) (.int .i64 ln))
      clear hsl hgx hsz2 hsz hk5
      go_wp2_with fail
      refine HK.out.mono ?_
      rintro e w6 ⟨rfl, ⟨f', U', hri, heq⟩, hbl⟩
      have HL6 := hid (show LineR B rb rest num last f U w6 (some (r, s.line, keepP f (U.map Ru.sem) s)) from ⟨U', by rw [← heq, ← HEL.out.1]; exact hri, by rw [← heq]⟩)
      have HB6 := hid (HBF.out.trans hbl)
      clear hri heq hbl
      go_wp2_with fail
      go_returns
      rw [HZ.out]
      exact ⟨rfl, HL6.out, HB6.out⟩
end Go.Proofs.YtelglcakekgdeaaGreatDoor
