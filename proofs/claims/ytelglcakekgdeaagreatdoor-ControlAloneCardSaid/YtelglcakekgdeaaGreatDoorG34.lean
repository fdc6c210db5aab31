/- Texts put together: Me. -/
import Derived.Test.YtelglcakekgdeaaGreatDoorG10
import Derived.Lib.SmallJoins
import Derived.Lib.AppendIntMem
namespace Go.Proofs.YtelglcakekgdeaaGreatDoor
set_option linter.unusedVariables false
set_option linter.unusedSimpArgs false
open Go.RowKit Go.Joins

theorem gMax : Tryz.prog.globalNamed "internal/bytealg.MaxLen" = some 1 := by kernel_rfl
theorem gSyn : Tryz.prog.globalNamed "strconv.ErrSyntax" = some 2 := by kernel_rfl
theorem gRng : Tryz.prog.globalNamed "strconv.ErrRange" = some 3 := by kernel_rfl
theorem gPow : Tryz.prog.globalNamed "internal/strconv.uint64pow10" = some 4 := by kernel_rfl
/-- What the library's variables hold, as far as a walk asks. -/
def Env (w : World) : Prop := Lib.TabIs Tryz.prog w "internal/strconv.uint64pow10" .u64 Lib.pow10Tab ∧ (∃ m, w.var? Tryz.prog "internal/bytealg.MaxLen" = some #[.int .i64 m]) ∧
  (∃ tp p, w.var? Tryz.prog "strconv.ErrSyntax" = some #[.iface tp p]) ∧ (∃ tp p, w.var? Tryz.prog "strconv.ErrRange" = some #[.iface tp p])
theorem Env.later {w w' : World} (h : Env w) (hb : Below w.heap.size w w') : Env w' := by
  obtain ⟨h1, ⟨m, h2⟩, ⟨tp, p, h3⟩, ⟨tp2, p2, h4⟩⟩ := h
  exact ⟨tab_stays gPow h1 hb (Nat.le_refl _), ⟨m, var_stays gMax h2 hb (Nat.le_refl _)⟩, ⟨tp, p, var_stays gSyn h3 hb (Nat.le_refl _)⟩, ⟨tp2, p2, var_stays gRng h4 hb (Nat.le_refl _)⟩⟩
theorem lib_itoa (n : Int) (h0 : -9223372036854775808 ≤ n) (h1 : n ≤ 9223372036854775807) (w : World) (E : Env w) :
    Calls Tryz.prog 119 #[.int .i64 n] w fun e w' => e = .returned (.string (bs (Lib.itoa n))) ∧ Below w.heap.size w w' :=
  (Tryz.strconv_Itoa n h0 h1 w E.1).mono fun e w' ⟨a, k, os, b⟩ => ⟨a, by rw [b]; exact Lib.below_grow _ _ (Nat.le_refl _) _ _⟩
theorem lib_cut (s sep : List UInt8) (hs : sep ≠ []) (hl : s.length ≤ 100000) (w : World) (E : Env w) :
    Calls Tryz.prog 58 #[.string (bs s), .string (bs sep)] w fun e w' => e = .returned (.tuple #[.string (bs (cutS sep s).1), .string (bs (cutS sep s).2.1), .bool (cutS sep s).2.2]) ∧ Below w.heap.size w w' := by
  obtain ⟨m, hm⟩ := E.2.1
  refine (Tryz.strings_Cut (bs s) (bs sep) m w (by rw [bs_size]; omega) (by have h0 := World.var?_cell gMax hm 0; simpa using h0)).mono fun e w' ⟨a, n, b⟩ => ⟨?_, by rw [b]; exact below_drewN (Below.refl _ _) _⟩
  rw [a, bs_data, bs_data, cut_eq hs]; rfl
/-- strconv.Atoi: a number, or an error that is not nil. -/
theorem lib_atoi (d : List UInt8) (hl : d.length ≤ 100000) (w : World) (E : Env w) :
    Calls Tryz.prog 107 #[.string (bs d)] w fun e w' => (∃ v r, e = .returned (.tuple #[.int .i64 v, r]) ∧ -9223372036854775808 ≤ v ∧ v ≤ 9223372036854775807 ∧ ((r = .nilIface ∧ Lib.atoiAll d = .ok v) ∨ ((∃ t p, r = .iface t p) ∧ ∀ u, Lib.atoiAll d ≠ .ok u))) ∧ Below w.heap.size w w' := by
  cases h : Lib.atoiAll d with
  | ok v =>
    refine (Tryz.strconv_Atoi_ok (bs d) (by rw [bs_size]; omega) v (by rw [bs_data]; exact h) w).mono fun e w' ⟨a, b⟩ => ⟨⟨v, _, a, (Lib.atoiAll_bounds h).1, (Lib.atoiAll_bounds h).2, Or.inl ⟨rfl, rfl⟩⟩, ?_⟩
    rcases b with b | ⟨t, b⟩
    · rw [b]; exact Below.refl _ _
    · rw [b]; exact below_bytesWorld _ _ _ _ (Nat.le_refl _)
  | range =>
    obtain ⟨tp, p, hv⟩ := E.2.2.2
    refine (Tryz.strconv_Atoi_range_var (bs d) (by rw [bs_size]; omega) (by rw [bs_data]; exact h) tp p w hv).mono fun e w' ⟨N, a, _, _, b⟩ => ⟨⟨_, _, a, ?_, ?_, Or.inr ⟨⟨_, _, rfl⟩, fun u hu => by cases hu⟩⟩, b⟩
    · unfold Lib.atoiSat; split <;> omega
    · unfold Lib.atoiSat; split <;> omega
  | _ =>
    obtain ⟨tp, p, hv⟩ := E.2.2.1
    exact (Any.strconv_Atoi_syntax_var Tryz.laysC172 (bs d) (by rw [bs_size]; omega) (by rw [bs_data]; exact h) tp p w hv).mono fun e w' ⟨N, a, _, _, b⟩ => ⟨⟨0, _, a, by omega, by omega, Or.inr ⟨⟨_, _, rfl⟩, fun u hu => by cases hu⟩⟩, b⟩
end Go.Proofs.YtelglcakekgdeaaGreatDoor
