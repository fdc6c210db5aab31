/- Atomic values and counts; what is changed in one block alone. -/
import Derived.Test.YtldilhbomilcpaaRw
import Derived.Test.YtldilhbomilcpaaEv
import Derived.Tactics2
import Derived.Laws.Pointers
import Derived.Laws.LoneSync
import Derived.WalkSmall
namespace Go.Proofs.Ytldilhbomilcpaa
set_option linter.unusedVariables false
open Go.RowKit

theorem aload_any (a : Addr) (d : Int) (w : World) (h : w.cell? a = some (.int .i64 d)) :
    Calls Try.prog 35 #[.pointer (some a)] w fun e w' => e = .returned (.int .i64 d) ∧ w = w' := by
  have hl := run_call_load (P := Try.prog) Try.func38 (by kernel_rfl) (by kernel_rfl) (by kernel_rfl) .i64 (by kernel_rfl) h
  go_enter Try.func35, Try.ntmps35
  go_wp2
  go_ret
  exact ⟨rfl, rfl⟩
theorem aadd_any (a : Addr) (d y : Int) (w : World) (h : w.cell? a = some (.int .i64 d)) (hz : w.frozen? a = false) (h1 : -9223372036854775808 ≤ d + y) (h2 : d + y ≤ 9223372036854775807) :
    Calls Try.prog 36 #[.pointer (some a), .int .i64 y] w fun e w' => e = .returned (.int .i64 (d + y)) ∧ w' = w.setCell a (.int .i64 (d + y)) := by
  have hadd := run_call_add (P := Try.prog) Try.func39 (by kernel_rfl) (by kernel_rfl) (by kernel_rfl) .i64 (by kernel_rfl) (y := y) (s := d + y) h hz (by simp [go_sem]; exact IntWalk.i64_in _ (by omega))
  go_enter Try.func36, Try.ntmps36
  go_wp2
  go_ret
  exact ⟨rfl, rfl⟩
theorem ncount_any (a : Addr) (x : Int) (w : World) (h : w.cell? a = some (.int .i64 x)) (h1 : -9223372036854775808 ≤ x) (h2 : x ≤ 9223372036854775807) :
    Calls Try.prog 32 #[.pointer (some a)] w fun e w' => e = .returned (.int .i64 x) ∧ w = w' := by
  have H := hid h
  clear h
  go_enter Try.func32, Try.ntmps32
  go_wp2_with fail
  refine (aload_any _ x _ H.out).mono ?_
  rintro e w' ⟨rfl, rfl⟩
  go_wp2
  go_ret
  exact ⟨rfl, rfl⟩
set_option maxRecDepth 100000 in
/-- '(*count.Count).Add', the sum at most MaxCount. -/
theorem nadd_any (a : Addr) (x n : Nat) (w : World) (h : w.cell? a = some (.int .i64 (x : Int))) (hz : w.frozen? a = false) (hx : x + n ≤ 1099511627776) :
    Calls Try.prog 34 #[.pointer (some a), .int .i64 (n : Int)] w fun e w' => e = .returned (.tuple #[]) ∧ w' = w.setCell a (.int .i64 ((x + n : Nat) : Int)) := by
  have H := hid (And.intro h hz)
  have hmin : min (n : Int) 1099511627776 = (n : Int) := by omega
  have hgt : decide ((1099511627776 : Int) < (x : Int) + (n : Int)) = false := decide_eq_false (by omega)
  clear h hz
  go_enter Try.func34, Try.ntmps34
  go_wp2_with fail
  refine (aadd_any a x n w H.out.1 H.out.2 (by omega) (by omega)).mono ?_
  rintro e w' ⟨rfl, rfl⟩
  go_wp2_with fail
  go_end0
  exact ⟨rfl, rfl⟩
theorem astore_any (a : Addr) (x : Value) (y : Int) (w : World) (hc : w.cell? a = some x) (hz : w.frozen? a = false) :
    Calls Try.prog 37 #[.pointer (some a), .int .i64 y] w fun e w' => e = .returned (.tuple #[]) ∧ w' = w.setCell a (.int .i64 y) := by
  have hst := run_call_store (P := Try.prog) Try.func40 (by kernel_rfl) (by kernel_rfl) (by kernel_rfl) (by kernel_rfl) (k := .i64) (y := y) hc hz
  go_enter Try.func37, Try.ntmps37
  go_wp2
  go_end0
  exact ⟨rfl, rfl⟩
theorem Onl.set {g : Nat} {a b : World} (h : Onl g a b) (i : Nat) (u : Value) : Onl g a (b.setCell ⟨g, i, none⟩ u) :=
  h.trans ⟨rfl, rfl, rfl, by simp [World.setCell], fun k _ hn => Below.heap_setCell b ⟨g, i, none⟩ u k hn⟩
theorem Onl.alloc {g : Nat} {a b : World} (h : Onl g a b) (o : Obj) : Onl g a (b.alloc o) :=
  h.trans ⟨rfl, rfl, rfl, by simp, fun k hk _ => Below.heap_alloc b o k hk⟩
theorem Onl.below {g B : Nat} {a b c : World} (h : Below B a b) (o : Onl g b c) (hg : B ≤ g) (hB : B ≤ b.heap.size) : Below B a c :=
  h.trans ⟨o.os, o.tape, o.output, o.size, fun k hk => o.block k (by omega) (by omega)⟩
theorem Onl.up {g : Nat} {a b c : World} (h : Onl g a b) (k : Below b.heap.size b c) : Onl g a c := h.trans (Onl.of_below k (Nat.le_refl _))
end Go.Proofs.Ytldilhbomilcpaa
