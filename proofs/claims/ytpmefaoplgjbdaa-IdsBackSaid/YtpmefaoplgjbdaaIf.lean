import Derived.Test.YtpmefaoplgjbdaaId
import Derived.OpenShut
import Derived.Test.YtpmefaoplgjbdaaSo
namespace Go.Proofs.Ytpmefaoplgjbdaa
set_option linter.unusedVariables false
set_option linter.unusedSimpArgs false
open Go.RowKit Go.Maps

/-- A slice of numbers, as a value. -/
def NX (w : World) (N : Nat → Prop) (v : Value) (L : List Nat) : Prop :=
  ∃ A cap, v = .slice A L.length cap ∧ NReads w N A L ∧ L.length ≤ 140737488351232 ∧ ∀ x ∈ L, x < 18446744073709551616
theorem open_NX {H : Type} {enc : TypeId × Value → H} {P : Program} {w : World} {base : Nat} {t e : TypeId} {A : Option Addr} {n c : Nat} {d : DataW H} {p : List MemPlace} (ht : P.underlying t = some (.slice e)) (he : P.underlying e = some (.int .u64)) (hc : P.cellsOf e = 1) (hb8 : P.bytesOf e = 8) (hz : Sized P t d)
    (h : DataW.Trod enc P w base (fun _ => true) true t (.slice A n c) d p) : ∃ L : List Nat, NX w (· < w.heap.size) (.slice A n c) L := by
  obtain ⟨L, rfl, h1, h2, h3⟩ := open_NX0 ht he hc hb8 hz h
  exact ⟨L, A, c, rfl, h1, h2, h3⟩
set_option maxRecDepth 100000 in
set_option maxHeartbeats 4000000 in
theorem idsDrawn_walk (v : Value) (L : List Nat) (n : Int) (hn : (Lit.int .i64 n).wf = true) (w : World) (hv : NX w (· < w.heap.size) v L) :
    Calls Try.prog 4 #[v, .int .i64 n] w fun e w' => e = .returned (.bool true) ∧ Below w.heap.size w w' := by
  obtain ⟨hn1, hn2⟩ := bounds_i64 hn
  obtain ⟨A, cap, rfl, hR, hl, hL⟩ := hv
  have HR := hid hR
  have HL := hid hL
  clear hR hL hn
  by_cases h : 60 < L.length ∨ 200 < n
  · have H := hid h
    have h1 : ∀ b : Bool, decide (60 < L.length) = b → True := fun _ _ => trivial
    go_enter Try.func4, Try.ntmps4
    rcases h with h | h
    · have hd : (60 : Int) < (L.length : Int) := by omega
      go_wp2_with fail
      refine (known6_any _).mono ?_
      rintro e w1 ⟨rfl, hb1⟩
      go_wp2_with fail
      go_ret
      exact ⟨rfl, hb1⟩
    · by_cases hd : (60 : Int) < (L.length : Int)
      all_goals
        go_wp2_with fail
        refine (known6_any _).mono ?_
        rintro e w1 ⟨rfl, hb1⟩
        go_wp2_with fail
        go_ret
        exact ⟨rfl, hb1⟩
  · have hd1 : ¬ (60 : Int) < (L.length : Int) := by omega
    have hd2 : ¬ (200 : Int) < n := by omega
    clear h
    go_enter Try.func4, Try.ntmps4
    go_wp2_with fail
    refine (at_any A cap L n _ _ HR.out hl ⟨hn1, hn2⟩).mono ?_
    rintro e w1 ⟨rfl, rfl⟩
    go_wp2_with fail
    refine (rat_any A cap L n _ _ HR.out hl ⟨hn1, hn2⟩).mono ?_
    rintro e w1 ⟨rfl, rfl⟩
    go_wp2_with fail
    refine (distinct_any A cap L n _ HR.out hl HL.out ⟨hn1, hn2⟩).mono ?_
    rintro e w1 ⟨rfl, hb1⟩
    go_wp2_with fail
    refine (rdistinct_any A cap L n _ ((HR.out.below hb1).imp fun b hb => Nat.lt_of_lt_of_le hb hb1.size) hl HL.out ⟨hn1, hn2⟩).mono ?_
    rintro e w2 ⟨rfl, rfl⟩
    go_wp2_with fail
    refine (known6_any _).mono ?_
    rintro e w2 ⟨rfl, hb2⟩
    go_wp2_with fail
    go_ret
    exact ⟨rfl, below_step2 hb1 hb2⟩
end Go.Proofs.Ytpmefaoplgjbdaa
