/- line: decimal digits of any number: the library's and the definition's. -/
import Derived.Test.YtmejcchkoflciaaDoorGc
import Derived.Test.YtmejcchkoflciaaDoorHg
import Derived.Test.YtmejcchkoflciaaDoorHj
import Derived.Test.YtmejcchkoflciaaDoorShelf
import Derived.Lib.SmallJoins
import Derived.Lib.AppendIntMem
import Derived.Lib.ItoaLen
import Derived.Lib.ItoaMem
namespace Go.Proofs.YtmejcchkoflciaaDoor
set_option linter.unusedVariables false
set_option linter.unusedSimpArgs false
open Go.RowKit Go.Joins

theorem gPowL : Tryd.prog.globalNamed "internal/strconv.uint64pow10" = some 2 := by kernel_rfl
/-- What the library's variable holds, as far as a walk asks. -/
def EnvL (w : World) : Prop := Lib.TabIs Tryd.prog w "internal/strconv.uint64pow10" .u64 Lib.pow10Tab
theorem EnvL.up {w w' : World} (h : EnvL w) (hb : Below w.heap.size w w') : EnvL w' := tab_stays gPowL h hb (Nat.le_refl _)
theorem glib_itoa (n : Int) (h : in64 n) (w : World) (E : EnvL w) :
    Calls Tryd.prog 41 #[.int .i64 n] w fun e w' => e = .returned (.string (bs (Lib.itoa n))) ∧ Below w.heap.size w w' :=
  (Tryd.strconv_Itoa n h.1 h.2 w E).mono fun e w' ⟨a, k, os, b⟩ => ⟨a, by rw [b]; exact Lib.below_grow _ _ (Nat.le_refl _) _ _⟩
theorem decD_len64 {u : Nat} (h : u ≤ 9223372036854775807) : (Lib.decDigits u).length ≤ 21 := by
  have := Lib.itoa_length_le (u : Int) (by omega) (by omega)
  rwa [Lib.itoa_nonneg] at this
set_option maxHeartbeats 800000 in
theorem gdig_one (d : Nat) (w : World) (hd : d ≤ 9) :
    Calls Tryd.prog 44 #[.int .i64 (d : Int)] w fun e w' => e = .returned (.string (bs [UInt8.ofNat (48 + d)])) ∧ Below w.heap.size w w' := by
  have h1 : (d : Int) > -10 := by omega
  have h2 : ¬ (d : Int) < 0 := by omega
  have h3 : (d : Int) ≥ 0 := by omega
  have h4 : (d : Int) < 10 := by omega
  have h5 : IntKind.i64.wrap (48 + (d : Int)) = 48 + (d : Int) := IntWalk.i64_in _ (by omega)
  have h6 : IntKind.u64.wrap (48 + (d : Int)) = 48 + (d : Int) := IntWalk.u64_in _ (by omega)
  go_enter Tryd.func44, Tryd.ntmps44
  go_wp2_with fail
  refine (byte_any (48 + (d : Int)) _ (by omega)).mono ?_
  rintro e w1 ⟨rfl, hb1⟩
  have h7 : (48 + (d : Int)).toNat % 256 = 48 + d := by omega
  obtain ⟨B, hB⟩ : ∃ B, UInt8.ofNat (48 + d) = B := ⟨_, rfl⟩
  have HBB := hid hB
  rw [h7, hB]
  clear hB
  go_wp2_with fail
  go_ret
  exact ⟨by rw [HBB.out]; rfl, hb1⟩
set_option maxHeartbeats 800000 in
theorem gdig_more (n : Nat) (l : List UInt8) (hn : 10 ≤ n) (hn2 : (n : Int) ≤ 9223372036854775807) (hl : l.length ≤ 100) (hrec : ∀ w : World, Calls Tryd.prog 44 #[.int .i64 ((n : Int) / 10)] w fun e w' => e = .returned (.string (bs l)) ∧ Below w.heap.size w w') (w : World) :
    Calls Tryd.prog 44 #[.int .i64 (n : Int)] w fun e w' => e = .returned (.string (bs (l ++ [UInt8.ofNat (48 + n % 10)]))) ∧ Below w.heap.size w w' := by
  have h1 : (n : Int) > -10 := by omega
  have h2 : ¬ (n : Int) < 0 := by omega
  have h3 : (n : Int) ≥ 0 := by omega
  have h4 : ¬ (n : Int) < 10 := by omega
  have HR := hid hrec
  clear hrec
  go_enter Tryd.func44, Tryd.ntmps44
  go_wp2_with fail
  refine (HR.out _).mono ?_
  rintro e w1 ⟨rfl, hb1⟩
  have HB1 := hid hb1
  clear hb1
  have h5 : IntKind.i64.wrap (48 + (n : Int) % 10) = 48 + (n : Int) % 10 := IntWalk.i64_in _ (by omega)
  have h6 : IntKind.u64.wrap (48 + (n : Int) % 10) = 48 + (n : Int) % 10 := IntWalk.u64_in _ (by omega)
  go_wp2_with fail
  refine (byte_any (48 + (n : Int) % 10) _ (by omega)).mono ?_
  rintro e w2 ⟨rfl, hb2⟩
  have h7 : (48 + (n : Int) % 10).toNat % 256 = 48 + n % 10 := by omega
  obtain ⟨B, hB⟩ : ∃ B, UInt8.ofNat (48 + n % 10) = B := ⟨_, rfl⟩
  have HBB := hid hB
  rw [h7, hB]
  clear hB
  go_wp2_with fail
  go_ret
  exact ⟨by rw [HBB.out]; rfl, estep HB1.out hb2⟩
theorem gdig_nat (n : Nat) : n ≤ 9223372036854775807 → ∀ w : World, Calls Tryd.prog 44 #[.int .i64 (n : Int)] w fun e w' => e = .returned (.string (bs (Lib.decDigits n))) ∧ Below w.heap.size w w' := by
  induction n using Nat.strongRecOn with
  | _ n ih =>
    intro hn w
    rw [Lib.decDigits]
    split
    · exact gdig_one n w (by omega)
    · have e1 : ((n : Int) / 10) = ((n / 10 : Nat) : Int) := by omega
      exact gdig_more n _ (by omega) (by omega) (by have := decD_len64 (u := n / 10) (by omega); omega) (fun w2 => by rw [e1]; exact ih (n / 10) (by omega) (by omega) w2) w
set_option maxHeartbeats 800000 in
theorem gdig_neg1 (d : Nat) (w : World) (h1 : 1 ≤ d) (hd : d ≤ 9) :
    Calls Tryd.prog 44 #[.int .i64 (-(d : Int))] w fun e w' => e = .returned (.string (bs [45, UInt8.ofNat (48 + d)])) ∧ Below w.heap.size w w' := by
  obtain ⟨n, hn⟩ : ∃ n : Int, n = -(d : Int) := ⟨_, rfl⟩
  rw [← hn]
  have d1 : decide (-10 < n) = true := by simp; omega
  have d2 : decide (n < 0) = true := by simp; omega
  have h5 : IntKind.i64.wrap (48 - n) = ((48 + d : Nat) : Int) := by rw [IntWalk.i64_in _ (by omega)]; omega
  have h6 : IntKind.u64.wrap (((48 + d : Nat) : Int)) = ((48 + d : Nat) : Int) := IntWalk.u64_in _ (by omega)
  obtain ⟨q, hq⟩ : ∃ q, q = 48 + d := ⟨_, rfl⟩
  rw [← hq] at h5 h6 ⊢
  have h7 : (q : Int).toNat % 256 = q := by omega
  have b1 : -9 ≤ n := by omega
  have b2 : n ≤ -1 := by omega
  have c45 : (ByteArray.mk #[45]) = bs [45] := rfl
  clear hn hq
  go_enter Tryd.func44, Tryd.ntmps44
  go_wp2_with fail
  refine (byte_any (q : Int) _ (by omega)).mono ?_
  rintro e w1 ⟨rfl, hb1⟩
  obtain ⟨B, hB⟩ : ∃ B, UInt8.ofNat q = B := ⟨_, rfl⟩
  have HBB := hid hB
  rw [h7, hB]
  clear hB h7
  go_wp2_with fail
  go_ret
  exact ⟨by rw [HBB.out]; rfl, hb1⟩
set_option maxHeartbeats 800000 in
theorem gdig_neg2 (u : Nat) (l : List UInt8) (hn : 10 ≤ u) (hn2 : (u : Int) ≤ 9223372036854775808) (hl : l.length ≤ 100) (hrec : ∀ w : World, Calls Tryd.prog 44 #[.int .i64 (-((u / 10 : Nat) : Int))] w fun e w' => e = .returned (.string (bs l)) ∧ Below w.heap.size w w') (w : World) :
    Calls Tryd.prog 44 #[.int .i64 (-(u : Int))] w fun e w' => e = .returned (.string (bs (l ++ [UInt8.ofNat (48 + u % 10)]))) ∧ Below w.heap.size w w' := by
  obtain ⟨n, hnn⟩ : ∃ n : Int, n = -(u : Int) := ⟨_, rfl⟩
  obtain ⟨q, hq⟩ : ∃ q, q = u / 10 := ⟨_, rfl⟩
  obtain ⟨d, hd⟩ : ∃ d, d = u % 10 := ⟨_, rfl⟩
  rw [← hq] at hrec
  rw [← hnn, ← hd]
  have d1 : decide (-10 < n) = false := by simp; omega
  have d2 : decide (0 ≤ n) = false := by simp; omega
  have t1 : n.tmod 10 = -(d : Int) := by
    rw [hnn, Int.neg_tmod, Int.tmod_eq_emod_of_nonneg (by omega), hd]; omega
  have t2 : n.tdiv 10 = -(q : Int) := by
    rw [hnn, Int.neg_tdiv, Int.tdiv_eq_ediv_of_nonneg (by omega), hq]; omega
  have t3 : IntKind.i64.wrap (-(q : Int)) = -(q : Int) := IntWalk.i64_in _ (by omega)
  have t4 : IntKind.i64.wrap (- -(d : Int)) = (d : Int) := by rw [IntWalk.i64_in _ (by omega)]; omega
  have t5 : - -(d : Int) = (d : Int) := by omega
  have h5 : IntKind.i64.wrap (48 + (d : Int)) = 48 + (d : Int) := IntWalk.i64_in _ (by omega)
  have h6 : IntKind.u64.wrap (48 + (d : Int)) = 48 + (d : Int) := IntWalk.u64_in _ (by omega)
  have hd9 : d ≤ 9 := by omega
  have h7 : (48 + (d : Int)).toNat % 256 = 48 + d := by omega
  have h8 : 0 ≤ 48 + (d : Int) := by omega
  have b1 : -9223372036854775808 ≤ n := by omega
  have b2 : n ≤ -10 := by omega
  have HR := hid hrec
  have H7 := hid h7
  have H8 := hid h8
  clear hrec hnn hq hd h7 h8 hn hn2
  by_cases hz : d = 0
  · subst hz
    go_enter Tryd.func44, Tryd.ntmps44
    go_wp2_with fail
    refine (HR.out _).mono ?_
    rintro e w1 ⟨rfl, hb1⟩
    have HB1 := hid hb1
    clear hb1
    go_wp2_with fail
    refine (byte_any 48 _ (by omega)).mono ?_
    rintro e w2 ⟨rfl, hb2⟩
    have HB2 := hid hb2
    clear hb2
    go_wp2_with fail
    go_ret
    exact ⟨rfl, estep HB1.out HB2.out⟩
  · have d3 : decide (-(d : Int) < 0) = true := by simp; omega
    have d4 : decide (0 < (d : Int)) = true := by simp; omega
    go_enter Tryd.func44, Tryd.ntmps44
    go_wp2_with fail
    refine (HR.out _).mono ?_
    rintro e w1 ⟨rfl, hb1⟩
    have HB1 := hid hb1
    clear hb1
    go_wp2_with fail
    refine (byte_any (48 + (d : Int)) _ H8.out).mono ?_
    rintro e w2 ⟨rfl, hb2⟩
    have HB2 := hid hb2
    obtain ⟨B, hB⟩ : ∃ B, UInt8.ofNat (48 + d) = B := ⟨_, rfl⟩
    have HBB := hid hB
    rw [H7.out, hB]
    clear hB hb2
    go_wp2_with fail
    go_ret
    exact ⟨by rw [HBB.out]; rfl, estep HB1.out HB2.out⟩
theorem gdig_neg (u : Nat) : 1 ≤ u → u ≤ 9223372036854775808 → ∀ w : World, Calls Tryd.prog 44 #[.int .i64 (-(u : Int))] w fun e w' => e = .returned (.string (bs (45 :: Lib.decDigits u))) ∧ Below w.heap.size w w' := by
  induction u using Nat.strongRecOn with
  | _ n ih =>
    intro h1 hn w
    rw [Lib.decDigits]
    split
    · exact gdig_neg1 n w h1 (by omega)
    · exact gdig_neg2 n (45 :: Lib.decDigits (n / 10)) (by omega) (by omega) (by have := decD_len64 (u := n / 10) (by omega); simp only [List.length_cons]; omega) (fun w2 => ih (n / 10) (by omega) (by omega) (by omega) w2) w
theorem gdig_any (n : Int) (h : in64 n) (w : World) : Calls Tryd.prog 44 #[.int .i64 n] w fun e w' => e = .returned (.string (bs (Lib.itoa n))) ∧ Below w.heap.size w w' := by
  obtain ⟨h1, h2⟩ := h
  by_cases h0 : 0 ≤ n
  · obtain ⟨u, rfl⟩ := Int.eq_ofNat_of_zero_le h0
    rw [Lib.itoa_nonneg]
    exact gdig_nat u (by omega) w
  · obtain ⟨u, rfl⟩ : ∃ u : Nat, n = -(u : Int) := ⟨n.natAbs, by omega⟩
    rw [Lib.itoa_neg u (by omega)]
    exact gdig_neg u (by omega) (by omega) w
end Go.Proofs.YtmejcchkoflciaaDoor
