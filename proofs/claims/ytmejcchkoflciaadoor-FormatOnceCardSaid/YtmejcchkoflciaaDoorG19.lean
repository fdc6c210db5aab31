/- Texts put together: Gd Ge Gf Gg Gh Gi. -/
import Derived.Test.YtmejcchkoflciaaDoorG18
import Derived.Test.YtmejcchkoflciaaDoorG14
import Derived.Test.YtmejcchkoflciaaDoorG15
import Derived.Test.YtmejcchkoflciaaDoorG09
import Derived.Lib.SmallJoins
import Derived.Lib.AppendIntMem
import Derived.Lib.ItoaLen
import Derived.Lib.ItoaMem
import Derived.BigQuiet
namespace Go.Proofs.YtmejcchkoflciaaDoor
set_option linter.unusedVariables false
set_option linter.unusedSimpArgs false
open Go.RowKit Go.Joins

theorem gPowL : Tryd.prog.globalNamed "internal/strconv.uint64pow10" = some 2 := by kernel_rfl
/-- What the library's variable holds, as far as a walk asks. -/
def EnvL (w : World) : Prop := Lib.TabIs Tryd.prog w "internal/strconv.uint64pow10" .u64 Lib.pow10Tab
theorem EnvL.up {w w' : World} (h : EnvL w) (hb : Below w.heap.size w w') : EnvL w' := tab_stays gPowL h hb (Nat.le_refl _)
theorem glib_itoa (n : Int) (h : in64 n) (w : World) (E : EnvL w) :
    Calls Tryd.prog 41 #[.int .i64 n] w fun e w' => e = .returned (.string (bs (Lib.itoa n))) ∧ Below w.heap.size w w' :=
  (Tryd.strconv_Itoa n h.1 h.2 w E).mono fun e w' ⟨a, k, os, b⟩ => ⟨a, by rw [b]; exact Lib.below_grow _ _ (Nat.le_refl _) _ _⟩
theorem decD_len64 {u : Nat} (h : u ≤ 9223372036854775807) : (Lib.decDigits u).length ≤ 21 := by
  have := Lib.itoa_length_le (u : Int) (by omega) (by omega)
  rwa [Lib.itoa_nonneg] at this
set_option maxHeartbeats 800000 in
theorem gdig_one (d : Nat) (w : World) (hd : d ≤ 9) :
    Calls Tryd.prog 44 #[.int .i64 (d : Int)] w fun e w' => e = .returned (.string (bs [UInt8.ofNat (48 + d)])) ∧ Below w.heap.size w w' := by
  have h1 : (d : Int) > -10 := by omega
  have h2 : ¬ (d : Int) < 0 := by omega
  have h3 : (d : Int) ≥ 0 := by omega
  have h4 : (d : Int) < 10 := by omega
  have h5 : IntKind.i64.wrap (48 + (d : Int)) = 48 + (d : Int) := IntWalk.i64_in _ (by omega)
  have h6 : IntKind.u64.wrap (48 + (d : Int)) = 48 + (d : Int) := IntWalk.u64_in _ (by omega)
  go_enter Tryd.func44, Tryd.ntmps44
  go_wp2_with fail
  refine (byte_any (48 + (d : Int)) _ (by omega)).mono ?_
  rintro e w1 ⟨rfl, hb1⟩
  have h7 : (48 + (d : Int)).toNat % 256 = 48 + d := by omega
  obtain ⟨B, hB⟩ : ∃ B, UInt8.ofNat (48 + d) = B := ⟨_, rfl⟩
  have HBB := hid hB
  rw [h7, hB]
  clear hB
  go_wp2_with fail
  go_ret
  exact ⟨by rw [HBB.out]; rfl, hb1⟩
set_option maxHeartbeats 800000 in
theorem gdig_more (n : Nat) (l : List UInt8) (hn : 10 ≤ n) (hn2 : (n : Int) ≤ 9223372036854775807) (hl : l.length ≤ 100) (hrec : ∀ w : World, Calls Tryd.prog 44 #[.int .i64 ((n : Int) / 10)] w fun e w' => e = .returned (.string (bs l)) ∧ Below w.heap.size w w') (w : World) :
    Calls Tryd.prog 44 #[.int .i64 (n : Int)] w fun e w' => e = .returned (.string (bs (l ++ [UInt8.ofNat (48 + n % 10)]))) ∧ Below w.heap.size w w' := by
  have h1 : (n : Int) > -10 := by omega
  have h2 : ¬ (n : Int) < 0 := by omega
  have h3 : (n : Int) ≥ 0 := by omega
  have h4 : ¬ (n : Int) < 10 := by omega
  have HR := hid hrec
  clear hrec
  go_enter Tryd.func44, Tryd.ntmps44
  go_wp2_with fail
  refine (HR.out _).mono ?_
  rintro e w1 ⟨rfl, hb1⟩
  have HB1 := hid hb1
  clear hb1
  have h5 : IntKind.i64.wrap (48 + (n : Int) % 10) = 48 + (n : Int) % 10 := IntWalk.i64_in _ (by omega)
  have h6 : IntKind.u64.wrap (48 + (n : Int) % 10) = 48 + (n : Int) % 10 := IntWalk.u64_in _ (by omega)
  go_wp2_with fail
  refine (byte_any (48 + (n : Int) % 10) _ (by omega)).mono ?_
  rintro e w2 ⟨rfl, hb2⟩
  have h7 : (48 + (n : Int) % 10).toNat % 256 = 48 + n % 10 := by omega
  obtain ⟨B, hB⟩ : ∃ B, UInt8.ofNat (48 + n % 10) = B := ⟨_, rfl⟩
  have HBB := hid hB
  rw [h7, hB]
  clear hB
  go_wp2_with fail
  go_ret
  exact ⟨by rw [HBB.out]; rfl, estep HB1.out hb2⟩
theorem gdig_nat (n : Nat) : n ≤ 9223372036854775807 → ∀ w : World, Calls Tryd.prog 44 #[.int .i64 (n : Int)] w fun e w' => e = .returned (.string (bs (Lib.decDigits n))) ∧ Below w.heap.size w w' := by
  induction n using Nat.strongRecOn with
  | _ n ih =>
    intro hn w
    rw [Lib.decDigits]
    split
    · exact gdig_one n w (by omega)
    · have e1 : ((n : Int) / 10) = ((n / 10 : Nat) : Int) := by omega
      exact gdig_more n _ (by omega) (by omega) (by have := decD_len64 (u := n / 10) (by omega); omega) (fun w2 => by rw [e1]; exact ih (n / 10) (by omega) (by omega) w2) w
set_option maxHeartbeats 800000 in
theorem gdig_neg1 (d : Nat) (w : World) (h1 : 1 ≤ d) (hd : d ≤ 9) :
    Calls Tryd.prog 44 #[.int .i64 (-(d : Int))] w fun e w' => e = .returned (.string (bs [45, UInt8.ofNat (48 + d)])) ∧ Below w.heap.size w w' := by
  obtain ⟨n, hn⟩ : ∃ n : Int, n = -(d : Int) := ⟨_, rfl⟩
  rw [← hn]
  have d1 : decide (-10 < n) = true := by simp; omega
  have d2 : decide (n < 0) = true := by simp; omega
  have h5 : IntKind.i64.wrap (48 - n) = ((48 + d : Nat) : Int) := by rw [IntWalk.i64_in _ (by omega)]; omega
  have h6 : IntKind.u64.wrap (((48 + d : Nat) : Int)) = ((48 + d : Nat) : Int) := IntWalk.u64_in _ (by omega)
  obtain ⟨q, hq⟩ : ∃ q, q = 48 + d := ⟨_, rfl⟩
  rw [← hq] at h5 h6 ⊢
  have h7 : (q : Int).toNat % 256 = q := by omega
  have b1 : -9 ≤ n := by omega
  have b2 : n ≤ -1 := by omega
  have c45 : (ByteArray.mk #[45]) = bs [45] := rfl
  clear hn hq
  go_enter Tryd.func44, Tryd.ntmps44
  go_wp2_with fail
  refine (byte_any (q : Int) _ (by omega)).mono ?_
  rintro e w1 ⟨rfl, hb1⟩
  obtain ⟨B, hB⟩ : ∃ B, UInt8.ofNat q = B := ⟨_, rfl⟩
  have HBB := hid hB
  rw [h7, hB]
  clear hB h7
  go_wp2_with fail
  go_ret
  exact ⟨by rw [HBB.out]; rfl, hb1⟩
set_option maxHeartbeats 800000 in
theorem gdig_neg2 (u : Nat) (l : List UInt8) (hn : 10 ≤ u) (hn2 : (u : Int) ≤ 9223372036854775808) (hl : l.length ≤ 100) (hrec : ∀ w : World, Calls Tryd.prog 44 #[.int .i64 (-((u / 10 : Nat) : Int))] w fun e w' => e = .returned (.string (bs l)) ∧ Below w.heap.size w w') (w : World) :
    Calls Tryd.prog 44 #[.int .i64 (-(u : Int))] w fun e w' => e = .returned (.string (bs (l ++ [UInt8.ofNat (48 + u % 10)]))) ∧ Below w.heap.size w w' := by
  obtain ⟨n, hnn⟩ : ∃ n : Int, n = -(u : Int) := ⟨_, rfl⟩
  obtain ⟨q, hq⟩ : ∃ q, q = u / 10 := ⟨_, rfl⟩
  obtain ⟨d, hd⟩ : ∃ d, d = u % 10 := ⟨_, rfl⟩
  rw [← hq] at hrec
  rw [← hnn, ← hd]
  have d1 : decide (-10 < n) = false := by simp; omega
  have d2 : decide (0 ≤ n) = false := by simp; omega
  have t1 : n.tmod 10 = -(d : Int) := by
    rw [hnn, Int.neg_tmod, Int.tmod_eq_emod_of_nonneg (by omega), hd]; omega
  have t2 : n.tdiv 10 = -(q : Int) := by
    rw [hnn, Int.neg_tdiv, Int.tdiv_eq_ediv_of_nonneg (by omega), hq]; omega
  have t3 : IntKind.i64.wrap (-(q : Int)) = -(q : Int) := IntWalk.i64_in _ (by omega)
  have t4 : IntKind.i64.wrap (- -(d : Int)) = (d : Int) := by rw [IntWalk.i64_in _ (by omega)]; omega
  have t5 : - -(d : Int) = (d : Int) := by omega
  have h5 : IntKind.i64.wrap (48 + (d : Int)) = 48 + (d : Int) := IntWalk.i64_in _ (by omega)
  have h6 : IntKind.u64.wrap (48 + (d : Int)) = 48 + (d : Int) := IntWalk.u64_in _ (by omega)
  have hd9 : d ≤ 9 := by omega
  have h7 : (48 + (d : Int)).toNat % 256 = 48 + d := by omega
  have h8 : 0 ≤ 48 + (d : Int) := by omega
  have b1 : -9223372036854775808 ≤ n := by omega
  have b2 : n ≤ -10 := by omega
  have HR := hid hrec
  have H7 := hid h7
  have H8 := hid h8
  clear hrec hnn hq hd h7 h8 hn hn2
  by_cases hz : d = 0
  · subst hz
    go_enter Tryd.func44, Tryd.ntmps44
    go_wp2_with fail
    refine (HR.out _).mono ?_
    rintro e w1 ⟨rfl, hb1⟩
    have HB1 := hid hb1
    clear hb1
    go_wp2_with fail
    refine (byte_any 48 _ (by omega)).mono ?_
    rintro e w2 ⟨rfl, hb2⟩
    have HB2 := hid hb2
    clear hb2
    go_wp2_with fail
    go_ret
    exact ⟨rfl, estep HB1.out HB2.out⟩
  · have d3 : decide (-(d : Int) < 0) = true := by simp; omega
    have d4 : decide (0 < (d : Int)) = true := by simp; omega
    go_enter Tryd.func44, Tryd.ntmps44
    go_wp2_with fail
    refine (HR.out _).mono ?_
    rintro e w1 ⟨rfl, hb1⟩
    have HB1 := hid hb1
    clear hb1
    go_wp2_with fail
    refine (byte_any (48 + (d : Int)) _ H8.out).mono ?_
    rintro e w2 ⟨rfl, hb2⟩
    have HB2 := hid hb2
    obtain ⟨B, hB⟩ : ∃ B, UInt8.ofNat (48 + d) = B := ⟨_, rfl⟩
    have HBB := hid hB
    rw [H7.out, hB]
    clear hB hb2
    go_wp2_with fail
    go_ret
    exact ⟨by rw [HBB.out]; rfl, estep HB1.out HB2.out⟩
theorem gdig_neg (u : Nat) : 1 ≤ u → u ≤ 9223372036854775808 → ∀ w : World, Calls Tryd.prog 44 #[.int .i64 (-(u : Int))] w fun e w' => e = .returned (.string (bs (45 :: Lib.decDigits u))) ∧ Below w.heap.size w w' := by
  induction u using Nat.strongRecOn with
  | _ n ih =>
    intro h1 hn w
    rw [Lib.decDigits]
    split
    · exact gdig_neg1 n w h1 (by omega)
    · exact gdig_neg2 n (45 :: Lib.decDigits (n / 10)) (by omega) (by omega) (by have := decD_len64 (u := n / 10) (by omega); simp only [List.length_cons]; omega) (fun w2 => ih (n / 10) (by omega) (by omega) (by omega) w2) w
theorem gdig_any (n : Int) (h : in64 n) (w : World) : Calls Tryd.prog 44 #[.int .i64 n] w fun e w' => e = .returned (.string (bs (Lib.itoa n))) ∧ Below w.heap.size w w' := by
  obtain ⟨h1, h2⟩ := h
  by_cases h0 : 0 ≤ n
  · obtain ⟨u, rfl⟩ := Int.eq_ofNat_of_zero_le h0
    rw [Lib.itoa_nonneg]
    exact gdig_nat u (by omega) w
  · obtain ⟨u, rfl⟩ : ∃ u : Nat, n = -(u : Int) := ⟨n.natAbs, by omega⟩
    rw [Lib.itoa_neg u (by omega)]
    exact gdig_neg u (by omega) (by omega) w
end Go.Proofs.YtmejcchkoflciaaDoor
namespace Go.Proofs.YtmejcchkoflciaaDoor
set_option linter.unusedVariables false
set_option linter.unusedSimpArgs false
open Go.RowKit Go.Joins

/-- A variable that holds a record. -/
def BRc (w : World) (g : Nat) (r : Rec) (x : Value) : Prop := Bk w g 44 #[.string (bs r.m), .string (bs r.h), .string (bs r.p), x, .string (bs r.b), .string (bs r.tg), .int .i64 r.st, .int .i64 r.ve, .string (bs r.tr), .int .i64 r.sa, .int .i64 r.en]
theorem BRc.cells {w : World} {g : Nat} {r : Rec} {x : Value} (k : BRc w g r x) : w.cell? ⟨g, 0, none⟩ = some (.string (bs r.m)) ∧ w.cell? ⟨g, 1, none⟩ = some (.string (bs r.h)) ∧ w.cell? ⟨g, 2, none⟩ = some (.string (bs r.p)) ∧ w.cell? ⟨g, 3, none⟩ = some x ∧ w.cell? ⟨g, 4, none⟩ = some (.string (bs r.b)) ∧ w.cell? ⟨g, 5, none⟩ = some (.string (bs r.tg)) ∧ w.cell? ⟨g, 6, none⟩ = some (.int .i64 r.st) ∧ w.cell? ⟨g, 7, none⟩ = some (.int .i64 r.ve) ∧ w.cell? ⟨g, 8, none⟩ = some (.string (bs r.tr)) ∧ w.cell? ⟨g, 9, none⟩ = some (.int .i64 r.sa) ∧ w.cell? ⟨g, 10, none⟩ = some (.int .i64 r.en) := ⟨Bk.cell k 0, Bk.cell k 1, Bk.cell k 2, Bk.cell k 3, Bk.cell k 4, Bk.cell k 5, Bk.cell k 6, Bk.cell k 7, Bk.cell k 8, Bk.cell k 9, Bk.cell k 10⟩
theorem BRc.up {w w' : World} {g : Nat} {r : Rec} {x : Value} (k : BRc w g r x) (hb : Below w.heap.size w w') : BRc w' g r x := Bk.up k hb
/-- A variable that holds a part. -/
def BPt (w : World) (g : Nat) (p : Prt) : Prop := Bk w g 35 #[.int .i64 p.1, .string (bs p.2)]
theorem BPt.cells {w : World} {g : Nat} {p : Prt} (k : BPt w g p) : w.cell? ⟨g, 0, none⟩ = some (.int .i64 p.1) ∧ w.cell? ⟨g, 1, none⟩ = some (.string (bs p.2)) := ⟨Bk.cell k 0, Bk.cell k 1⟩
theorem BPt.up {w w' : World} {g : Nat} {p : Prt} (k : BPt w g p) (hb : Below w.heap.size w w') : BPt w' g p := Bk.up k hb
theorem max_le_64 {a : Int} (h : in64 a) : 0 ≤ max a 0 ∧ max a 0 ≤ 9223372036854775807 := by unfold in64 at h; omega
set_option maxRecDepth 100000 in
set_option maxHeartbeats 1000000 in
theorem took_any (r : Rec) (x : Value) (hx : ∃ A n c, x = .slice A n c) (w : World) (h1 : in64 r.en) (h2 : in64 r.sa) :
    Calls Tryd.prog 42 #[.agg #[.string (bs r.m), .string (bs r.h), .string (bs r.p), x, .string (bs r.b), .string (bs r.tg), .int .i64 r.st, .int .i64 r.ve, .string (bs r.tr), .int .i64 r.sa, .int .i64 r.en]] w fun e w' => e = .returned (.int .i64 (tookL r)) ∧ Below w.heap.size w w' := by
  obtain ⟨A, n, c, rfl⟩ := hx
  have k0 := Bk.new w 44 #[.string (bs r.m), .string (bs r.h), .string (bs r.p), .slice A n c, .string (bs r.b), .string (bs r.tg), .int .i64 r.st, .int .i64 r.ve, .string (bs r.tr), .int .i64 r.sa, .int .i64 r.en]
  have hb := enew w (.cells #[.string (bs r.m), .string (bs r.h), .string (bs r.p), .slice A n c, .string (bs r.b), .string (bs r.tg), .int .i64 r.st, .int .i64 r.ve, .string (bs r.tr), .int .i64 r.sa, .int .i64 r.en] 44)
  have q9 := Bk.cell k0 9
  have q10 := Bk.cell k0 10
  obtain ⟨a0, a1⟩ := max_le_64 h1
  obtain ⟨b0, b1⟩ := max_le_64 h2
  obtain ⟨a, ha⟩ : ∃ a, max r.en 0 = a := ⟨_, rfl⟩
  obtain ⟨b, hb'⟩ : ∃ b, max r.sa 0 = b := ⟨_, rfl⟩
  obtain ⟨t, ht⟩ : ∃ t, max (a - b) 0 = t := ⟨_, rfl⟩
  have HT := hid (show tookL r = t by unfold tookL; rw [ha, hb', ht])
  have hw : IntKind.i64.wrap (a - b) = a - b := IntWalk.i64_in _ (by omega)
  have HB := hid hb
  rw [ha] at a0 a1
  rw [hb'] at b0 b1
  clear h1 h2 k0 hb
  go_enter Tryd.func42, Tryd.ntmps42
  go_wp2_with fail
  go_returns
  exact ⟨by rw [HT.out]; first | rfl | simp_all, HB.out⟩

set_option maxRecDepth 100000 in
set_option maxHeartbeats 4000000 in
theorem val20_any (p : Prt) (r : Rec) (x : Value) (w : World) (hr : okRec r) (hp : p.2.length ≤ 100000) (hx : HV w x r.L) (E : EnvL w) :
    Calls Tryd.prog 23 #[.agg #[.int .i64 p.1, .string (bs p.2)], .agg #[.string (bs r.m), .string (bs r.h), .string (bs r.p), x, .string (bs r.b), .string (bs r.tg), .int .i64 r.st, .int .i64 r.ve, .string (bs r.tr), .int .i64 r.sa, .int .i64 r.en]] w fun e w' => e = .returned (.string (bs (valL r p))) ∧ Below w.heap.size w w' := by
  obtain ⟨pk, pt⟩ := p
  simp only at hp ⊢
  have HT := hid (tookL_in hr)
  obtain ⟨⟨l0, l1, l2, l3, l4⟩, hH, ⟨i0, i1, i2, i3⟩, hL⟩ := hr
  have HG := hid (getH_len hH pt)
  have HI := hid (And.intro i0 (And.intro i1 (And.intro i2 i3)))
  have HLN := hid (And.intro l0 (And.intro l1 (And.intro l2 (And.intro l3 l4))))
  have kp : BPt (w.alloc (.cells #[.int .i64 pk, .string (bs pt)] 35)) w.heap.size (pk, pt) := Bk.new _ _ _
  have hbA := enew w (.cells #[.int .i64 pk, .string (bs pt)] 35)
  have kr : BRc ((w.alloc (.cells #[.int .i64 pk, .string (bs pt)] 35)).alloc (.cells #[.string (bs r.m), .string (bs r.h), .string (bs r.p), x, .string (bs r.b), .string (bs r.tg), .int .i64 r.st, .int .i64 r.ve, .string (bs r.tr), .int .i64 r.sa, .int .i64 r.en] 44)) (w.alloc (.cells #[.int .i64 pk, .string (bs pt)] 35)).heap.size r x := Bk.new _ _ _
  rw [World.size_alloc] at kr
  have hbB := enew (w.alloc (.cells #[.int .i64 pk, .string (bs pt)] 35)) (.cells #[.string (bs r.m), .string (bs r.h), .string (bs r.p), x, .string (bs r.b), .string (bs r.tg), .int .i64 r.st, .int .i64 r.ve, .string (bs r.tr), .int .i64 r.sa, .int .i64 r.en] 44)
  have kp2 := kp.up hbB
  have hbC := estep hbA hbB
  have HB := hid hbC
  have HX := hid (hx.up hbC)
  have HE := hid (E.up hbC)
  have HXX := hid hx
  clear hbA hbB kp E hx hbC i0 i1 i2 i3 l0 l1 l2 l3 l4 hH
  obtain ⟨A, cx, rfl, hxr⟩ := HX.out
  have HXR := hid hxr
  clear hxr
  have c45 : (ByteArray.mk #[45]) = bs [45] := rfl
  have ct0 := kp2.cells.1
  have ct1 := kp2.cells.2
  obtain ⟨r0, r1, r2, r3, r4, r5, r6, r7, r8, r9, r10⟩ := kr.cells
  simp only at ct0 ct1
  clear kp2 kr HXX
  have hen : ∀ v0 : World, v0 = (w.alloc (.cells #[.int .i64 pk, .string (bs pt)] 35)).alloc (.cells #[.string (bs r.m), .string (bs r.h), .string (bs r.p), .slice A r.L.length cx, .string (bs r.b), .string (bs r.tg), .int .i64 r.st, .int .i64 r.ve, .string (bs r.tr), .int .i64 r.sa, .int .i64 r.en] 44) → True := fun _ _ => trivial
  clear hen
  by_cases h0 : pk = 0
  · subst h0
    have HV := hid (show valL r (0, pt) = pt from rfl)
    go_enter Tryd.func23, Tryd.ntmps23
    go_upto_region 1 with (fail)
    generalize ((w.alloc (.cells #[.int .i64 0, .string (bs pt)] 35)).alloc (.cells #[.string (bs r.m), .string (bs r.h), .string (bs r.p), .slice A r.L.length cx, .string (bs r.b), .string (bs r.tg), .int .i64 r.st, .int .i64 r.ve, .string (bs r.tr), .int .i64 r.sa, .int .i64 r.en] 44)) = v0 at *
    go_wp2_with fail
    go_returns
    exact ⟨by rw [HV.out]; rfl, HB.out⟩
  by_cases h1 : pk = 1
  · subst h1
    have HV := hid (show valL r (1, pt) = escS r.m from rfl)
    clear ct1
    go_enter Tryd.func23, Tryd.ntmps23
    go_upto_region 1 with (fail)
    generalize ((w.alloc (.cells #[.int .i64 1, .string (bs pt)] 35)).alloc (.cells #[.string (bs r.m), .string (bs r.h), .string (bs r.p), .slice A r.L.length cx, .string (bs r.b), .string (bs r.tg), .int .i64 r.st, .int .i64 r.ve, .string (bs r.tr), .int .i64 r.sa, .int .i64 r.en] 44)) = v0 at *
    go_wp2_with fail
    refine (escape_any r.m (by have := HLN.out; omega) _).mono ?_
    rintro e w1 ⟨rfl, hb1⟩
    have H1 := hid hb1
    clear hb1
    go_wp2_with fail
    go_returns
    exact ⟨by rw [HV.out]; rfl, estep HB.out H1.out⟩
  by_cases h2 : pk = 2
  · subst h2
    have HV := hid (show valL r (2, pt) = escS r.h from rfl)
    clear ct1
    go_enter Tryd.func23, Tryd.ntmps23
    go_upto_region 1 with (fail)
    generalize ((w.alloc (.cells #[.int .i64 2, .string (bs pt)] 35)).alloc (.cells #[.string (bs r.m), .string (bs r.h), .string (bs r.p), .slice A r.L.length cx, .string (bs r.b), .string (bs r.tg), .int .i64 r.st, .int .i64 r.ve, .string (bs r.tr), .int .i64 r.sa, .int .i64 r.en] 44)) = v0 at *
    go_wp2_with fail
    refine (escape_any r.h (by have := HLN.out; omega) _).mono ?_
    rintro e w1 ⟨rfl, hb1⟩
    have H1 := hid hb1
    clear hb1
    go_wp2_with fail
    go_returns
    exact ⟨by rw [HV.out]; rfl, estep HB.out H1.out⟩
  by_cases h3 : pk = 3
  · subst h3
    have HV := hid (show valL r (3, pt) = escS r.p from rfl)
    clear ct1
    go_enter Tryd.func23, Tryd.ntmps23
    go_upto_region 1 with (fail)
    generalize ((w.alloc (.cells #[.int .i64 3, .string (bs pt)] 35)).alloc (.cells #[.string (bs r.m), .string (bs r.h), .string (bs r.p), .slice A r.L.length cx, .string (bs r.b), .string (bs r.tg), .int .i64 r.st, .int .i64 r.ve, .string (bs r.tr), .int .i64 r.sa, .int .i64 r.en] 44)) = v0 at *
    go_wp2_with fail
    refine (escape_any r.p (by have := HLN.out; omega) _).mono ?_
    rintro e w1 ⟨rfl, hb1⟩
    have H1 := hid hb1
    clear hb1
    go_wp2_with fail
    go_returns
    exact ⟨by rw [HV.out]; rfl, estep HB.out H1.out⟩
  by_cases h4 : pk = 4
  · subst h4
    have HV := hid (show valL r (4, pt) = escS r.tg from rfl)
    clear ct1
    go_enter Tryd.func23, Tryd.ntmps23
    go_upto_region 1 with (fail)
    generalize ((w.alloc (.cells #[.int .i64 4, .string (bs pt)] 35)).alloc (.cells #[.string (bs r.m), .string (bs r.h), .string (bs r.p), .slice A r.L.length cx, .string (bs r.b), .string (bs r.tg), .int .i64 r.st, .int .i64 r.ve, .string (bs r.tr), .int .i64 r.sa, .int .i64 r.en] 44)) = v0 at *
    go_wp2_with fail
    refine (escape_any r.tg (by have := HLN.out; omega) _).mono ?_
    rintro e w1 ⟨rfl, hb1⟩
    have H1 := hid hb1
    clear hb1
    go_wp2_with fail
    go_returns
    exact ⟨by rw [HV.out]; rfl, estep HB.out H1.out⟩
  by_cases h5 : pk = 5
  · subst h5
    have HV := hid (show valL r (5, pt) = Lib.itoa r.st from rfl)
    clear ct1
    go_enter Tryd.func23, Tryd.ntmps23
    go_upto_region 1 with (fail)
    generalize ((w.alloc (.cells #[.int .i64 5, .string (bs pt)] 35)).alloc (.cells #[.string (bs r.m), .string (bs r.h), .string (bs r.p), .slice A r.L.length cx, .string (bs r.b), .string (bs r.tg), .int .i64 r.st, .int .i64 r.ve, .string (bs r.tr), .int .i64 r.sa, .int .i64 r.en] 44)) = v0 at *
    go_wp2_with fail
    refine (glib_itoa r.st HI.out.1 _ HE.out).mono ?_
    rintro e w1 ⟨rfl, hb1⟩
    have H1 := hid hb1
    clear hb1
    go_wp2_with fail
    go_returns
    exact ⟨by rw [HV.out]; rfl, estep HB.out H1.out⟩
  by_cases h6 : pk = 6
  · subst h6
    have HV := hid (show valL r (6, pt) = Lib.itoa r.ve from rfl)
    clear ct1
    go_enter Tryd.func23, Tryd.ntmps23
    go_upto_region 1 with (fail)
    generalize ((w.alloc (.cells #[.int .i64 6, .string (bs pt)] 35)).alloc (.cells #[.string (bs r.m), .string (bs r.h), .string (bs r.p), .slice A r.L.length cx, .string (bs r.b), .string (bs r.tg), .int .i64 r.st, .int .i64 r.ve, .string (bs r.tr), .int .i64 r.sa, .int .i64 r.en] 44)) = v0 at *
    go_wp2_with fail
    refine (glib_itoa r.ve HI.out.2.1 _ HE.out).mono ?_
    rintro e w1 ⟨rfl, hb1⟩
    have H1 := hid hb1
    clear hb1
    go_wp2_with fail
    go_returns
    exact ⟨by rw [HV.out]; rfl, estep HB.out H1.out⟩
  by_cases h7 : pk = 7
  · subst h7
    have HV := hid (show valL r (7, pt) = escS r.tr from rfl)
    clear ct1
    go_enter Tryd.func23, Tryd.ntmps23
    go_upto_region 1 with (fail)
    generalize ((w.alloc (.cells #[.int .i64 7, .string (bs pt)] 35)).alloc (.cells #[.string (bs r.m), .string (bs r.h), .string (bs r.p), .slice A r.L.length cx, .string (bs r.b), .string (bs r.tg), .int .i64 r.st, .int .i64 r.ve, .string (bs r.tr), .int .i64 r.sa, .int .i64 r.en] 44)) = v0 at *
    go_wp2_with fail
    refine (escape_any r.tr (by have := HLN.out; omega) _).mono ?_
    rintro e w1 ⟨rfl, hb1⟩
    have H1 := hid hb1
    clear hb1
    go_wp2_with fail
    go_returns
    exact ⟨by rw [HV.out]; rfl, estep HB.out H1.out⟩
  by_cases h8 : pk = 8
  · subst h8
    have HV := hid (show valL r (8, pt) = Lib.itoa (tookL r) from rfl)
    clear ct1
    go_enter Tryd.func23, Tryd.ntmps23
    go_upto_region 1 with (fail)
    generalize ((w.alloc (.cells #[.int .i64 8, .string (bs pt)] 35)).alloc (.cells #[.string (bs r.m), .string (bs r.h), .string (bs r.p), .slice A r.L.length cx, .string (bs r.b), .string (bs r.tg), .int .i64 r.st, .int .i64 r.ve, .string (bs r.tr), .int .i64 r.sa, .int .i64 r.en] 44)) = v0 at *
    go_wp2_with fail
    refine (took_any r _ ⟨A, _, cx, rfl⟩ _ HI.out.2.2.2 HI.out.2.2.1).mono ?_
    rintro e w1 ⟨rfl, hb1⟩
    have H1 := hid (And.intro hb1 (HE.out.up hb1))
    clear hb1
    go_wp2_with fail
    refine (glib_itoa _ HT.out.2 _ H1.out.2).mono ?_
    rintro e w2 ⟨rfl, hb2⟩
    have H2 := hid hb2
    clear hb2
    go_wp2_with fail
    go_returns
    exact ⟨by rw [HV.out]; rfl, estep HB.out (estep H1.out.1 H2.out)⟩
  by_cases h9 : pk = 9
  · subst h9
    have HV := hid (show valL r (9, pt) = escS (getH r.L pt).1 from rfl)
    skip
    go_enter Tryd.func23, Tryd.ntmps23
    go_upto_region 1 with (fail)
    generalize ((w.alloc (.cells #[.int .i64 9, .string (bs pt)] 35)).alloc (.cells #[.string (bs r.m), .string (bs r.h), .string (bs r.p), .slice A r.L.length cx, .string (bs r.b), .string (bs r.tg), .int .i64 r.st, .int .i64 r.ve, .string (bs r.tr), .int .i64 r.sa, .int .i64 r.en] 44)) = v0 at *
    go_wp2_with fail
    refine (hget_any A cx r.L pt _ HXR.out (by omega)).mono ?_
    rintro e w1 ⟨rfl, hb1⟩
    have H1 := hid hb1
    clear hb1
    go_wp2_with fail
    refine (escape_any _ (by have := HG.out; omega) _).mono ?_
    rintro e w2 ⟨rfl, hb2⟩
    have H2 := hid hb2
    clear hb2
    go_wp2_with fail
    go_returns
    exact ⟨by rw [HV.out]; rfl, estep HB.out (estep H1.out H2.out)⟩
  have HV := hid (show valL r (pk, pt) = [] by simp only [valL]; rw [if_neg h0, if_neg h1, if_neg h2, if_neg h3, if_neg h4, if_neg h5, if_neg h6, if_neg h7, if_neg h8, if_neg h9])
  have d0 : decide (pk = 0) = false := decide_eq_false h0
  have e0 : (pk == 0) = false := beq_eq_false_iff_ne.2 h0
  have d1 : decide (pk = 1) = false := decide_eq_false h1
  have e1 : (pk == 1) = false := beq_eq_false_iff_ne.2 h1
  have d2 : decide (pk = 2) = false := decide_eq_false h2
  have e2 : (pk == 2) = false := beq_eq_false_iff_ne.2 h2
  have d3 : decide (pk = 3) = false := decide_eq_false h3
  have e3 : (pk == 3) = false := beq_eq_false_iff_ne.2 h3
  have d4 : decide (pk = 4) = false := decide_eq_false h4
  have e4 : (pk == 4) = false := beq_eq_false_iff_ne.2 h4
  have d5 : decide (pk = 5) = false := decide_eq_false h5
  have e5 : (pk == 5) = false := beq_eq_false_iff_ne.2 h5
  have d6 : decide (pk = 6) = false := decide_eq_false h6
  have e6 : (pk == 6) = false := beq_eq_false_iff_ne.2 h6
  have d7 : decide (pk = 7) = false := decide_eq_false h7
  have e7 : (pk == 7) = false := beq_eq_false_iff_ne.2 h7
  have d8 : decide (pk = 8) = false := decide_eq_false h8
  have e8 : (pk == 8) = false := beq_eq_false_iff_ne.2 h8
  have d9 : decide (pk = 9) = false := decide_eq_false h9
  have e9 : (pk == 9) = false := beq_eq_false_iff_ne.2 h9
  clear ct1 h0 h1 h2 h3 h4 h5 h6 h7 h8 h9
  go_enter Tryd.func23, Tryd.ntmps23
  go_upto_region 1 with (fail)
  generalize ((w.alloc (.cells #[.int .i64 pk, .string (bs pt)] 35)).alloc (.cells #[.string (bs r.m), .string (bs r.h), .string (bs r.p), .slice A r.L.length cx, .string (bs r.b), .string (bs r.tg), .int .i64 r.st, .int .i64 r.ve, .string (bs r.tr), .int .i64 r.sa, .int .i64 r.en] 44)) = v0 at *
  go_wp2_with fail
  go_returns
  exact ⟨by rw [HV.out]; rfl, HB.out⟩
set_option maxRecDepth 100000 in
set_option maxHeartbeats 4000000 in
theorem rval20_any (p : Prt) (r : Rec) (x : Value) (w : World) (hr : okRec r) (hp : p.2.length ≤ 100000) (hx : HV w x r.L) (E : EnvL w) :
    Calls Tryd.prog 24 #[.agg #[.int .i64 p.1, .string (bs p.2)], .agg #[.string (bs r.m), .string (bs r.h), .string (bs r.p), x, .string (bs r.b), .string (bs r.tg), .int .i64 r.st, .int .i64 r.ve, .string (bs r.tr), .int .i64 r.sa, .int .i64 r.en]] w fun e w' => e = .returned (.string (bs (valL r p))) ∧ Below w.heap.size w w' := by
  obtain ⟨pk, pt⟩ := p
  simp only at hp ⊢
  have HT := hid (tookL_in hr)
  obtain ⟨⟨l0, l1, l2, l3, l4⟩, hH, ⟨i0, i1, i2, i3⟩, hL⟩ := hr
  have HG := hid (getH_len hH pt)
  have HI := hid (And.intro i0 (And.intro i1 (And.intro i2 i3)))
  have HLN := hid (And.intro l0 (And.intro l1 (And.intro l2 (And.intro l3 l4))))
  have kp : BPt (w.alloc (.cells #[.int .i64 pk, .string (bs pt)] 35)) w.heap.size (pk, pt) := Bk.new _ _ _
  have hbA := enew w (.cells #[.int .i64 pk, .string (bs pt)] 35)
  have kr : BRc ((w.alloc (.cells #[.int .i64 pk, .string (bs pt)] 35)).alloc (.cells #[.string (bs r.m), .string (bs r.h), .string (bs r.p), x, .string (bs r.b), .string (bs r.tg), .int .i64 r.st, .int .i64 r.ve, .string (bs r.tr), .int .i64 r.sa, .int .i64 r.en] 44)) (w.alloc (.cells #[.int .i64 pk, .string (bs pt)] 35)).heap.size r x := Bk.new _ _ _
  rw [World.size_alloc] at kr
  have hbB := enew (w.alloc (.cells #[.int .i64 pk, .string (bs pt)] 35)) (.cells #[.string (bs r.m), .string (bs r.h), .string (bs r.p), x, .string (bs r.b), .string (bs r.tg), .int .i64 r.st, .int .i64 r.ve, .string (bs r.tr), .int .i64 r.sa, .int .i64 r.en] 44)
  have kp2 := kp.up hbB
  have hbC := estep hbA hbB
  have HB := hid hbC
  have HX := hid (hx.up hbC)
  have HE := hid (E.up hbC)
  have HXX := hid hx
  clear hbA hbB kp E hx hbC i0 i1 i2 i3 l0 l1 l2 l3 l4 hH
  obtain ⟨A, cx, rfl, hxr⟩ := HX.out
  have HXR := hid hxr
  clear hxr
  have c45 : (ByteArray.mk #[45]) = bs [45] := rfl
  have ct0 := kp2.cells.1
  have ct1 := kp2.cells.2
  obtain ⟨r0, r1, r2, r3, r4, r5, r6, r7, r8, r9, r10⟩ := kr.cells
  simp only at ct0 ct1
  clear kp2 kr HXX
  have hen : ∀ v0 : World, v0 = (w.alloc (.cells #[.int .i64 pk, .string (bs pt)] 35)).alloc (.cells #[.string (bs r.m), .string (bs r.h), .string (bs r.p), .slice A r.L.length cx, .string (bs r.b), .string (bs r.tg), .int .i64 r.st, .int .i64 r.ve, .string (bs r.tr), .int .i64 r.sa, .int .i64 r.en] 44) → True := fun _ _ => trivial
  clear hen
  by_cases h0 : pk = 0
  · subst h0
    have HV := hid (show valL r (0, pt) = pt from rfl)
    go_enter Tryd.func24, Tryd.ntmps24
    go_upto_region 1 with (fail)
    generalize ((w.alloc (.cells #[.int .i64 0, .string (bs pt)] 35)).alloc (.cells #[.string (bs r.m), .string (bs r.h), .string (bs r.p), .slice A r.L.length cx, .string (bs r.b), .string (bs r.tg), .int .i64 r.st, .int .i64 r.ve, .string (bs r.tr), .int .i64 r.sa, .int .i64 r.en] 44)) = v0 at *
    go_wp2_with fail
    go_returns
    exact ⟨by rw [HV.out]; rfl, HB.out⟩
  by_cases h1 : pk = 1
  · subst h1
    have HV := hid (show valL r (1, pt) = escS r.m from rfl)
    clear ct1
    go_enter Tryd.func24, Tryd.ntmps24
    go_upto_region 1 with (fail)
    generalize ((w.alloc (.cells #[.int .i64 1, .string (bs pt)] 35)).alloc (.cells #[.string (bs r.m), .string (bs r.h), .string (bs r.p), .slice A r.L.length cx, .string (bs r.b), .string (bs r.tg), .int .i64 r.st, .int .i64 r.ve, .string (bs r.tr), .int .i64 r.sa, .int .i64 r.en] 44)) = v0 at *
    go_wp2_with fail
    refine (rescape_any r.m (by have := HLN.out; omega) _).mono ?_
    rintro e w1 ⟨rfl, hb1⟩
    have H1 := hid hb1
    clear hb1
    go_wp2_with fail
    go_returns
    exact ⟨by rw [HV.out]; rfl, estep HB.out H1.out⟩
  by_cases h2 : pk = 2
  · subst h2
    have HV := hid (show valL r (2, pt) = escS r.h from rfl)
    clear ct1
    go_enter Tryd.func24, Tryd.ntmps24
    go_upto_region 1 with (fail)
    generalize ((w.alloc (.cells #[.int .i64 2, .string (bs pt)] 35)).alloc (.cells #[.string (bs r.m), .string (bs r.h), .string (bs r.p), .slice A r.L.length cx, .string (bs r.b), .string (bs r.tg), .int .i64 r.st, .int .i64 r.ve, .string (bs r.tr), .int .i64 r.sa, .int .i64 r.en] 44)) = v0 at *
    go_wp2_with fail
    refine (rescape_any r.h (by have := HLN.out; omega) _).mono ?_
    rintro e w1 ⟨rfl, hb1⟩
    have H1 := hid hb1
    clear hb1
    go_wp2_with fail
    go_returns
    exact ⟨by rw [HV.out]; rfl, estep HB.out H1.out⟩
  by_cases h3 : pk = 3
  · subst h3
    have HV := hid (show valL r (3, pt) = escS r.p from rfl)
    clear ct1
    go_enter Tryd.func24, Tryd.ntmps24
    go_upto_region 1 with (fail)
    generalize ((w.alloc (.cells #[.int .i64 3, .string (bs pt)] 35)).alloc (.cells #[.string (bs r.m), .string (bs r.h), .string (bs r.p), .slice A r.L.length cx, .string (bs r.b), .string (bs r.tg), .int .i64 r.st, .int .i64 r.ve, .string (bs r.tr), .int .i64 r.sa, .int .i64 r.en] 44)) = v0 at *
    go_wp2_with fail
    refine (rescape_any r.p (by have := HLN.out; omega) _).mono ?_
    rintro e w1 ⟨rfl, hb1⟩
    have H1 := hid hb1
    clear hb1
    go_wp2_with fail
    go_returns
    exact ⟨by rw [HV.out]; rfl, estep HB.out H1.out⟩
  by_cases h4 : pk = 4
  · subst h4
    have HV := hid (show valL r (4, pt) = escS r.tg from rfl)
    clear ct1
    go_enter Tryd.func24, Tryd.ntmps24
    go_upto_region 1 with (fail)
    generalize ((w.alloc (.cells #[.int .i64 4, .string (bs pt)] 35)).alloc (.cells #[.string (bs r.m), .string (bs r.h), .string (bs r.p), .slice A r.L.length cx, .string (bs r.b), .string (bs r.tg), .int .i64 r.st, .int .i64 r.ve, .string (bs r.tr), .int .i64 r.sa, .int .i64 r.en] 44)) = v0 at *
    go_wp2_with fail
    refine (rescape_any r.tg (by have := HLN.out; omega) _).mono ?_
    rintro e w1 ⟨rfl, hb1⟩
    have H1 := hid hb1
    clear hb1
    go_wp2_with fail
    go_returns
    exact ⟨by rw [HV.out]; rfl, estep HB.out H1.out⟩
  by_cases h5 : pk = 5
  · subst h5
    have HV := hid (show valL r (5, pt) = Lib.itoa r.st from rfl)
    clear ct1
    go_enter Tryd.func24, Tryd.ntmps24
    go_upto_region 1 with (fail)
    generalize ((w.alloc (.cells #[.int .i64 5, .string (bs pt)] 35)).alloc (.cells #[.string (bs r.m), .string (bs r.h), .string (bs r.p), .slice A r.L.length cx, .string (bs r.b), .string (bs r.tg), .int .i64 r.st, .int .i64 r.ve, .string (bs r.tr), .int .i64 r.sa, .int .i64 r.en] 44)) = v0 at *
    go_wp2_with fail
    refine (gdig_any r.st HI.out.1 _).mono ?_
    rintro e w1 ⟨rfl, hb1⟩
    have H1 := hid hb1
    clear hb1
    go_wp2_with fail
    go_returns
    exact ⟨by rw [HV.out]; rfl, estep HB.out H1.out⟩
  by_cases h6 : pk = 6
  · subst h6
    have HV := hid (show valL r (6, pt) = Lib.itoa r.ve from rfl)
    clear ct1
    go_enter Tryd.func24, Tryd.ntmps24
    go_upto_region 1 with (fail)
    generalize ((w.alloc (.cells #[.int .i64 6, .string (bs pt)] 35)).alloc (.cells #[.string (bs r.m), .string (bs r.h), .string (bs r.p), .slice A r.L.length cx, .string (bs r.b), .string (bs r.tg), .int .i64 r.st, .int .i64 r.ve, .string (bs r.tr), .int .i64 r.sa, .int .i64 r.en] 44)) = v0 at *
    go_wp2_with fail
    refine (gdig_any r.ve HI.out.2.1 _).mono ?_
    rintro e w1 ⟨rfl, hb1⟩
    have H1 := hid hb1
    clear hb1
    go_wp2_with fail
    go_returns
    exact ⟨by rw [HV.out]; rfl, estep HB.out H1.out⟩
  by_cases h7 : pk = 7
  · subst h7
    have HV := hid (show valL r (7, pt) = escS r.tr from rfl)
    clear ct1
    go_enter Tryd.func24, Tryd.ntmps24
    go_upto_region 1 with (fail)
    generalize ((w.alloc (.cells #[.int .i64 7, .string (bs pt)] 35)).alloc (.cells #[.string (bs r.m), .string (bs r.h), .string (bs r.p), .slice A r.L.length cx, .string (bs r.b), .string (bs r.tg), .int .i64 r.st, .int .i64 r.ve, .string (bs r.tr), .int .i64 r.sa, .int .i64 r.en] 44)) = v0 at *
    go_wp2_with fail
    refine (rescape_any r.tr (by have := HLN.out; omega) _).mono ?_
    rintro e w1 ⟨rfl, hb1⟩
    have H1 := hid hb1
    clear hb1
    go_wp2_with fail
    go_returns
    exact ⟨by rw [HV.out]; rfl, estep HB.out H1.out⟩
  by_cases h8 : pk = 8
  · subst h8
    have HV := hid (show valL r (8, pt) = Lib.itoa (tookL r) from rfl)
    clear ct1
    go_enter Tryd.func24, Tryd.ntmps24
    go_upto_region 1 with (fail)
    generalize ((w.alloc (.cells #[.int .i64 8, .string (bs pt)] 35)).alloc (.cells #[.string (bs r.m), .string (bs r.h), .string (bs r.p), .slice A r.L.length cx, .string (bs r.b), .string (bs r.tg), .int .i64 r.st, .int .i64 r.ve, .string (bs r.tr), .int .i64 r.sa, .int .i64 r.en] 44)) = v0 at *
    obtain ⟨a0, a1⟩ := max_le_64 HI.out.2.2.2
    obtain ⟨b0, b1⟩ := max_le_64 HI.out.2.2.1
    obtain ⟨a, ha⟩ : ∃ a, max r.en 0 = a := ⟨_, rfl⟩
    obtain ⟨b, hb'⟩ : ∃ b, max r.sa 0 = b := ⟨_, rfl⟩
    obtain ⟨t, ht⟩ : ∃ t, max 0 (a - b) = t := ⟨_, rfl⟩
    have HTT := hid (show tookL r = t by unfold tookL; rw [ha, hb', Int.max_comm, ht])
    have hw : IntKind.i64.wrap (a - b) = a - b := IntWalk.i64_in _ (by omega)
    rw [ha] at a0 a1
    rw [hb'] at b0 b1
    go_wp2_with fail
    ((with_reducible refine (gdig_any t (HTT.out ▸ HT.out.2) _).mono ?_))
    rintro e w1 ⟨rfl, hb1⟩
    have H1 := hid hb1
    clear hb1
    go_wp2_with fail
    go_returns
    exact ⟨by rw [HV.out, HTT.out]; rfl, estep HB.out H1.out⟩
  by_cases h9 : pk = 9
  · subst h9
    have HV := hid (show valL r (9, pt) = escS (getH r.L pt).1 from rfl)
    skip
    go_enter Tryd.func24, Tryd.ntmps24
    go_upto_region 1 with (fail)
    generalize ((w.alloc (.cells #[.int .i64 9, .string (bs pt)] 35)).alloc (.cells #[.string (bs r.m), .string (bs r.h), .string (bs r.p), .slice A r.L.length cx, .string (bs r.b), .string (bs r.tg), .int .i64 r.st, .int .i64 r.ve, .string (bs r.tr), .int .i64 r.sa, .int .i64 r.en] 44)) = v0 at *
    go_wp2_with fail
    refine (rget_any4 A cx r.L pt _ HXR.out (by omega)).mono ?_
    rintro e w1 ⟨rfl, hb1⟩
    have H1 := hid hb1
    clear hb1
    have HNN := hid (show (getH r.L pt).2 = false → (getH r.L pt).1 = [] by
      unfold getH
      split
      · intro _; rfl
      · intro h; cases h)
    generalize getH r.L pt = gh at *
    obtain ⟨gv, gb⟩ := gh
    cases gb
    · have HZ := hid (HNN.out rfl)
      go_wp2_with fail
      go_returns
      refine ⟨?_, estep HB.out H1.out⟩
      rw [HV.out]
      have : gv = [] := HZ.out
      subst this
      rfl
    · go_wp2_with fail
      refine (rescape_any gv (by have := HG.out; omega) _).mono ?_
      rintro e w2 ⟨rfl, hb2⟩
      have H2 := hid hb2
      clear hb2
      go_wp2_with fail
      go_returns
      exact ⟨by rw [HV.out]; rfl, estep HB.out (estep H1.out H2.out)⟩
  have HV := hid (show valL r (pk, pt) = [] by simp only [valL]; rw [if_neg h0, if_neg h1, if_neg h2, if_neg h3, if_neg h4, if_neg h5, if_neg h6, if_neg h7, if_neg h8, if_neg h9])
  have d0 : decide (pk = 0) = false := decide_eq_false h0
  have e0 : (pk == 0) = false := beq_eq_false_iff_ne.2 h0
  have d1 : decide (pk = 1) = false := decide_eq_false h1
  have e1 : (pk == 1) = false := beq_eq_false_iff_ne.2 h1
  have d2 : decide (pk = 2) = false := decide_eq_false h2
  have e2 : (pk == 2) = false := beq_eq_false_iff_ne.2 h2
  have d3 : decide (pk = 3) = false := decide_eq_false h3
  have e3 : (pk == 3) = false := beq_eq_false_iff_ne.2 h3
  have d4 : decide (pk = 4) = false := decide_eq_false h4
  have e4 : (pk == 4) = false := beq_eq_false_iff_ne.2 h4
  have d5 : decide (pk = 5) = false := decide_eq_false h5
  have e5 : (pk == 5) = false := beq_eq_false_iff_ne.2 h5
  have d6 : decide (pk = 6) = false := decide_eq_false h6
  have e6 : (pk == 6) = false := beq_eq_false_iff_ne.2 h6
  have d7 : decide (pk = 7) = false := decide_eq_false h7
  have e7 : (pk == 7) = false := beq_eq_false_iff_ne.2 h7
  have d8 : decide (pk = 8) = false := decide_eq_false h8
  have e8 : (pk == 8) = false := beq_eq_false_iff_ne.2 h8
  have d9 : decide (pk = 9) = false := decide_eq_false h9
  have e9 : (pk == 9) = false := beq_eq_false_iff_ne.2 h9
  clear ct1 h0 h1 h2 h3 h4 h5 h6 h7 h8 h9
  go_enter Tryd.func24, Tryd.ntmps24
  go_upto_region 1 with (fail)
  generalize ((w.alloc (.cells #[.int .i64 pk, .string (bs pt)] 35)).alloc (.cells #[.string (bs r.m), .string (bs r.h), .string (bs r.p), .slice A r.L.length cx, .string (bs r.b), .string (bs r.tg), .int .i64 r.st, .int .i64 r.ve, .string (bs r.tr), .int .i64 r.sa, .int .i64 r.en] 44)) = v0 at *
  go_wp2_with fail
  go_returns
  exact ⟨by rw [HV.out]; rfl, HB.out⟩
end Go.Proofs.YtmejcchkoflciaaDoor
namespace Go.Proofs.YtmejcchkoflciaaDoor
set_option linter.unusedVariables false
set_option linter.unusedSimpArgs false
open Go.RowKit Go.Joins

def encPt (p : Prt) : List Value := [.int .i64 p.1, .string (bs p.2)]
theorem encPt_len (p : Prt) : (encPt p).length = 2 := rfl
theorem rowPt : RowT Tryd.prog encPt 2 23 35 (.agg #[.int .i64 0, .string ByteArray.empty]) 24 where
  ht := Tryd.underlying23
  inf := by kernel_rfl
  hzs := rfl
  k0 := by decide
  hk := encPt_len
  h1 := fun x u hu => by
    simp [encPt] at hu
    rcases hu with rfl | rfl <;> rfl
  hb := by decide
/-- A slice of parts, as a value that can be read. -/
def PtV (w : World) (x : Value) (L : List Prt) : Prop := ∃ A c, x = .slice A L.length c ∧ GX encPt 2 w (· < w.heap.size) A L
theorem PtV.up {w w' : World} {x : Value} {L : List Prt} (h : PtV w x L) (hb : Below w.heap.size w w') : PtV w' x L := by
  obtain ⟨A, c, e, h1⟩ := h
  exact ⟨A, c, e, h1.up hb⟩
theorem GX.pt {w : World} {N : Nat → Prop} {A : Option Addr} {L : List Prt} (h : GX encPt 2 w N A L) (k : Nat) (hk : k < L.length) : ∃ b o, A = some ⟨b, o, none⟩ ∧ N b ∧ w.cell? ⟨b, o + k * 2, none⟩ = some (.int .i64 L[k].1) ∧ w.cell? ⟨b, o + k * 2 + 1, none⟩ = some (.string (bs L[k].2)) := by
  obtain ⟨b, o, e, h1, h2⟩ := h k hk
  exact ⟨b, o, e, h1, h2 0 (by omega), h2 1 (by omega)⟩
/-- A world that has all that v has, and may have more. -/
structure BwL (v : World) where
  w : World
  h : Below v.heap.size v w
instance BwL.instNonempty (v : World) : Nonempty (BwL v) := ⟨⟨v, Below.refl _ _⟩⟩
theorem wp_region_bwl {P : Program} {id : Nat} {Q : Exit → Act → World → Prop} {a : Act} {w : World} {l : List Oper} (hm : P.follows .mixedOrders = true) (hB : Region.lexB .any l.toArray = true) (h : wpQuiet P l.toArray (fun w' => ∃ p : BwL w, w' = p.w) (fun a' => ∀ w', (∃ p : BwL w, w' = p.w) → Q .normal a' w') l a) : (Code.region id l.toArray true).wp P Q a w :=
  wp_region_quiet (C := fun w' => ∃ p : BwL w, w' = p.w) hm hB ⟨⟨_, (Below.refl _ _).drew⟩, rfl⟩ (by simpa using h)
theorem calls_bwl {P : Program} {f : FuncId} {args : Array Value} {v0 : World} {p : BwL v0} {v : Value} (h : Calls P f args p.w fun e w' => e = .returned v ∧ Below p.w.heap.size p.w w') : Calls P f args p.w fun e w'' => e = .returned v ∧ ∃ q : BwL v0, w'' = q.w :=
  h.mono fun _ _ ⟨he, hb⟩ => ⟨he, ⟨_, p.h.trans (hb.mono p.h.size)⟩, rfl⟩
theorem BwL.cell {v : World} {a : Addr} {x : Value} (h : v.cell? a = some x) (p : BwL v) : p.w.cell? a = some x :=
  (p.h.cell (lt_of_cell h)).trans h
set_option maxRecDepth 100000 in
set_option maxHeartbeats 2000000 in
theorem render_any (L : List Prt) (y : Value) (r : Rec) (x : Value) (w : World) (hr : okRec r) (hL : ∀ p ∈ L, p.2.length ≤ 100000) (hl : L.length ≤ 1000) (hy : PtV w y L) (hx : HV w x r.L) (E : EnvL w) :
    Calls Tryd.prog 25 #[y, .agg #[.string (bs r.m), .string (bs r.h), .string (bs r.p), x, .string (bs r.b), .string (bs r.tg), .int .i64 r.st, .int .i64 r.ve, .string (bs r.tr), .int .i64 r.sa, .int .i64 r.en]] w fun e w' => e = .returned (.string (bs (rendL r L))) ∧ Below w.heap.size w w' := by
  obtain ⟨A, c, rfl, hA⟩ := hy
  have kr : BRc (w.alloc (.cells #[.string (bs r.m), .string (bs r.h), .string (bs r.p), x, .string (bs r.b), .string (bs r.tg), .int .i64 r.st, .int .i64 r.ve, .string (bs r.tr), .int .i64 r.sa, .int .i64 r.en] 44)) w.heap.size r x := Bk.new _ _ _
  have hbA := enew w (.cells #[.string (bs r.m), .string (bs r.h), .string (bs r.p), x, .string (bs r.b), .string (bs r.tg), .int .i64 r.st, .int .i64 r.ve, .string (bs r.tr), .int .i64 r.sa, .int .i64 r.en] 44)
  have HB := hid hbA
  have HX := hid (hx.up hbA)
  have HE := hid (E.up hbA)
  have HA := hid (hA.up hbA)
  have KR := hid kr
  have HR := hid hr
  have HPL := hid hL
  obtain ⟨Ax, cx, rfl, -⟩ := hx
  clear hbA kr hr hL hA E
  go_enter Tryd.func25, Tryd.ntmps25
  go_upto_region 1 with (fail)
  generalize w.alloc (.cells #[.string (bs r.m), .string (bs r.h), .string (bs r.p), .slice Ax r.L.length cx, .string (bs r.b), .string (bs r.tg), .int .i64 r.st, .int .i64 r.ve, .string (bs r.tr), .int .i64 r.sa, .int .i64 r.en] 44) = v0 at *
  go_wp2_with fail
  go_loopw [5, 10] (fun v i wr => ∃ k : Nat, k ≤ L.length ∧ i = .int .i64 k ∧ (∃ t : List UInt8, v = .string (bs t) ∧ t.length ≤ 120 ∧ Hid (t = allL r (L.take k))) ∧ Hid (Below v0.heap.size v0 wr)) (fun _ i _ => L.length - (intOf i).toNat)
  case atStart => exact ⟨0, by omega, rfl, ⟨[], rfl, by simp, hid (by simp [allL])⟩, hid (Below.refl _ _)⟩
  case round =>
    obtain ⟨k, hk, rfl, ⟨t, rfl, ht, HT⟩, HW⟩ := hrel
    by_cases hlt : k < L.length
    · obtain ⟨r0, r1, r2, r3, r4, r5, r6, r7, r8, r9, r10⟩ := (KR.out.up HW.out).cells
      obtain ⟨b, o, rfl, hB, c0, c1⟩ := GX.pt (HA.out.up HW.out) k hlt
      have HS := hid (allL_take r L k hlt)
      have HQ := hid (HPL.out _ (List.getElem_mem hlt))
      generalize L[k] = q at *
      obtain ⟨pk, pt⟩ := q
      simp only at c0 c1 HQ
      have HV0 := hid (fun w2 (h2 : Below v0.heap.size v0 w2) => val20_any (pk, pt) r _ w2 HR.out HQ.out (HX.out.up h2) (HE.out.up h2))
      have hvl := valL_len HR.out (pk, pt) HQ.out
      generalize valL r (pk, pt) = vl at *
      have hnb := enew wr (.cells #[.int .i64 pk, .string (bs pt)] 35)
      have HNB := hid (estep HW.out hnb)
      have q0 := (hnb.cell (lt_of_cell r0)).trans r0
      have q1 := (hnb.cell (lt_of_cell r1)).trans r1
      have q2 := (hnb.cell (lt_of_cell r2)).trans r2
      have q3 := (hnb.cell (lt_of_cell r3)).trans r3
      have q4 := (hnb.cell (lt_of_cell r4)).trans r4
      have q5 := (hnb.cell (lt_of_cell r5)).trans r5
      have q6 := (hnb.cell (lt_of_cell r6)).trans r6
      have q7 := (hnb.cell (lt_of_cell r7)).trans r7
      have q8 := (hnb.cell (lt_of_cell r8)).trans r8
      have q9 := (hnb.cell (lt_of_cell r9)).trans r9
      have q10 := (hnb.cell (lt_of_cell r10)).trans r10
      clear hnb r0 r1 r2 r3 r4 r5 r6 r7 r8 r9 r10
      go_wp2_with fail
      refine (HV0.out _ HNB.out).mono ?_
      rintro e w2 ⟨rfl, hb2⟩
      have H2 := hid (estep HNB.out hb2)
      clear hb2 q0 q1 q2 q3 q4 q5 q6 q7 q8 q9 q10 c0 c1
      by_cases hgt : 120 < t.length + vl.length
      · have hg1 : (120 : Int) < (t.length : Int) + (vl.length : Int) := by omega
        have HC := hid (show rendL r L = (t ++ vl).take 119 ++ [126] by
          have := rendL_cut (r := r) (l := L) (k := k + 1) (by rw [HS.out, ← HT.out, List.length_append]; exact hgt)
          rw [this, HS.out, ← HT.out])
        have x1 : (bs (t ++ vl)).extract 0 119 = bs ((t ++ vl).take 119) := by rw [bs_extract]; simp
        have c126 : (ByteArray.mk #[126]) = bs [126] := rfl
        have hg2 : (119 : Int) ≤ (t.length : Int) + (vl.length : Int) := by omega
        clear hgt
        go_wp2_with fail
        go_returns
        exact ⟨by rw [HC.out]; first | rfl | simp_all, estep HB.out H2.out⟩
      · have hg1 : (t.length : Int) + (vl.length : Int) ≤ 120 := by omega
        go_wp2_with fail
        go_roundw
        case rel => exact ⟨k + 1, by omega, by go_num, ⟨t ++ vl, rfl, by simp; omega, hid (by rw [HS.out, ← HT.out])⟩, H2⟩
        case measure => simp [intOf]; omega
    · obtain rfl : k = L.length := by omega
      have HC := hid (show rendL r L = t by
        have h1 := HT.out
        rw [List.take_length] at h1
        rw [rendL, ← h1, if_neg (by omega)])
      go_wp2_with fail
      go_returns
      exact ⟨by rw [HC.out]; rfl, estep HB.out HW.out⟩
theorem allL_len {r : Rec} (hr : okRec r) {L : List Prt} (hL : ∀ p ∈ L, p.2.length ≤ 100000) : (allL r L).length ≤ 400001 * L.length := by
  induction L with
  | nil => simp [allL]
  | cons p t ih =>
    have e : allL r (p :: t) = valL r p ++ allL r t := by simp [allL]
    have h1 := valL_len hr p (hL p (by simp))
    have h2 := ih (fun q hq => hL q (by simp [hq]))
    rw [e, List.length_append, List.length_cons]
    omega
set_option maxRecDepth 100000 in
set_option maxHeartbeats 2000000 in
theorem rrender_any (L : List Prt) (y : Value) (r : Rec) (x : Value) (w : World) (hr : okRec r) (hL : ∀ p ∈ L, p.2.length ≤ 100000) (hl : L.length ≤ 1000) (hy : PtV w y L) (hx : HV w x r.L) (E : EnvL w) :
    Calls Tryd.prog 26 #[y, .agg #[.string (bs r.m), .string (bs r.h), .string (bs r.p), x, .string (bs r.b), .string (bs r.tg), .int .i64 r.st, .int .i64 r.ve, .string (bs r.tr), .int .i64 r.sa, .int .i64 r.en]] w fun e w' => e = .returned (.string (bs (rendL r L))) ∧ Below w.heap.size w w' := by
  obtain ⟨A, c, rfl, hA⟩ := hy
  have kr : BRc (w.alloc (.cells #[.string (bs r.m), .string (bs r.h), .string (bs r.p), x, .string (bs r.b), .string (bs r.tg), .int .i64 r.st, .int .i64 r.ve, .string (bs r.tr), .int .i64 r.sa, .int .i64 r.en] 44)) w.heap.size r x := Bk.new _ _ _
  have hbA := enew w (.cells #[.string (bs r.m), .string (bs r.h), .string (bs r.p), x, .string (bs r.b), .string (bs r.tg), .int .i64 r.st, .int .i64 r.ve, .string (bs r.tr), .int .i64 r.sa, .int .i64 r.en] 44)
  have HB := hid hbA
  have HX := hid (hx.up hbA)
  have HE := hid (E.up hbA)
  have HA := hid (hA.up hbA)
  have KR := hid kr
  have HR := hid hr
  have HPL := hid hL
  obtain ⟨Ax, cx, rfl, -⟩ := hx
  clear hbA kr hr hL hA E
  go_enter Tryd.func26, Tryd.ntmps26
  go_upto_region 1 with (fail)
  generalize w.alloc (.cells #[.string (bs r.m), .string (bs r.h), .string (bs r.p), .slice Ax r.L.length cx, .string (bs r.b), .string (bs r.tg), .int .i64 r.st, .int .i64 r.ve, .string (bs r.tr), .int .i64 r.sa, .int .i64 r.en] 44) = v0 at *
  go_wp2_with fail
  go_loopw [5, 6] (fun v i wr => ∃ k : Nat, k ≤ L.length ∧ i = .int .i64 k ∧ (∃ t : List UInt8, v = .string (bs t) ∧ t.length ≤ 400001 * k ∧ Hid (t = allL r (L.take k))) ∧ Hid (Below v0.heap.size v0 wr)) (fun _ i _ => L.length - (intOf i).toNat)
  case atStart => exact ⟨0, by omega, rfl, ⟨[], rfl, by simp, hid (by simp [allL])⟩, hid (Below.refl _ _)⟩
  case round =>
    obtain ⟨k, hk, rfl, ⟨t, rfl, ht, HT⟩, HW⟩ := hrel
    by_cases hlt : k < L.length
    · obtain ⟨r0, r1, r2, r3, r4, r5, r6, r7, r8, r9, r10⟩ := (KR.out.up HW.out).cells
      obtain ⟨b, o, rfl, hB, c0, c1⟩ := GX.pt (HA.out.up HW.out) k hlt
      have HS := hid (allL_take r L k hlt)
      have HQ := hid (HPL.out _ (List.getElem_mem hlt))
      generalize L[k] = q at *
      obtain ⟨pk, pt⟩ := q
      simp only at c0 c1 HQ
      have HV0 := hid (fun w2 (h2 : Below v0.heap.size v0 w2) => rval20_any (pk, pt) r _ w2 HR.out HQ.out (HX.out.up h2) (HE.out.up h2))
      have hvl := valL_len HR.out (pk, pt) HQ.out
      generalize valL r (pk, pt) = vl at *
      have HVB := hid (fun p : BwL wr => calls_bwl (v0 := wr) (p := p) (HV0.out p.w (estep HW.out p.h)))
      have q0 := BwL.cell r0
      have q1 := BwL.cell r1
      have q2 := BwL.cell r2
      have q3 := BwL.cell r3
      have q4 := BwL.cell r4
      have q5 := BwL.cell r5
      have q6 := BwL.cell r6
      have q7 := BwL.cell r7
      have q8 := BwL.cell r8
      have q9 := BwL.cell r9
      have q10 := BwL.cell r10
      have e0 := BwL.cell c0
      have e1 := BwL.cell c1
      have hi0 : (0 : Int) ≤ (k : Int) := by omega
      have hi1 : (k : Int) < (L.length : Int) := by omega
      clear r0 r1 r2 r3 r4 r5 r6 r7 r8 r9 r10 c0 c1
      go_wp2_with fail
      refine wp_region_bwl (by kernel_rfl) (by kernel_rfl) ?_
      repeat (go_big_quiet_step ((go_at_call 24; exact HVB.out _)))
      refine wpQuiet_nil ?_
      rintro _ ⟨pq, rfl⟩
      have H2 := hid (estep HW.out pq.h)
      generalize pq.w = w2 at *
      go_wp2_with fail
      go_roundw
      case rel => exact ⟨k + 1, by omega, by go_num, ⟨t ++ vl, by first | rfl | simp [bs_append], by simp; omega, hid (by rw [HS.out, ← HT.out])⟩, H2⟩
      case measure => simp [intOf]; omega
    · obtain rfl : k = L.length := by omega
      have h1 := HT.out
      rw [List.take_length] at h1
      have HTT := hid h1
      clear h1
      by_cases hgt : 120 < t.length
      · have hg1 : (120 : Int) < (t.length : Int) := by omega
        have HC := hid (show rendL r L = t.take 119 ++ [126] by
          rw [rendL, ← HTT.out, if_pos hgt])
        have x1 : (bs t).extract 0 119 = bs (t.take 119) := by rw [bs_extract]; simp
        have c126 : (ByteArray.mk #[126]) = bs [126] := rfl
        have hg2 : (119 : Int) ≤ (t.length : Int) := by omega
        clear hgt
        go_wp2_with fail
        go_returns
        exact ⟨by rw [HC.out]; first | rfl | simp_all, estep HB.out HW.out⟩
      · have HC := hid (show rendL r L = t by rw [rendL, ← HTT.out, if_neg hgt])
        have hg1 : ¬ (120 : Int) < (t.length : Int) := by omega
        go_wp2_with fail
        go_returns
        exact ⟨by rw [HC.out]; rfl, estep HB.out HW.out⟩
end Go.Proofs.YtmejcchkoflciaaDoor
namespace Go.Proofs.YtmejcchkoflciaaDoor
set_option linter.unusedVariables false
set_option linter.unusedSimpArgs false
open Go.RowKit Go.Joins

def fewR (m h p : List UInt8) (L : List Hd) (b : List UInt8) : Bool := decide (m.length + h.length + p.length + b.length ≤ 2000) && (decide (L.length ≤ 40) && L.all fun h => decide (h.1.length + h.2.length ≤ 400))
set_option maxRecDepth 100000 in
set_option maxHeartbeats 1600000 in
theorem fewr_any (m h p : List UInt8) (A : Option Addr) (cap : Nat) (L : List Hd) (b : List UInt8) (w : World) (hR : HReads w (· < w.heap.size) A L) (hl : L.length ≤ 9223372036854775807) (hs : ∀ h ∈ L, h.1.length ≤ 140737488351232 ∧ h.2.length ≤ 140737488351232)
    (hm : m.length ≤ 140737488351232) (hh : h.length ≤ 140737488351232) (hp : p.length ≤ 140737488351232) (hb : b.length ≤ 140737488351232) :
    Calls Tryd.prog 40 #[.agg #[.string (bs m), .string (bs h), .string (bs p), .slice A L.length cap, .string (bs b)]] w fun e w' => e = .returned (.bool (fewR m h p L b)) ∧ Below w.heap.size w w' := by
  have hal := enew w (.cells #[.string (bs m), .string (bs h), .string (bs p), .slice A L.length cap, .string (bs b)] 42)
  have k5 := BQ.new w m h p (.slice A L.length cap) b
  have HR := hid (hR.later' hal)
  have HS := hid hs
  have HAL := hid hal
  have K5 := hid k5
  clear hR hs hal k5
  have a1 : IntKind.i64.wrap ((m.length : Int) + (h.length : Int)) = (m.length : Int) + (h.length : Int) := IntWalk.i64_in _ (by omega)
  have a2 : IntKind.i64.wrap ((m.length : Int) + (h.length : Int) + (p.length : Int)) = (m.length : Int) + (h.length : Int) + (p.length : Int) := IntWalk.i64_in _ (by omega)
  have a3 : IntKind.i64.wrap ((m.length : Int) + (h.length : Int) + (p.length : Int) + (b.length : Int)) = (m.length : Int) + (h.length : Int) + (p.length : Int) + (b.length : Int) := IntWalk.i64_in _ (by omega)
  by_cases h2 : (m.length : Int) + (h.length : Int) + (p.length : Int) + (b.length : Int) > 2000
  · have HC := hid (show fewR m h p L b = false by rw [fewR, decide_eq_false (by omega)]; rfl)
    go_enter Tryd.func40, Tryd.ntmps40
    go_wp2_with fail
    go_ret
    exact ⟨by rw [HC.out]; rfl, HAL.out⟩
  · by_cases h4 : (L.length : Int) > 40
    · have HC := hid (show fewR m h p L b = false by rw [fewR, decide_eq_false (show ¬ L.length ≤ 40 by omega)]; simp)
      go_enter Tryd.func40, Tryd.ntmps40
      go_wp2_with fail
      go_ret
      exact ⟨by rw [HC.out]; rfl, HAL.out⟩
    · have HC := hid (show fewR m h p L b = L.all fun h => decide (h.1.length + h.2.length ≤ 400) by rw [fewR, decide_eq_true (by omega), decide_eq_true (show L.length ≤ 40 by omega)]; rfl)
      go_enter Tryd.func40, Tryd.ntmps40
      go_wp2_with fail
      generalize hv1 : w.alloc (.cells #[.string (bs m), .string (bs h), .string (bs p), .slice A L.length cap, .string (bs b)] 42) = v1 at *
      clear hv1
      go_loopw [3] (fun i wr => ∃ k : Nat, k ≤ L.length ∧ i = .int .i64 k ∧ Hid (((L.take k).all fun h => decide (h.1.length + h.2.length ≤ 400)) = true ∧ Below v1.heap.size v1 wr)) (fun i _ => L.length - (intOf i).toNat)
      case atStart => exact ⟨0, by omega, rfl, hid ⟨rfl, Below.refl _ _⟩⟩
      case round =>
        obtain ⟨k, hk, rfl, HW⟩ := hrel
        have k3 := (K5.out.up HW.out.2).cells.2.2.2.1
        by_cases hlt : k < L.length
        · obtain ⟨bb, o, rfl, hB, hc0, hc1⟩ := (HR.out.below HW.out.2) k hlt
          have HT := hid (List.take_succ_eq_append_getElem hlt)
          have HM := hid (List.getElem_mem hlt)
          obtain ⟨hs0, hs1⟩ := HS.out _ (List.getElem_mem hlt)
          generalize L[k] = hh' at *
          obtain ⟨g0, g1⟩ := hh'
          have hz0 : g0.length ≤ 140737488351232 := hs0
          have hz1 : g1.length ≤ 140737488351232 := hs1
          clear hs0 hs1
          have hi0 : (0 : Int) ≤ (k : Int) := by omega
          have hi1 : (k : Int) < (L.length : Int) := by omega
          have hadd : IntKind.i64.wrap ((g0.length : Int) + (g1.length : Int)) = (g0.length : Int) + (g1.length : Int) := IntWalk.i64_in _ (by omega)
          go_wp2_with fail
          go_quiet (fail)
          go_wp2_with fail
          · go_ret
            exact ⟨by rw [HC.out, List.all_eq_false.2 ⟨_, HM.out, by simp; omega⟩]; rfl, below_drewN (estep HAL.out HW.out.2) _⟩
          · go_roundw
            case rel => exact ⟨k + 1, by omega, by go_num, hid ⟨by rw [HT.out, List.all_append, HW.out.1]; simp; omega, below_drewN HW.out.2 _⟩⟩
            case measure => simp [intOf]; omega
        · obtain rfl : k = L.length := by omega
          go_wp2_with fail
          go_ret
          have := HW.out.1
          rw [List.take_length] at this
          exact ⟨by rw [HC.out, this]; rfl, estep HAL.out HW.out.2⟩
def fewPt (L : List Prt) : Bool := decide (L.length ≤ 60) && L.all fun p => decide (p.2.length ≤ 300)
set_option maxRecDepth 100000 in
set_option maxHeartbeats 1000000 in
theorem fewpt_any (L : List Prt) (y : Value) (w : World) (hy : PtV w y L) (hl : L.length ≤ 9223372036854775807) :
    Calls Tryd.prog 21 #[y] w fun e w' => e = .returned (.bool (fewPt L)) ∧ w = w' := by
  obtain ⟨A, c, rfl, hA⟩ := hy
  have HA := hid hA
  clear hA
  by_cases h60 : L.length ≤ 60
  · have hle : ¬ (60 : Int) < (L.length : Int) := by omega
    have HC := hid (show fewPt L = L.all fun p => decide (p.2.length ≤ 300) by rw [fewPt, decide_eq_true h60]; rfl)
    go_enter Tryd.func21, Tryd.ntmps21
    go_wp2_with fail
    go_loop [3] (fun i => ∃ k : Nat, k ≤ L.length ∧ i = .int .i64 k ∧ Hid (((L.take k).all fun p => decide (p.2.length ≤ 300)) = true)) (fun i => L.length - (intOf i).toNat)
    case atStart => exact ⟨0, by omega, rfl, hid rfl⟩
    case round =>
      obtain ⟨k, hk, rfl, HW⟩ := hrel
      by_cases hlt : k < L.length
      · obtain ⟨b, o, rfl, hB, c0, c1⟩ := GX.pt HA.out k hlt
        have HT := hid (List.take_succ_eq_append_getElem hlt)
        have HM := hid (List.getElem_mem hlt)
        generalize L[k] = q at *
        obtain ⟨pk, pt⟩ := q
        simp only at c0 c1
        by_cases h3 : pt.length ≤ 300
        · have h4 : ¬ (300 : Int) < (pt.length : Int) := by omega
          go_wp2_with fail
          go_round
          case rel => exact ⟨k + 1, by omega, by go_num, hid (by rw [HT.out, List.all_append, HW.out]; simp [h3])⟩
          case measure => simp [intOf]; omega
        · have h4 : (300 : Int) < (pt.length : Int) := by omega
          have HF := hid (show (L.all fun p => decide (p.2.length ≤ 300)) = false by rw [List.all_eq_false]; exact ⟨_, HM.out, by simp; omega⟩)
          go_wp2_with fail
          go_returns
          exact ⟨by rw [HC.out, HF.out]; rfl, rfl⟩
      · obtain rfl : k = L.length := by omega
        have h1 := HW.out
        rw [List.take_length] at h1
        have HF := hid h1
        clear h1
        go_wp2_with fail
        go_returns
        exact ⟨by rw [HC.out, HF.out]; rfl, rfl⟩
  · have hle : (60 : Int) < (L.length : Int) := by omega
    have HC := hid (show fewPt L = false by rw [fewPt, decide_eq_false h60]; rfl)
    go_enter Tryd.func21, Tryd.ntmps21
    go_wp2_with fail
    go_returns
    exact ⟨by rw [HC.out]; rfl, rfl⟩
/-- The sizes of a record's parts, as they may come. -/
def wideR (r : Rec) : Prop := (r.m.length ≤ 140737488351232 ∧ r.h.length ≤ 140737488351232 ∧ r.p.length ≤ 140737488351232 ∧ r.b.length ≤ 140737488351232) ∧ (r.tg.length ≤ 140737488351232 ∧ r.tr.length ≤ 140737488351232) ∧ (∀ h ∈ r.L, h.1.length ≤ 140737488351232 ∧ h.2.length ≤ 140737488351232) ∧ r.L.length ≤ 9223372036854775807 ∧ (in64 r.st ∧ in64 r.ve ∧ in64 r.sa ∧ in64 r.en)
def few20 (r : Rec) : Bool := fewR r.m r.h r.p r.L r.b && decide (r.tg.length + r.tr.length ≤ 400)
theorem few20_ok {r : Rec} (hw : wideR r) (h : few20 r = true) : okRec r := by
  simp only [few20, fewR, Bool.and_eq_true, decide_eq_true_eq, List.all_eq_true] at h
  obtain ⟨⟨h1, h2, h3⟩, h4⟩ := h
  obtain ⟨-, -, -, -, i⟩ := hw
  exact ⟨⟨by omega, by omega, by omega, by omega, by omega⟩, fun x hx => by have := h3 x hx; omega, i, by omega⟩
set_option maxRecDepth 100000 in
set_option maxHeartbeats 1000000 in
theorem few20_any (r : Rec) (x : Value) (w : World) (hw : wideR r) (hx : HV w x r.L) :
    Calls Tryd.prog 22 #[.agg #[.string (bs r.m), .string (bs r.h), .string (bs r.p), x, .string (bs r.b), .string (bs r.tg), .int .i64 r.st, .int .i64 r.ve, .string (bs r.tr), .int .i64 r.sa, .int .i64 r.en]] w fun e w' => e = .returned (.bool (few20 r)) ∧ Below w.heap.size w w' := by
  have kr : BRc (w.alloc (.cells #[.string (bs r.m), .string (bs r.h), .string (bs r.p), x, .string (bs r.b), .string (bs r.tg), .int .i64 r.st, .int .i64 r.ve, .string (bs r.tr), .int .i64 r.sa, .int .i64 r.en] 44)) w.heap.size r x := Bk.new _ _ _
  have hbA := enew w (.cells #[.string (bs r.m), .string (bs r.h), .string (bs r.p), x, .string (bs r.b), .string (bs r.tg), .int .i64 r.st, .int .i64 r.ve, .string (bs r.tr), .int .i64 r.sa, .int .i64 r.en] 44)
  have hX := hx.up hbA
  have HB := hid hbA
  obtain ⟨⟨m0, m1, m2, m3⟩, ⟨m4, m5⟩, hs, hl, -⟩ := hw
  obtain ⟨A, c, rfl, hA⟩ := hX
  have HF := hid (fewr_any r.m r.h r.p A c r.L r.b _ hA hl hs m0 m1 m2 m3)
  obtain ⟨z, hz⟩ : ∃ z, fewR r.m r.h r.p r.L r.b = z := ⟨_, rfl⟩
  have HZ := hid hz
  rw [hz] at HF
  have KR := hid kr
  obtain ⟨r0, r1, r2, r3, r4, r5, r6, r7, r8, r9, r10⟩ := kr.cells
  clear kr hz hA hx hs hl m0 m1 m2 m3
  have hadd : IntKind.i64.wrap ((r.tg.length : Int) + (r.tr.length : Int)) = (r.tg.length : Int) + (r.tr.length : Int) := IntWalk.i64_in _ (by omega)
  go_enter Tryd.func22, Tryd.ntmps22
  go_upto_region 1 with (fail)
  generalize w.alloc (.cells #[.string (bs r.m), .string (bs r.h), .string (bs r.p), .slice A r.L.length c, .string (bs r.b), .string (bs r.tg), .int .i64 r.st, .int .i64 r.ve, .string (bs r.tr), .int .i64 r.sa, .int .i64 r.en] 44) = v0 at *
  go_wp2_with fail
  refine HF.out.mono ?_
  rintro e w1 ⟨rfl, hb1⟩
  have q5 := (hb1.cell (lt_of_cell r5)).trans r5
  have q8 := (hb1.cell (lt_of_cell r8)).trans r8
  have H1 := hid hb1
  clear hb1 r0 r1 r2 r3 r4 r5 r6 r7 r8 r9 r10
  cases z
  · have HC := hid (show few20 r = false by rw [few20, HZ.out]; rfl)
    go_wp2_with fail
    go_returns
    exact ⟨by rw [HC.out]; rfl, estep HB.out H1.out⟩
  · by_cases h4 : r.tg.length + r.tr.length ≤ 400
    · have h5 : (r.tg.length : Int) + (r.tr.length : Int) ≤ 400 := by omega
      have HC := hid (show few20 r = true by rw [few20, HZ.out, decide_eq_true h4]; rfl)
      go_wp2_with fail
      go_returns
      exact ⟨by rw [HC.out]; first | rfl | simp_all, estep HB.out H1.out⟩
    · have h5 : ¬ (r.tg.length : Int) + (r.tr.length : Int) ≤ 400 := by omega
      have HC := hid (show few20 r = false by rw [few20, decide_eq_false h4]; simp)
      go_wp2_with fail
      go_returns
      exact ⟨by rw [HC.out]; first | rfl | simp_all, estep HB.out H1.out⟩
def kRec : Rec := ⟨[], [], [47, 120], [([107], [34])], [], [], 404, 0, [], 3, 9⟩
def kPts : List Prt := [(3, []), (0, [32]), (5, []), (0, [32]), (8, []), (9, [107]), (9, [122]), (7, [])]
theorem kRend : rendL kRec kPts = [47, 120, 32, 52, 48, 52, 32, 54, 92, 34, 45, 45] := by
  have e : allL kRec kPts = escS [47, 120] ++ ([32] ++ (Lib.itoa 404 ++ ([32] ++ (Lib.itoa 6 ++ (escS [34] ++ (escS [] ++ (escS [] ++ []))))))) := rfl
  have e1 : Lib.itoa 404 = [52, 48, 52] := by simp [Lib.itoa, Lib.decDigits]
  have e2 : Lib.itoa 6 = [54] := by simp [Lib.itoa, Lib.decDigits]
  rw [rendL, e, e1, e2]
  decide
theorem kOk : okRec kRec := by
  refine ⟨⟨by decide, by decide, by decide, by decide, by decide⟩, ?_, ⟨⟨by decide, by decide⟩, ⟨by decide, by decide⟩, ⟨by decide, by decide⟩, ⟨by decide, by decide⟩⟩, by decide⟩
  intro x hx
  simp only [kRec, List.mem_singleton] at hx
  subst hx
  decide
set_option maxRecDepth 100000 in
set_option maxHeartbeats 2000000 in
theorem known20_any (w : World) (E : EnvL w) :
    Calls Tryd.prog 18 #[] w fun e w' => e = .returned (.bool true) ∧ Below w.heap.size w w' := by
  have c0 : (ByteArray.mk #[]) = bs [] := rfl
  have c1 : (ByteArray.mk #[97, 34, 98, 1]) = bs [97, 34, 98, 1] := rfl
  have c2 : (ByteArray.mk #[97, 92, 34, 98, 92, 120, 48, 49]) = bs [97, 92, 34, 98, 92, 120, 48, 49] := rfl
  have c3 : (ByteArray.mk #[45]) = bs [45] := rfl
  have c4 : (ByteArray.mk #[47, 120, 32, 52, 48, 52, 32, 54, 92, 34, 45, 45]) = bs [47, 120, 32, 52, 48, 52, 32, 54, 92, 34, 45, 45] := rfl
  have c5 : (ByteArray.mk #[107]) = bs [107] := rfl
  have c6 : (ByteArray.mk #[34]) = bs [34] := rfl
  have c7 : (ByteArray.mk #[47, 120]) = bs [47, 120] := rfl
  have c8 : (ByteArray.mk #[32]) = bs [32] := rfl
  have c9 : (ByteArray.mk #[122]) = bs [122] := rfl
  have hA := enew w (.cells #[.string (bs [107]), .string (bs [34])] 91)
  have hB := enew (w.alloc (.cells #[.string (bs [107]), .string (bs [34])] 91)) (.cells #[.string (bs []), .string (bs []), .string (bs [47, 120]), .slice (some ⟨w.heap.size, 0, none⟩) 1 1, .string (bs []), .string (bs []), .int .i64 404, .int .i64 0, .string (bs []), .int .i64 3, .int .i64 9] 44)
  have hC := enew ((w.alloc (.cells #[.string (bs [107]), .string (bs [34])] 91)).alloc (.cells #[.string (bs []), .string (bs []), .string (bs [47, 120]), .slice (some ⟨w.heap.size, 0, none⟩) 1 1, .string (bs []), .string (bs []), .int .i64 404, .int .i64 0, .string (bs []), .int .i64 3, .int .i64 9] 44)) (.cells #[.int .i64 3, .string (bs []), .int .i64 0, .string (bs [32]), .int .i64 5, .string (bs []), .int .i64 0, .string (bs [32]), .int .i64 8, .string (bs []), .int .i64 9, .string (bs [107]), .int .i64 9, .string (bs [122]), .int .i64 7, .string (bs [])] 35)
  have kA : Bk (w.alloc (.cells #[.string (bs [107]), .string (bs [34])] 91)) w.heap.size 91 #[.string (bs [107]), .string (bs [34])] := Bk.new _ _ _
  have kB : BRc ((w.alloc (.cells #[.string (bs [107]), .string (bs [34])] 91)).alloc (.cells #[.string (bs []), .string (bs []), .string (bs [47, 120]), .slice (some ⟨w.heap.size, 0, none⟩) 1 1, .string (bs []), .string (bs []), .int .i64 404, .int .i64 0, .string (bs []), .int .i64 3, .int .i64 9] 44)) (w.alloc (.cells #[.string (bs [107]), .string (bs [34])] 91)).heap.size kRec (.slice (some ⟨w.heap.size, 0, none⟩) 1 1) := Bk.new _ _ _
  have kC : Bk (((w.alloc (.cells #[.string (bs [107]), .string (bs [34])] 91)).alloc (.cells #[.string (bs []), .string (bs []), .string (bs [47, 120]), .slice (some ⟨w.heap.size, 0, none⟩) 1 1, .string (bs []), .string (bs []), .int .i64 404, .int .i64 0, .string (bs []), .int .i64 3, .int .i64 9] 44)).alloc (.cells #[.int .i64 3, .string (bs []), .int .i64 0, .string (bs [32]), .int .i64 5, .string (bs []), .int .i64 0, .string (bs [32]), .int .i64 8, .string (bs []), .int .i64 9, .string (bs [107]), .int .i64 9, .string (bs [122]), .int .i64 7, .string (bs [])] 35)) ((w.alloc (.cells #[.string (bs [107]), .string (bs [34])] 91)).alloc (.cells #[.string (bs []), .string (bs []), .string (bs [47, 120]), .slice (some ⟨w.heap.size, 0, none⟩) 1 1, .string (bs []), .string (bs []), .int .i64 404, .int .i64 0, .string (bs []), .int .i64 3, .int .i64 9] 44)).heap.size 35 #[.int .i64 3, .string (bs []), .int .i64 0, .string (bs [32]), .int .i64 5, .string (bs []), .int .i64 0, .string (bs [32]), .int .i64 8, .string (bs []), .int .i64 9, .string (bs [107]), .int .i64 9, .string (bs [122]), .int .i64 7, .string (bs [])] := Bk.new _ _ _
  rw [World.size_alloc] at kB
  rw [World.size_alloc, World.size_alloc] at kC
  have kB3 := kB.up hC
  have kA3 := (kA.up hB).up hC
  have hV : HV (((w.alloc (.cells #[.string (bs [107]), .string (bs [34])] 91)).alloc (.cells #[.string (bs []), .string (bs []), .string (bs [47, 120]), .slice (some ⟨w.heap.size, 0, none⟩) 1 1, .string (bs []), .string (bs []), .int .i64 404, .int .i64 0, .string (bs []), .int .i64 3, .int .i64 9] 44)).alloc (.cells #[.int .i64 3, .string (bs []), .int .i64 0, .string (bs [32]), .int .i64 5, .string (bs []), .int .i64 0, .string (bs [32]), .int .i64 8, .string (bs []), .int .i64 9, .string (bs [107]), .int .i64 9, .string (bs [122]), .int .i64 7, .string (bs [])] 35)) (.slice (some ⟨w.heap.size, 0, none⟩) 1 1) kRec.L := by
    refine ⟨some ⟨w.heap.size, 0, none⟩, 1, rfl, fun k hk => ?_⟩
    obtain rfl : k = 0 := by have : k < 1 := hk; omega
    exact ⟨w.heap.size, 0, rfl, by simp; omega, Bk.cell kA3 0, Bk.cell kA3 1⟩
  have hP : PtV (((w.alloc (.cells #[.string (bs [107]), .string (bs [34])] 91)).alloc (.cells #[.string (bs []), .string (bs []), .string (bs [47, 120]), .slice (some ⟨w.heap.size, 0, none⟩) 1 1, .string (bs []), .string (bs []), .int .i64 404, .int .i64 0, .string (bs []), .int .i64 3, .int .i64 9] 44)).alloc (.cells #[.int .i64 3, .string (bs []), .int .i64 0, .string (bs [32]), .int .i64 5, .string (bs []), .int .i64 0, .string (bs [32]), .int .i64 8, .string (bs []), .int .i64 9, .string (bs [107]), .int .i64 9, .string (bs [122]), .int .i64 7, .string (bs [])] 35)) (.slice (some ⟨w.heap.size + 1 + 1, 0, none⟩) 8 8) kPts :=
    ⟨some ⟨w.heap.size + 1 + 1, 0, none⟩, 8, rfl, (gx_new encPt_len kC rfl).imp fun b hb => by rw [hb]; simp⟩
  have HB := hid (estep (estep hA hB) hC)
  have HE := hid (E.up (estep (estep hA hB) hC))
  have HKB := hid kB3
  have HV := hid hV
  have HP := hid hP
  have HE1 : Hid (∀ w2 : World, Calls Tryd.prog 19 #[.string (ByteArray.mk #[97, 34, 98, 1])] w2 fun e w' => e = .returned (.string (bs [97, 92, 34, 98, 92, 120, 48, 49])) ∧ Below w2.heap.size w2 w') := hid fun w2 => escape_any [97, 34, 98, 1] (by decide) w2
  have HE2 : Hid (∀ w2 : World, Calls Tryd.prog 19 #[.string (ByteArray.mk #[])] w2 fun e w' => e = .returned (.string (bs [45])) ∧ Below w2.heap.size w2 w') := hid fun w2 => escape_any [] (by decide) w2
  have HR := hid (fun w2 (h2 : Below (((w.alloc (.cells #[.string (bs [107]), .string (bs [34])] 91)).alloc (.cells #[.string (bs []), .string (bs []), .string (bs [47, 120]), .slice (some ⟨w.heap.size, 0, none⟩) 1 1, .string (bs []), .string (bs []), .int .i64 404, .int .i64 0, .string (bs []), .int .i64 3, .int .i64 9] 44)).alloc (.cells #[.int .i64 3, .string (bs []), .int .i64 0, .string (bs [32]), .int .i64 5, .string (bs []), .int .i64 0, .string (bs [32]), .int .i64 8, .string (bs []), .int .i64 9, .string (bs [107]), .int .i64 9, .string (bs [122]), .int .i64 7, .string (bs [])] 35)).heap.size (((w.alloc (.cells #[.string (bs [107]), .string (bs [34])] 91)).alloc (.cells #[.string (bs []), .string (bs []), .string (bs [47, 120]), .slice (some ⟨w.heap.size, 0, none⟩) 1 1, .string (bs []), .string (bs []), .int .i64 404, .int .i64 0, .string (bs []), .int .i64 3, .int .i64 9] 44)).alloc (.cells #[.int .i64 3, .string (bs []), .int .i64 0, .string (bs [32]), .int .i64 5, .string (bs []), .int .i64 0, .string (bs [32]), .int .i64 8, .string (bs []), .int .i64 9, .string (bs [107]), .int .i64 9, .string (bs [122]), .int .i64 7, .string (bs [])] 35)) w2) => (show Calls Tryd.prog 25 #[.slice (some ⟨w.heap.size + 1 + 1, 0, none⟩) 8 8, .agg #[.string (bs []), .string (bs []), .string (bs [47, 120]), .slice (some ⟨w.heap.size, 0, none⟩) 1 1, .string (bs []), .string (bs []), .int .i64 404, .int .i64 0, .string (bs []), .int .i64 3, .int .i64 9]] w2 fun e w' => e = .returned (.string (bs [47, 120, 32, 52, 48, 52, 32, 54, 92, 34, 45, 45])) ∧ Below w2.heap.size w2 w' from by
    have := render_any kPts _ kRec _ w2 kOk (by decide) (by decide) (HP.out.up h2) (HV.out.up h2) (HE.out.up h2)
    rw [kRend] at this
    exact this))
  have HVL := hid (fun w2 (h2 : Below (((w.alloc (.cells #[.string (bs [107]), .string (bs [34])] 91)).alloc (.cells #[.string (bs []), .string (bs []), .string (bs [47, 120]), .slice (some ⟨w.heap.size, 0, none⟩) 1 1, .string (bs []), .string (bs []), .int .i64 404, .int .i64 0, .string (bs []), .int .i64 3, .int .i64 9] 44)).alloc (.cells #[.int .i64 3, .string (bs []), .int .i64 0, .string (bs [32]), .int .i64 5, .string (bs []), .int .i64 0, .string (bs [32]), .int .i64 8, .string (bs []), .int .i64 9, .string (bs [107]), .int .i64 9, .string (bs [122]), .int .i64 7, .string (bs [])] 35)).heap.size (((w.alloc (.cells #[.string (bs [107]), .string (bs [34])] 91)).alloc (.cells #[.string (bs []), .string (bs []), .string (bs [47, 120]), .slice (some ⟨w.heap.size, 0, none⟩) 1 1, .string (bs []), .string (bs []), .int .i64 404, .int .i64 0, .string (bs []), .int .i64 3, .int .i64 9] 44)).alloc (.cells #[.int .i64 3, .string (bs []), .int .i64 0, .string (bs [32]), .int .i64 5, .string (bs []), .int .i64 0, .string (bs [32]), .int .i64 8, .string (bs []), .int .i64 9, .string (bs [107]), .int .i64 9, .string (bs [122]), .int .i64 7, .string (bs [])] 35)) w2) => (show Calls Tryd.prog 23 #[.agg #[.int .i64 99, .string (bs [])], .agg #[.string (bs []), .string (bs []), .string (bs [47, 120]), .slice (some ⟨w.heap.size, 0, none⟩) 1 1, .string (bs []), .string (bs []), .int .i64 404, .int .i64 0, .string (bs []), .int .i64 3, .int .i64 9]] w2 fun e w' => e = .returned (.string (bs [])) ∧ Below w2.heap.size w2 w' from
    val20_any (99, []) kRec _ w2 kOk (by decide) (HV.out.up h2) (HE.out.up h2)))
  clear hA hB hC kA kB kC kB3 kA3 hV hP E
  go_enter Tryd.func18, Tryd.ntmps18
  go_upto_region 3 with (fail)
  generalize (((w.alloc (.cells #[.string (bs [107]), .string (bs [34])] 91)).alloc (.cells #[.string (bs []), .string (bs []), .string (bs [47, 120]), .slice (some ⟨w.heap.size, 0, none⟩) 1 1, .string (bs []), .string (bs []), .int .i64 404, .int .i64 0, .string (bs []), .int .i64 3, .int .i64 9] 44)).alloc (.cells #[.int .i64 3, .string (bs []), .int .i64 0, .string (bs [32]), .int .i64 5, .string (bs []), .int .i64 0, .string (bs [32]), .int .i64 8, .string (bs []), .int .i64 9, .string (bs [107]), .int .i64 9, .string (bs [122]), .int .i64 7, .string (bs [])] 35)) = v0 at *
  have HB0 := hid (Below.refl v0.heap.size v0)
  go_wp2_with fail
  refine (HE1.out _).mono ?_
  rintro e w1 ⟨rfl, hb1⟩
  have H1 := hid (estep HB0.out hb1)
  clear hb1
  go_wp2_with fail
  refine (HE2.out _).mono ?_
  rintro e w2 ⟨rfl, hb2⟩
  have H2 := hid (estep H1.out hb2)
  clear hb2
  obtain ⟨r0, r1, r2, r3, r4, r5, r6, r7, r8, r9, r10⟩ := (HKB.out.up H2.out).cells
  simp only [kRec] at r0 r1 r2 r4 r5 r6 r7 r8 r9 r10
  go_wp2_with fail
  refine (HR.out _ H2.out).mono ?_
  rintro e w3 ⟨rfl, hb3⟩
  have H3 := hid (estep H2.out hb3)
  clear hb3 r0 r1 r2 r3 r4 r5 r6 r7 r8 r9 r10
  obtain ⟨r0, r1, r2, r3, r4, r5, r6, r7, r8, r9, r10⟩ := (HKB.out.up H3.out).cells
  simp only [kRec] at r0 r1 r2 r4 r5 r6 r7 r8 r9 r10
  go_wp2_with fail
  refine (HVL.out _ H3.out).mono ?_
  rintro e w4 ⟨rfl, hb4⟩
  have H4 := hid (estep H3.out hb4)
  clear hb4 r0 r1 r2 r3 r4 r5 r6 r7 r8 r9 r10
  go_wp2_with fail
  go_returns
  exact ⟨rfl, estep HB.out H4.out⟩
end Go.Proofs.YtmejcchkoflciaaDoor
namespace Go.Proofs.YtmejcchkoflciaaDoor
set_option linter.unusedVariables false
set_option linter.unusedSimpArgs false
open Go.RowKit Go.Joins

set_option maxRecDepth 100000 in
set_option maxHeartbeats 2000000 in
theorem lineEscapes_walk (s : List UInt8) (hs : s.length ≤ 140737488351232) (w : World) (E : EnvL w) :
    Calls Tryd.prog 6 #[.string (bs s)] w fun e w' => e = .returned (.bool true) ∧ Below w.heap.size w w' := by
  by_cases h1 : s.length ≤ 1000
  · have h2 : ¬ (1000 : Int) < (s.length : Int) := by omega
    have HE := hid (escape_any s (by omega) w)
    have HR := hid (fun w2 => rescape_any s (by omega) w2)
    obtain ⟨hlo, hhi⟩ := escS_len s
    have HP := hid (escS_plain s)
    have HEN := hid E
    have hge : decide ((s.length : Int) ≤ ((escS s).length : Int)) = true := by simp; omega
    have hge2 : decide (s.length ≤ (escS s).length) = true := by simpa using hlo
    generalize escS s = t at *
    have ht : t.length ≤ 4001 := by omega
    clear hs E h1 hhi hlo
    go_enter Tryd.func6, Tryd.ntmps6
    go_wp2_with fail
    refine HE.out.mono ?_
    rintro e w1 ⟨rfl, hb1⟩
    have H1 := hid (And.intro hb1 (HEN.out.up hb1))
    clear hb1
    go_wp2_with fail
    go_loop [4] (fun i => ∃ k : Nat, k ≤ t.length ∧ i = .int .i64 k) (fun i => t.length - (intOf i).toNat)
    case atStart => exact ⟨0, by omega, rfl⟩
    case round =>
      obtain ⟨k, hk, rfl⟩ := hrel
      by_cases hlt : k < t.length
      · obtain ⟨p1, p2⟩ := HP.out _ (List.getElem_mem hlt)
        have d1 : decide ((t[k].toNat : Int) < 32) = false := by simp; omega
        have d2 : decide ((126 : Int) < (t[k].toNat : Int)) = false := by simp; omega
        clear p1 p2
        go_wp2_with fail
        go_round
        case rel => exact ⟨k + 1, by omega, by go_num⟩
        case measure => simp [intOf]; omega
      · obtain rfl : k = t.length := by omega
        go_wp2_with fail
        refine (HR.out _).mono ?_
        rintro e w2 ⟨rfl, hb2⟩
        have H2 := hid (And.intro (estep H1.out.1 hb2) (H1.out.2.up hb2))
        clear hb2
        go_wp2_with fail
        refine (known20_any _ H2.out.2).mono ?_
        rintro e w3 ⟨rfl, hb3⟩
        have H3 := hid (estep H2.out.1 hb3)
        clear hb3
        go_wp2_with fail
        go_returns
        exact ⟨rfl, H3.out⟩
  · have h2 : (1000 : Int) < (s.length : Int) := by omega
    have HEN := hid E
    clear E h1
    go_enter Tryd.func6, Tryd.ntmps6
    go_wp2_with fail
    refine (known20_any _ HEN.out).mono ?_
    rintro e w3 ⟨rfl, hb3⟩
    have H3 := hid hb3
    clear hb3
    go_wp2_with fail
    go_returns
    exact ⟨rfl, H3.out⟩
theorem escS_eqs (a b : List UInt8) (h1 : ¬ (a = [] ∧ b = [45])) (h2 : ¬ (a = [45] ∧ b = [])) : (escS a == escS b) = (a == b) := by
  rw [Bool.eq_iff_iff, beq_iff_eq, beq_iff_eq]
  refine ⟨fun h => ?_, fun h => by rw [h]⟩
  rcases escS_inj h with h | h | h
  · exact h
  · exact absurd h h1
  · exact absurd h h2
set_option maxRecDepth 100000 in
set_option maxHeartbeats 8000000 in
theorem lineApart_walk (a b : List UInt8) (ha : a.length ≤ 140737488351232) (hb : b.length ≤ 140737488351232) (w : World) (E : EnvL w) :
    Calls Tryd.prog 9 #[.string (bs a), .string (bs b)] w fun e w' => e = .returned (.bool true) ∧ Below w.heap.size w w' := by
  have HEN := hid E
  have HK := hid (known20_any w E)
  clear E
  by_cases h1 : a.length ≤ 1000
  · by_cases h3 : b.length ≤ 1000
    · have d1 : decide ((1000 : Int) < (a.length : Int)) = false := by simp; omega
      have d2 : decide ((1000 : Int) < (b.length : Int)) = false := by simp; omega
      have HEA := hid (escape_any a (by omega) w)
      have HEB := hid (fun w2 => escape_any b (by omega) w2)
      have HQ := hid (escS_eqs a b)
      obtain ⟨z1, hz1⟩ : ∃ z, (a == []) = z := ⟨_, rfl⟩
      obtain ⟨z2, hz2⟩ : ∃ z, (b == [45]) = z := ⟨_, rfl⟩
      obtain ⟨z3, hz3⟩ : ∃ z, (a == [45]) = z := ⟨_, rfl⟩
      obtain ⟨z4, hz4⟩ : ∃ z, (b == []) = z := ⟨_, rfl⟩
      have c45 : (ByteArray.mk #[45]) = bs [45] := rfl
      have c0 : (ByteArray.mk #[]) = bs [] := rfl
      generalize escS a = ea at *
      generalize escS b = eb at *
      clear h1 h3
      by_cases hm : (z1 && z2) = true ∨ (z3 && z4) = true
      · clear HQ HEA HEB HEN
        cases z1 <;> cases z2 <;> cases z3 <;> cases z4 <;> first
          | (exfalso; revert hm; decide)
          | (clear hm
             go_enter Tryd.func9, Tryd.ntmps9
             go_wp2_with fail
             ((with_reducible refine HK.out.mono ?_))
             rintro e w3 ⟨rfl, hb3⟩
             have H3 := hid hb3
             clear hb3
             go_wp2_with fail
             go_returns
             exact ⟨rfl, H3.out⟩)
      · have HQ2 := hid (HQ.out (fun h => hm (Or.inl (by rw [← hz1, ← hz2, h.1, h.2]; rfl))) (fun h => hm (Or.inr (by rw [← hz3, ← hz4, h.1, h.2]; rfl))))
        obtain ⟨z5, hz5⟩ : ∃ z, (a == b) = z := ⟨_, rfl⟩
        have hz6 := HQ2.out
        rw [hz5] at hz6
        clear HQ HQ2 HK
        cases z1 <;> cases z2 <;> cases z3 <;> cases z4 <;> first
          | (exfalso; revert hm; decide)
          | (clear hm
             go_enter Tryd.func9, Tryd.ntmps9
             go_wp2_with fail
             ((with_reducible refine HEA.out.mono ?_))
             rintro e w1 ⟨rfl, hb1⟩
             have H1 := hid (And.intro hb1 (HEN.out.up hb1))
             clear hb1
             go_wp2_with fail
             ((with_reducible refine (HEB.out _).mono ?_))
             rintro e w2 ⟨rfl, hb2⟩
             have H2 := hid (And.intro (estep H1.out.1 hb2) (H1.out.2.up hb2))
             clear hb2
             go_wp2_with fail
             ((with_reducible refine (known20_any _ H2.out.2).mono ?_))
             rintro e w3 ⟨rfl, hb3⟩
             have H3 := hid (estep H2.out.1 hb3)
             clear hb3
             go_wp2_with fail
             go_returns
             exact ⟨rfl, H3.out⟩)
    · have d1 : decide ((1000 : Int) < (a.length : Int)) = false := by simp; omega
      have d2 : decide ((1000 : Int) < (b.length : Int)) = true := by simp; omega
      clear h1 h3
      go_enter Tryd.func9, Tryd.ntmps9
      go_wp2_with fail
      refine HK.out.mono ?_
      rintro e w3 ⟨rfl, hb3⟩
      have H3 := hid hb3
      clear hb3
      go_wp2_with fail
      go_returns
      exact ⟨rfl, H3.out⟩
  · have d1 : decide ((1000 : Int) < (a.length : Int)) = true := by simp; omega
    clear h1
    go_enter Tryd.func9, Tryd.ntmps9
    go_wp2_with fail
    refine HK.out.mono ?_
    rintro e w3 ⟨rfl, hb3⟩
    have H3 := hid hb3
    clear hb3
    go_wp2_with fail
    go_returns
    exact ⟨rfl, H3.out⟩
end Go.Proofs.YtmejcchkoflciaaDoor
namespace Go.Proofs.YtmejcchkoflciaaDoor
set_option linter.unusedVariables false
set_option linter.unusedSimpArgs false
open Go.RowKit Go.Joins

def wideL (L : List Prt) : Prop := (∀ p ∈ L, p.2.length ≤ 140737488351232) ∧ L.length ≤ 9223372036854775807
theorem fewPt_ok {L : List Prt} (h : fewPt L = true) : (∀ p ∈ L, p.2.length ≤ 100000) ∧ L.length ≤ 1000 := by
  simp only [fewPt, Bool.and_eq_true, decide_eq_true_eq, List.all_eq_true] at h
  exact ⟨fun p hp => by have := h.2 p hp; omega, by omega⟩
set_option maxRecDepth 100000 in
set_option maxHeartbeats 8000000 in
theorem lineValues_walk (p : Prt) (L : List Prt) (y : Value) (r : Rec) (x : Value) (hp : p.2.length ≤ 140737488351232) (hL : wideL L) (hr : wideR r) (w : World) (E : EnvL w) (hy : PtV w y L) (hx : HV w x r.L) :
    Calls Tryd.prog 7 #[.agg #[.int .i64 p.1, .string (bs p.2)], y, .agg #[.string (bs r.m), .string (bs r.h), .string (bs r.p), x, .string (bs r.b), .string (bs r.tg), .int .i64 r.st, .int .i64 r.ve, .string (bs r.tr), .int .i64 r.sa, .int .i64 r.en]] w fun e w' => e = .returned (.bool true) ∧ Below w.heap.size w w' := by
  obtain ⟨pk, pt⟩ := p
  simp only at hp ⊢
  have hnot := enot
  have kp : BPt (w.alloc (.cells #[.int .i64 pk, .string (bs pt)] 35)) w.heap.size (pk, pt) := Bk.new _ _ _
  have hbA := enew w (.cells #[.int .i64 pk, .string (bs pt)] 35)
  have kr : BRc ((w.alloc (.cells #[.int .i64 pk, .string (bs pt)] 35)).alloc (.cells #[.string (bs r.m), .string (bs r.h), .string (bs r.p), x, .string (bs r.b), .string (bs r.tg), .int .i64 r.st, .int .i64 r.ve, .string (bs r.tr), .int .i64 r.sa, .int .i64 r.en] 44)) (w.alloc (.cells #[.int .i64 pk, .string (bs pt)] 35)).heap.size r x := Bk.new _ _ _
  rw [World.size_alloc] at kr
  have hbB := enew (w.alloc (.cells #[.int .i64 pk, .string (bs pt)] 35)) (.cells #[.string (bs r.m), .string (bs r.h), .string (bs r.p), x, .string (bs r.b), .string (bs r.tg), .int .i64 r.st, .int .i64 r.ve, .string (bs r.tr), .int .i64 r.sa, .int .i64 r.en] 44)
  have hbC := estep hbA hbB
  have KP := hid (kp.up hbB)
  have KR := hid kr
  have HB := hid hbC
  have HX := hid (hx.up hbC)
  have HY := hid (hy.up hbC)
  have HE := hid (E.up hbC)
  have HR := hid hr
  have HL := hid hL
  obtain ⟨Ax, cx, rfl, -⟩ := hx
  obtain ⟨A, c, rfl, -⟩ := hy
  clear hbA hbB hbC kp kr E hr hL
  go_enter Tryd.func7, Tryd.ntmps7
  go_upto_region 1 with (fail)
  generalize (w.alloc (.cells #[.int .i64 pk, .string (bs pt)] 35)).alloc (.cells #[.string (bs r.m), .string (bs r.h), .string (bs r.p), .slice Ax r.L.length cx, .string (bs r.b), .string (bs r.tg), .int .i64 r.st, .int .i64 r.ve, .string (bs r.tr), .int .i64 r.sa, .int .i64 r.en] 44) = v0 at *
  have HF := hid (fewpt_any L _ v0 HY.out HL.out.2)
  have HF2 := hid (few20_any r _ v0 HR.out HX.out)
  have HK := hid (fun w2 (h2 : Below v0.heap.size v0 w2) => known20_any w2 (HE.out.up h2))
  have HB0 := hid (Below.refl v0.heap.size v0)
  obtain ⟨t0, t1⟩ := KP.out.cells
  obtain ⟨r0, r1, r2, r3, r4, r5, r6, r7, r8, r9, r10⟩ := KR.out.cells
  simp only at t0 t1
  obtain ⟨z1, hz1⟩ : ∃ z, fewPt L = z := ⟨_, rfl⟩
  obtain ⟨z2, hz2⟩ : ∃ z, few20 r = z := ⟨_, rfl⟩
  have HZ := hid (And.intro hz1 hz2)
  rw [hz1] at HF
  rw [hz2] at HF2
  clear hz1 hz2
  cases z1
  · go_wp2_with fail
    refine HF.out.mono ?_
    rintro e w1 ⟨rfl, rfl⟩
    go_wp2_with fail
    refine (HK.out _ HB0.out).mono ?_
    rintro e w3 ⟨rfl, hb3⟩
    have H3 := hid hb3
    clear hb3
    go_wp2_with fail
    go_returns
    exact ⟨rfl, estep HB.out H3.out⟩
  · by_cases h3 : pt.length ≤ 300
    · have d3 : decide ((300 : Int) < (pt.length : Int)) = false := by simp; omega
      go_wp2_with fail
      refine HF.out.mono ?_
      rintro e w1 ⟨rfl, rfl⟩
      go_wp2_with fail
      refine HF2.out.mono ?_
      rintro e w2 ⟨rfl, hb2⟩
      have H2 := hid hb2
      clear hb2 t0 t1 r0 r1 r2 r3 r4 r5 r6 r7 r8 r9 r10
      cases z2
      · go_wp2_with fail
        refine (HK.out _ H2.out).mono ?_
        rintro e w3 ⟨rfl, hb3⟩
        have H3 := hid (estep H2.out hb3)
        clear hb3
        go_wp2_with fail
        go_returns
        exact ⟨rfl, estep HB.out H3.out⟩
      · have HO := hid (few20_ok HR.out HZ.out.2)
        have HP := hid (fewPt_ok HZ.out.1)
        obtain ⟨t0, t1⟩ := (KP.out.up H2.out).cells
        obtain ⟨r0, r1, r2, r3, r4, r5, r6, r7, r8, r9, r10⟩ := (KR.out.up H2.out).cells
        simp only at t0 t1
        have HV1 := hid (fun q : BwL w2 => calls_bwl (v0 := w2) (p := q) (val20_any (pk, pt) r _ q.w HO.out (by simp only; omega) (HX.out.up (estep H2.out q.h)) (HE.out.up (estep H2.out q.h))))
        have HV2 := hid (fun q : BwL w2 => calls_bwl (v0 := w2) (p := q) (rval20_any (pk, pt) r _ q.w HO.out (by simp only; omega) (HX.out.up (estep H2.out q.h)) (HE.out.up (estep H2.out q.h))))
        have HV3 := hid (fun q : BwL w2 => calls_bwl (v0 := w2) (p := q) (render_any L _ r _ q.w HO.out HP.out.1 HP.out.2 (HY.out.up (estep H2.out q.h)) (HX.out.up (estep H2.out q.h)) (HE.out.up (estep H2.out q.h))))
        have HV4 := hid (fun q : BwL w2 => calls_bwl (v0 := w2) (p := q) (rrender_any L _ r _ q.w HO.out HP.out.1 HP.out.2 (HY.out.up (estep H2.out q.h)) (HX.out.up (estep H2.out q.h)) (HE.out.up (estep H2.out q.h))))
        have HV5 := hid (fun q : BwL w2 => calls_bwl (v0 := w2) (p := q) (HK.out q.w (estep H2.out q.h)))
        generalize valL r (pk, pt) = vl at *
        generalize rendL r L = rl at *
        simp only at HV1 HV2
        have e0 := BwL.cell t0
        have e1 := BwL.cell t1
        have q0 := BwL.cell r0
        have q1 := BwL.cell r1
        have q2 := BwL.cell r2
        have q3 := BwL.cell r3
        have q4 := BwL.cell r4
        have q5 := BwL.cell r5
        have q6 := BwL.cell r6
        have q7 := BwL.cell r7
        have q8 := BwL.cell r8
        have q9 := BwL.cell r9
        have q10 := BwL.cell r10
        clear t0 t1 r0 r1 r2 r3 r4 r5 r6 r7 r8 r9 r10
        go_wp2_with fail
        refine wp_region_bwl (by kernel_rfl) (by kernel_rfl) ?_
        repeat (go_big_quiet_step (first
          | (go_at_call 23; exact HV1.out _)
          | (go_at_call 24; exact HV2.out _)
          | (go_at_call 25; exact HV3.out _)
          | (go_at_call 26; exact HV4.out _)
          | (go_at_call 18; exact HV5.out _)))
        refine wpQuiet_nil ?_
        rintro _ ⟨pq, rfl⟩
        have H3 := hid (estep H2.out pq.h)
        generalize pq.w = w3 at *
        go_wp2_with fail
        go_returns
        exact ⟨rfl, estep HB.out H3.out⟩
    · have d3 : decide ((300 : Int) < (pt.length : Int)) = true := by simp; omega
      go_wp2_with fail
      refine HF.out.mono ?_
      rintro e w1 ⟨rfl, rfl⟩
      go_wp2_with fail
      refine (HK.out _ HB0.out).mono ?_
      rintro e w3 ⟨rfl, hb3⟩
      have H3 := hid hb3
      clear hb3
      go_wp2_with fail
      go_returns
      exact ⟨rfl, estep HB.out H3.out⟩
set_option maxRecDepth 100000 in
set_option maxHeartbeats 8000000 in
theorem lineCaps_walk (L : List Prt) (y : Value) (r : Rec) (x : Value) (hL : wideL L) (hr : wideR r) (w : World) (E : EnvL w) (hy : PtV w y L) (hx : HV w x r.L) :
    Calls Tryd.prog 8 #[y, .agg #[.string (bs r.m), .string (bs r.h), .string (bs r.p), x, .string (bs r.b), .string (bs r.tg), .int .i64 r.st, .int .i64 r.ve, .string (bs r.tr), .int .i64 r.sa, .int .i64 r.en]] w fun e w' => e = .returned (.bool true) ∧ Below w.heap.size w w' := by
  have hnot := enot
  have kr : BRc (w.alloc (.cells #[.string (bs r.m), .string (bs r.h), .string (bs r.p), x, .string (bs r.b), .string (bs r.tg), .int .i64 r.st, .int .i64 r.ve, .string (bs r.tr), .int .i64 r.sa, .int .i64 r.en] 44)) w.heap.size r x := Bk.new _ _ _
  have hbC := enew w (.cells #[.string (bs r.m), .string (bs r.h), .string (bs r.p), x, .string (bs r.b), .string (bs r.tg), .int .i64 r.st, .int .i64 r.ve, .string (bs r.tr), .int .i64 r.sa, .int .i64 r.en] 44)
  have KR := hid kr
  have HB := hid hbC
  have HX := hid (hx.up hbC)
  have HY := hid (hy.up hbC)
  have HE := hid (E.up hbC)
  have HR := hid hr
  have HL := hid hL
  obtain ⟨Ax, cx, rfl, -⟩ := hx
  obtain ⟨A, c, rfl, -⟩ := hy
  clear hbC kr E hr hL
  go_enter Tryd.func8, Tryd.ntmps8
  go_upto_region 1 with (fail)
  generalize w.alloc (.cells #[.string (bs r.m), .string (bs r.h), .string (bs r.p), .slice Ax r.L.length cx, .string (bs r.b), .string (bs r.tg), .int .i64 r.st, .int .i64 r.ve, .string (bs r.tr), .int .i64 r.sa, .int .i64 r.en] 44) = v0 at *
  have HF := hid (fewpt_any L _ v0 HY.out HL.out.2)
  have HF2 := hid (few20_any r _ v0 HR.out HX.out)
  have HK := hid (fun w2 (h2 : Below v0.heap.size v0 w2) => known20_any w2 (HE.out.up h2))
  have HB0 := hid (Below.refl v0.heap.size v0)
  obtain ⟨r0, r1, r2, r3, r4, r5, r6, r7, r8, r9, r10⟩ := KR.out.cells
  obtain ⟨z1, hz1⟩ : ∃ z, fewPt L = z := ⟨_, rfl⟩
  obtain ⟨z2, hz2⟩ : ∃ z, few20 r = z := ⟨_, rfl⟩
  have HZ := hid (And.intro hz1 hz2)
  rw [hz1] at HF
  rw [hz2] at HF2
  clear hz1 hz2
  cases z1
  · go_wp2_with fail
    refine HF.out.mono ?_
    rintro e w1 ⟨rfl, rfl⟩
    go_wp2_with fail
    refine (HK.out _ HB0.out).mono ?_
    rintro e w3 ⟨rfl, hb3⟩
    have H3 := hid hb3
    clear hb3
    go_wp2_with fail
    go_returns
    exact ⟨rfl, estep HB.out H3.out⟩
  · go_wp2_with fail
    refine HF.out.mono ?_
    rintro e w1 ⟨rfl, rfl⟩
    go_wp2_with fail
    refine HF2.out.mono ?_
    rintro e w2 ⟨rfl, hb2⟩
    have H2 := hid hb2
    clear hb2 r0 r1 r2 r3 r4 r5 r6 r7 r8 r9 r10
    cases z2
    · go_wp2_with fail
      refine (HK.out _ H2.out).mono ?_
      rintro e w3 ⟨rfl, hb3⟩
      have H3 := hid (estep H2.out hb3)
      clear hb3
      go_wp2_with fail
      go_returns
      exact ⟨rfl, estep HB.out H3.out⟩
    · have HO := hid (few20_ok HR.out HZ.out.2)
      have HP := hid (fewPt_ok HZ.out.1)
      have HRN := hid (render_any L _ r _ w2 HO.out HP.out.1 HP.out.2 (HY.out.up H2.out) (HX.out.up H2.out) (HE.out.up H2.out))
      obtain ⟨r0, r1, r2, r3, r4, r5, r6, r7, r8, r9, r10⟩ := (KR.out.up H2.out).cells
      have HRL := hid (show rendL r L = if 120 < (allL r L).length then (allL r L).take 119 ++ [126] else allL r L from rfl)
      generalize rendL r L = rl at *
      have hl1000 := HP.out.2
      go_wp2_with fail
      refine HRN.out.mono ?_
      rintro e w3 ⟨rfl, hb3⟩
      have H3 := hid (estep H2.out hb3)
      clear hb3 r0 r1 r2 r3 r4 r5 r6 r7 r8 r9 r10
      go_wp2_with fail
      go_loopw [6, 7] (fun v i wr => ∃ k : Nat, k ≤ L.length ∧ i = .int .i64 k ∧ (∃ t : List UInt8, v = .string (bs t) ∧ t.length ≤ 400001 * k ∧ Hid (t = allL r (L.take k))) ∧ Hid (Below v0.heap.size v0 wr)) (fun _ i _ => L.length - (intOf i).toNat)
      case atStart => exact ⟨0, by omega, rfl, ⟨[], rfl, by simp, hid (by simp [allL])⟩, H3⟩
      case round =>
        obtain ⟨k, hk, rfl, ⟨t, rfl, ht, HT⟩, HW⟩ := hrel
        by_cases hlt : k < L.length
        · obtain ⟨r0, r1, r2, r3, r4, r5, r6, r7, r8, r9, r10⟩ := (KR.out.up HW.out).cells
          obtain ⟨A', c', ey, hAA⟩ := HY.out.up HW.out
          injection ey with ey1 ey2 ey3
          subst ey1
          obtain ⟨b, o, rfl, hB, c0, c1⟩ := GX.pt hAA k hlt
          clear hAA ey3 ey2
          have HS := hid (allL_take r L k hlt)
          have HQ := hid (HP.out.1 _ (List.getElem_mem hlt))
          generalize L[k] = q at *
          obtain ⟨pk, pt⟩ := q
          simp only at c0 c1 HQ
          have HV0 := hid (fun w2 (h2 : Below v0.heap.size v0 w2) => val20_any (pk, pt) r _ w2 HO.out HQ.out (HX.out.up h2) (HE.out.up h2))
          have hvl := valL_len HO.out (pk, pt) HQ.out
          generalize valL r (pk, pt) = vl at *
          have HVB := hid (fun p : BwL wr => calls_bwl (v0 := wr) (p := p) (HV0.out p.w (estep HW.out p.h)))
          have q0 := BwL.cell r0
          have q1 := BwL.cell r1
          have q2 := BwL.cell r2
          have q3 := BwL.cell r3
          have q4 := BwL.cell r4
          have q5 := BwL.cell r5
          have q6 := BwL.cell r6
          have q7 := BwL.cell r7
          have q8 := BwL.cell r8
          have q9 := BwL.cell r9
          have q10 := BwL.cell r10
          have e0 := BwL.cell c0
          have e1 := BwL.cell c1
          have hi0 : (0 : Int) ≤ (k : Int) := by omega
          have hi1 : (k : Int) < (L.length : Int) := by omega
          clear r0 r1 r2 r3 r4 r5 r6 r7 r8 r9 r10 c0 c1
          go_wp2_with fail
          refine wp_region_bwl (by kernel_rfl) (by kernel_rfl) ?_
          repeat (go_big_quiet_step ((go_at_call 23; exact HVB.out _)))
          refine wpQuiet_nil ?_
          rintro _ ⟨pq, rfl⟩
          have H4 := hid (estep HW.out pq.h)
          generalize pq.w = w4 at *
          go_wp2_with fail
          go_roundw
          case rel => exact ⟨k + 1, by omega, by go_num, ⟨t ++ vl, by first | rfl | simp [bs_append], by simp; omega, hid (by rw [HS.out, ← HT.out])⟩, H4⟩
          case measure => simp [intOf]; omega
        · obtain rfl : k = L.length := by omega
          have h1 := HT.out
          rw [List.take_length] at h1
          have HTT := hid h1
          clear h1
          by_cases hgt : 120 < t.length
          · have hr0 := HRL.out
            rw [← HTT.out, if_pos hgt] at hr0
            have hr1 : rl.length = 120 := by rw [hr0, List.length_append, List.length_take, List.length_singleton]; omega
            have hr2 : rl.take 119 = t.take 119 := by rw [hr0, List.take_append_of_le_length (by rw [List.length_take]; omega), List.take_take]; rfl
            have hr3 : ∀ h : 119 < rl.length, rl[119]'h = 126 := by
              intro h
              subst hr0
              rw [List.getElem_append_right (by rw [List.length_take]; omega)]
              simp
            have g1 : decide ((t.length : Int) ≤ 120) = false := by simp; omega
            have g2 : ((rl.length : Int) == 120) = true := by simp; omega
            have g3 : (119 : Int) ≤ (rl.length : Int) := by omega
            have g4 : (119 : Int) ≤ (t.length : Int) := by omega
            have g5 : (119 : Int) < (rl.length : Int) := by omega
            have g6 : 119 < rl.length := by omega
            have x1 : (bs rl).extract 0 119 = bs (t.take 119) := by rw [bs_extract]; simp [hr2]
            have x2 : (bs t).extract 0 119 = bs (t.take 119) := by rw [bs_extract]; simp
            have x3 := hr3 g6
            have HV5 := hid (fun q : BwL wr => calls_bwl (v0 := wr) (p := q) (HK.out q.w (estep HW.out q.h)))
            clear hr0 hr1 hr2 hr3 hgt
            go_wp2_with fail
            refine wp_region_bwl (by kernel_rfl) (by kernel_rfl) ?_
            repeat (go_big_quiet_step ((go_at_call 18; exact HV5.out _)))
            refine wpQuiet_nil ?_
            rintro _ ⟨pq, rfl⟩
            have H4 := hid (estep HW.out pq.h)
            generalize pq.w = w4 at *
            go_wp2_with fail
            go_returns
            exact ⟨rfl, estep HB.out H4.out⟩
          · have hr0 := HRL.out
            rw [← HTT.out, if_neg hgt] at hr0
            subst hr0
            have g1 : decide ((rl.length : Int) ≤ 120) = true := by simp; omega
            clear hgt
            go_wp2_with fail
            refine (HK.out _ HW.out).mono ?_
            rintro e w4 ⟨rfl, hb4⟩
            have H4 := hid (estep HW.out hb4)
            clear hb4
            go_wp2_with fail
            go_returns
            exact ⟨rfl, estep HB.out H4.out⟩
end Go.Proofs.YtmejcchkoflciaaDoor
