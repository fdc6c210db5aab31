/- Texts put together: Le Lf Ll. -/
import Derived.Test.YtelglcakekgdeaaGreatDoorG35
import Derived.Deep.Cut
import Derived.Deep.CutRange
namespace Go.Proofs.YtelglcakekgdeaaGreatDoor
set_option linter.unusedVariables false
set_option linter.unusedSimpArgs false
open Go.RowKit Go.Joins

theorem lineN_len {i : Nat} (hi : i < 14) {bh : List (List UInt8)} (hb : ∀ s ∈ bh, s.length ≤ 1000) (h2 : bh.length ≤ 2) : (lineN i bh).length ≤ 2009 := by
  have h := lineP_len hi hb bh.length (Nat.le_refl _)
  have e : lineN i bh = lineP i bh bh.length ++ [10] := by rw [lineP, List.take_length, lineN, lineT]
  rw [e, List.length_append, List.length_cons, List.length_nil]
  have : bh.length * 1001 ≤ 2 * 1001 := Nat.mul_le_mul_right _ h2
  omega
theorem predN_len {p : Pd} (h : cE p.k p.n p.v = 0) : (predN p).length ≤ 2009 := by
  obtain ⟨hk, hn, hv⟩ := cE_form h
  unfold predN
  split
  · exact lineN_len (by omega) (by simp; omega) (by simp)
  · split
    · exact lineN_len (by omega) (by simp; omega) (by simp)
    · exact lineN_len (by omega) (by simp; omega) (by simp)
theorem preds_len : ∀ {ps : List Pd}, (∀ p ∈ ps, cE p.k p.n p.v = 0) → (ps.flatMap predN).length ≤ 2009 * ps.length
  | [], _ => by simp
  | p :: r, h => by
    have h1 := predN_len (h p (by simp))
    have h2 := preds_len (ps := r) fun q hq => h q (by simp [hq])
    rw [List.flatMap_cons, List.length_append, List.length_cons]
    omega
theorem preds_up {ps : List Pd} {k : Nat} (hk : k < ps.length) : (ps.take (k + 1)).flatMap predN = (ps.take k).flatMap predN ++ predN ps[k] := by
  rw [List.take_succ_eq_append_getElem hk, List.flatMap_append]; simp
theorem name_len {l : List UInt8} (h : nameB l = true) : l.length ≤ 64 := by
  simp only [nameB, Bool.and_eq_true, decide_eq_true_eq] at h; omega
theorem keepE {v w' : World} {g i j : Nat} {a b : Value} (h1 : v.cell? ⟨g, i, none⟩ = some a) (h2 : v.cell? ⟨g, j, none⟩ = some b) (hz : Below v.heap.size v w') : w'.cell? ⟨g, i, none⟩ = some a ∧ w'.cell? ⟨g, j, none⟩ = some b ∧ Below v.heap.size v w' :=
  ⟨(hz.cell (lt_of_cell h1)).trans h1, (hz.cell (lt_of_cell h2)).trans h2, hz⟩
end Go.Proofs.YtelglcakekgdeaaGreatDoor
namespace Go.Proofs.YtelglcakekgdeaaGreatDoor
set_option linter.unusedVariables false
set_option linter.unusedSimpArgs false
open Go.RowKit Go.Joins

def wrC (f : List UInt8) (U : List Rs) : List UInt8 × Int := if chkC cfR f U = 0 then (confN f U, 0) else ([], chkC cfR f U)
theorem opt_len {b : Bool} {x y : List UInt8} (hx : x.length ≤ 2009) (hy : y.length ≤ 2009) (c : Prop) [Decidable c] : (if c then x else y).length ≤ 2009 := by
  split <;> assumption
theorem ruleN_len {r : Rs} (h : cfR r = 0) : (ruleN r).length ≤ 20090 := by
  obtain ⟨hps4, hps, htg, hmi, n0, n1, n2, n3, n4, n5, n6⟩ := cfR_ok h
  have ltg := name_len htg
  have i0 := itoa_len n0
  have i1 := itoa_len n1
  have i2 := itoa_len n2
  have i3 := itoa_len n3
  have i4 := itoa_len n4
  have i5 := itoa_len n5
  have i6 := itoa_len n6
  have l1 := lineN_len (i := 1) (by omega) (bh := [Lib.itoa r.rank]) (by simp; omega) (by simp)
  have l8 := lineN_len (i := 8) (by omega) (bh := [r.tg]) (by simp; omega) (by simp)
  have lp := preds_len hps
  have la : (abN r).length ≤ 2009 := by
    unfold abN
    split
    · exact lineN_len (by omega) (by simp; omega) (by simp)
    · simp
  have ld : (deN r).length ≤ 2009 := by
    unfold deN
    split
    · exact lineN_len (by omega) (by simp; omega) (by simp)
    · simp
  have lm : (miN r).length ≤ 2009 := by
    unfold miN
    unfold mirB at hmi
    split
    · rename_i hm
      rw [if_neg hm] at hmi
      have := name_len hmi
      exact lineN_len (by omega) (by simp; omega) (by simp)
    · simp
  have ls : (saN r).length ≤ 2009 := by
    unfold saN
    split
    · exact lineN_len (by omega) (by simp; omega) (by simp)
    · simp
  unfold ruleN
  simp only [List.length_append]
  omega
theorem rules_len : ∀ {U : List Rs}, (∀ r ∈ U, cfR r = 0) → (U.flatMap ruleN).length ≤ 20090 * U.length
  | [], _ => by simp
  | r :: U, h => by
    have h1 := ruleN_len (h r (by simp))
    have h2 := rules_len (U := U) fun q hq => h q (by simp [hq])
    rw [List.flatMap_cons, List.length_append, List.length_cons]
    omega
theorem rules_up {U : List Rs} {k : Nat} {r : Rs} (hk : U[k]? = some r) : (U.take (k + 1)).flatMap ruleN = (U.take k).flatMap ruleN ++ ruleN r := by
  obtain ⟨h, rfl⟩ := List.getElem?_eq_some_iff.1 hk
  rw [List.take_succ_eq_append_getElem h, List.flatMap_append]; simp
theorem fmN_len {f : List UInt8} (h : fmtOK f = true) : (fmN f).length ≤ 2009 ∧ f.length ≤ 120 := by
  unfold fmtOK at h
  rw [Bool.and_eq_true, decide_eq_true_eq] at h
  refine ⟨?_, h.1⟩
  unfold fmN
  split
  · exact lineN_len (by omega) (by simp; omega) (by simp)
  · simp
end Go.Proofs.YtelglcakekgdeaaGreatDoor
namespace Go.Proofs.YtelglcakekgdeaaGreatDoor
set_option linter.unusedVariables false
set_option linter.unusedSimpArgs false
open Go.RowKit Go.Joins

theorem int_one (w : World) (a : Int) (t : TypeId) : GX encI 1 (w.alloc (.cells #[.int .i64 a] t)) (· < (w.alloc (.cells #[.int .i64 a] t)).heap.size) (some ⟨w.heap.size, 0, none⟩) [a] := by
  intro i hi
  have : i = 0 := by simpa using hi
  subst this
  refine ⟨_, 0, rfl, by simp, fun j hj => ?_⟩
  obtain rfl : j = 0 := by omega
  exact Bk.cell (Bk.new w t #[.int .i64 a]) 0
theorem numP_bad {d : List UInt8} (h : ∀ u, Lib.atoiAll d ≠ .ok u) : numP d = none := by
  unfold numP
  split
  · rename_i v e; exact absurd e (h v)
  · rfl
theorem numP_out {d : List UInt8} {v : Int} (h : Lib.atoiAll d = .ok v) (hi : inNum v = false) : numP d = none := by
  unfold numP
  rw [h]
  simp [hi]
theorem numP_ne {d : List UInt8} {v : Int} (h : Lib.atoiAll d = .ok v) (hi : Lib.itoa v ≠ d) : numP d = none := by
  unfold numP
  rw [h]
  simp [hi]
theorem numP_ok {d : List UInt8} {v : Int} (h : Lib.atoiAll d = .ok v) (hi : inNum v = true) (he : Lib.itoa v = d) : numP d = some v := by
  unfold numP
  rw [h]
  simp [hi, he]
set_option maxRecDepth 100000 in
set_option maxHeartbeats 4000000 in
theorem number_any (d : List UInt8) (w : World) (E : EnvC w) (hl : d.length ≤ 100000) {z : Option Int} (H : Hid (numP d = z)) :
    Calls Tryz.prog 87 #[.string (bs d)] w fun e w' => e = .returned (.tuple #[.int .i64 (z.getD 0), .bool z.isSome]) ∧ Below w.heap.size w w' := by
  have hnot := enot
  have HE := hid E
  have HA := hid (lib_atoi d hl w E.1)
  clear E
  go_enter Tryz.func87, Tryz.ntmps87
  go_wp2_with fail
  refine HA.out.mono ?_
  rintro e w1 ⟨⟨v, r, rfl, hv1, hv2, hr⟩, hb1⟩
  have HB1 := hid hb1
  clear HA hb1
  rcases hr with ⟨rfl, ha⟩ | ⟨⟨t, pv, rfl⟩, ha⟩
  rotate_left
  · have HZ := hid (show z = none by rw [← H.out]; exact numP_bad ha)
    obtain rfl := HZ.out
    clear ha
    go_wp2_with fail
    go_returns
    exact ⟨rfl, HB1.out⟩
  have HOK := hid ha
  have hb2 := enew w1 (.cells #[.int .i64 v] 3)
  have HB2 := hid (estep HB1.out hb2)
  have HN := hid (areNumbers_any (some ⟨w1.heap.size, 0, none⟩) 1 [v] _ (int_one w1 v 3) (by simp))
  clear ha hb2
  by_cases hin : inNum v = true
  rotate_left
  · have hin' : inNum v = false := by simpa using hin
    have HZ := hid (show z = none by rw [← H.out]; exact numP_out HOK.out hin')
    obtain rfl := HZ.out
    have HNA := hid (show [v].all inNum = false by simp [hin'])
    rw [HNA.out] at HN
    clear hin hin'
    go_wp2_with fail
    refine HN.out.mono ?_
    rintro e w2 ⟨rfl, rfl⟩
    go_wp2_with fail
    go_returns
    exact ⟨rfl, HB2.out⟩
  have HNA := hid (show [v].all inNum = true by simp [hin])
  rw [HNA.out] at HN
  have HD := hid (cdigits_any v _ (HE.out.up HB2.out) hin)
  have HIN := hid hin
  clear hin
  by_cases he : Lib.itoa v = d
  · have HZ := hid (show z = some v by rw [← H.out]; exact numP_ok HOK.out HIN.out he)
    obtain rfl := HZ.out
    rw [he] at HD
    clear he
    go_wp2_with fail
    refine HN.out.mono ?_
    rintro e w2 ⟨rfl, rfl⟩
    go_wp2_with fail
    refine HD.out.mono ?_
    rintro e w3 ⟨rfl, hb3⟩
    have HB3 := hid (estep HB2.out hb3)
    go_wp2_with fail
    go_returns
    exact ⟨rfl, HB3.out⟩
  · have HZ := hid (show z = none by rw [← H.out]; exact numP_ne HOK.out he)
    obtain rfl := HZ.out
    have HE2 := hid (show (Lib.itoa v == d) = false by simpa using he)
    have HE3 := hid (show (Lib.itoa v != d) = true by simpa using he)
    clear he
    generalize Lib.itoa v = iv at *
    have e2 := HE2.out
    have e3 := HE3.out
    go_wp2_with fail
    refine HN.out.mono ?_
    rintro e w2 ⟨rfl, rfl⟩
    go_wp2_with fail
    refine HD.out.mono ?_
    rintro e w3 ⟨rfl, hb3⟩
    have HB3 := hid (estep HB2.out hb3)
    go_wp2_with fail
    go_returns
    exact ⟨rfl, HB3.out⟩
set_option maxHeartbeats 1600000 in
theorem ccut_any (sg : UInt8) (r : List UInt8) (w : World) (E : EnvC w) (hl : r.length ≤ 100000) (hsg : sg = 110 ∨ sg = 115 ∨ sg = 116 ∨ sg = 119) :
    Calls Tryz.prog 77 #[.int .u8 sg.toNat, .string (bs r)] w fun e w' => e = .returned (.tuple #[.string (bs (cutP sg r).1), .string (bs (cutP sg r).2.1), .bool (cutP sg r).2.2]) ∧ Below w.heap.size w w' := by
  have c1 : (ByteArray.mk #[32]) = bs [32] := rfl
  have c0 : (ByteArray.mk #[]) = bs [] := rfl
  have HL := hid (lib_cut r [32] (by simp) hl w E.1)
  clear E
  rcases hsg with rfl | rfl | rfl | rfl
  · have HC := hid (show cutP 110 r = cutS [32] r from rfl)
    rw [HC.out]
    clear HC
    generalize cutS [32] r = x at *
    go_enter Tryz.func77, Tryz.ntmps77
    go_wp2_with fail
    refine HL.out.mono ?_
    rintro e w1 ⟨rfl, hb1⟩
    go_wp2_with fail
    go_returns
    exact ⟨rfl, hb1⟩
  · have HC := hid (show cutP 115 r = (r, [], false) from rfl)
    rw [HC.out]
    clear HC
    go_enter Tryz.func77, Tryz.ntmps77
    go_wp2_with fail
    go_returns
    exact ⟨rfl, Below.refl _ _⟩
  · have HC := hid (show cutP 116 r = (r, [], false) from rfl)
    rw [HC.out]
    clear HC
    go_enter Tryz.func77, Tryz.ntmps77
    go_wp2_with fail
    go_returns
    exact ⟨rfl, Below.refl _ _⟩
  · have HC := hid (show cutP 119 r = cutS [32] r from rfl)
    rw [HC.out]
    clear HC
    generalize cutS [32] r = x at *
    go_enter Tryz.func77, Tryz.ntmps77
    go_wp2_with fail
    refine HL.out.mono ?_
    rintro e w1 ⟨rfl, hb1⟩
    go_wp2_with fail
    go_returns
    exact ⟨rfl, hb1⟩
theorem frm_at {j : Nat} (hj : j < 14) : frm[j]'(by show j < 14; exact hj) = (frmW j, frmB j) := by
  have h : frm[j]? = some (frm[j]'(by show j < 14; exact hj)) := List.getElem?_eq_getElem (by show j < 14; exact hj)
  rw [frmW, frmB, h]; rfl
theorem lineIx_hit {wd : List UInt8} {k : Nat} (hk : k < 14) (he : frmW k = wd) (hn : ∀ j, j < k → frmW j ≠ wd) : lineIx wd = some k := by
  have h : frm.findIdx (fun x => x.1 == wd) = k := by
    rw [List.findIdx_eq (by show k < 14; exact hk)]
    refine ⟨by rw [frm_at hk]; simpa using he, fun j hj => ?_⟩
    rw [frm_at (by omega)]
    simpa using hn j hj
  rw [lineIx, h, if_pos hk]
theorem lineIx_miss {wd : List UInt8} (hn : ∀ j, j < 14 → frmW j ≠ wd) : lineIx wd = none := by
  have h : frm.findIdx (fun x => x.1 == wd) = 14 := by
    refine List.findIdx_eq_length.2 fun x hx => ?_
    obtain ⟨j, hj, rfl⟩ := List.getElem_of_mem hx
    rw [frm_at hj]
    simpa using hn j hj
  rw [lineIx, h, if_neg (by omega)]
def ixI (o : Option Nat) : Int := match o with | some i => (i : Int) | none => -1
set_option maxRecDepth 100000 in
set_option maxHeartbeats 1600000 in
theorem lineOf_any (wd : List UInt8) (w : World) (F : Frm w) :
    Calls Tryz.prog 76 #[.string (bs wd)] w fun e w' => e = .returned (.int .i64 (ixI (lineIx wd))) ∧ w = w' := by
  have HF := hid F
  clear F
  go_enter Tryz.func76, Tryz.ntmps76
  go_wp2_with fail
  go_loop [3, 4] (fun _ i => ∃ k : Nat, k ≤ 14 ∧ i = .int .i64 k ∧ Hid (∀ j, j < k → frmW j ≠ wd)) (fun _ i => 14 - (intOf i).toNat)
  case atStart => exact ⟨0, by omega, rfl, hid (fun j hj => absurd hj (by omega))⟩
  case round =>
    obtain ⟨k, hk, rfl, HN⟩ := hrel
    by_cases hlt : k < 14
    · have hki : decide ((k : Int) < 14) = true := by simp; omega
      have hk0 : (0 : Int) ≤ (k : Int) := by omega
      have hk1 : (k : Int) < 14 := by omega
      obtain ⟨f1, -⟩ := HF.out k hlt
      have HIT := hid (fun he => lineIx_hit hlt he HN.out)
      have HUP := hid (fun (hne : frmW k ≠ wd) => show ∀ j, j < k + 1 → frmW j ≠ wd from fun j hj => by
        by_cases e : j = k
        · subst e; exact hne
        · exact HN.out j (by omega))
      generalize frmW k = fw at *
      by_cases he : fw = wd
      · have HZ := hid (HIT.out he)
        subst he
        go_wp2_with fail
        go_ret
        exact ⟨by rw [HZ.out]; rfl, rfl⟩
      · have HE2 := hid (HUP.out he)
        have e2 : (fw == wd) = false := by simpa using he
        go_wp2_with fail
        go_round
        case rel => exact ⟨k + 1, by omega, by go_num, hid HE2.out⟩
        case measure => simp [intOf]; omega
    · obtain rfl : k = 14 := by omega
      have HZ := hid (lineIx_miss HN.out)
      go_wp2_with fail
      go_ret
      exact ⟨by rw [HZ.out]; rfl, rfl⟩
end Go.Proofs.YtelglcakekgdeaaGreatDoor
