/- Texts put together: Fa Fb. -/
import Derived.Test.YtmejcchkoflciaaDoorG04
import Derived.Test.YtmejcchkoflciaaDoorG19
import Derived.Lib.Strings
namespace Go.Proofs.YtmejcchkoflciaaDoor
set_option linter.unusedVariables false
set_option linter.unusedSimpArgs false
open Go.RowKit Go.Joins

theorem gMaxF : Tryd.prog.globalNamed "internal/bytealg.MaxLen" = some 1 := by kernel_rfl
/-- The word of a kind. -/
def wordF (i : Nat) : List UInt8 := (([] : List UInt8) :: wordsF).getD i []
/-- The table of words, where it lies. -/
def WdsAt (w : World) : Prop := ∀ i, i < 9 → w.cell? ⟨0, i, none⟩ = some (.string (bs (wordF i)))
/-- What the variables hold, as far as a walk asks. -/
def EnvF (w : World) : Prop := (∃ m, w.var? Tryd.prog "internal/bytealg.MaxLen" = some #[.int .i64 m]) ∧ WdsAt w
theorem EnvF.up {w w' : World} (h : EnvF w) (hb : Below w.heap.size w w') : EnvF w' := by
  obtain ⟨⟨m, h⟩, hW⟩ := h
  exact ⟨⟨m, var_stays gMaxF h hb (Nat.le_refl _)⟩, fun i hi => (hb.cell (lt_of_cell (hW i hi))).trans (hW i hi)⟩
theorem flib_cut (s : List UInt8) (hl : s.length ≤ 100000) (w : World) (E : EnvF w) :
    Calls Tryd.prog 47 #[.string (bs s), .string (bs [37])] w fun e w' => e = .returned (.tuple #[.string (bs (cutS [37] s).1), .string (bs (cutS [37] s).2.1), .bool (cutS [37] s).2.2]) ∧ Below w.heap.size w w' := by
  obtain ⟨m, hm⟩ := E.1
  refine (Tryd.strings_Cut (bs s) (bs [37]) m w (by rw [bs_size]; omega) (by have h0 := World.var?_cell gMaxF hm 0; simpa using h0)).mono fun e w' ⟨a, n, b⟩ => ⟨?_, by rw [b]; exact below_drewN (Below.refl _ _) _⟩
  rw [a, bs_data, bs_data, cut_eq (by simp)]; rfl
theorem flib_pre (s p : List UInt8) (w : World) :
    Calls Tryd.prog 46 #[.string (bs s), .string (bs p)] w fun e w' => e = .returned (.tuple #[.string (bs (Lib.trimPrefix s p)), .bool (Lib.hasPrefix s p)]) ∧ w = w' :=
  (Tryd.strings_CutPrefix (bs s) (bs p) w).mono fun e w' ⟨a, b⟩ => ⟨by rw [a, bs_data, bs_data]; rfl, b.symm⟩
theorem flib_suf (s p : List UInt8) (hl : s.length ≤ 100000) (w : World) :
    Calls Tryd.prog 65 #[.string (bs s), .string (bs p)] w fun e w' => e = .returned (.tuple #[.string (bs (Lib.trimSuffix s p)), .bool (Lib.hasSuffix s p)]) ∧ w = w' :=
  (Tryd.strings_CutSuffix (bs s) (bs p) w (by rw [bs_size]; omega)).mono fun e w' ⟨a, b⟩ => ⟨by rw [a, bs_data, bs_data]; rfl, b.symm⟩
theorem flib_dbl (s : List UInt8) (hl : s.length ≤ 100000) (w : World) (E : EnvF w) :
    Calls Tryd.prog 55 #[.string (bs s), .string (bs [37]), .string (bs [37, 37])] w fun e w' => e = .returned (.string (bs (dblF s))) ∧ Below w.heap.size w w' := by
  obtain ⟨m, hm⟩ := E.1
  have hc := Lib.countB_le (bs [37]) (by rw [bs_size]; decide) s.length (bs s) (by rw [bs_size]; exact Nat.le_refl _)
  rw [bs_size] at hc
  refine (Tryd.strings_ReplaceAll (bs s) (bs [37]) (bs [37, 37]) m w (by rw [bs_size]; omega) (by have h0 := World.var?_cell gMaxF hm 0; simpa using h0) (by rw [bs_size]; decide) (by rw [bs_size, bs_size]; simp only [List.length_cons, List.length_nil]; omega)).mono fun e w' ⟨a, b⟩ => ⟨?_, b⟩
  rw [a, bs_data, bs_data, bs_data, replaceAll_dbl]; rfl
theorem isReq_eq (s : List UInt8) : isReq s = (Lib.hasPrefix s [82, 69, 81, 40] && (Lib.hasSuffix (s.drop 4) [41] && nameB (reqF s))) := by
  rw [← Lib.hasPrefix_of_take, ← Lib.hasSuffix_of_drop, Bool.eq_iff_iff]
  simp only [isReq, Bool.and_eq_true, decide_eq_true_eq, beq_iff_eq, List.length_cons, List.length_nil, List.length_drop]
  constructor
  · rintro ⟨h1, h2, h3, h4⟩
    refine ⟨⟨by omega, h2⟩, ⟨by omega, ?_⟩, h4⟩
    rw [List.drop_drop, show 4 + (s.length - 4 - (0 + 1)) = s.length - 1 by omega]
    rw [getLastD_at (by omega)] at h3
    rw [List.drop_eq_getElem_cons (by omega), h3, List.drop_eq_nil_of_le (by omega)]
  · rintro ⟨⟨h1, h2⟩, ⟨h3, h4⟩, h5⟩
    have h6 : 5 < s.length := by
      rcases Nat.lt_or_ge 5 s.length with h | h
      · exact h
      · exfalso
        have : reqF s = [] := by
          apply List.eq_nil_of_length_eq_zero
          simp only [reqF, List.length_take, List.length_drop]
          omega
        rw [this] at h5
        revert h5
        decide
    refine ⟨h6, h2, ?_, h5⟩
    rw [List.drop_drop, show 4 + (s.length - 4 - (0 + 1)) = s.length - 1 by omega, List.drop_eq_getElem_cons (by omega)] at h4
    rw [getLastD_at (by omega)]
    exact (List.cons.inj h4).1
theorem req_cut {s : List UInt8} (h1 : Lib.hasPrefix s [82, 69, 81, 40] = true) : Lib.trimPrefix s [82, 69, 81, 40] = s.drop 4 := by
  unfold Lib.trimPrefix
  rw [if_pos h1]
  rfl
theorem req_cut2 {s : List UInt8} (h2 : Lib.hasSuffix (s.drop 4) [41] = true) : Lib.trimSuffix (s.drop 4) [41] = reqF s := by
  unfold Lib.trimSuffix reqF
  rw [if_pos h2, List.length_drop]
  rfl
/-- What told answers. -/
def toldP (s : List UInt8) : Prt × Bool := match toldF s with | some p => (p, true) | none => ((0, []), false)
theorem wordF_idx {s : List UInt8} (h0 : s ≠ []) {k : Nat} (hk : k < 9) (hs : s = wordF k) (hn : ∀ j, j < k → s ≠ wordF j) : toldP s = (((k : Int), []), true) := by
  have h1 : 1 ≤ k := by
    rcases Nat.eq_zero_or_pos k with h | h
    · subst h; exact absurd hs h0
    · exact h
  have h2 : wordsF.idxOf s = k - 1 := by
    obtain ⟨j, rfl⟩ : ∃ j, k = j + 1 := ⟨k - 1, by omega⟩
    rw [Nat.add_sub_cancel]
    have hj : j < 8 := by omega
    have e : ∀ i (hi : i < 8), wordsF[i]'hi = wordF (i + 1) := fun i hi => by
      match i, hi with
      | 0, _ => rfl
      | 1, _ => rfl
      | 2, _ => rfl
      | 3, _ => rfl
      | 4, _ => rfl
      | 5, _ => rfl
      | 6, _ => rfl
      | 7, _ => rfl
    unfold List.idxOf
    refine findIdx_hit _ _ j hj (fun i hi hij => ?_) ?_
    · rw [e i hi, beq_eq_false_iff_ne]
      exact fun h => hn (i + 1) (by omega) h.symm
    · rw [e j hj, hs]; simp
  unfold toldP toldF
  rw [if_neg h0]
  unfold partF
  rw [h2, if_pos (by omega)]
  simp only [Prod.mk.injEq, and_true]
  omega
theorem wordF_none {s : List UInt8} (h0 : s ≠ []) (hn : ∀ j, j < 9 → s ≠ wordF j) : toldP s = if isReq s = true then ((9, reqF s), true) else ((0, []), false) := by
  have h2 : ¬ wordsF.idxOf s < 8 := by
    intro h
    have h3 : wordsF[wordsF.idxOf s]'h = s := List.getElem_idxOf h
    have h4 : ∀ i (hi : i < 8), wordsF[i]'hi = wordF (i + 1) := fun i hi => by
      match i, hi with
      | 0, _ => rfl
      | 1, _ => rfl
      | 2, _ => rfl
      | 3, _ => rfl
      | 4, _ => rfl
      | 5, _ => rfl
      | 6, _ => rfl
      | 7, _ => rfl
    rw [h4 _ h] at h3
    exact hn _ (by omega) h3.symm
  unfold toldP toldF
  rw [if_neg h0]
  unfold partF
  rw [if_neg h2]
  split
  · rename_i p hp
    split at hp
    · rename_i hq
      injection hp with hp
      rw [if_pos hq, hp]
    · cases hp
  · rename_i hp
    split at hp
    · cases hp
    · rename_i hq
      rw [if_neg hq]
abbrev wdsV : Array Value := #[.string (bs (wordF 0)), .string (bs (wordF 1)), .string (bs (wordF 2)), .string (bs (wordF 3)), .string (bs (wordF 4)), .string (bs (wordF 5)), .string (bs (wordF 6)), .string (bs (wordF 7)), .string (bs (wordF 8))]
theorem wds_index (k : Nat) (hk : k < 9) (w : World) : (Instr.index 109 (.agg #[.string (bs (wordF 0)), .string (bs (wordF 1)), .string (bs (wordF 2)), .string (bs (wordF 3)), .string (bs (wordF 4)), .string (bs (wordF 5)), .string (bs (wordF 6)), .string (bs (wordF 7)), .string (bs (wordF 8))]) (.int .i64 (k : Int))).run Tryd.prog w = .ok (.string (bs (wordF k))) w := by
  have as2 := Tryd.isAgg9
  have zs2 := Tryd.sizeOf9
  match k, hk with
  | 0, _ => simp [Instr.index, run_underlying Tryd.underlying109, zs2, as2, go_sem]
  | 1, _ => simp [Instr.index, run_underlying Tryd.underlying109, zs2, as2, go_sem]
  | 2, _ => simp [Instr.index, run_underlying Tryd.underlying109, zs2, as2, go_sem]
  | 3, _ => simp [Instr.index, run_underlying Tryd.underlying109, zs2, as2, go_sem]
  | 4, _ => simp [Instr.index, run_underlying Tryd.underlying109, zs2, as2, go_sem]
  | 5, _ => simp [Instr.index, run_underlying Tryd.underlying109, zs2, as2, go_sem]
  | 6, _ => simp [Instr.index, run_underlying Tryd.underlying109, zs2, as2, go_sem]
  | 7, _ => simp [Instr.index, run_underlying Tryd.underlying109, zs2, as2, go_sem]
  | 8, _ => simp [Instr.index, run_underlying Tryd.underlying109, zs2, as2, go_sem]
end Go.Proofs.YtmejcchkoflciaaDoor
namespace Go.Proofs.YtmejcchkoflciaaDoor
set_option linter.unusedVariables false
set_option linter.unusedSimpArgs false
open Go.RowKit Go.Joins

theorem pt_set2 {w : World} {g : Nat} {p : Prt} (k : BPt w g p) (a : Int) (t : List UInt8) : BPt ((w.setCell ⟨g, 0, none⟩ (.int .i64 a)).setCell ⟨g, 1, none⟩ (.string (bs t))) g (a, t) :=
  Bk.set_ (Bk.set_ k 0 (.int .i64 a)) 1 (.string (bs t))
theorem toldP_nil : toldP [] = ((0, [37]), true) := rfl
set_option maxRecDepth 100000 in
set_option maxHeartbeats 2000000 in
theorem told_any (s : List UInt8) (hl : s.length ≤ 1000) (w : World) (E : EnvF w) :
    Calls Tryd.prog 48 #[.string (bs s)] w fun e w' => e = .returned (.tuple #[.agg #[.int .i64 (toldP s).1.1, .string (bs (toldP s).1.2)], .bool (toldP s).2]) ∧ Below w.heap.size w w' := by
  have hnot := enot
  have c0 : (ByteArray.mk #[]) = bs [] := rfl
  have k0 : BPt (w.alloc (.cells #[.int .i64 0, .string (bs [])] 35)) w.heap.size (0, []) := Bk.new _ _ _
  have hb0 := enew w (.cells #[.int .i64 0, .string (bs [])] 35)
  have HB := hid hb0
  have HW := hid (E.up hb0).2
  have K0 := hid k0
  have f0 := Bk.frozen k0 0
  have f1 := Bk.frozen k0 1
  obtain ⟨r0, r1⟩ := k0.cells
  simp only at r0 r1
  have hg : w.heap.size < (w.alloc (.cells #[.int .i64 0, .string (bs [])] 35)).heap.size := by simp
  clear hb0 k0 E
  by_cases h0 : s = []
  · subst h0
    have c37 : (ByteArray.mk #[37]) = bs [37] := rfl
    go_enter Tryd.func48, Tryd.ntmps48
    go_upto_region 1 with (fail)
    generalize w.alloc (.cells #[.int .i64 0, .string (bs [])] 35) = v0 at *
    go_wp2_with fail
    (try simp only [Exit.inBlock, Exit.then])
    have hz := (pt_set2 K0.out 0 [37]).cells
    simp only at hz
    refine bodyPost_ret (v := .tuple #[.agg #[.int .i64 0, .string (bs [37])], .bool true]) (by simp [results, Tryd.results48, go_sem, hz.1, hz.2]) rfl ?_
    rw [toldP_nil]
    exact ⟨rfl, (HB.out.setCell (Nat.le_refl _) _).setCell (Nat.le_refl _) _⟩
  · have hbe : (s == []) = false := by simpa using h0
    have HN := hid h0
    clear h0
    go_enter Tryd.func48, Tryd.ntmps48
    go_upto_region 1 with (fail)
    generalize w.alloc (.cells #[.int .i64 0, .string (bs [])] 35) = v0 at *
    have q0 := HW.out 0 (by omega)
    have q1 := HW.out 1 (by omega)
    have q2 := HW.out 2 (by omega)
    have q3 := HW.out 3 (by omega)
    have q4 := HW.out 4 (by omega)
    have q5 := HW.out 5 (by omega)
    have q6 := HW.out 6 (by omega)
    have q7 := HW.out 7 (by omega)
    have q8 := HW.out 8 (by omega)
    go_wp2_with fail
    clear q0 q1 q2 q3 q4 q5 q6 q7 q8
    go_loop [13] (fun i => ∃ k : Nat, k ≤ 9 ∧ i = .int .i64 k ∧ Hid (∀ j, j < k → s ≠ wordF j)) (fun i => 9 - (intOf i).toNat)
    case atStart => exact ⟨0, by omega, rfl, hid (fun j hj => absurd hj (by omega))⟩
    case round =>
      obtain ⟨k, hk, rfl, HK⟩ := hrel
      by_cases hlt : k < 9
      · have hix := wds_index k hlt
        by_cases hs : s = wordF k
        · have hc : (s == wordF k) = true := by simpa using hs
          have HT := hid (wordF_idx HN.out hlt hs HK.out)
          clear hs
          go_wp2_with fail
          (try simp only [Exit.inBlock, Exit.then])
          have hz := (pt_set2 K0.out (k : Int) []).cells
          simp only at hz
          refine bodyPost_ret (v := .tuple #[.agg #[.int .i64 (k : Int), .string (bs [])], .bool true]) (by simp [results, Tryd.results48, go_sem, hz.1, hz.2]) rfl ?_
          rw [HT.out]
          exact ⟨rfl, (HB.out.setCell (Nat.le_refl _) _).setCell (Nat.le_refl _) _⟩
        · have hc : (s == wordF k) = false := by simpa using hs
          have HS := hid hs
          clear hs
          go_wp2_with fail
          go_round
          case rel => exact ⟨k + 1, by omega, by go_num, hid (fun j hj => by
            by_cases e : j = k
            · subst e; exact HS.out
            · exact HK.out j (by omega))⟩
          case measure => simp [intOf]; omega
      · obtain rfl : k = 9 := by omega
        have HT := hid (wordF_none HN.out HK.out)
        have HQ := hid (isReq_eq s)
        have HC := hid (req_cut (s := s))
        have HC2 := hid (req_cut2 (s := s))
        have HP := hid (fun w2 => flib_pre s [82, 69, 81, 40] w2)
        obtain ⟨z1, hz1⟩ : ∃ z, Lib.hasPrefix s [82, 69, 81, 40] = z := ⟨_, rfl⟩
        rw [hz1] at HQ HC HP
        clear hlt
        cases z1
        · have HTT := hid (show toldP s = ((0, []), false) by rw [HT.out, HQ.out]; rfl)
          have HTP := hid (show Lib.trimPrefix s [82, 69, 81, 40] = s by unfold Lib.trimPrefix; rw [if_neg (by rw [hz1]; decide)])
          rw [HTP.out] at HP
          have HSF := hid (fun w2 => flib_suf s [41] (by omega) w2)
          generalize Lib.trimSuffix s [41] = n2 at *
          generalize Lib.hasSuffix s [41] = z2 at *
          clear hz1
          go_wp2_with fail
          refine (HP.out _).mono ?_
          rintro e w1 ⟨rfl, rfl⟩
          go_wp2_with fail
          refine (HSF.out _).mono ?_
          rintro e w1 ⟨rfl, rfl⟩
          go_wp2_with fail
          (try simp only [Exit.inBlock, Exit.then])
          have hz := (pt_set2 K0.out 0 []).cells
          simp only at hz
          refine bodyPost_ret (v := .tuple #[.agg #[.int .i64 0, .string (bs [])], .bool false]) (by simp [results, Tryd.results48, go_sem, hz.1, hz.2]) rfl ?_
          rw [HTT.out]
          exact ⟨rfl, (HB.out.setCell (Nat.le_refl _) _).setCell (Nat.le_refl _) _⟩
        · have hd : (s.drop 4).length ≤ 1000 := by rw [List.length_drop]; omega
          rw [HC.out rfl] at HP
          have HSF := hid (fun w2 => flib_suf (s.drop 4) [41] (by omega) w2)
          obtain ⟨z2, hz2⟩ : ∃ z, Lib.hasSuffix (s.drop 4) [41] = z := ⟨_, rfl⟩
          rw [hz2] at HQ HC2 HSF
          cases z2
          · have HTT := hid (show toldP s = ((0, []), false) by rw [HT.out, HQ.out]; rfl)
            generalize Lib.trimSuffix (s.drop 4) [41] = n2 at *
            generalize s.drop 4 = n1 at *
            clear hz1 hz2
            go_wp2_with fail
            refine (HP.out _).mono ?_
            rintro e w1 ⟨rfl, rfl⟩
            go_wp2_with fail
            refine (HSF.out _).mono ?_
            rintro e w1 ⟨rfl, rfl⟩
            go_wp2_with fail
            (try simp only [Exit.inBlock, Exit.then])
            have hz := (pt_set2 K0.out 0 []).cells
            simp only at hz
            refine bodyPost_ret (v := .tuple #[.agg #[.int .i64 0, .string (bs [])], .bool false]) (by simp [results, Tryd.results48, go_sem, hz.1, hz.2]) rfl ?_
            rw [HTT.out]
            exact ⟨rfl, (HB.out.setCell (Nat.le_refl _) _).setCell (Nat.le_refl _) _⟩
          · have h3 := HC2.out rfl
            rw [h3] at HSF
            have hrl : (reqF s).length ≤ 1000 := by unfold reqF; rw [List.length_take, List.length_drop]; omega
            have HNM := hid (fun w2 => hname_any (reqF s) w2 (by omega))
            obtain ⟨z3, hz3⟩ : ∃ z, nameB (reqF s) = z := ⟨_, rfl⟩
            rw [hz3] at HQ HNM
            generalize reqF s = n2 at *
            generalize s.drop 4 = n1 at *
            clear hz1 hz2 hz3 h3 HC HC2
            cases z3
            · have HTT := hid (show toldP s = ((0, []), false) by rw [HT.out, HQ.out]; rfl)
              go_wp2_with fail
              refine (HP.out _).mono ?_
              rintro e w1 ⟨rfl, rfl⟩
              go_wp2_with fail
              refine (HSF.out _).mono ?_
              rintro e w1 ⟨rfl, rfl⟩
              go_wp2_with fail
              refine (HNM.out _).mono ?_
              rintro e w1 ⟨rfl, rfl⟩
              go_wp2_with fail
              (try simp only [Exit.inBlock, Exit.then])
              have hz := (pt_set2 K0.out 0 []).cells
              simp only at hz
              refine bodyPost_ret (v := .tuple #[.agg #[.int .i64 0, .string (bs [])], .bool false]) (by simp [results, Tryd.results48, go_sem, hz.1, hz.2]) rfl ?_
              rw [HTT.out]
              exact ⟨rfl, (HB.out.setCell (Nat.le_refl _) _).setCell (Nat.le_refl _) _⟩
            · have HTT := hid (show toldP s = ((9, n2), true) by rw [HT.out, HQ.out]; rfl)
              go_wp2_with fail
              refine (HP.out _).mono ?_
              rintro e w1 ⟨rfl, rfl⟩
              go_wp2_with fail
              refine (HSF.out _).mono ?_
              rintro e w1 ⟨rfl, rfl⟩
              go_wp2_with fail
              refine (HNM.out _).mono ?_
              rintro e w1 ⟨rfl, rfl⟩
              go_wp2_with fail
              (try simp only [Exit.inBlock, Exit.then])
              have hz := (pt_set2 K0.out 9 n2).cells
              simp only at hz
              refine bodyPost_ret (v := .tuple #[.agg #[.int .i64 9, .string (bs n2)], .bool true]) (by simp [results, Tryd.results48, go_sem, hz.1, hz.2]) rfl ?_
              rw [HTT.out]
              exact ⟨rfl, (HB.out.setCell (Nat.le_refl _) _).setCell (Nat.le_refl _) _⟩
end Go.Proofs.YtmejcchkoflciaaDoor
