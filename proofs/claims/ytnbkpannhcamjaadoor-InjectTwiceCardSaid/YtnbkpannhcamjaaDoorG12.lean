/- Texts put together: Hl. -/
import Derived.Test.YtnbkpannhcamjaaDoorG11
import Derived.Deep.RegionLaw
namespace Go.Proofs.YtnbkpannhcamjaaDoor
set_option linter.unusedVariables false
set_option linter.unusedSimpArgs false
open Go.RowKit Go.Joins

theorem step_append_hds {ops : Array Oper} {o : Oper} {a : Act} {K : Act → World → Prop} {Q : Exit → Act → World → Prop} {E : Prop} {w W0 : World} (hgd : o.guard = none) (s x : Operand)
    (ho : o.op = .call { callee := .builtin .append, args := #[s, x], argTypes := #[22, 22] }) (base : Nat) (v : Value) (L M : List Hd) (rv : Value)
    (hs : a.eval s = v) (hown : HB w base v L) (hx : a.eval x = rv) (hR : HB w base rv M)
    (hl : L.length + M.length ≤ 10000000) (hW : Below base W0 w) (hbase : base ≤ W0.heap.size) (h : ∀ v' w', HB w' base v' (L ++ M) → Below base W0 w' → K (a.put o.dst v') w') :
    if Region.wanted o (yielded ops a.tmps) = true then Oper.wp Tryd.prog o a w K Q else E := by
  have hw : Region.wanted o (yielded ops a.tmps) = true := by simp [Region.wanted, hgd]
  rw [if_pos hw]
  obtain ⟨i0, hi, hz0, hz1, hz2⟩ := info_parts infoH
  have hbw : base ≤ w.heap.size := Nat.le_trans hbase hW.size
  have fin : ∀ v' w', w'.ownsRow base 45 2 v' (L.length + M.length) (hvals L ++ hvals M) → w.grownBy w' v.ownBlock → (v' = .slice none 0 0 ↔ v = .slice none 0 0 ∧ M.length = 0) → K (a.put o.dst v') w' := by
    intro v' w' h1 h2 _
    refine h v' w' ?_ (hW.grown h2 hbw (fun k hk => (World.ownsRow.lt hown k hk).1))
    unfold HB
    rw [List.length_append, ← hvals_append]
    exact h1
  rcases ownsRow_forms hR with ⟨rfl, h0⟩ | ⟨g, cap, rfl⟩
  · have hM : M = [] := List.eq_nil_of_length_eq_zero h0
    subst hM
    have hrun := run_append_owned_none (P := Tryd.prog) (w := w) base 22 o.type 45 i0 2 Tryd.underlying22 hi v L.length (hvals L) hown
    unfold Oper.wp
    simp [execOp, ho, resolve, invoke, builtin, hs, hx, hrun, Result.andThen]
    exact h v w (by simpa using hown) hW
  · have hr : HReads w (fun b => base ≤ b ∧ b < w.heap.size) (some ⟨g, 0, none⟩) M := by
      obtain ⟨A, c, e, h1⟩ := hR.reads
      injection e with e1
      rw [← e1] at h1
      exact h1
    exact wp_append_own w s x 22 ho base 45 i0 (.agg #[.string ByteArray.empty, .string ByteArray.empty]) 2 32 Tryd.underlying22 hi hz0 hz1 hz2 rfl (by decide) v L.length (hvals L) hs hown ⟨g, 0, none⟩ M.length cap
      (hvals M) hx (hvals_length M) (hvals_cell hr) (one_cell_hvals M) (by unfold maxLen; omega) (by omega) hbw fin
theorem HReads.drop {w : World} {N : Nat → Prop} {b o : Nat} {L : List Hd} (h : HReads w N (some ⟨b, o, none⟩) L) (k : Nat) (x : Option Addr) (hx : k < L.length → x = some ⟨b, o + k * 2, none⟩) : HReads w N x (L.drop k) := by
  intro j hj
  rw [List.length_drop] at hj
  obtain ⟨b', o', e, h1, h2, h3⟩ := h (k + j) (by omega)
  injection e with e; injection e with e1 e2; subst e1; subst e2
  refine ⟨b, o + k * 2, hx (by omega), h1, ?_, ?_⟩
  · rw [List.getElem_drop, show o + k * 2 + j * 2 = o + (k + j) * 2 from by omega]; exact h2
  · rw [List.getElem_drop, show o + k * 2 + j * 2 + 1 = o + (k + j) * 2 + 1 from by omega]; exact h3
theorem STexts.small {w : World} {N : Nat → Prop} {A : Option Addr} {L : List (List UInt8)} (h : STexts w N A L) : STexts w (· < w.heap.size) A L := by
  intro k hk
  obtain ⟨ad, e, h1, h2⟩ := h k hk
  exact ⟨ad, e, by have := lt_of_cell h2; rwa [add_block] at this, h2⟩
theorem setAdd_any (b o k cap : Nat) (L : List Hd) (n v : List UInt8) (w2 w3 : World) (hR : HReads w2 (· < w2.heap.size) (some ⟨b, o, none⟩) (L.take k)) (hk : k < L.length) (hl : L.length ≤ 1000000) (hb : Below w2.heap.size w2 w3) :
    Calls Tryd.prog 29 #[.slice (some ⟨b, o, none⟩) k cap, .string (bs n), .string (bs v)] w3 fun e w' => ∃ r, e = .returned r ∧ HB w' w2.heap.size r (addH (L.take k) n v) ∧ Below w2.heap.size w2 w' ∧ Below w3.heap.size w3 w' := by
  have hlk : (L.take k).length = k := by rw [List.length_take]; omega
  have h := hadd_any (some ⟨b, o, none⟩) cap (L.take k) n v w3 ((hR.below hb).imp fun b h => Nat.lt_of_lt_of_le h hb.size) (fun h => by cases h) (by omega)
  rw [hlk] at h
  exact h.mono fun e w' ⟨r, h1, h2, h3⟩ => ⟨r, h1, h2.more hb.size, hb.trans (h3.mono hb.size), h3⟩
theorem setWithout_any (L : List Hd) (x : Option Addr) (k m cap g : Nat) (hm : m = L.length - (k + 1)) (n : List UInt8) (w2 w3 : World) (hR : HReads w2 (· < w2.heap.size) x (L.drop (k + 1))) (hk : k < L.length) (hl : L.length ≤ 1000000) (hb : Below w2.heap.size w2 w3) (hc : w3.cell? ⟨g, 0, none⟩ = some (.string (bs n))) :
    Calls Tryd.prog 20 #[.slice x m cap, .slice (some ⟨g, 0, none⟩) 1 1] w3 fun e w' => ∃ r, e = .returned r ∧ HB w' w2.heap.size r (withoutH (L.drop (k + 1)) [n]) ∧ Below w2.heap.size w2 w' ∧ Below w3.heap.size w3 w' := by
  have hlk : (L.drop (k + 1)).length = L.length - (k + 1) := List.length_drop
  have hS : STexts w3 (fun _ => True) (some ⟨g, 0, none⟩) [n] := by
    intro j hj
    obtain rfl : j = 0 := by simpa using hj
    exact ⟨_, rfl, trivial, by simpa [Addr.add] using hc⟩
  have h := hwithout_any x cap (L.drop (k + 1)) (some ⟨g, 0, none⟩) 1 [n] w3 ((hR.below hb).imp fun b h => Nat.lt_of_lt_of_le h hb.size) hS.small (by omega) (by simp)
  rw [hlk, ← hm] at h
  exact h.mono fun e w' ⟨r, h1, h2, h3⟩ => ⟨r, h1, h2.more hb.size, hb.trans (h3.mono hb.size), h3⟩
set_option maxRecDepth 100000 in
set_option maxHeartbeats 4000000 in
theorem hset_any (A : Option Addr) (cap : Nat) (L : List Hd) (n v : List UInt8) (w : World) (hR : HReads w (· < w.heap.size) A L) (hA : A = none → cap = 0) (hl : L.length ≤ 1000000) (hcap : L.length ≤ cap) (hcm : cap ≤ 9223372036854775807) :
    Calls Tryd.prog 17 #[.slice A L.length cap, .string (bs n), .string (bs v)] w fun e w' => ∃ r, e = .returned r ∧ HB w' w.heap.size r (setH L n v) ∧ Below w.heap.size w w' := by
  have HR := hid hR
  have HA := hid hA
  clear hR hA
  have HNM := hid (named_any (some ⟨w.heap.size, 0, none⟩) 1 [n] (w.alloc (.cells #[.string (bs n)] 9)) (stexts_one w n _) (by simp))
  go_enter Tryd.func17, Tryd.ntmps17
  go_wp2_with fail
  refine HNM.out.mono ?_
  rintro e w1 ⟨fv, rfl, hfv, hb1⟩
  have hw1 := below_step' ((Below.refl w.heap.size w).alloc (Nat.le_refl _) (.cells #[.string (bs n)] 9)) hb1
  have HFV := hid hfv
  have HB1 := hid hw1
  clear hfv hb1 hw1
  go_wp2_with fail
  refine (indexFunc_any A cap L fv (hasN [n]) w1 ((HR.out.below HB1.out).imp fun b hb => Nat.lt_of_lt_of_le hb HB1.out.size) HFV.out (by omega)).mono ?_
  rintro e w2 ⟨rfl, hb2⟩
  have HB2 := hid (below_step' HB1.out hb2)
  clear hb2
  have hR2 := (HR.out.below HB2.out).imp (M := (· < w2.heap.size)) fun b hb => Nat.lt_of_lt_of_le hb HB2.out.size
  by_cases hx : L.findIdx (hasN [n]) < L.length
  · have HI := hid (show idxH (hasN [n]) L = (L.findIdx (hasN [n]) : Int) by rw [idxH, if_pos hx])
    have HSV := hid (show setH L n v = addH (L.take (L.findIdx (hasN [n]))) n v ++ withoutH (L.drop (L.findIdx (hasN [n]) + 1)) [n] by rw [setH, if_pos hx])
    obtain ⟨b, o, rfl, hB, hc0, hc1⟩ := hR2 _ hx
    generalize hk : L.findIdx (hasN [n]) = k at *
    have HKK := hid hk
    clear hk hc0 hc1
    rw [HI.out]
    have HTK := hid (hR2.take k)
    have HDK := hid (fun x hx => hR2.drop (k + 1) x hx)
    clear hR2
    have hz : Below w2.heap.size w2 w2.drew := (Below.refl _ _).drew
    have hadd : IntKind.i64.wrap ((k : Int) + 1) = (k : Int) + 1 := IntWalk.i64_in _ (by omega)
    have hn1 : ((k : Int) + 1).toNat = k + 1 := by omega
    have HZ := hid hz
    have hk1 : (k : Int) ≤ (k : Int) + 1 := by omega
    have hp0 : (0 : Int) ≤ (k : Int) + 1 := by omega
    have hp1 : (k : Int) + 1 ≤ (L.length : Int) := by omega
    have hp2 : (L.length : Int) ≤ (cap : Int) := by omega
    have hp3 : (k : Int) ≤ (cap : Int) := by omega
    clear hz
    have HLN := hid (show (addH (L.take k) n v).length + (withoutH (L.drop (k + 1)) [n]).length ≤ 10000000 by
      have h1 := withoutH_length (L.drop (k + 1)) [n]
      have h2 : (addH (L.take k) n v).length ≤ L.length + 1 := by simp [addH]; omega
      have h3 : (L.drop (k + 1)).length ≤ L.length := by rw [List.length_drop]; omega
      omega)
    have hcc : cap = k + 1 ∨ ¬ cap = k + 1 := by omega
    rcases hcc with hck | hck
    all_goals
      try subst hck
      go_wp2_with fail
      go_region_law (first
        | (refine step_append_hds rfl _ _ rfl w2.heap.size _ (addH (L.take k) n v) (withoutH (L.drop (k + 1)) [n]) _ rfl (by first | exact hA2 | exact hA1) rfl (by first | exact hW2 | exact hW1) HLN.out (by first | exact hzW | exact hzA) (Nat.le_refl _) ?_
           intro r wF hF hzF)
        | (go_simp
           go_at_call 29
           refine (setAdd_any b o k _ L n v w2 _ HTK.out hx hl (by first | exact HZ.out | exact HZ.out.alloc (Nat.le_refl _) _ | exact hzW)).mono ?_
           rintro e wA ⟨rA, rfl, hA1, hzA, hbA⟩
           try (have hW2 := HB.below hW1 hbA))
        | (go_simp
           go_at_call 20
           refine (setWithout_any L _ k _ _ _ (by first | rfl | omega) n w2 _ (HDK.out _ (by first | exact fun _ => rfl | (intro h; omega))) hx hl (by first | exact HZ.out.alloc (Nat.le_refl _) _ | exact hzA | exact hzA.alloc hzA.size _) (by first | (simp; done) | (rw [hbA.cell (by simp)]; simp))).mono ?_
           rintro e wW ⟨rW, rfl, hW1, hzW, hbW⟩
           try (first | (have hA2 := HB.below hA1 hbW) | (have hA2 := (HB.alloc hA1 _).below hbW))))
      all_goals
        have HF := hid (And.intro hF hzF)
        clear hF hzF
        go_wp2_with fail
        go_ret
        exact ⟨_, rfl, by rw [HSV.out]; exact HF.out.1.more HB2.out.size, HB2.out.trans (HF.out.2.mono HB2.out.size)⟩
  · have HI := hid (show idxH (hasN [n]) L = -1 by rw [idxH, if_neg hx])
    have HSV := hid (show setH L n v = addH L n v by rw [setH, if_neg hx])
    have HAD := hid (hadd_any A cap L n v w2 hR2 HA.out hl)
    clear hR2 hx
    rw [HI.out]
    go_wp2_with fail
    refine HAD.out.mono ?_
    rintro e w3 ⟨r, rfl, hr, hb3⟩
    go_wp2_with fail
    go_ret
    exact ⟨_, rfl, by rw [HSV.out]; exact hr.more HB2.out.size, below_step' HB2.out hb3⟩
end Go.Proofs.YtnbkpannhcamjaaDoor
