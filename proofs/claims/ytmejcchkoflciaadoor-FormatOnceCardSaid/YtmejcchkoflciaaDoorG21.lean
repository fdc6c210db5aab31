/- Texts put together: Fc Fd Fe Ff Fg. -/
import Derived.Test.YtmejcchkoflciaaDoorG20
import Derived.BigRegion
namespace Go.Proofs.YtmejcchkoflciaaDoor
set_option linter.unusedVariables false
set_option linter.unusedSimpArgs false
open Go.RowKit Go.Joins

theorem takeF_mark {c : UInt8} {r : List UInt8} (h : c.toNat = 37) : takeF (c :: r) = if (cutS [37] r).2.2 = true then (if (toldP (cutS [37] r).1).2 = true then ((toldP (cutS [37] r).1).1, (cutS [37] r).2.1, 0) else ((0, []), [], 3)) else ((0, []), [], 3) := by
  unfold takeF toldP
  simp only [List.headD_cons, List.drop_succ_cons, List.drop_zero]
  rw [if_pos h]
  split
  · split
    · rename_i p hp
      simp only [hp, if_true]
    · rename_i hp
      simp only [hp]
      rfl
  · rfl
theorem takeF_text {c : UInt8} {r : List UInt8} (h : c.toNat ≠ 37) : takeF (c :: r) = if c.toNat < 32 ∨ 126 < c.toNat then ((0, []), [], 15) else ((0, [c]), r, 0) := by
  unfold takeF
  simp only [List.headD_cons, List.drop_succ_cons, List.drop_zero, List.take_succ_cons, List.take_zero]
  rw [if_neg h]
theorem pre_mark {c : UInt8} {r : List UInt8} (h : c.toNat = 37) : Lib.hasPrefix (c :: r) [37] = true ∧ Lib.trimPrefix (c :: r) [37] = r := by
  have e : c = 37 := by
    have := congrArg UInt8.ofNat h
    simpa using this
  subst e
  have h1 : Lib.hasPrefix (37 :: r) [37] = true := by simp [Lib.hasPrefix]
  exact ⟨h1, by unfold Lib.trimPrefix; rw [if_pos h1]; rfl⟩
theorem pre_text {c : UInt8} {r : List UInt8} (h : c.toNat ≠ 37) : Lib.hasPrefix (c :: r) [37] = false := by
  have e : ¬ (37 : UInt8) = c := fun e => h (by rw [← e]; rfl)
  simp [Lib.hasPrefix, List.isPrefixOf, e]
theorem cut37_len (r : List UInt8) : (cutS [37] r).1.length ≤ r.length ∧ (cutS [37] r).2.1.length ≤ r.length := by
  rw [cutS_tw]
  refine ⟨tw_le r, ?_⟩
  simp only
  split
  · simp
  · rw [List.length_drop]; omega
theorem toldP_len (s : List UInt8) : (toldP s).1.2.length ≤ s.length + 1 := by
  unfold toldP
  split
  · rename_i p hp
    unfold toldF at hp
    split at hp
    · injection hp with hp
      subst hp
      simp
    · have := (partF_kind hp).2.1
      simp only
      omega
  · simp
set_option maxRecDepth 100000 in
set_option maxHeartbeats 4000000 in
theorem take_any (s : List UInt8) (h0 : s ≠ []) (hl : s.length ≤ 1000) (w : World) (E : EnvF w) :
    Calls Tryd.prog 27 #[.string (bs s)] w fun e w' => e = .returned (.tuple #[.agg #[.int .i64 (takeF s).1.1, .string (bs (takeF s).1.2)], .string (bs (takeF s).2.1), .int .i64 (takeF s).2.2]) ∧ Below w.heap.size w w' := by
  obtain ⟨c, r, rfl⟩ := List.exists_cons_of_ne_nil h0
  have hnot := enot
  have c0 : (ByteArray.mk #[]) = bs [] := rfl
  have k0 : BPt (w.alloc (.cells #[.int .i64 0, .string (bs [])] 35)) w.heap.size (0, []) := Bk.new _ _ _
  have hb0 := enew w (.cells #[.int .i64 0, .string (bs [])] 35)
  have HB := hid hb0
  have HW := hid (E.up hb0)
  have K0 := hid k0
  have f0 := Bk.frozen k0 0
  have f1 := Bk.frozen k0 1
  obtain ⟨r0, r1⟩ := k0.cells
  simp only at r0 r1
  have hrl : r.length ≤ 999 := by simp only [List.length_cons] at hl; omega
  clear hb0 k0 E h0
  have HP := hid (fun w2 => flib_pre (c :: r) [37] w2)
  by_cases h37 : c.toNat = 37
  · have HT := hid (takeF_mark (r := r) h37)
    rw [(pre_mark h37).1, (pre_mark h37).2] at HP
    have HCL := hid (cut37_len r)
    have HCT := hid (fun w2 (h2 : Below (w.alloc (.cells #[.int .i64 0, .string (bs [])] 35)).heap.size (w.alloc (.cells #[.int .i64 0, .string (bs [])] 35)) w2) => flib_cut r (by omega) w2 (HW.out.up h2))
    generalize takeF (c :: r) = tk at *
    generalize (c :: r) = s at *
    generalize cutS [37] r = ct at *
    obtain ⟨wd, bh, fd⟩ := ct
    simp only at HT HCL HCT
    have hwd : wd.length ≤ 999 := by have := HCL.out.1; omega
    have hbh : bh.length ≤ 999 := by have := HCL.out.2; omega
    have HTD := hid (fun w2 (h2 : Below (w.alloc (.cells #[.int .i64 0, .string (bs [])] 35)).heap.size (w.alloc (.cells #[.int .i64 0, .string (bs [])] 35)) w2) => told_any wd (by omega) w2 (HW.out.up h2))
    have htl := toldP_len wd
    generalize toldP wd = td at *
    obtain ⟨⟨tkk, tt⟩, tz⟩ := td
    simp only at HT HTD htl
    clear h37
    go_enter Tryd.func27, Tryd.ntmps27
    go_upto_region 1 with (fail)
    generalize w.alloc (.cells #[.int .i64 0, .string (bs [])] 35) = v0 at *
    have HB0 := hid (Below.refl v0.heap.size v0)
    go_wp2_with fail
    refine (HP.out _).mono ?_
    rintro e w1 ⟨rfl, rfl⟩
    go_wp2_with fail
    refine (HCT.out _ HB0.out).mono ?_
    rintro e w1 ⟨rfl, hb1⟩
    have H1 := hid hb1
    clear hb1
    go_wp2_with fail
    refine (HTD.out _ H1.out).mono ?_
    rintro e w2 ⟨rfl, hb2⟩
    have H2 := hid (estep H1.out hb2)
    have k2 := K0.out.up H2.out
    have hb3 := enew w2 (.cells #[.int .i64 tkk, .string (bs tt)] 35)
    have H3 := hid (estep H2.out hb3)
    have k3 := k2.up hb3
    have kn : BPt (w2.alloc (.cells #[.int .i64 tkk, .string (bs tt)] 35)) w2.heap.size (tkk, tt) := Bk.new _ _ _
    clear hb2 r0 r1 f0 f1
    have K3 := hid k3
    have f0 := Bk.frozen k3 0
    have f1 := Bk.frozen k3 1
    obtain ⟨r0, r1⟩ := k3.cells
    obtain ⟨n0, n1⟩ := kn.cells
    simp only at r0 r1 n0 n1
    have hg := Bk.lt K0.out
    have HBB := hid (show Below w.heap.size w (w2.alloc (.cells #[.int .i64 tkk, .string (bs tt)] 35)) from estep HB.out H3.out)
    clear k2 k3 kn hb3
    cases fd
    · have HTT := hid (show tk = ((0, []), [], 3) from HT.out)
      go_upto_region 5 with (fail)
      generalize w2.alloc (.cells #[.int .i64 tkk, .string (bs tt)] 35) = w3 at *
      go_wp2_with fail
      (try simp only [Exit.inBlock, Exit.then])
      have hz := (pt_set2 K3.out 0 []).cells
      simp only at hz
      refine bodyPost_ret (v := .tuple #[.agg #[.int .i64 0, .string (bs [])], .string (bs []), .int .i64 3]) (by simp [results, Tryd.results27, go_sem, hz.1, hz.2, c0]) rfl ?_
      rw [HTT.out]
      exact ⟨rfl, (HBB.out.setCell (Nat.le_refl _) _).setCell (Nat.le_refl _) _⟩
    · cases tz
      · have HTT := hid (show tk = ((0, []), [], 3) from HT.out)
        go_upto_region 5 with (fail)
        generalize w2.alloc (.cells #[.int .i64 tkk, .string (bs tt)] 35) = w3 at *
        go_wp2_with fail
        (try simp only [Exit.inBlock, Exit.then])
        have hz := (pt_set2 K3.out 0 []).cells
        simp only at hz
        refine bodyPost_ret (v := .tuple #[.agg #[.int .i64 0, .string (bs [])], .string (bs []), .int .i64 3]) (by simp [results, Tryd.results27, go_sem, hz.1, hz.2, c0]) rfl ?_
        rw [HTT.out]
        exact ⟨rfl, (HBB.out.setCell (Nat.le_refl _) _).setCell (Nat.le_refl _) _⟩
      · have HTT := hid (show tk = ((tkk, tt), bh, 0) from HT.out)
        go_upto_region 5 with (fail)
        generalize w2.alloc (.cells #[.int .i64 tkk, .string (bs tt)] 35) = w3 at *
        go_wp2_with fail
        (try simp only [Exit.inBlock, Exit.then])
        have hz := (pt_set2 K3.out tkk tt).cells
        simp only at hz
        refine bodyPost_ret (v := .tuple #[.agg #[.int .i64 tkk, .string (bs tt)], .string (bs bh), .int .i64 0]) (by simp [results, Tryd.results27, go_sem, hz.1, hz.2, c0]) rfl ?_
        rw [HTT.out]
        exact ⟨rfl, (HBB.out.setCell (Nat.le_refl _) _).setCell (Nat.le_refl _) _⟩
  · have HT := hid (takeF_text (r := r) h37)
    rw [pre_text h37] at HP
    have hcc := UInt8.toNat_lt c
    have hpos : 0 < (c :: r).length := by simp
    have hg0 : (c :: r)[0] = c := rfl
    have x1 : (bs (c :: r)).extract 0 1 = bs [c] := by rw [bs_extract]; simp
    have x2 : (bs (c :: r)).extract 1 (c :: r).length = bs r := by rw [bs_extract]; simp
    have hp1 : (1 : Int) ≤ ((c :: r).length : Int) := by simp only [List.length_cons]; omega
    generalize takeF (c :: r) = tk at *
    generalize Lib.trimPrefix (c :: r) [37] = tr at *
    have hll : (c :: r).length ≤ 1000 := hl
    generalize (c :: r) = s at *
    by_cases hr : c.toNat < 32 ∨ 126 < c.toNat
    · have HTT := hid (show tk = ((0, []), [], 15) by rw [HT.out, if_pos hr])
      have d0 : decide ((c.toNat : Int) < 32) = true ∨ (decide ((c.toNat : Int) < 32) = false ∧ decide ((126 : Int) < (c.toNat : Int)) = true) := by
        by_cases h32 : c.toNat < 32
        · exact Or.inl (by simp; omega)
        · exact Or.inr ⟨by simp; omega, by simp; omega⟩
      clear hr h37
      rcases d0 with d1 | ⟨d1, d2⟩
      all_goals
        go_enter Tryd.func27, Tryd.ntmps27
        go_upto_region 1 with (fail)
        generalize w.alloc (.cells #[.int .i64 0, .string (bs [])] 35) = v0 at *
        go_wp2_with fail
        refine (HP.out _).mono ?_
        rintro e w1 ⟨rfl, rfl⟩
        go_wp2_with fail
        (try simp only [Exit.inBlock, Exit.then])
        have hz := (pt_set2 K0.out 0 []).cells
        simp only at hz
        refine bodyPost_ret (v := .tuple #[.agg #[.int .i64 0, .string (bs [])], .string (bs []), .int .i64 15]) (by simp [results, Tryd.results27, go_sem, hz.1, hz.2, c0]) rfl ?_
        rw [HTT.out]
        exact ⟨rfl, (HB.out.setCell (Nat.le_refl _) _).setCell (Nat.le_refl _) _⟩
    · have HTT := hid (show tk = ((0, [c]), r, 0) by rw [HT.out, if_neg hr])
      have d1 : decide ((c.toNat : Int) < 32) = false := by simp; omega
      have d2 : decide ((126 : Int) < (c.toNat : Int)) = false := by simp; omega
      clear hr h37
      go_enter Tryd.func27, Tryd.ntmps27
      go_upto_region 1 with (fail)
      generalize w.alloc (.cells #[.int .i64 0, .string (bs [])] 35) = v0 at *
      go_wp2_with fail
      refine (HP.out _).mono ?_
      rintro e w1 ⟨rfl, rfl⟩
      go_wp2_with fail
      go_region
      all_goals
        go_wp2_with fail
        (try simp only [Exit.inBlock, Exit.then])
        have hz := (pt_set2 K0.out 0 [c]).cells
        have hy := World.cell?_setCell_same v0 ⟨w.heap.size, 0, none⟩ (.int .i64 0) r0
        simp only at hz
        refine bodyPost_ret (v := .tuple #[.agg #[.int .i64 0, .string (bs [c])], .string (bs r), .int .i64 0]) (by simp [results, Tryd.results27, go_sem, hz.1, hz.2, hy, c0]) rfl ?_
        rw [HTT.out]
        exact ⟨rfl, ((HB.out.setCell (Nat.le_refl _) _).setCell (Nat.le_refl _) _).drew⟩
end Go.Proofs.YtmejcchkoflciaaDoor
namespace Go.Proofs.YtmejcchkoflciaaDoor
set_option linter.unusedVariables false
set_option linter.unusedSimpArgs false
open Go.RowKit Go.Joins

/-- A slice of parts that the call itself has made. -/
def PB (w : World) (base : Nat) (v : Value) (l : List Prt) : Prop := GB encPt 2 35 w base v l
theorem PB.below {w w' : World} {base : Nat} {v : Value} {l : List Prt} (h : PB w base v l) (hb : Below w.heap.size w w') : PB w' base v l := GB.below h hb
theorem PB.nil (w : World) (base : Nat) : PB w base (.slice none 0 0) [] := GB.nil w base
theorem PB.ptv {w : World} {base : Nat} {v : Value} {l : List Prt} (h : PB w base v l) : PtV w v l := by
  obtain ⟨A, c, e, h1, -⟩ := GB.reads encPt_len h
  exact ⟨A, c, e, h1.imp fun b hb => hb.2⟩
theorem pt_last {w : World} {B g c : Nat} {U : List Prt} {u : Prt} {k : Nat} (h : PB w B (.slice (some ⟨g, 0, none⟩) (k + 1) c) (U ++ [u])) (hk : U.length = k) (w' : World) (hs : w'.heap[g]? = w.heap[g]?) :
    (w'.cell? ⟨g, k * 2, none⟩ = some (.int .i64 u.1) ∧ w'.cell? ⟨g, k * 2 + 1, none⟩ = some (.string (bs u.2))) ∧ (w'.frozen? ⟨g, k * 2, none⟩ = false ∧ w'.frozen? ⟨g, k * 2 + 1, none⟩ = false) := by
  rcases GB.form encPt_len h with ⟨e, -⟩ | ⟨g', c', e, -, -, -, -, h5⟩
  · cases e
  · injection e with e1 e2 e3
    injection e1 with e1
    injection e1 with e1
    subst e1
    have hl : (gvals encPt U).length = k * 2 := by rw [gvals_len encPt 2 encPt_len, hk]
    have hv : ∀ j, j < 2 → w'.cell? ⟨g, k * 2 + j, none⟩ = (encPt u)[j]? ∧ w'.frozen? ⟨g, k * 2 + j, none⟩ = false := fun j hj => by
      have h6 := h5 (k * 2 + j) (by rw [List.length_append, List.length_cons, List.length_nil, hk]; omega)
      rw [World.cell?_of_block hs, World.frozen?_of_block hs]
      refine ⟨?_, h6.2⟩
      rw [h6.1, ← gvals_append, List.getElem?_append_right (by rw [hl]; omega), hl, Nat.add_sub_cancel_left]
      simp [gvals]
    exact ⟨⟨(hv 0 (by omega)).1, (hv 1 (by omega)).1⟩, ⟨(hv 0 (by omega)).2, (hv 1 (by omega)).2⟩⟩
theorem fset_app {α : Type} (v : α) (B : List α) (j : Nat) : ∀ A : List α, (A ++ B).set (A.length + j) v = A ++ B.set j v
  | [] => by simp
  | a :: A => by
    have := fset_app v B j A
    simp only [List.cons_append, List.length_cons]
    rw [show A.length + 1 + j = (A.length + j) + 1 by omega, List.set_cons_succ, this]
theorem pt_put {w : World} {B g c : Nat} {U : List Prt} {u : Prt} {k : Nat} (h : PB w B (.slice (some ⟨g, 0, none⟩) (k + 1) c) (U ++ [u])) (hk : U.length = k) (t : List UInt8) :
    PB (w.setCell ⟨g, k * 2 + 1, none⟩ (.string (bs t))) B (.slice (some ⟨g, 0, none⟩) (k + 1) c) (U ++ [(u.1, t)]) := by
  have hl : (gvals encPt U).length = k * 2 := by rw [gvals_len encPt 2 encPt_len, hk]
  have hlen : ∀ x : Prt, (U ++ [x]).length = k + 1 := fun x => by simp [hk]
  unfold PB GB at h ⊢
  rw [hlen] at h ⊢
  have h1 := (World.ownsRow.stored h (k * 2 + 1) (.string (bs t))).1
  have e : (gvals encPt (U ++ [u])).set (k * 2 + 1) (.string (bs t)) = gvals encPt (U ++ [(u.1, t)]) := by
    rw [← gvals_append, ← gvals_append, ← hl, fset_app]
    simp [gvals, encPt]
  rw [← e]
  exact h1
/-- What with answers. -/
def WthR (base : Nat) (l : List Prt) (w : World) (e : Ending) (w' : World) : Prop := ∃ v', e = .returned v' ∧ PB w' base v' l ∧ Below base w w'
set_option maxRecDepth 100000 in
set_option maxHeartbeats 4000000 in
theorem with_any (base : Nat) (v : Value) (acc : List Prt) (p : Prt) (w : World) (hown : PB w base v acc) (hb : base ≤ w.heap.size) (hl : acc.length ≤ 1000) (hz : szF acc + p.2.length ≤ 100000) :
    Calls Tryd.prog 28 #[v, .agg #[.int .i64 p.1, .string (bs p.2)]] w fun e w' => WthR base (withF acc p) w e w' := by
  obtain ⟨pk, pt⟩ := p
  simp only at hz
  have kp : BPt (w.alloc (.cells #[.int .i64 pk, .string (bs pt)] 35)) w.heap.size (pk, pt) := Bk.new _ _ _
  have hb0 := enew w (.cells #[.int .i64 pk, .string (bs pt)] 35)
  have hB0 : Below base w (w.alloc (.cells #[.int .i64 pk, .string (bs pt)] 35)) := hb0.mono hb
  have HO := hid (hown.below hb0)
  have HB := hid hb
  have HBE := hid hB0
  have HB1 := hid (fun o => hB0.alloc (Nat.le_trans hb hB0.size) o)
  obtain ⟨p0, p1⟩ := kp.cells
  simp only at p0 p1
  have happ : (withF acc (pk, pt) = acc ++ [(pk, pt)]) → ∀ (A : Option Addr) (n c : Nat), v = .slice A n c → True := fun _ _ _ _ _ => trivial
  clear happ
  rcases GB.form encPt_len hown with ⟨rfl, rfl⟩ | ⟨g, c, rfl, hg1, hg2, hg3, hg4, -⟩
  · have HW := hid (show withF [] (pk, pt) = [(pk, pt)] by
      by_cases h : pk = 0
      · subst h; rfl
      · unfold withF; rw [if_neg h]; rfl)
    clear hown hb hb0 hB0 kp
    go_enter Tryd.func28, Tryd.ntmps28
    go_upto_region 1 with (fail)
    generalize w.alloc (.cells #[.int .i64 pk, .string (bs pt)] 35) = v0 at *
    go_wp2_with (at_builtin; refine wpList_append_gx (W0 := w) rowPt rfl _ _ rfl base (.slice none 0 0) [] [(pk, pt)] (some ⟨v0.heap.size, 0, none⟩) 1 (fun b => b = v0.heap.size) rfl (GB.nil _ _) rfl (gx_new encPt_len (Bk.new v0 35 _) rfl) (fun h => by cases h) (by simp) (HB1.out _) HB.out ?_)
    intro v' w' hF hbel _
    have HF := hid (And.intro hF hbel)
    clear hF hbel
    go_wp2_with fail
    go_returns
    exact ⟨_, rfl, by rw [HW.out]; exact HF.out.1, HF.out.2⟩
  · by_cases hk : pk = 0
    · subst hk
      rcases (show acc = [] ∨ ∃ (U : List Prt) (u : Prt), acc = U ++ [u] from by
          rcases List.eq_nil_or_concat acc with h | ⟨U, u, h⟩
          · exact Or.inl h
          · exact Or.inr ⟨U, u, by rw [h, List.concat_eq_append]⟩) with rfl | ⟨U, ⟨uk, ut⟩, rfl⟩
      · have HW := hid (show withF [] (0, pt) = [(0, pt)] from rfl)
        clear hown hb hb0 hB0 kp
        go_enter Tryd.func28, Tryd.ntmps28
        go_upto_region 1 with (fail)
        generalize w.alloc (.cells #[.int .i64 0, .string (bs pt)] 35) = v0 at *
        go_wp2_with (at_builtin; refine wpList_append_gx (W0 := w) rowPt rfl _ _ rfl base (.slice (some ⟨g, 0, none⟩) 0 c) [] [(0, pt)] (some ⟨v0.heap.size, 0, none⟩) 1 (fun b => b = v0.heap.size) rfl (GB.below HO.out (enew _ _)) rfl (gx_new encPt_len (Bk.new v0 35 _) rfl) (fun h => by cases h) (by simp) (HB1.out _) HB.out ?_)
        intro v' w' hF hbel _
        have HF := hid (And.intro hF hbel)
        clear hF hbel
        go_wp2_with fail
        go_returns
        exact ⟨_, rfl, by rw [HW.out]; exact HF.out.1, HF.out.2⟩
      · obtain ⟨k, hkk⟩ : ∃ k, U.length = k := ⟨_, rfl⟩
        have hlen : (U ++ [(uk, ut)]).length = k + 1 := by simp [hkk]
        have HKK := hid hkk
        have hk1000 : k ≤ 1000 := by omega
        rw [hlen] at HO hg3 ⊢
        have hgl : (w.alloc (.cells #[.int .i64 0, .string (bs pt)] 35)).heap[g]? = (w.alloc (.cells #[.int .i64 0, .string (bs pt)] 35)).heap[g]? := rfl
        obtain ⟨⟨t0, t1⟩, ⟨f0, f1⟩⟩ := pt_last HO.out hkk _ hgl
        simp only at t0 t1
        have hul : ut.length + pt.length ≤ 100000 := by
          have : szF (U ++ [(uk, ut)]) = szF U + ut.length := by rw [szF_append]; simp [szF]
          omega
        clear hgl hlen hown hb hb0 hB0 kp hl
        by_cases hu : uk = 0
        · subst hu
          have HW := hid (show withF (U ++ [(0, ut)]) (0, pt) = U ++ [(0, ut ++ pt)] by
            unfold withF withPr
            rw [if_pos rfl, List.getLast?_concat]
            simp)
          have HPU := hid (fun t => pt_put HO.out HKK.out t)
          have hi0 : (0 : Int) ≤ (k : Int) := by omega
          have hi1 : (k : Int) < (k : Int) + 1 := by omega
          clear hkk
          go_enter Tryd.func28, Tryd.ntmps28
          go_upto_region 1 with (fail)
          generalize w.alloc (.cells #[.int .i64 0, .string (bs pt)] 35) = v0 at *
          go_wp2_with fail
          go_region
          all_goals
            go_wp2_with fail
            go_returns
            exact ⟨_, rfl, by rw [HW.out]; exact HPU.out (ut ++ pt), (HBE.out.drew).setCell hg1 _⟩
        · have HW := hid (show withF (U ++ [(uk, ut)]) (0, pt) = (U ++ [(uk, ut)]) ++ [(0, pt)] by
            unfold withF withPr
            rw [if_pos rfl, List.getLast?_concat]
            simp only
            rw [if_neg hu])
          have d1 : decide (uk = 0) = false := decide_eq_false hu
          have d2 : (uk == 0) = false := beq_eq_false_iff_ne.2 hu
          have hi0 : (0 : Int) ≤ (k : Int) := by omega
          have hi1 : (k : Int) < (k : Int) + 1 := by omega
          clear hkk hu
          go_enter Tryd.func28, Tryd.ntmps28
          go_upto_region 1 with (fail)
          generalize w.alloc (.cells #[.int .i64 0, .string (bs pt)] 35) = v0 at *
          go_wp2_with (at_builtin; refine wpList_append_gx (W0 := w) rowPt rfl _ _ rfl base (.slice (some ⟨g, 0, none⟩) (k + 1) c) (U ++ [(uk, ut)]) [(0, pt)] (some ⟨v0.heap.size, 0, none⟩) 1 (fun b => b = v0.heap.size) rfl (GB.below HO.out (enew _ _)) rfl (gx_new encPt_len (Bk.new v0 35 _) rfl) (fun h => by cases h) (by have := HKK.out; simp; omega) (HB1.out _) HB.out ?_)
          intro v' w' hF hbel _
          have HF := hid (And.intro hF hbel)
          clear hF hbel
          go_wp2_with fail
          go_returns
          exact ⟨_, rfl, by rw [HW.out, List.append_assoc]; exact HF.out.1, HF.out.2⟩
    · have HW := hid (show withF acc (pk, pt) = acc ++ [(pk, pt)] by unfold withF; rw [if_neg hk])
      have d1 : decide (pk = 0) = false := decide_eq_false hk
      have d2 : (pk == 0) = false := beq_eq_false_iff_ne.2 hk
      have hl' := hl
      clear hown hb hb0 hB0 kp hk
      obtain ⟨q, hq⟩ : ∃ q, acc.length = q := ⟨_, rfl⟩
      have HQ := hid hq
      rw [hq] at HO hl' ⊢
      clear hq
      rcases Nat.eq_zero_or_pos q with hq0 | hq0
      all_goals
        first | (have hs0 : decide (0 ≤ (q : Int) - 1) = true := by simp; omega) | (have hs0 : decide (0 ≤ (q : Int) - 1) = false := by simp; omega)
        first | (have hs1 : decide (1 ≤ (q : Int)) = true := by simp; omega) | (have hs1 : decide (1 ≤ (q : Int)) = false := by simp; omega)
        go_enter Tryd.func28, Tryd.ntmps28
        go_upto_region 1 with (fail)
        generalize w.alloc (.cells #[.int .i64 pk, .string (bs pt)] 35) = v0 at *
        go_wp2_with (at_builtin; refine wpList_append_gx (W0 := w) rowPt rfl _ _ rfl base (.slice (some ⟨g, 0, none⟩) q c) acc [(pk, pt)] (some ⟨v0.heap.size, 0, none⟩) 1 (fun b => b = v0.heap.size) rfl (GB.below HO.out (enew _ _)) rfl (gx_new encPt_len (Bk.new v0 35 _) rfl) (fun h => by cases h) (by have := HQ.out; simp; omega) (HB1.out _) HB.out ?_)
        intro v' w' hF hbel _
        have HF := hid (And.intro hF hbel)
        clear hF hbel
        go_wp2_with fail
        go_returns
        exact ⟨_, rfl, by rw [HW.out]; exact HF.out.1, HF.out.2⟩
end Go.Proofs.YtmejcchkoflciaaDoor
namespace Go.Proofs.YtmejcchkoflciaaDoor
set_option linter.unusedVariables false
set_option linter.unusedSimpArgs false
open Go.RowKit Go.Joins

/-- What Compile answers. -/
def CmpR (base : Nat) (s : List UInt8) (w : World) (e : Ending) (w' : World) : Prop := ∃ v, e = .returned (.tuple #[v, .int .i64 ((compileF s).2.1 : Nat), .int .i64 (compileF s).2.2]) ∧ PB w' base v (compileF s).1 ∧ Below base w w'
theorem takeF_err (s : List UInt8) : (takeF s).2.2 = 0 ∨ (takeF s).2.2 = 3 ∨ (takeF s).2.2 = 15 := by
  unfold takeF
  split
  · split
    · split
      · exact Or.inl rfl
      · exact Or.inr (Or.inl rfl)
    · exact Or.inr (Or.inl rfl)
  · split
    · exact Or.inr (Or.inr rfl)
    · exact Or.inl rfl
/-- What the loop of Compile knows. -/
structure CmpL (s : List UInt8) (w wr : World) (v : Value) (rest : List UInt8) (acc : List Prt) : Prop where
  own : PB wr w.heap.size v acc
  bel : Below w.heap.size w wr
  sz : szF acc + rest.length ≤ s.length
  ln : acc.length + rest.length ≤ s.length
  run : ∃ n, rest.length ≤ n ∧ compF n rest (s.length - rest.length) acc = compileF s
theorem CmpL.stop {s : List UInt8} {w wr : World} {v : Value} {acc : List Prt} (h : CmpL s w wr v [] acc) : compileF s = (acc, 0, 0) := by
  obtain ⟨n, -, h2⟩ := h.run
  rw [← h2]
  cases n <;> rfl
theorem CmpL.err {s : List UInt8} {w wr : World} {v : Value} {rest : List UInt8} {acc : List Prt} (h : CmpL s w wr v rest acc) (h0 : rest ≠ []) (he : (takeF rest).2.2 ≠ 0) : compileF s = ([], s.length - rest.length, (takeF rest).2.2) := by
  obtain ⟨n, h1, h2⟩ := h.run
  obtain ⟨c, r, rfl⟩ := List.exists_cons_of_ne_nil h0
  cases n with
  | zero => simp at h1
  | succ n => rw [← h2, compF_step, if_neg he]
theorem CmpL.next {s : List UInt8} {w wr w' : World} {v v' : Value} {rest : List UInt8} {acc : List Prt} (h : CmpL s w wr v rest acc) (h0 : rest ≠ []) (he : (takeF rest).2.2 = 0) (own : PB w' w.heap.size v' (withF acc (takeF rest).1)) (bel : Below w.heap.size w w') : CmpL s w w' v' (takeF rest).2.1 (withF acc (takeF rest).1) := by
  obtain ⟨a, b, -⟩ := takeF_ok h0 he
  obtain ⟨c, d⟩ := withF_sz acc (takeF rest).1
  have hsz := h.sz
  have hln := h.ln
  refine ⟨own, bel, by omega, by omega, ?_⟩
  obtain ⟨n, h1, h2⟩ := h.run
  obtain ⟨x, r, rfl⟩ := List.exists_cons_of_ne_nil h0
  cases n with
  | zero => simp at h1
  | succ n =>
    refine ⟨n, by simp only [List.length_cons] at a h1; omega, ?_⟩
    rw [← h2, compF_step, if_pos he]
    congr 1
    omega
def lenS : Value → Nat
  | .string s => s.size
  | _ => 0
theorem lenS_bs (l : List UInt8) : lenS (.string (bs l)) = l.length := bs_size l
set_option maxRecDepth 100000 in
set_option maxHeartbeats 4000000 in
theorem compile_any (s : List UInt8) (hl : s.length ≤ 9223372036854775807) (w : World) (E : EnvF w) :
    Calls Tryd.prog 11 #[.string (bs s)] w fun e w' => CmpR w.heap.size s w e w' := by
  have c0 : (ByteArray.mk #[]) = bs [] := rfl
  by_cases h120 : s.length ≤ 120
  · have h1 : ¬ (120 : Int) < (s.length : Int) := by omega
    have HE := hid E
    have HST := hid (show CmpL s w w (.slice none 0 0) s [] from ⟨PB.nil _ _, Below.refl _ _, by simp [szF], by simp, ⟨s.length, Nat.le_refl _, by rw [Nat.sub_self, compileF, if_neg (by omega)]⟩⟩)
    clear E hl
    go_enter Tryd.func11, Tryd.ntmps11
    go_wp2_with fail
    go_loopw [5, 6] (fun v sv wr => ∃ (rest : List UInt8) (acc : List Prt), sv = .string (bs rest) ∧ rest.length ≤ s.length ∧ Hid (CmpL s w wr v rest acc)) (fun _ sv _ => lenS sv)
    case atStart => exact ⟨s, [], rfl, Nat.le_refl _, HST⟩
    case round =>
      obtain ⟨rest, acc, rfl, hrl, HW⟩ := hrel
      by_cases h0 : rest = []
      · subst h0
        have HC := hid HW.out.stop
        go_wp2_with fail
        go_returns
        rw [CmpR, HC.out]
        exact ⟨_, rfl, HW.out.own, HW.out.bel⟩
      · have hb0 : (rest != []) = true := by simpa using h0
        have hb1 : (!rest.isEmpty) = true := by simpa using h0
        have HN := hid h0
        have HTK := hid (take_any rest h0 (by omega) wr (HE.out.up HW.out.bel))
        have hoe := takeF_err rest
        have HER := hid (fun h => HW.out.err h0 h)
        have HNX := hid (fun (w' : World) (v' : Value) h => HW.out.next (w' := w') (v' := v') h0 h)
        have HOK := hid (fun h => takeF_ok h0 h)
        have HSZ := hid HW.out.sz
        have HLN := hid HW.out.ln
        clear h0
        generalize takeF rest = tk at *
        obtain ⟨⟨pk, pt⟩, bh, er⟩ := tk
        simp only at HTK hoe HER HNX HOK
        by_cases her : er = 0
        · subst her
          obtain ⟨ok1, ok2, ok3⟩ := HOK.out rfl
          clear hoe HER HOK
          have HOKZ := hid (And.intro ok1 ok2)
          have HWT := hid (fun (w2 : World) (x2 : Value) (h1 : PB w2 w.heap.size x2 acc) (h2 : w.heap.size ≤ w2.heap.size) => with_any w.heap.size x2 acc (pk, pt) w2 h1 h2 (by have := HLN.out; omega) (by have := HSZ.out; simp only at ok2 ⊢; omega))
          clear ok1 ok2 ok3
          go_wp2_with fail
          refine HTK.out.mono ?_
          rintro e w1 ⟨rfl, hb1'⟩
          have hbn := enew w1 (.cells #[.int .i64 pk, .string (bs pt)] 35)
          have HB2 := hid (hb1'.trans (hbn.mono hb1'.size))
          have HBB := hid (HW.out.bel.trans (HB2.out.mono HW.out.bel.size))
          clear hb1' hbn
          go_wp2_with fail
          ((with_reducible refine (HWT.out _ _ (HW.out.own.below HB2.out) HBB.out.size).mono ?_))
          rintro e w3 ⟨v', rfl, hv', hb3⟩
          have HNW := hid (HNX.out w3 v' (by first | rfl | trivial) hv' (HBB.out.trans hb3))
          clear hv' hb3
          go_wp2_with fail
          go_roundw
          case rel => exact ⟨bh, withF acc (pk, pt), rfl, by have := HOKZ.out.1; omega, HNW⟩
          case measure => have := HOKZ.out.1; simp only [lenS_bs]; omega
        · have hbe : (er != 0) = true := by simpa using her
          have HC := hid (HER.out her)
          have hsub : ((s.length : Int) - (rest.length : Int)) = ((s.length - rest.length : Nat) : Int) := by omega
          clear hoe her HNX HOK HER
          have HSUB := hid hsub
          clear hsub
          go_wp2_with fail
          refine HTK.out.mono ?_
          rintro e w1 ⟨rfl, hb1'⟩
          have HB1 := hid (HW.out.bel.trans (hb1'.mono HW.out.bel.size))
          clear hb1'
          go_wp2_with fail
          go_returns
          rw [CmpR, HC.out, ← HSUB.out]
          exact ⟨_, rfl, PB.nil _ _, HB1.out.alloc HB1.out.size _⟩
  · have h1 : (120 : Int) < (s.length : Int) := by omega
    have HC := hid (show compileF s = ([], 0, 6) by rw [compileF, if_pos (by omega)])
    clear E h120
    go_enter Tryd.func11, Tryd.ntmps11
    go_wp2_with fail
    go_returns
    rw [CmpR, HC.out]
    exact ⟨_, rfl, PB.nil _ _, Below.refl _ _⟩
end Go.Proofs.YtmejcchkoflciaaDoor
namespace Go.Proofs.YtmejcchkoflciaaDoor
set_option linter.unusedVariables false
set_option linter.unusedSimpArgs false
open Go.RowKit Go.Joins

set_option maxRecDepth 100000 in
set_option maxHeartbeats 4000000 in
theorem rwith_any (base : Nat) (v : Value) (acc : List Prt) (t : List UInt8) (w : World) (hown : PB w base v acc) (hb : base ≤ w.heap.size) (hl : acc.length ≤ 1000) (hz : szF acc + t.length ≤ 100000) :
    Calls Tryd.prog 29 #[v, .string (bs t)] w fun e w' => WthR base (withPr acc t) w e w' := by
  have HO := hid hown
  have HB := hid hb
  have HB1 := hid (fun o => (Below.refl base w).alloc hb o)
  rcases (show acc = [] ∨ ∃ (U : List Prt) (u : Prt), acc = U ++ [u] from by
          rcases List.eq_nil_or_concat acc with h | ⟨U, u, h⟩
          · exact Or.inl h
          · exact Or.inr ⟨U, u, by rw [h, List.concat_eq_append]⟩) with rfl | ⟨U, ⟨uk, ut⟩, rfl⟩
  · have HW := hid (show withPr [] t = [(0, t)] from rfl)
    obtain ⟨A, c, rfl, -⟩ := GB.reads encPt_len hown
    clear hown hb
    go_enter Tryd.func29, Tryd.ntmps29
    go_wp2_with (at_builtin; refine wpList_append_gx (W0 := w) rowPt rfl _ _ rfl base (.slice A 0 c) [] [(0, t)] (some ⟨w.heap.size, 0, none⟩) 1 (fun b => b = w.heap.size) rfl (GB.below HO.out (enew _ _)) rfl (gx_new encPt_len (Bk.new w 35 _) rfl) (fun h => by cases h) (by simp) (HB1.out _) HB.out ?_)
    intro v' w' hF hbel _
    have HF := hid (And.intro hF hbel)
    clear hF hbel
    go_wp2_with fail
    go_returns
    exact ⟨_, rfl, by rw [HW.out]; exact HF.out.1, HF.out.2⟩
  · rcases GB.form encPt_len hown with ⟨rfl, h0⟩ | ⟨g, c, rfl, hg1, hg2, hg3, hg4, -⟩
    · simp at h0
    · obtain ⟨k, hkk⟩ : ∃ k, U.length = k := ⟨_, rfl⟩
      have hlen : (U ++ [(uk, ut)]).length = k + 1 := by simp [hkk]
      have HKK := hid hkk
      have hk1000 : k ≤ 1000 := by rw [hlen] at hl; omega
      rw [hlen] at HO hg3 hown ⊢
      obtain ⟨⟨t0, t1⟩, -⟩ := pt_last hown hkk w rfl
      simp only at t0 t1
      have hul : ut.length + t.length ≤ 100000 := by
        have : szF (U ++ [(uk, ut)]) = szF U + ut.length := by rw [szF_append]; simp [szF]
        omega
      have hi0 : (0 : Int) ≤ (k : Int) := by omega
      have hi1 : (k : Int) < (k : Int) + 1 := by omega
      have hi2 : (k : Int) ≤ (c : Int) := by omega
      obtain ⟨A', c', ev, hgx, -⟩ := GB.reads encPt_len hown
      rw [hlen] at ev
      injection ev with ev1 ev2 ev3
      subst ev1
      have hgt := hgx.take k
      rw [show (U ++ [(uk, ut)]).take k = U by rw [← hkk]; simp] at hgt
      have HGT := hid hgt
      have HLS := hid (fun (w' : World) (hs : w'.heap[g]? = w.heap[g]?) => (pt_last HO.out HKK.out w' hs).1)
      clear hgx hgt ev3 ev2 hlen hown hb hl
      by_cases hu : uk = 0
      · subst hu
        have HW := hid (show withPr (U ++ [(0, ut)]) t = U ++ [(0, ut ++ t)] by
          unfold withPr
          rw [List.getLast?_concat]
          simp)
        have HUL := hid (show U.length ≤ 1000 by omega)
        clear hkk
        go_enter Tryd.func29, Tryd.ntmps29
        go_wp2_with (at_builtin; refine wpList_append_gx (W0 := w) rowPt rfl _ _ rfl base (.slice none 0 0) [] U (some ⟨g, 0, none⟩) c _ rfl (GB.nil _ _) (by rw [HKK.out]; rfl) HGT.out (fun h => by cases h) (by have := HUL.out; simp; omega) (Below.refl _ _) HB.out ?_)
        intro v1 w1 hF hbel hgr
        obtain ⟨q0, q1⟩ := HLS.out w1 (hgr.block g hg2 (by intro h; cases h))
        (try simp only at q0 q1)
        have hsz := hbel.size
        have HF := hid (And.intro hF hbel)
        have HB2 := hid (fun o => hbel.alloc (Nat.le_trans HB.out hbel.size) o)
        clear hF hbel hgr t0 t1
        go_wp2_with (at_builtin; refine wpList_append_gx (W0 := w) rowPt rfl _ _ rfl base _ ([] ++ U) [(0, ut ++ t)] (some ⟨w1.heap.size, 0, none⟩) 1 (fun b => b = w1.heap.size) rfl (GB.below HF.out.1 (enew _ _)) rfl (gx_new encPt_len (Bk.new w1 35 _) rfl) (fun h => by cases h) (by have := HUL.out; simp; omega) (HB2.out _) HB.out ?_)
        intro v2 w2 hF2 hbel2 _
        have HF2 := hid (And.intro hF2 hbel2)
        clear hF2 hbel2
        go_wp2_with fail
        go_returns
        exact ⟨_, rfl, by rw [HW.out]; exact HF2.out.1, HF2.out.2⟩
      · have HW := hid (show withPr (U ++ [(uk, ut)]) t = (U ++ [(uk, ut)]) ++ [(0, t)] by
          unfold withPr
          rw [List.getLast?_concat]
          simp only
          rw [if_neg hu])
        have d1 : decide (uk = 0) = false := decide_eq_false hu
        have d2 : (uk == 0) = false := beq_eq_false_iff_ne.2 hu
        clear hkk hu
        go_enter Tryd.func29, Tryd.ntmps29
        go_wp2_with (at_builtin; refine wpList_append_gx (W0 := w) rowPt rfl _ _ rfl base (.slice (some ⟨g, 0, none⟩) (k + 1) c) (U ++ [(uk, ut)]) [(0, t)] (some ⟨w.heap.size, 0, none⟩) 1 (fun b => b = w.heap.size) rfl (GB.below HO.out (enew _ _)) rfl (gx_new encPt_len (Bk.new w 35 _) rfl) (fun h => by cases h) (by have := HKK.out; simp; omega) (HB1.out _) HB.out ?_)
        intro v' w' hF hbel _
        have HF := hid (And.intro hF hbel)
        clear hF hbel
        go_wp2_with fail
        go_returns
        exact ⟨_, rfl, by rw [HW.out, List.append_assoc]; exact HF.out.1, HF.out.2⟩
set_option maxHeartbeats 800000 in
theorem rwords_any (w : World) : Calls Tryd.prog 49 #[] w fun e w' => e = .returned (.slice (some ⟨w.heap.size, 0, none⟩) 9 9) ∧ (∀ i, i < 9 → w'.cell? ⟨w.heap.size, i, none⟩ = some (.string (bs (wordF i)))) ∧ Below w.heap.size w w' := by
  go_enter Tryd.func49, Tryd.ntmps49
  go_wp2_with fail
  go_returns
  have k := Bk.new w 9 #[.string (bs (wordF 0)), .string (bs (wordF 1)), .string (bs (wordF 2)), .string (bs (wordF 3)), .string (bs (wordF 4)), .string (bs (wordF 5)), .string (bs (wordF 6)), .string (bs (wordF 7)), .string (bs (wordF 8))]
  refine ⟨rfl, fun i hi => ?_, enew w _⟩
  match i, hi with
  | 0, _ => exact Bk.cell k 0
  | 1, _ => exact Bk.cell k 1
  | 2, _ => exact Bk.cell k 2
  | 3, _ => exact Bk.cell k 3
  | 4, _ => exact Bk.cell k 4
  | 5, _ => exact Bk.cell k 5
  | 6, _ => exact Bk.cell k 6
  | 7, _ => exact Bk.cell k 7
  | 8, _ => exact Bk.cell k 8
set_option maxRecDepth 100000 in
set_option maxHeartbeats 4000000 in
theorem rpart_any (s : List UInt8) (h0 : s ≠ []) (hl : s.length ≤ 1000) (w : World) :
    Calls Tryd.prog 30 #[.string (bs s)] w fun e w' => e = .returned (.tuple #[.agg #[.int .i64 (toldP s).1.1, .string (bs (toldP s).1.2)], .bool (toldP s).2]) ∧ Below w.heap.size w w' := by
  have c0 : (ByteArray.mk #[]) = bs [] := rfl
  have k0 : BPt (w.alloc (.cells #[.int .i64 0, .string (bs [])] 35)) w.heap.size (0, []) := Bk.new _ _ _
  have hb0 := enew w (.cells #[.int .i64 0, .string (bs [])] 35)
  have HB := hid hb0
  have K00 := hid k0
  have HN := hid h0
  clear hb0 k0 h0
  go_enter Tryd.func30, Tryd.ntmps30
  go_upto_region 1 with (fail)
  generalize w.alloc (.cells #[.int .i64 0, .string (bs [])] 35) = v00 at *
  go_wp2_with fail
  refine (rwords_any _).mono ?_
  rintro e v0 ⟨rfl, hwc, hb1⟩
  have K0 := hid (K00.out.up hb1)
  have HBB := hid (estep HB.out hb1)
  have HWC := hid hwc
  have k0 := K0.out
  have f0 := Bk.frozen k0 0
  have f1 := Bk.frozen k0 1
  obtain ⟨r0, r1⟩ := k0.cells
  simp only at r0 r1
  clear k0 hb1 hwc
  go_wp2_with fail
  go_loop [5] (fun i => ∃ k : Nat, 1 ≤ k ∧ k ≤ 9 ∧ i = .int .i64 k ∧ Hid (∀ j, 1 ≤ j → j < k → s ≠ wordF j)) (fun i => 9 - (intOf i).toNat)
  case atStart => exact ⟨1, by omega, by omega, rfl, hid (fun j h1 hj => absurd hj (by omega))⟩
  case round =>
    obtain ⟨k, hk1, hk, rfl, HK⟩ := hrel
    by_cases hlt : k < 9
    · have hwk := HWC.out k hlt
      by_cases hs : s = wordF k
      · have hc : (wordF k == s) = true := by simpa using hs.symm
        have HT := hid (wordF_idx HN.out hlt hs (fun j hj => by
          rcases Nat.eq_zero_or_pos j with h | h
          · subst h; exact fun e => HN.out e
          · exact HK.out j h hj))
        clear hs
        go_wp2_with fail
        (try simp only [Exit.inBlock, Exit.then])
        have hz := (pt_set2 K0.out (k : Int) []).cells
        simp only at hz
        refine bodyPost_ret (v := .tuple #[.agg #[.int .i64 (k : Int), .string (bs [])], .bool true]) (by simp [results, Tryd.results30, go_sem, hz.1, hz.2]) rfl ?_
        rw [HT.out]
        exact ⟨rfl, (HBB.out.setCell (Nat.le_refl _) _).setCell (Nat.le_refl _) _⟩
      · have hc : (wordF k == s) = false := by simpa using fun e => hs e.symm
        have HS := hid hs
        clear hs
        go_wp2_with fail
        go_round
        case rel => exact ⟨k + 1, by omega, by omega, by go_num, hid (fun j h1 hj => by
          by_cases e : j = k
          · subst e; exact HS.out
          · exact HK.out j h1 (by omega))⟩
        case measure => simp [intOf]; omega
    · obtain rfl : k = 9 := by omega
      have HT := hid (wordF_none HN.out (fun j hj => by
          rcases Nat.eq_zero_or_pos j with h | h
          · subst h; exact fun e => HN.out e
          · exact HK.out j h hj))
      clear hlt hk hk1
      by_cases h5 : 5 < s.length
      · have g5 : decide ((5 : Int) < (s.length : Int)) = true := by simp; omega
        have x1 : (bs s).extract 0 4 = bs (s.take 4) := by rw [bs_extract]; simp
        have g4 : (4 : Int) ≤ (s.length : Int) := by omega
        have g0 : (0 : Int) ≤ (s.length : Int) - 1 := by omega
        have g1 : (4 : Int) ≤ (s.length : Int) - 1 := by omega
        have x2 : (bs s).extract 4 (s.length - 1) = bs (reqF s) := by rw [bs_extract]; unfold reqF; congr 2
        have HRL := hid (show (reqF s).length ≤ 1000 by unfold reqF; rw [List.length_take, List.length_drop]; omega)
        have hql : s.getLastD 0 = s[s.length - 1] := getLastD_at (by omega)
        have HQL := hid hql
        have hc41 := UInt8.toNat_lt s[s.length - 1]
        have HNM := hid (fun w2 => rname_any (reqF s) w2 (by have := HRL.out; omega))
        clear hql
        by_cases h4 : s.take 4 = [82, 69, 81, 40]
        · have b4 : (s.take 4 == [82, 69, 81, 40]) = true := by simpa using h4
          by_cases hq : s[s.length - 1].toNat = 41
          · have bq : ((s[s.length - 1].toNat : Int) == 41) = true := by simp; omega
            have hq2 : s[s.length - 1] = 41 := by
              have := congrArg UInt8.ofNat hq
              simpa using this
            have HQ := hid (show isReq s = nameB (reqF s) by
              unfold isReq
              rw [decide_eq_true h5, decide_eq_true h4, HQL.out, decide_eq_true hq2]
              rfl)
            obtain ⟨z3, hz3⟩ : ∃ z, nameB (reqF s) = z := ⟨_, rfl⟩
            rw [hz3] at HQ HNM
            clear h4 hq hq2 hz3
            cases z3
            · have HTT := hid (show toldP s = ((0, []), false) by rw [HT.out, HQ.out]; rfl)
              go_wp2_with fail
              refine (HNM.out _).mono ?_
              rintro e w1 ⟨rfl, rfl⟩
              go_wp2_with fail
              (try simp only [Exit.inBlock, Exit.then])
              have hz := (pt_set2 K0.out 0 []).cells
              simp only at hz
              refine bodyPost_ret (v := .tuple #[.agg #[.int .i64 0, .string (bs [])], .bool false]) (by simp [results, Tryd.results30, go_sem, hz.1, hz.2]) rfl ?_
              rw [HTT.out]
              exact ⟨rfl, (HBB.out.setCell (Nat.le_refl _) _).setCell (Nat.le_refl _) _⟩
            · have HTT := hid (show toldP s = ((9, reqF s), true) by rw [HT.out, HQ.out]; rfl)
              generalize reqF s = rq at *
              go_wp2_with fail
              refine (HNM.out _).mono ?_
              rintro e w1 ⟨rfl, rfl⟩
              go_wp2_with fail
              (try simp only [Exit.inBlock, Exit.then])
              have hz := (pt_set2 K0.out 9 rq).cells
              simp only at hz
              refine bodyPost_ret (v := .tuple #[.agg #[.int .i64 9, .string (bs rq)], .bool true]) (by simp [results, Tryd.results30, go_sem, hz.1, hz.2]) rfl ?_
              rw [HTT.out]
              exact ⟨rfl, (HBB.out.setCell (Nat.le_refl _) _).setCell (Nat.le_refl _) _⟩
          · have bq : ((s[s.length - 1].toNat : Int) == 41) = false := by simp; omega
            have HQ := hid (show isReq s = false by
              unfold isReq
              rw [HQL.out, decide_eq_false (show ¬ s[s.length - 1] = 41 from fun e => hq (by rw [e]; rfl))]
              simp)
            have HTT := hid (show toldP s = ((0, []), false) by rw [HT.out, HQ.out]; rfl)
            clear h4 hq
            go_wp2_with fail
            (try simp only [Exit.inBlock, Exit.then])
            have hz := (pt_set2 K0.out 0 []).cells
            simp only at hz
            refine bodyPost_ret (v := .tuple #[.agg #[.int .i64 0, .string (bs [])], .bool false]) (by simp [results, Tryd.results30, go_sem, hz.1, hz.2]) rfl ?_
            rw [HTT.out]
            exact ⟨rfl, (HBB.out.setCell (Nat.le_refl _) _).setCell (Nat.le_refl _) _⟩
        · have b4 : (s.take 4 == [82, 69, 81, 40]) = false := by simpa using h4
          have HQ := hid (show isReq s = false by
            unfold isReq
            rw [decide_eq_false h4]
            simp)
          have HTT := hid (show toldP s = ((0, []), false) by rw [HT.out, HQ.out]; rfl)
          clear h4
          go_wp2_with fail
          (try simp only [Exit.inBlock, Exit.then])
          have hz := (pt_set2 K0.out 0 []).cells
          simp only at hz
          refine bodyPost_ret (v := .tuple #[.agg #[.int .i64 0, .string (bs [])], .bool false]) (by simp [results, Tryd.results30, go_sem, hz.1, hz.2]) rfl ?_
          rw [HTT.out]
          exact ⟨rfl, (HBB.out.setCell (Nat.le_refl _) _).setCell (Nat.le_refl _) _⟩
      · have g5 : decide ((5 : Int) < (s.length : Int)) = false := by simp; omega
        have HQ := hid (show isReq s = false by
          unfold isReq
          rw [decide_eq_false h5]
          rfl)
        have HTT := hid (show toldP s = ((0, []), false) by rw [HT.out, HQ.out]; rfl)
        clear h5
        go_wp2_with fail
        (try simp only [Exit.inBlock, Exit.then])
        have hz := (pt_set2 K0.out 0 []).cells
        simp only at hz
        refine bodyPost_ret (v := .tuple #[.agg #[.int .i64 0, .string (bs [])], .bool false]) (by simp [results, Tryd.results30, go_sem, hz.1, hz.2]) rfl ?_
        rw [HTT.out]
        exact ⟨rfl, (HBB.out.setCell (Nat.le_refl _) _).setCell (Nat.le_refl _) _⟩
end Go.Proofs.YtmejcchkoflciaaDoor
namespace Go.Proofs.YtmejcchkoflciaaDoor
set_option linter.unusedVariables false
set_option linter.unusedSimpArgs false
open Go.RowKit Go.Joins

theorem pre37 (c : UInt8) (r : List UInt8) : List.isPrefixOf [37] (c :: r) = decide (c.toNat = 37) := by
  rw [Bool.eq_iff_iff, decide_eq_true_iff]
  constructor
  · intro h
    simp [List.isPrefixOf] at h
    rw [← h]; rfl
  · intro h
    have e : c = 37 := by
      have := congrArg UInt8.ofNat h
      simpa using this
    subst e
    rfl
theorem cut37_at {s : List UInt8} {a j : Nat} (ha : a ≤ j) (hj : j < s.length) (hc : s[j].toNat = 37) (hn : ∀ i (h : i < s.length), a ≤ i → i < j → s[i].toNat ≠ 37) : cutS [37] (s.drop a) = ((s.drop a).take (j - a), s.drop (j + 1), true) := by
  have h := cutS_hit (sep := [37]) (by simp) (s.drop a) (j - a) (by
    rw [List.drop_drop, show a + (j - a) = j by omega, List.drop_eq_getElem_cons hj, pre37, decide_eq_true hc]) (fun i hi => by
    rw [List.drop_drop, List.drop_eq_getElem_cons (by omega), pre37, decide_eq_false (hn (a + i) (by omega) (by omega) (by omega))])
  rw [h, List.drop_drop]
  have e : a + (j - a + ([37] : List UInt8).length) = j + 1 := by simp only [List.length_singleton]; omega
  rw [e]
theorem cut37_no {s : List UInt8} {a : Nat} (hn : ∀ i (h : i < s.length), a ≤ i → s[i].toNat ≠ 37) : (cutS [37] (s.drop a)).2.2 = false := by
  have h := cutS_miss (sep := [37]) (s.drop a) (fun i hi => by
    rw [List.length_drop] at hi
    rw [List.drop_drop, List.drop_eq_getElem_cons (by omega), pre37, decide_eq_false (hn (a + i) (by omega) (by omega))])
  rw [h]
theorem told_kind {s : List UInt8} (h0 : s ≠ []) (h : (toldP s).2 = true) : (toldP s).1.1 ≠ 0 := by
  unfold toldP toldF at h ⊢
  rw [if_neg h0] at h ⊢
  split at h
  · rename_i p hp
    simp only [hp]
    exact (partF_kind hp).1
  · cases h
/-- What the loop of the definition's Compile knows. -/
def RcL (s : List UInt8) (w wr : World) (v : Value) (k : Nat) (acc : List Prt) : Prop := CmpL s w wr v (s.drop k) acc
theorem RcL.own {s : List UInt8} {w wr : World} {v : Value} {k : Nat} {acc : List Prt} (h : RcL s w wr v k acc) : PB wr w.heap.size v acc := CmpL.own h
theorem RcL.bel {s : List UInt8} {w wr : World} {v : Value} {k : Nat} {acc : List Prt} (h : RcL s w wr v k acc) : Below w.heap.size w wr := CmpL.bel h
theorem RcL.fail {s : List UInt8} {w wr : World} {v : Value} {k : Nat} {acc : List Prt} (h : RcL s w wr v k acc) (hk : k < s.length) {er : Int} (h2 : (takeF (s.drop k)).2.2 = er) (h3 : er ≠ 0) : compileF s = ([], k, er) := by
  have := h.err (by intro e; have := congrArg List.length e; simp at this; omega) (by rw [h2]; exact h3)
  rw [this, h2, List.length_drop]
  congr 2
  omega
theorem RcL.go {s : List UInt8} {w wr w' : World} {v v' : Value} {k j : Nat} {acc : List Prt} {p : Prt} (h : RcL s w wr v k acc) (hk : k < s.length) (ht : takeF (s.drop k) = (p, s.drop j, 0)) (own : PB w' w.heap.size v' (withF acc p)) (bel : Below w.heap.size w w') : RcL s w w' v' j (withF acc p) := by
  have := h.next (v' := v') (w' := w') (by intro e; have := congrArg List.length e; simp at this; omega) (by rw [ht]) (by rw [ht]; exact own) bel
  rw [ht] at this
  exact this
theorem drop_at {s : List UInt8} {k : Nat} (hk : k < s.length) : s.drop k = s[k] :: s.drop (k + 1) := List.drop_eq_getElem_cons hk
set_option maxRecDepth 100000 in
set_option maxHeartbeats 8000000 in
theorem rcompile_any (s : List UInt8) (hl : s.length ≤ 9223372036854775807) (w : World) :
    Calls Tryd.prog 12 #[.string (bs s)] w fun e w' => CmpR w.heap.size s w e w' := by
  have hnot := enot
  have c0 : (ByteArray.mk #[]) = bs [] := rfl
  by_cases h120 : s.length ≤ 120
  · have h1 : ¬ (120 : Int) < (s.length : Int) := by omega
    have HST := hid (show RcL s w w (.slice none 0 0) 0 [] from ⟨PB.nil _ _, Below.refl _ _, by simp [szF], by simp, ⟨s.length, by simp, by rw [List.drop_zero, Nat.sub_self, compileF, if_neg (by omega)]⟩⟩)
    clear hl
    go_enter Tryd.func12, Tryd.ntmps12
    go_wp2_with fail
    go_loopw [5, 6] (fun v at_ wr => ∃ (k : Nat) (acc : List Prt), at_ = .int .i64 k ∧ k ≤ s.length ∧ Hid (RcL s w wr v k acc)) (fun _ at_ _ => s.length - (intOf at_).toNat)
    case atStart => exact ⟨0, [], rfl, Nat.zero_le _, HST⟩
    case round =>
      obtain ⟨k, acc, rfl, hk, HW⟩ := hrel
      by_cases hlt : k < s.length
      · have HD := hid (drop_at hlt)
        have hcc := UInt8.toNat_lt s[k]
        have HSZ := hid HW.out.sz
        have HLN := hid HW.out.ln
        have HLD := hid (List.length_drop (i := k) (l := s))
        by_cases h37 : s[k].toNat = 37
        · have d1 : decide ((s[k].toNat : Int) < 32) = false := by simp; omega
          have d2 : decide ((126 : Int) < (s[k].toNat : Int)) = false := by simp; omega
          have d3 : ((s[k].toNat : Int) != 37) = false := by simp; omega
          have HTM := hid (show takeF (s.drop k) = _ from (congrArg takeF (drop_at hlt)).trans (takeF_mark h37))
          clear h37
          go_wp2_with fail
          go_loop [7] (fun i => ∃ j : Nat, k + 1 ≤ j ∧ j ≤ s.length ∧ i = .int .i64 j ∧ Hid (∀ i (h : i < s.length), k + 1 ≤ i → i < j → s[i].toNat ≠ 37)) (fun i => s.length - (intOf i).toNat)
          case atStart => exact ⟨k + 1, Nat.le_refl _, by omega, by go_num, hid (fun i h h1 h2 => absurd h2 (by omega))⟩
          case round =>
            obtain ⟨j, hj1, hj, rfl, HJ⟩ := hrel
            by_cases hjl : j < s.length
            · have hjc := UInt8.toNat_lt s[j]
              by_cases hj37 : s[j].toNat = 37
              · have e3 : ((s[j].toNat : Int) != 37) = false := by simp; omega
                have HCT := hid (cut37_at hj1 hjl hj37 HJ.out)
                have ne1 : ((j : Int) == (s.length : Int)) = false := by simp; omega
                have ne2 : decide ((j : Int) = (s.length : Int)) = false := decide_eq_false (by omega)
                clear hj37
                by_cases hjk : j = k + 1
                · subst hjk
                  have HTK := hid (show takeF (s.drop k) = ((0, [37]), s.drop (k + 1 + 1), 0) by
                    rw [HTM.out, HCT.out, Nat.sub_self, List.take_zero]
                    rfl)
                  have HWN := hid (fun (w' : World) (v' : Value) => HW.out.go (w' := w') (v' := v') hlt HTK.out)
                  have HWT := hid (fun (w2 : World) (x2 : Value) (h1 : PB w2 w.heap.size x2 acc) (h2 : w.heap.size ≤ w2.heap.size) => (show Calls Tryd.prog 29 #[x2, .string (ByteArray.mk #[37])] w2 (fun e w' => WthR w.heap.size (withPr acc [37]) w2 e w') from rwith_any w.heap.size x2 acc [37] w2 h1 h2 (by have := HLN.out; omega) (by have := HSZ.out; simp only [List.length_singleton]; omega)))
                  have eq1 : ((k : Int) + 1 == (k : Int) + 1) = true := by simp
                  go_wp2_with fail
                  ((with_reducible refine (HWT.out _ _ HW.out.own HW.out.bel.size).mono ?_))
                  rintro e w3 ⟨v', rfl, hv', hb3⟩
                  have HNW := hid (HWN.out w3 v' hv' (HW.out.bel.trans hb3))
                  clear hv' hb3
                  go_wp2_with fail
                  go_roundw
                  case rel => exact ⟨k + 1 + 1, _, by go_num, by omega, HNW⟩
                  case measure => simp [intOf]; omega
                · have hi0 : (0 : Int) ≤ (k : Int) + 1 := by omega
                  have hi1 : (k : Int) + 1 ≤ (j : Int) := by omega
                  have hi2 : (j : Int) ≤ (s.length : Int) := by omega
                  have ne3 : ((j : Int) == (k : Int) + 1) = false := by simp; omega
                  have ne4 : decide ((j : Int) = (k : Int) + 1) = false := decide_eq_false (by omega)
                  have x1 : (bs s).extract (k + 1) j = bs ((s.drop (k + 1)).take (j - (k + 1))) := bs_extract _ _ _
                  have hwl : ((s.drop (k + 1)).take (j - (k + 1))).length = j - (k + 1) := by rw [List.length_take, List.length_drop]; omega
                  have hw0 : (s.drop (k + 1)).take (j - (k + 1)) ≠ [] := by
                    intro e
                    have := congrArg List.length e
                    rw [hwl, List.length_nil] at this
                    omega
                  have HPT := hid (fun w2 => rpart_any _ hw0 (by omega) w2)
                  have HTKD := hid (fun h => told_kind hw0 h)
                  have HTK := hid (show takeF (s.drop k) = if (toldP ((s.drop (k + 1)).take (j - (k + 1)))).2 = true then ((toldP ((s.drop (k + 1)).take (j - (k + 1)))).1, s.drop (j + 1), 0) else ((0, []), [], 3) by
                    rw [HTM.out, HCT.out]
                    rfl)
                  clear hwl hw0 hjk HCT HTM
                  generalize (s.drop (k + 1)).take (j - (k + 1)) = wd at *
                  generalize toldP wd = td at *
                  obtain ⟨⟨pk, pt⟩, tz⟩ := td
                  simp only at HPT HTKD HTK
                  cases tz
                  · have HF := hid (HW.out.fail hlt (er := 3) (by rw [HTK.out]; rfl) (by decide))
                    go_wp2_with fail
                    ((with_reducible refine (HPT.out _).mono ?_))
                    rintro e w2 ⟨rfl, hb2⟩
                    have HB2 := hid (HW.out.bel.trans (hb2.mono HW.out.bel.size))
                    clear hb2
                    go_wp2_with fail
                    go_returns
                    rw [CmpR, HF.out]
                    exact ⟨_, rfl, PB.nil _ _, HB2.out.alloc HB2.out.size _⟩
                  · have HTK2 := hid (show takeF (s.drop k) = ((pk, pt), s.drop (j + 1), 0) from HTK.out)
                    have HWN := hid (fun (w' : World) (v' : Value) => HW.out.go (w' := w') (v' := v') hlt HTK2.out)
                    have HWF := hid (show withF acc (pk, pt) = acc ++ [(pk, pt)] by unfold withF; rw [if_neg (HTKD.out rfl)])
                    have HAL := hid (show acc.length ≤ 200 by have := HLN.out; omega)
                    go_wp2_with fail
                    ((with_reducible refine (HPT.out _).mono ?_))
                    rintro e w2 ⟨rfl, hb2⟩
                    have hn := enew w2 (.cells #[.int .i64 pk, .string (bs pt)] 35)
                    have HB2 := hid (hb2.trans (hn.mono hb2.size))
                    have HB3 := hid (HW.out.bel.trans (HB2.out.mono HW.out.bel.size))
                    have HO2 := hid (HW.out.own.below HB2.out)
                    have kn : BPt (w2.alloc (.cells #[.int .i64 pk, .string (bs pt)] 35)) w2.heap.size (pk, pt) := Bk.new _ _ _
                    obtain ⟨n0, n1⟩ := kn.cells
                    simp only at n0 n1
                    clear hb2 hn kn
                    go_upto_region 19 with (fail)
                    generalize w2.alloc (.cells #[.int .i64 pk, .string (bs pt)] 35) = w3 at *
                    have HB4 := hid (fun o => HB3.out.alloc HB3.out.size o)
                    go_wp2_with (at_builtin; refine wpList_append_gx (W0 := w) rowPt rfl _ _ rfl w.heap.size _ acc [(pk, pt)] (some ⟨w3.heap.size, 0, none⟩) 1 (fun b => b = w3.heap.size) rfl (GB.below HO2.out (enew _ _)) rfl (gx_new encPt_len (Bk.new w3 35 _) rfl) (fun h => by cases h) (by have := HAL.out; simp; omega) (HB4.out _) (Nat.le_refl _) ?_)
                    intro v' w4 hF hbel _
                    have HNW := hid (HWN.out w4 v' (by rw [HWF.out]; exact hF) hbel)
                    clear hF hbel
                    go_wp2_with fail
                    go_roundw
                    case rel => exact ⟨j + 1, _, by go_num, by omega, HNW⟩
                    case measure => simp [intOf]; omega
              · have e3 : ((s[j].toNat : Int) != 37) = true := by simp; omega
                have HS := hid hj37
                clear hj37
                go_wp2_with fail
                go_round
                case rel => exact ⟨j + 1, by omega, by omega, by go_num, hid (fun i h h1 h2 => by
                  by_cases e : i = j
                  · subst e; exact HS.out
                  · exact HJ.out i h h1 (by omega))⟩
                case measure => simp [intOf]; omega
            · obtain rfl : j = s.length := by omega
              have HNO := hid (cut37_no (s := s) (a := k + 1) (fun i h h1 => HJ.out i h h1 h))
              have HF := hid (HW.out.fail hlt (er := 3) (by rw [HTM.out, HNO.out]; rfl) (by decide))
              clear hjl
              go_wp2_with fail
              go_returns
              rw [CmpR, HF.out]
              exact ⟨_, rfl, PB.nil _ _, HW.out.bel⟩
        · have HTT := hid (show takeF (s.drop k) = _ from (congrArg takeF (drop_at hlt)).trans (takeF_text h37))
          by_cases hr : s[k].toNat < 32 ∨ 126 < s[k].toNat
          · have HF := hid (HW.out.fail hlt (er := 15) (by rw [HTT.out, if_pos hr]) (by decide))
            have d0 : decide ((s[k].toNat : Int) < 32) = true ∨ (decide ((s[k].toNat : Int) < 32) = false ∧ decide ((126 : Int) < (s[k].toNat : Int)) = true) := by
              by_cases h32 : s[k].toNat < 32
              · exact Or.inl (by simp; omega)
              · exact Or.inr ⟨by simp; omega, by simp; omega⟩
            clear hr h37
            rcases d0 with d1 | ⟨d1, d2⟩
            all_goals
              go_wp2_with fail
              go_returns
              rw [CmpR, HF.out]
              exact ⟨_, rfl, PB.nil _ _, HW.out.bel⟩
          · have d1 : decide ((s[k].toNat : Int) < 32) = false := by simp; omega
            have d2 : decide ((126 : Int) < (s[k].toNat : Int)) = false := by simp; omega
            have d3 : ((s[k].toNat : Int) != 37) = true := by simp; omega
            have HTK := hid (show takeF (s.drop k) = ((0, [s[k]]), s.drop (k + 1), 0) by rw [HTT.out, if_neg hr])
            have HWN := hid (fun (w' : World) (v' : Value) => HW.out.go (w' := w') (v' := v') hlt HTK.out)
            have x1 : (bs s).extract k (k + 1) = bs [s[k]] := by
              rw [bs_extract, Nat.add_sub_cancel_left, List.drop_eq_getElem_cons hlt]; rfl
            have HWT := hid (fun (w2 : World) (x2 : Value) (h1 : PB w2 w.heap.size x2 acc) (h2 : w.heap.size ≤ w2.heap.size) => rwith_any w.heap.size x2 acc [s[k]] w2 h1 h2 (by have := HLN.out; omega) (by have := HSZ.out; simp only [List.length_singleton]; omega))
            clear hr h37
            go_wp2_with fail
            ((with_reducible refine (HWT.out _ _ HW.out.own HW.out.bel.size).mono ?_))
            rintro e w3 ⟨v', rfl, hv', hb3⟩
            have HNW := hid (HWN.out w3 v' hv' (HW.out.bel.trans hb3))
            clear hv' hb3
            go_wp2_with fail
            go_roundw
            case rel => exact ⟨k + 1, _, by go_num, by omega, HNW⟩
            case measure => simp [intOf]; omega
      · obtain rfl : k = s.length := by omega
        have HC := hid (show compileF s = (acc, 0, 0) by
          have h := HW.out
          unfold RcL at h
          rw [List.drop_length] at h
          exact h.stop)
        clear hlt
        go_wp2_with fail
        go_returns
        rw [CmpR, HC.out]
        exact ⟨_, rfl, HW.out.own, HW.out.bel⟩
  · have h1 : (120 : Int) < (s.length : Int) := by omega
    have HC := hid (show compileF s = ([], 0, 6) by rw [compileF, if_pos (by omega)])
    clear h120
    go_enter Tryd.func12, Tryd.ntmps12
    go_wp2_with fail
    go_returns
    rw [CmpR, HC.out]
    exact ⟨_, rfl, PB.nil _ _, Below.refl _ _⟩
end Go.Proofs.YtmejcchkoflciaaDoor
