/- Texts put together: Ly Lz. -/
import Derived.Test.YtelglcakekgdeaaGreatDoorG38
import Derived.WalkMore
import Derived.ScopeJumps
namespace Go.Proofs.YtelglcakekgdeaaGreatDoor
set_option linter.unusedVariables false
set_option linter.unusedSimpArgs false
open Go.RowKit Go.Joins

theorem jump_weaker {l : Nat} {J : Act → World → Prop} {K : Act → World → Prop} {Q : Exit → Act → World → Prop} : ∀ (e : Exit) (a : Act) (w : World), Exit.jump l (fun a w => J a w ∧ K a w) Q e a w → Exit.jump l J Q e a w := fun e a w h => by
  cases e <;> first | exact h | exact ⟨h.1, h.2.1⟩
/-- A scope whose label stands at its head: the first pass is like the others. -/
theorem wp_scope_head {P : Program} {a : Act} {w : World} {Q : Exit → Act → World → Prop} {R : Code} (l : Nat) (J : Act → World → Prop) (μ : Act → World → Nat) (hJ : J a w)
    (pass : ∀ a w, J a w → R.wp P (Exit.jump l (fun a' w' => J a' w' ∧ μ a' w' < μ a w) Q) a w) : (Code.scope ((Code.label l).seq R)).wp P Q a w :=
  wp_scope_jumps l J μ (rest := Code.skip.seq R) (by simp [findLabel]) (wp_seq (wp_label (Code.wp_mono jump_weaker (pass a w hJ)))) (fun a w h => wp_seq (wp_skip (pass a w h)))
theorem linesP_step (k : Nat) (rest : List UInt8) (n : Nat) (last : Int) (f : List UInt8) (U : List Rs) : linesP (k + 1) rest n last f U = match stepP rest last f U with
    | none => (none, n + 1)
    | some (r, ln, g) => if ln ≠ 13 ∨ r ≠ [] then linesP k r (n + 1) ln g.1 g.2 else (some g, n + 1) := by
  rw [linesP, stepP]
  split
  · rfl
  · cases hearP (cutS [10] rest).1 with
    | none => rfl
    | some s =>
      simp only
      split <;> rfl
theorem cutS_less {rest : List UInt8} (h : (cutS [10] rest).2.2 = true) : (cutS [10] rest).2.1.length < rest.length := by
  induction rest with
  | nil => simp [cutS] at h
  | cons b l ih =>
    rw [cutS] at h ⊢
    split
    · simp
    · rename_i hb
      rw [if_neg hb] at h
      simp only at h ⊢
      have := ih h
      simp only [List.length_cons]
      omega
theorem stepP_less {rest : List UInt8} {last : Int} {f : List UInt8} {U : List Rs} {r : List UInt8} {ln : Nat} {g : List UInt8 × List Rs} (h : stepP rest last f U = some (r, ln, g)) : r.length < rest.length ∧ ∃ s, hearP (cutS [10] rest).1 = some s ∧ folP s.line last = true ∧ ln = s.line ∧ g = keepP f U s := by
  unfold stepP at h
  split at h
  · cases h
  · rename_i hc
    have hc2 : (cutS [10] rest).2.2 = true := by simpa using hc
    split at h
    · cases h
    · rename_i s hs
      split at h
      · cases h
      · rename_i hf
        injection h with h
        simp only [Prod.mk.injEq] at h
        obtain ⟨rfl, rfl, rfl⟩ := h
        exact ⟨cutS_less hc2, s, hs, by simpa using hf, rfl, rfl⟩
/-- How many rules, and predicates of a rule, are read. -/
theorem keepP_len {f : List UInt8} {U : List Rs} {s : Sd} {n : Nat} (h1 : U.length ≤ n) (h2 : ∀ u ∈ U, u.ps.length ≤ n) : (keepP f U s).2.length ≤ n + 1 ∧ ∀ u ∈ (keepP f U s).2, u.ps.length ≤ n + 1 := by
  unfold keepP
  split
  · exact ⟨by simp only; omega, fun u hu => Nat.le_succ_of_le (h2 u hu)⟩
  split
  · refine ⟨by simp; omega, fun u hu => ?_⟩
    rcases List.mem_append.1 hu with hu | hu
    · exact Nat.le_succ_of_le (h2 u hu)
    · have : u = rule0 (nm s 0) := by simpa using hu
      subst this; simp [rule0]
  split
  · exact ⟨by simp only; omega, fun u hu => Nat.le_succ_of_le (h2 u hu)⟩
  · unfold keepU
    cases hl : U.getLast? with
    | none => exact ⟨by simp only; omega, fun u hu => Nat.le_succ_of_le (h2 u hu)⟩
    | some r =>
      have hr := List.mem_of_getLast? hl
      refine ⟨by simp; omega, fun u hu => ?_⟩
      rcases List.mem_append.1 hu with hu | hu
      · exact Nat.le_succ_of_le (h2 u (List.dropLast_subset _ hu))
      · have : u = withP r s := by simpa using hu
        subst this
        have h3 := h2 r hr
        unfold withP
        repeat (split; · simp only; omega)
        simp only [List.length_append, List.length_cons, List.length_nil]
        omega
theorem keepP_ne {f : List UInt8} {U : List Rs} {s : Sd} (h0 : s.line ≠ 0) (h : s.line ≠ 1 → U ≠ []) : (keepP f U s).2 ≠ [] := by
  unfold keepP
  rw [if_neg h0]
  split
  · simp
  · rename_i h1
    have hU := h h1
    split
    · exact hU
    · unfold keepU
      rw [List.getLast?_eq_some_getLast hU]
      simp
theorem folP_ne {ln : Nat} {last : Int} (h : folP ln last = true) (h14 : ln < 14) (h0 : ln ≠ 0) (h1 : ln ≠ 1) (h13 : ln ≠ 13) : 1 ≤ last ∧ last ≠ 13 := by
  unfold folP at h
  rw [if_neg h0, if_neg (by omega)] at h
  split at h
  · simp at h; omega
  · simp at h; omega
def LinesR (B rb : Nat) (w' : World) : Option (List UInt8 × List Rs) × Nat → Prop
  | (none, n) => ∃ rest last f U, RI w' B rb rest (n : Int) last f U
  | (some g, _) => ∃ rest num last U', RI w' B rb rest num last g.1 U' ∧ U'.map Ru.sem = g.2
def restSize (rb : Nat) (w : World) : Nat := match w.cell? ⟨rb, 0, none⟩ with | some (.string b) => b.size | _ => 0
/-- What holds at each line's begin. -/
def LJ (B rb : Nat) (w0 : World) (X : Option (List UInt8 × List Rs) × Nat) (w : World) : Prop := ∃ (k : Nat) (rest : List UInt8) (n : Nat) (last : Int) (f : List UInt8) (U : List Ru), RI w B rb rest (n : Int) last f U ∧ Below B w0 w ∧ rest.length < k ∧ linesP k rest n last f (U.map Ru.sem) = X ∧ n + rest.length ≤ 4096 ∧ U.length ≤ n ∧ (∀ u ∈ U, u.ps.length ≤ n) ∧ (1 ≤ last ∧ last ≠ 13 → U ≠ [])
theorem RI.setn {w : World} {B rb : Nat} {rest f : List UInt8} {num last : Int} {U : List Ru} (h : RI w B rb rest num last f U) (m : Int) : RI (w.setCell ⟨rb, 1, none⟩ (.int .i64 m)) B rb rest m last f U := by
  obtain ⟨hB, A, n, c, bL, hk, hg, hru⟩ := h
  have k1 : RB (w.setCell ⟨rb, 1, none⟩ (.int .i64 m)) rb rest m last (.slice A n c) f := Bk.set_ hk 1 (.int .i64 m)
  exact ⟨hB, A, n, c, bL, k1, hg.set hk (by decide) 1 _, hru.up (Keeps.set hk (by decide) 1 _) (by rw [World.size_setCell]; exact Nat.le_refl _)⟩
theorem RI.rest {w : World} {B rb : Nat} {rest f : List UInt8} {num last : Int} {U : List Ru} (h : RI w B rb rest num last f U) : restSize rb w = rest.length := by
  obtain ⟨hB, A, n, c, bL, hk, hg, hru⟩ := h
  rw [restSize, (RB.cells hk).1]
  simp [bs_size]
set_option maxRecDepth 100000 in
set_option maxHeartbeats 4000000 in
theorem lines_any (B rb : Nat) (text : List UInt8) (w0 w : World) (E : EnvC w0) (hB0 : B = w0.heap.size) (hBl : Below B w0 w) (hB : B ≤ w.heap.size) (hR : RI w B rb text 0 (-1) [] []) (hl : text.length ≤ 4096) {X : Option (List UInt8 × List Rs) × Nat} (H : Hid (linesP (text.length + 1) text 0 (-1) [] [] = X)) :
    Calls Tryz.prog 32 #[.pointer (some ⟨rb, 0, none⟩)] w fun e w' => e = .returned (.bool X.1.isSome) ∧ LinesR B rb w' X ∧ Below B w0 w' := by
  have hnot := enot
  have c0 : (ByteArray.mk #[]) = bs [] := rfl
  have HE := hid E
  have HJ0 : Hid (LJ B rb w0 X w) := hid ⟨text.length + 1, text, 0, -1, [], [], hR, hBl, by omega, H.out, by omega, by simp, by simp, by omega⟩
  clear E H hR hBl
  go_enter Tryz.func32, Tryz.ntmps32
  go_wp2_with fail
  refine wp_scope_head 0 (fun a' w' => (∃ (u3 u4 u5 u6 u7 u8 u9 u10 u11 u12 u13 u14 u15 u16 u17 u18 u19 u20 u21 u22 u23 u24 : Value), a' = { tmps := #[.pointer (some ⟨rb, 0, none⟩), undef, .bool false, u3, u4, u5, u6, u7, u8, u9, u10, u11, u12, u13, u14, u15, u16, u17, u18, u19, u20, u21, u22, u23, u24], defers := [] }) ∧ Hid (LJ B rb w0 X w')) (fun _ w' => restSize rb w') ⟨⟨undef, undef, undef, undef, undef, undef, undef, undef, undef, undef, undef, undef, undef, undef, undef, undef, undef, undef, undef, undef, undef, undef, rfl⟩, HJ0⟩ ?_
  rintro a' w1 ⟨⟨u3, u4, u5, u6, u7, u8, u9, u10, u11, u12, u13, u14, u15, u16, u17, u18, u19, u20, u21, u22, u23, u24, rfl⟩, HJ⟩
  obtain ⟨k, rest, n, last, f, U, hri, hbl, hrk, hX, hnr, hUn, hps, hne⟩ := HJ.out
  obtain ⟨k, rfl⟩ : ∃ j, k = j + 1 := ⟨k - 1, by omega⟩
  have HRI := hid hri
  have HBL := hid hbl
  have HX := hid hX
  rw [linesP_step] at HX
  have hBw : B ≤ w1.heap.size := by rw [hB0]; exact hbl.size
  obtain ⟨zs, hzs⟩ : ∃ zs, stepP rest last f (U.map Ru.sem) = zs := ⟨_, rfl⟩
  rw [hzs] at HX
  obtain ⟨-, A5, n5, c5, bL5, hk5, -, -⟩ := id hri
  obtain ⟨q0, q1, q2, q3, q4⟩ := RB.cells hk5
  have f1 := Bk.frozen hk5 1
  have HR2 := hid (RI.setn hri ((n : Int) + 1))
  have HB2 := hid (hbl.setCell hri.1 (p := ⟨rb, 1, none⟩) (.int .i64 ((n : Int) + 1)))
  have HLN := hid (line_any B rb rest f ((n : Int) + 1) last U _ (HE.out.up (by rw [← hB0]; exact HB2.out)) (by rw [World.size_setCell]; exact hBw) HR2.out (by omega) (by omega) (fun u hu => by have := hps u hu; omega) (fun s hs h14 h0 h1 h13 => hne (folP_ne hs h14 h0 h1 h13)) (hid hzs))
  have HZS := hid hzs
  have HI := hid (And.intro hUn (And.intro hps hne))
  clear hri hbl hX hzs hk5 hUn hps hne HJ HJ0
  go_wp2_with fail
  refine HLN.out.mono ?_
  rintro e w2 ⟨rfl, hlr, hb2⟩
  have HLR := hid hlr
  have HB3 := hid (HB2.out.trans hb2)
  clear hlr hb2 q0 q1 q2 q3 q4 f1 HLN
  cases zs with
  | none =>
    have HX2 := hid (show X = (none, n + 1) from HX.out.symm)
    have hri2 : RI w2 B rb rest ((n : Int) + 1) last f U := HLR.out
    go_wp2_with fail
    (try simp only [Exit.jump])
    (try rw [Exit.noGoto_ret])
    go_ret
    rw [HX2.out]
    exact ⟨rfl, ⟨rest, last, f, U, by rw [show ((n + 1 : Nat) : Int) = (n : Int) + 1 by omega]; exact hri2⟩, HB3.out⟩
  | some v =>
    obtain ⟨r, ln, g⟩ := v
    obtain ⟨hrl, s, hs, hfs, hln, hg⟩ := stepP_less HZS.out
    obtain ⟨U', hri2, hU'⟩ := HLR.out
    have HRI2 := hid hri2
    have HX1 := hid (show (if ln ≠ 13 ∨ r ≠ [] then linesP k r (n + 1) ln g.1 g.2 else (some g, n + 1)) = X from HX.out)
    have h14 := (hearP_shape hs).1
    have hkl := keepP_len (f := f) (s := s) (U := U.map Ru.sem) (n := n) (by rw [List.length_map]; exact HI.out.1) (fun u hu => by
      obtain ⟨x, hx, rfl⟩ := List.mem_map.1 hu
      exact HI.out.2.1 x hx)
    rw [← hg, ← hU'] at hkl
    have hU5 : U'.length ≤ n + 1 := by simpa using hkl.1
    have hP5 : ∀ u ∈ U', u.ps.length ≤ n + 1 := fun u hu => hkl.2 u.sem (List.mem_map.2 ⟨u, hu, rfl⟩)
    have hNE : 1 ≤ (ln : Int) ∧ (ln : Int) ≠ 13 → U' ≠ [] := fun h he => by
      have h1 : (keepP f (U.map Ru.sem) s).2 ≠ [] := keepP_ne (by omega) (fun hn1 => by
        have := HI.out.2.2 (folP_ne hfs h14 (by omega) hn1 (by omega))
        simpa using this)
      rw [← hg, ← hU', he] at h1
      exact h1 rfl
    have HU5 := hid (And.intro hU5 (And.intro hP5 (And.intro hNE (And.intro hrl hU'))))
    obtain ⟨-, A6, n6, c6, bL6, hk6, -, -⟩ := id hri2
    obtain ⟨q0, q1, q2, q3, q4⟩ := RB.cells hk6
    clear hs hfs hln hkl hU5 hP5 hNE hU' hg hk6 hri2 h14
    have HJ2 := hid (fun (hc : ln ≠ 13 ∨ r ≠ []) => show LJ B rb w0 X w2 from ⟨k, r, n + 1, ln, g.1, U', by rw [show ((n + 1 : Nat) : Int) = (n : Int) + 1 by omega]; exact HRI2.out, HB3.out, by have := HU5.out.2.2.2.1; omega, by have := HX1.out; rw [if_pos hc] at this; rw [HU5.out.2.2.2.2]; exact this, by have := HU5.out.2.2.2.1; omega, HU5.out.1, HU5.out.2.1, HU5.out.2.2.1⟩)
    have HMU := hid (show restSize rb w2 < restSize rb w1 by rw [HRI2.out.rest, HRI.out.rest]; exact HU5.out.2.2.2.1)
    by_cases hc1 : ln = 13
    · subst hc1
      by_cases hc2 : r = []
      · have HX2 := hid (show X = (some g, n + 1) by have := HX1.out; rw [if_neg (by simp [hc2])] at this; exact this.symm)
        subst hc2
        go_wp2_with fail
        (try simp only [Exit.jump])
        (try rw [Exit.noGoto_ret])
        go_ret
        rw [HX2.out]
        exact ⟨rfl, ⟨[], _, _, U', HRI2.out, HU5.out.2.2.2.2⟩, HB3.out⟩
      · have HJ3 := hid (HJ2.out (Or.inr hc2))
        have hrd : r.isEmpty = false := by cases r with
          | nil => exact absurd rfl hc2
          | cons => rfl
        have hrq : (r == []) = false := by cases r with
          | nil => exact absurd rfl hc2
          | cons => rfl
        clear hc2
        go_wp2_with fail
        go_step3
        exact ⟨rfl, ⟨⟨_, _, _, _, _, _, _, _, _, _, _, _, _, _, _, _, _, _, _, _, _, _, rfl⟩, HJ3⟩, HMU.out⟩
    · have HJ3 := hid (HJ2.out (Or.inl hc1))
      have hd : decide ((ln : Int) = 13) = false := decide_eq_false (by omega)
      have hd2 : ((ln : Int) != 13) = true := by simp; omega
      have hd3 : ¬ (ln : Int) = 13 := by omega
      clear hc1
      go_wp2_with fail
      go_step3
      exact ⟨rfl, ⟨⟨_, _, _, _, _, _, _, _, _, _, _, _, _, _, _, _, _, _, _, _, _, _, rfl⟩, HJ3⟩, HMU.out⟩
end Go.Proofs.YtelglcakekgdeaaGreatDoor
namespace Go.Proofs.YtelglcakekgdeaaGreatDoor
set_option linter.unusedVariables false
set_option linter.unusedSimpArgs false
open Go.RowKit Go.Joins

def smR (M : Nat) (r : Rs) : Prop := (∀ p ∈ r.ps, p.n.length ≤ M ∧ p.v.length ≤ M) ∧ r.tg.length ≤ M ∧ r.mi.length ≤ M
theorem wd_len {s : Sd} {M : Nat} (h : ∀ x ∈ s.words, x.length ≤ M) (i : Nat) : (wd s i).length ≤ M := by
  unfold wd
  cases he : s.words[i]? with
  | none => simp
  | some x => exact h x (List.mem_of_getElem? he)
theorem keepP_small {f : List UInt8} {U : List Rs} {s : Sd} {M : Nat} (hw : ∀ x ∈ s.words, x.length ≤ M) (hf : f.length ≤ M) (hU : ∀ r ∈ U, smR M r) : (keepP f U s).1.length ≤ M ∧ ∀ r ∈ (keepP f U s).2, smR M r := by
  have w0 := wd_len hw 0
  have w1 := wd_len hw 1
  unfold keepP
  split
  · exact ⟨w0, hU⟩
  split
  · refine ⟨hf, fun r hr => ?_⟩
    rcases List.mem_append.1 hr with hr | hr
    · exact hU r hr
    · have : r = rule0 (nm s 0) := by simpa using hr
      subst this
      exact ⟨by simp [rule0], by simp [rule0], by simp [rule0]⟩
  split
  · exact ⟨hf, hU⟩
  · refine ⟨hf, fun r hr => ?_⟩
    unfold keepU at hr
    cases hl : U.getLast? with
    | none => rw [hl] at hr; exact hU r hr
    | some q =>
      rw [hl] at hr
      have hq := hU q (List.mem_of_getLast? hl)
      rcases List.mem_append.1 hr with hr | hr
      · exact hU r (List.dropLast_subset _ hr)
      · have e : r = withP q s := by simpa using hr
        subst e
        obtain ⟨a1, a2, a3⟩ := hq
        unfold withP
        split
        · exact ⟨a1, w0, a3⟩
        split
        · exact ⟨a1, a2, a3⟩
        split
        · exact ⟨a1, a2, a3⟩
        split
        · exact ⟨a1, a2, w0⟩
        split
        · exact ⟨a1, a2, a3⟩
        · refine ⟨fun p hp => ?_, a2, a3⟩
          rcases List.mem_append.1 hp with hp | hp
          · exact a1 p hp
          · have e2 : p = predP s := by simpa using hp
            subst e2
            unfold predP
            split
            · exact ⟨w0, w1⟩
            split
            · exact ⟨w0, by simp⟩
            · exact ⟨by simp, w0⟩
theorem linesP_small : ∀ (k : Nat) (rest : List UInt8) (n : Nat) (last : Int) (f : List UInt8) (U : List Rs) (M : Nat) (g : List UInt8 × List Rs) (n' : Nat), linesP k rest n last f U = (some g, n') → rest.length ≤ M → f.length ≤ M → (∀ r ∈ U, smR M r) → g.1.length ≤ M ∧ ∀ r ∈ g.2, smR M r
  | 0, rest, n, last, f, U, M, g, n', h, _, _, _ => by rw [linesP] at h; cases h
  | k + 1, rest, n, last, f, U, M, g, n', h, hr, hf, hU => by
    rw [linesP_step] at h
    cases hs : stepP rest last f U with
    | none => rw [hs] at h; cases h
    | some v =>
      obtain ⟨r, ln, g2⟩ := v
      rw [hs] at h
      obtain ⟨h1, s, h2, h3, h4, h5⟩ := stepP_less hs
      have hw : ∀ x ∈ s.words, x.length ≤ M := fun x hx => by
        have a := (hearP_shape h2).2.2.2 x hx
        have b := (cutC_len [10] rest).1
        omega
      have hk := keepP_small hw hf hU
      rw [← h5] at hk
      simp only at h
      split at h
      · exact linesP_small k r (n + 1) ln g2.1 g2.2 M g n' h (by omega) hk.1 hk.2
      · injection h with h _
        injection h with h
        rw [← h]
        exact hk
theorem rv_of {w : World} {B : Nat} {A : Option Addr} {n c : Nat} {U : List Ru} (hg : GB encR 10 72 w B (.slice A n c) U) (hp : ∀ u ∈ U, GB encP 3 83 w B (.slice u.xa u.xn u.xc) u.ps) : RV w (.slice A n c) U := by
  obtain ⟨A', c', e, h1, h2, h3, h4⟩ := GB.reads encR_len hg
  refine ⟨A', c', e, h1.imp fun b hb => hb.2, fun u hu => ?_, h2, h3, by unfold maxLen at h4; omega⟩
  obtain ⟨A2, c2, e2, k1, k2, k3, k4⟩ := GB.reads encP_len (hp u hu)
  exact ⟨A2, c2, e2, (k1.imp fun b hb => hb.2).px, k2, k3, by unfold maxLen at k4; omega⟩
theorem ok_of {w : World} {B : Nat} {U : List Ru} {M : Nat} (hM : M ≤ 100000) (hp : ∀ u ∈ U, GB encP 3 83 w B (.slice u.xa u.xn u.xc) u.ps) (hs : ∀ r ∈ U.map Ru.sem, smR M r) : ∀ u ∈ U, okRs u.sem := fun u hu => by
  obtain ⟨A2, c2, e2, k1, k2, k3, k4⟩ := GB.reads encP_len (hp u hu)
  obtain ⟨a1, a2, a3⟩ := hs u.sem (List.mem_map.2 ⟨u, hu, rfl⟩)
  refine ⟨fun p hp => ?_, by omega, by omega, ?_⟩
  · have := a1 p hp; omega
  · have : u.ps.length ≤ 9223372036854775807 := by unfold maxLen at k4; omega
    exact this
def outC : Option Cf × Nat → Cf × Nat × Int
  | (none, n) => (([], []), n, 3)
  | (some g, _) => if chkC cfR g.1 g.2 ≠ 0 then (([], []), 0, chkC cfR g.1 g.2) else (g, 0, 0)
theorem readC_out {text : List UInt8} (h : ¬ 4096 < text.length) : readC text = outC (linesP (text.length + 1) text 0 (-1) [] []) := by
  rw [readC, if_neg h]
  generalize linesP (text.length + 1) text 0 (-1) [] [] = L
  obtain ⟨Lo, n⟩ := L
  cases Lo <;> rfl
/-- What Read returns. -/
def ReadR (w' : World) (X : Cf × Nat × Int) (e : Ending) : Prop := ∃ y V, e = .returned (.tuple #[.agg #[y, .string (bs X.1.1)], .int .i64 X.2.1, .int .i64 X.2.2]) ∧ RV w' y V ∧ V.map Ru.sem = X.1.2 ∧ ∀ u ∈ V, okRs u.sem
theorem rv_no (w : World) : RV w (.slice none 0 0) [] := ⟨none, 0, rfl, GX.nil _ _ _, fun u hu => (by cases hu), fun _ => rfl, Nat.le_refl _, by simp⟩
theorem ReadR.no (w' : World) (n : Nat) (z : Int) : ReadR w' (([], []), n, z) (.returned (.tuple #[.agg #[.slice none 0 0, .string (bs [])], .int .i64 n, .int .i64 z])) := ⟨_, [], rfl, rv_no w', rfl, fun u hu => (by cases hu)⟩
theorem BF.set2 {w : World} {g : Nat} {y : Value} {f : List UInt8} (k : BF w g y f) (y' : Value) (f' : List UInt8) : BF ((w.setCell ⟨g, 0, none⟩ y').setCell ⟨g, 1, none⟩ (.string (bs f'))) g y' f' := by
  have := (Bk.set_ k 0 y').set_ 1 (.string (bs f'))
  exact this
theorem GB.setF {α : Type} {enc : α → List Value} {k : Nat} {e : TypeId} {w : World} {b g : Nat} {v : Value} {L : List α} {y : Value} {f : List UInt8} (h : GB enc k e w b v L) (hB : BF w g y f) (hte : 41 ≠ e) (y' : Value) (f' : List UInt8) : GB enc k e ((w.setCell ⟨g, 0, none⟩ y').setCell ⟨g, 1, none⟩ (.string (bs f'))) b v L :=
  (GB.set h (show Bk w g 41 _ from hB) hte 0 y').set (Bk.set_ hB 0 y') hte 1 _
set_option maxRecDepth 100000 in
set_option maxHeartbeats 8000000 in
theorem read_any (text : List UInt8) (w : World) (E : EnvC w) (hl : text.length ≤ 140737488351232) {X : Cf × Nat × Int} (H : Hid (readC text = X)) :
    Calls Tryz.prog 23 #[.string (bs text)] w fun e w' => ReadR w' X e ∧ Below w.heap.size w w' := by
  have hnot := enot
  have c0 : (ByteArray.mk #[]) = bs [] := rfl
  have hb0 := enew w (.cells #[.slice none 0 0, .string (bs [])] 41)
  have hk0 := BF.new w (.slice none 0 0) []
  have HB0 := hid hb0
  have HK0 := hid hk0
  have HE0 := hid (E.up hb0)
  have hsz0 : w.heap.size < (w.alloc (.cells #[.slice none 0 0, .string (bs [])] 41)).heap.size := by simp
  have HSZ0 := hid hsz0
  clear hb0 hk0 E hsz0
  go_enter Tryz.func23, Tryz.ntmps23
  go_upto_region 1 with (fail)
  generalize hv0 : w.alloc (.cells #[.slice none 0 0, .string (bs [])] 41) = v0 at *
  have hg0 : v0.heap.size = w.heap.size + 1 := by rw [← hv0]; simp
  clear hv0
  by_cases hlen : 4096 < text.length
  · have HX := hid (show X = (([], []), 0, 6) by rw [← H.out, readC, if_pos hlen])
    have hd : decide ((4096 : Int) < (text.length : Int)) = true := decide_eq_true (by omega)
    obtain ⟨q0, q1⟩ := HK0.out.cells
    have f0 := Bk.frozen HK0.out 0
    have f1 := Bk.frozen HK0.out 1
    have HA := hid (HK0.out.set2 (.slice none 0 0) []).cells
    have HB1 := hid ((HB0.out.setCell (p := ⟨w.heap.size, 0, none⟩) (Nat.le_refl _) (.slice none 0 0)).setCell (p := ⟨w.heap.size, 1, none⟩) (Nat.le_refl _) (.string (bs [])))
    clear hlen
    go_wp2_with fail
    (try simp only [Exit.inBlock, Exit.then])
    refine bodyPost_ret (v := .tuple #[.agg #[.slice none 0 0, .string (bs [])], .int .i64 0, .int .i64 6]) (by simp [results, Tryz.results23, go_sem, HA.out.1, HA.out.2]; try rfl) rfl ?_
    rw [HX.out]
    exact ⟨ReadR.no _ 0 6, HB1.out⟩
  have hd : decide ((4096 : Int) < (text.length : Int)) = false := decide_eq_false (by omega)
  obtain ⟨L, hL⟩ : ∃ L, linesP (text.length + 1) text 0 (-1) [] [] = L := ⟨_, rfl⟩
  have HX := hid (show X = outC L by rw [← H.out, readC_out hlen, hL])
  have hb1 := enew v0 (.cells #[.string (bs text), .int .i64 0, .int .i64 (-1), .slice none 0 0, .string (bs [])] 75)
  have hr1 : RB (v0.alloc (.cells #[.string (bs text), .int .i64 0, .int .i64 (-1), .slice none 0 0, .string (bs [])] 75)) v0.heap.size text 0 (-1) (.slice none 0 0) [] := Bk.new _ _ _
  have hri : RI (v0.alloc (.cells #[.string (bs text), .int .i64 0, .int .i64 (-1), .slice none 0 0, .string (bs [])] 75)) v0.heap.size v0.heap.size text 0 (-1) [] [] := ⟨Nat.le_refl _, none, 0, 0, v0.heap.size, hr1, GB.nil _ _, Nat.le_refl _, hb1.size, fun u hu => (by cases hu), fun u hu => (by cases hu)⟩
  have HLN := hid (lines_any v0.heap.size v0.heap.size text v0 _ HE0.out rfl hb1 hb1.size hri (by omega) (hid hL))
  have HSM := hid (fun (g : List UInt8 × List Rs) (n : Nat) (h : L = (some g, n)) => linesP_small _ _ _ _ _ _ 4096 g n (hL.trans h) (by omega) (by simp) (by simp))
  rw [hg0] at HLN
  clear hb1 hr1 hri hL H
  go_wp2_with fail
  refine HLN.out.mono ?_
  rintro e w2 ⟨rfl, hlr, hb2⟩
  have HLR := hid hlr
  have HB2 := hid (HB0.out.trans (hb2.mono (by omega)))
  have HK2 := hid (Bk.below HK0.out hb2 (by omega))
  clear hlr hb2 HLN
  obtain ⟨Lo, n⟩ := L
  cases Lo with
  | none =>
    have HX2 := hid (show X = (([], []), n, 3) from HX.out)
    obtain ⟨rest, last, f, U, -, A5, n5, c5, bL5, hk5, -, -⟩ := HLR.out
    obtain ⟨r0, r1, r2, r3, r4⟩ := RB.cells hk5
    obtain ⟨q0, q1⟩ := BF.cells HK2.out
    have f0 := Bk.frozen HK2.out 0
    have f1 := Bk.frozen HK2.out 1
    have HA := hid (BF.cells (BF.set2 HK2.out (.slice none 0 0) []))
    have HB3 := hid ((HB2.out.setCell (p := ⟨w.heap.size, 0, none⟩) (Nat.le_refl _) (.slice none 0 0)).setCell (p := ⟨w.heap.size, 1, none⟩) (Nat.le_refl _) (.string (bs [])))
    clear hk5
    go_upto_region 5 with (fail)
    go_region
    all_goals
      go_wp2_with fail
      (try simp only [Exit.inBlock, Exit.then])
      refine bodyPost_ret (v := .tuple #[.agg #[.slice none 0 0, .string (bs [])], .int .i64 n, .int .i64 3]) (by simp [results, Tryz.results23, go_sem, HA.out.1, HA.out.2]; try rfl) rfl ?_
      rw [HX2.out]
      exact ⟨ReadR.no _ n 3, by first | exact HB3.out.drew | exact HB3.out⟩
  | some g =>
    obtain ⟨gf, gU⟩ := g
    obtain ⟨rest, num, last, U, hri, hU⟩ := HLR.out
    obtain ⟨hsm1, hsm2⟩ := HSM.out (gf, gU) n rfl
    simp only at hri hU hsm1 hsm2
    obtain ⟨hBB, A, nn, c, bL, hk5, hg5, hru⟩ := hri
    have hall := hru.all
    have hok := ok_of (M := 4096) (by omega) hall (by rw [hU]; exact hsm2)
    have hrv := rv_of hg5 hall
    obtain ⟨zc, hzc⟩ : ∃ z, chkC cfR gf gU = z := ⟨_, rfl⟩
    have HX1 := hid (show X = if zc ≠ 0 then (([], []), 0, zc) else ((gf, gU), 0, 0) by rw [HX.out, ← hzc, outC])
    have HCK := hid (ccheck_any (z := zc) (.slice A nn c) gf U w2 hrv hok (by omega) (hid (by rw [hU]; exact hzc)))
    obtain ⟨r0, r1, r2, r3, r4⟩ := RB.cells hk5
    have HALL := hid (And.intro hg5 (And.intro hall (And.intro hok hU)))
    have HK5 := hid hk5
    clear hk5 hg5 hru hall hok hrv hU hzc hsm2
    go_wp2_with fail
    refine HCK.out.mono ?_
    rintro e w3 ⟨rfl, hb3⟩
    have HK3 := hid (BF.up HK2.out hb3)
    have HB3 := hid (estep HB2.out hb3)
    have HR3 := hid (RB.up HK5.out hb3)
    have HA3 := hid (And.intro (HALL.out.1.below hb3) (fun u hu => (HALL.out.2.1 u hu).below hb3))
    clear hb3 r0 r1 r2 r3 r4 HCK
    obtain ⟨r0, r1, r2, r3, r4⟩ := RB.cells HR3.out
    obtain ⟨q0, q1⟩ := BF.cells HK3.out
    have f0 := Bk.frozen HK3.out 0
    have f1 := Bk.frozen HK3.out 1
    by_cases hz : zc = 0
    · subst hz
      have HX2 := hid (show X = ((gf, gU), 0, 0) by rw [HX1.out, if_neg (by simp)])
      have HA := hid (BF.cells (BF.set2 HK3.out (.slice A nn c) gf))
      have HB4 := hid ((HB3.out.setCell (p := ⟨w.heap.size, 0, none⟩) (Nat.le_refl _) (.slice A nn c)).setCell (p := ⟨w.heap.size, 1, none⟩) (Nat.le_refl _) (.string (bs gf)))
      have HV := hid (rv_of (HA3.out.1.setF HK3.out (by decide) (.slice A nn c) gf) (fun u hu => (HA3.out.2 u hu).setF HK3.out (by decide) (.slice A nn c) gf))
      go_wp2_with fail
      (try simp only [Exit.inBlock, Exit.then])
      refine bodyPost_ret (v := .tuple #[.agg #[.slice A nn c, .string (bs gf)], .int .i64 0, .int .i64 0]) (by simp [results, Tryz.results23, go_sem, HA.out.1, HA.out.2]; try rfl) rfl ?_
      rw [HX2.out]
      exact ⟨⟨_, U, rfl, HV.out, HALL.out.2.2.2, HALL.out.2.2.1⟩, HB4.out⟩
    · have HX2 := hid (show X = (([], []), 0, zc) by rw [HX1.out, if_pos hz])
      have hd1 : decide (zc = 0) = false := decide_eq_false hz
      have hd2 : (zc != 0) = true := by simpa using hz
      have hd3 : (!decide (zc = 0)) = true := by rw [hd1]; rfl
      have HA := hid (BF.cells (BF.set2 HK3.out (.slice none 0 0) []))
      have HB4 := hid ((HB3.out.setCell (p := ⟨w.heap.size, 0, none⟩) (Nat.le_refl _) (.slice none 0 0)).setCell (p := ⟨w.heap.size, 1, none⟩) (Nat.le_refl _) (.string (bs [])))
      go_wp2_with fail
      (try simp only [Exit.inBlock, Exit.then])
      refine bodyPost_ret (v := .tuple #[.agg #[.slice none 0 0, .string (bs [])], .int .i64 0, .int .i64 zc]) (by simp [results, Tryz.results23, go_sem, HA.out.1, HA.out.2]; try rfl) rfl ?_
      rw [HX2.out]
      exact ⟨ReadR.no _ 0 zc, HB4.out⟩
end Go.Proofs.YtelglcakekgdeaaGreatDoor
