/- wheel: Set that is taken; Step. -/
import Derived.Test.YtldilhbomilcpaaJq
import Derived.Deep.AppendLies
namespace Go.Proofs.Ytldilhbomilcpaa
set_option linter.unusedVariables false
set_option linter.unusedSimpArgs false
open Go.RowKit Go.Joins

/-- append at a step of a region that draws, where it is told where the new row lies. -/
theorem step_append_gxl {α : Type} {enc : α → List Value} {k : Nat} {e : TypeId} {P : Program} {t : TypeId} {z : Value} {bytes : Nat} (T : RowT P enc k t e z bytes) {ops : Array Oper} {o : Oper} {a : Act} {K : Act → World → Prop} {Q : Exit → Act → World → Prop} {E : Prop} {w : World} (hgd : o.guard = none) (s x : Operand)
    (ho : o.op = .call { callee := .builtin .append, args := #[s, x], argTypes := #[t, t] }) (base : Nat) (v : Value) (L M : List α) (b cap : Nat) (N : Nat → Prop)
    (hs : a.eval s = v) (hown : GB enc k e w base v L) (hx : a.eval x = .slice (some ⟨b, 0, none⟩) M.length cap) (hR : GX enc k w N (some ⟨b, 0, none⟩) M) (hm : 0 < M.length)
    (hl : L.length + M.length ≤ 10000000) (hbase : base ≤ w.heap.size) (h : ∀ g c w' m, Hid (m = L.length + M.length) → GB enc k e w' base (.slice (some ⟨g, 0, none⟩) m c) (L ++ M) → w.grownBy w' v.ownBlock → (v.ownBlock = some g ∨ g = w.heap.size) → K (a.put o.dst (.slice (some ⟨g, 0, none⟩) m c)) w') :
    if Region.wanted o (yielded ops a.tmps) = true then Oper.wp P o a w K Q else E := by
  obtain ⟨i0, hi, hz0, hz1, hz2⟩ := info_parts T.inf
  have hby : (L.length + M.length) * bytes ≤ 140737488355328 := Nat.le_trans (Nat.mul_le_mul hl T.hb) (by omega)
  refine step_append_lies w hgd s x t ho base e i0 z k bytes T.ht hi hz0 hz1 hz2 T.hzs T.k0 v L.length (gvals enc L) hs hown ⟨b, 0, none⟩ M.length cap (gvals enc M) hx (gvals_len enc k T.hk M) (GX.cell T.hk hR) (fun u hu => ?_) hm (by unfold maxLen; omega) hby hbase _ rfl fun g c w' h1 h2 h3 _ => ?_
  · simp only [gvals, List.mem_flatMap] at hu
    obtain ⟨y, _, hu⟩ := hu
    exact T.h1 y u hu
  · refine h g c w' _ (hid rfl) ?_ h2 h3
    unfold GB
    rw [List.length_append, ← gvals_append]
    exact h1
theorem WlF.grown {S : Nat → Prop} {B g at_ : Nat} {wA w7 : World} {x : Whl} {f : Nat → Value} (h : WlF S B wA g x f) (hat : at_ < 50) (hg : wA.grownBy w7 (f at_).ownBlock) : WlB w7 g f x.now x.all.length :=
  (hg.block g (h.sub g h.sg).1 (fun e => (h.own at_ g hat e.symm).2 rfl)).trans h.blk
theorem wlslot_at (g : Nat) (t : Int) (w : World) (h : 0 ≤ t) (h2 : t ≤ 9000000000000000000) {k : Nat} (H : Hid (wix t = k)) :
    Calls Try.prog 33 #[.pointer (some ⟨g, 0, none⟩), .int .i64 t] w fun e w' => e = .returned (.int .i64 (k : Int)) ∧ w = w' := by
  rw [← H.out]
  exact wlslot_any g t w h h2
/-- What Set answers, and the wheel behind it. -/
def WsR (S : Nat → Prop) (B : Nat) (w : World) (g : Nat) (x : Whl) (z : Int) (e : Ending) (w' : World) : Prop := e = .returned (.int .i64 z) ∧ WlH (Grw S w w') B w' g x ∧ OnS S w w'
theorem ws_fin {S : Nat → Prop} {B g : Nat} {w w7 W2 : World} {x : Whl} {f : Nat → Value} (h : WlF (Grw S w w7) B W2 g x f ∧ OnS S w W2) (hs : W2.heap.size = w7.heap.size) : WsR S B w g x 0 (.returned (.int .i64 0)) W2 := by
  have e : Grw S w w7 = Grw S w W2 := by
    funext b
    unfold Grw
    rw [hs]
  rw [e] at h
  exact ⟨rfl, ⟨f, h.1⟩, h.2⟩
set_option maxRecDepth 100000 in
set_option maxHeartbeats 4000000 in
theorem wlset_ok (S : Nat → Prop) (B g : Nat) (x : Whl) (id t : Int) (w : World) (h : WlH S B w g x) (h1 : 1 ≤ t ∧ t ≤ 50) (h2 : x.all.length < 32) (hnow : x.now ≤ 1000000) :
    Calls Try.prog 24 #[.pointer (some ⟨g, 0, none⟩), .int .i64 id, .int .i64 t] w fun e w' => WsR S B w g (whSet x id t).1 0 e w' := by
  obtain ⟨f, hf⟩ := h
  obtain ⟨ht1, ht2⟩ := h1
  have hpos := hf.pos
  have hs := hf.blk.csize
  have hn := hf.blk.cnow
  obtain ⟨at_, hat⟩ : ∃ a, wix (x.now + t) = a := ⟨_, rfl⟩
  have hat50 : at_ < 50 := by rw [← hat]; exact wix_lt _
  have hsl := hf.blk.slot hat50
  have hz1 := hf.blk.froz at_
  have HH := hid hf
  have HAT := hid hat
  have HLN := hid (slotL_len x at_)
  have HBz := hid (fun (w2 : World) (hb : Below w.heap.size w w2) => Nat.le_trans (Nat.le_trans (hf.sub g hf.sg).2 (Nat.le_of_lt (hf.sub g hf.sg).1)) hb.size)
  obtain ⟨now, hno⟩ : ∃ n, x.now = n := ⟨_, rfl⟩
  obtain ⟨k, hk⟩ : ∃ k, x.all.length = k := ⟨_, rfl⟩
  have HNO := hid hno
  have HK := hid hk
  rw [hno] at hn hpos hnow hat
  rw [hk] at hs h2
  have HSL := hid (wlslot_at g (now + t) w (by omega) (by omega) (hid hat))
  have d1 : decide (t < 1) = false := decide_eq_false (by omega)
  have d2 : decide (50 < t) = false := decide_eq_false (by omega)
  have d3 : decide ((32 : Int) ≤ (k : Int)) = false := decide_eq_false (by omega)
  have d4 : decide (32 ≤ k) = false := decide_eq_false (by omega)
  have hi0 : (0 : Int) ≤ (at_ : Int) := by omega
  have hi1 : (at_ : Int) < 50 := by omega
  obtain ⟨v, hv⟩ : ∃ v, f at_ = v := ⟨_, rfl⟩
  rw [hv] at hsl
  have HV := hid hv
  clear hf hat hno hk hv
  go_enter Try.func24, Try.ntmps24
  go_wp2_with fail
  refine HSL.out.mono ?_
  rintro e w1 ⟨rfl, rfl⟩
  have hz0 : Below w.heap.size w w.drew := (Below.refl _ _).drew
  have hzA1 : Below w.heap.size w (w.drew.alloc (.cells #[.int .i64 id] 3)) := hz0.alloc hz0.size _
  have hzA2 : Below w.heap.size w (w.alloc (.cells #[.int .i64 id] 3)).drew := (enew w _).drew
  have hgl : g < w.heap.size := lt_of_cell hsl
  have hslA : (w.alloc (.cells #[.int .i64 id] 3)).cell? ⟨g, at_, none⟩ = some v := ((enew w _).cell (p := ⟨g, at_, none⟩) hgl).trans hsl
  have hx1 := gx_new (M := [id]) encWi_len (Bk.new w.drew 3 #[.int .i64 id]) rfl
  have hx2 : GX encWi 1 (w.alloc (.cells #[.int .i64 id] 3)).drew (fun b => b = w.heap.size) (some ⟨w.heap.size, 0, none⟩) [id] := gx_new (M := [id]) encWi_len (Bk.drew (Bk.new w 3 #[.int .i64 id])) rfl
  go_wp2_with fail
  go_region_law (first
    | (refine step_append_gxl rowWi rfl _ _ rfl B v (slotL x at_) [id] w.heap.size 1 (fun b => b = w.heap.size) rfl (by rw [← HV.out]; exact GB.below (HH.out.row at_ hat50) hzA1) rfl hx1 (by simp) (by have := HLN.out; have := HK.out; simp only [List.length_cons, List.length_nil]; omega) (HBz.out _ hzA1) ?_
       intro b7 c7 w7 m7 hm7 hF hg hl
       have hzB := hzA1
       have hwb : WlB w7 g f x.now x.all.length := (HH.out.up hzA1).grown hat50 (by rw [HV.out]; exact hg)
       have p1 := hwb.slot hat50
       have p2 := hwb.froz at_)
    | (refine step_append_gxl rowWi rfl _ _ rfl B v (slotL x at_) [id] w.heap.size 1 (fun b => b = w.heap.size) rfl (by rw [← HV.out]; exact GB.below (HH.out.row at_ hat50) hzA2) rfl hx2 (by simp) (by have := HLN.out; have := HK.out; simp only [List.length_cons, List.length_nil]; omega) (HBz.out _ hzA2) ?_
       intro b7 c7 w7 m7 hm7 hF hg hl
       have hzB := hzA2
       have hwb : WlB w7 g f x.now x.all.length := (HH.out.up hzA2).grown hat50 (by rw [HV.out]; exact hg)
       have p1 := hwb.slot hat50
       have p2 := hwb.froz at_))
  all_goals
    have hfin := HH.out.set (id := id) ⟨ht1, ht2⟩ (by rw [HK.out]; exact h2) HAT.out hzB hF (by rw [HV.out]; exact hg) (by rw [HV.out]; exact hl)
    rw [HK.out] at hfin
    have HF := hid hfin
    have hw8 : WlB (w7.setCell ⟨g, at_, none⟩ (.slice (some ⟨b7, 0, none⟩) m7 c7)) g (updW f at_ (.slice (some ⟨b7, 0, none⟩) m7 c7)) x.now x.all.length := hwb.setslot hat50 _
    have r1 := hw8.csize
    rw [HK.out] at r1
    have r2 := hw8.froz 51
    have hsz8 : (w7.setCell ⟨g, at_, none⟩ (.slice (some ⟨b7, 0, none⟩) m7 c7)).heap.size = w7.heap.size := World.size_setCell _ _ _
    have HW7 := hid hsz8
    clear hfin hw8 hwb p1 p2 hF hg hl hm7 hsz8 hs hn hsl hz1 hslA hx1 hx2 hzA1 hzA2 hzB hz0
    go_wp2_with fail
    go_returns
    exact ws_fin HF.out (by rw [World.size_setCell, World.size_setCell])
/-- What Step answers, and the wheel behind it. -/
def WtR (S : Nat → Prop) (B : Nat) (w : World) (g : Nat) (x : Whl) (e : Ending) (w' : World) : Prop := ∃ A c, e = .returned (.slice A (whDue x).length c) ∧ GX encWi 1 w' (fun b => S b ∧ b ≠ g) A (whDue x) ∧ WlH S B w' g (whStep x) ∧ OnS (fun b => b = g) w w'
set_option maxRecDepth 100000 in
set_option maxHeartbeats 4000000 in
theorem wlstep_any (S : Nat → Prop) (B g : Nat) (x : Whl) (w : World) (h : WlH S B w g x) (hnow : x.now ≤ 1000000) :
    Calls Try.prog 22 #[.pointer (some ⟨g, 0, none⟩)] w fun e w' => WtR S B w g x e w' := by
  obtain ⟨f, hf⟩ := h
  have hpos := hf.pos
  obtain ⟨at_, hat⟩ : ∃ a, wix (x.now + 1) = a := ⟨_, rfl⟩
  have hat50 : at_ < 50 := by rw [← hat]; exact wix_lt _
  have hdue : whDue x = slotL x at_ := by rw [whDue_slot hf.ok, hat]
  obtain ⟨A, c, hfa, hgx, -, -, hcm⟩ := GB.reads encWi_len (hf.row at_ hat50)
  rw [← hdue] at hfa hgx
  have hne : ∀ b o, A = some ⟨b, o, none⟩ → S b ∧ b ≠ g := fun b o hA => by
    rcases GB.form encWi_len (hf.row at_ hat50) with ⟨e, -⟩ | ⟨g', c', e, -⟩
    · rw [hfa, hA] at e; cases e
    · have e2 := e
      rw [hfa, hA] at e2
      injection e2 with e2
      injection e2 with e2
      injection e2 with e2
      rw [e2]
      exact hf.own at_ g' hat50 (by rw [e]; rfl)
  obtain ⟨m, hm⟩ : ∃ m, (whDue x).length = m := ⟨_, rfl⟩
  have hlen := whStep_len (x := x)
  obtain ⟨k, hk⟩ : ∃ k, (whStep x).all.length = k := ⟨_, rfl⟩
  obtain ⟨now, hno⟩ : ∃ n, x.now = n := ⟨_, rfl⟩
  have hfew := hf.ok.few
  have HH := hid (hf.step (Below.refl _ _) hat hk)
  have HG := hid (And.intro hgx (And.intro hne hm))
  have hfn : f at_ = .slice A m c := by rw [hfa, hm]
  have w0 := hf.blk
  have hb0 : WlB w g f now (k + m) := by rw [← hno, ← hk, ← hm, hlen]; exact w0
  have hb1 := hb0.setnow (now + 1)
  have hb2 := hb1.setslot hat50 (.slice none 0 0)
  have hs := hb0.csize
  have hn := hb0.cnow
  have z50 := hb0.froz 50
  have s1 := hb1.slot hat50
  rw [hfn] at s1
  have z1 := hb1.froz at_
  have n1 := hb1.cnow
  have s2 := hb2.csize
  have z2 := hb2.froz 51
  have HFN := hid hfn
  have HNO := hid hno
  rw [hno] at hpos hnow hat
  have HSL := hid (fun w2 => wlslot_at g (now + 1) w2 (by omega) (by omega) (hid hat))
  have hi0 : (0 : Int) ≤ (at_ : Int) := by omega
  have hi1 : (at_ : Int) < 50 := by omega
  have hk32 : k + m ≤ 32 := by omega
  have hsub : ((k + m : Nat) : Int) - (m : Int) = (k : Int) := by omega
  have hnp : (now + 1 : Int) = now + 1 := rfl
  clear hf hat hno hk hdue hfa hgx hcm hlen hm hne w0 hb0 hb1 hb2 hfn hfew
  go_enter Try.func22, Try.ntmps22
  go_wp2_with fail
  refine (HSL.out _).mono ?_
  rintro e w1 ⟨rfl, rfl⟩
  go_wp2_with fail
  go_returns
  obtain ⟨hgx, hne, hm⟩ := HG.out
  have hh := HH.out
  rw [HNO.out] at hh
  refine ⟨A, c, by rw [hm]; rfl, ?_, ⟨_, hh.1⟩, hh.2⟩
  intro i hi
  obtain ⟨b, o, e1, e2, e3⟩ := hgx i hi
  have hbg := (hne b o e1).2
  refine ⟨b, o, e1, hne b o e1, fun j hj => (World.cell?_of_block ?_).trans (e3 j hj)⟩
  exact ((Below.heap_setCell _ ⟨g, 51, none⟩ _ b hbg).trans (Below.heap_setCell _ ⟨g, at_, none⟩ _ b hbg)).trans (Below.heap_setCell w ⟨g, 50, none⟩ _ b hbg)
end Go.Proofs.Ytldilhbomilcpaa
