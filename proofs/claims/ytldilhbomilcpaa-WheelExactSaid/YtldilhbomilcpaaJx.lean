/- wheel: Set in all cases; what must come of fixed calls. -/
import Derived.Test.YtldilhbomilcpaaJw
namespace Go.Proofs.Ytldilhbomilcpaa
set_option linter.unusedVariables false
set_option linter.unusedSimpArgs false
open Go.RowKit Go.Joins

theorem WlF.mono {S T : Nat → Prop} {B g : Nat} {w : World} {x : Whl} {f : Nat → Value} (h : WlF S B w g x f) (hs : ∀ b, S b → T b) (ht : ∀ b, T b → b < w.heap.size ∧ B ≤ b) : WlF T B w g x f :=
  ⟨hs g h.sg, ht, h.ok, h.pos, h.blk, h.row, fun i b hi hb => ⟨hs b (h.own i b hi hb).1, (h.own i b hi hb).2⟩, h.apart⟩
theorem WlH.grw {S : Nat → Prop} {B g : Nat} {w w' : World} {x : Whl} (h : WlH S B w g x) (hb : Below w.heap.size w w') : WlH (Grw S w w') B w' g x := by
  obtain ⟨f, hf⟩ := h
  refine ⟨f, (hf.up hb).mono (fun b hb => Or.inl hb) fun b hT => ?_⟩
  rcases hT with hT | hT
  · exact ⟨Nat.lt_of_lt_of_le (hf.sub b hT).1 hb.size, (hf.sub b hT).2⟩
  · have := hf.sub g hf.sg
    omega
/-- Set, in all cases. -/
theorem wlset_any (S : Nat → Prop) (B g : Nat) (x : Whl) (id t : Int) (w : World) (h : WlH S B w g x) (hnow : x.now ≤ 1000000) {z : Int} (H : Hid ((whSet x id t).2 = z)) :
    Calls Try.prog 24 #[.pointer (some ⟨g, 0, none⟩), .int .i64 id, .int .i64 t] w fun e w' => WsR S B w g (whSet x id t).1 z e w' := by
  by_cases hr : t < 1 ∨ 50 < t
  · have hset : whSet x id t = (x, 12) := by unfold whSet; rw [if_pos hr]
    rw [hset] at H ⊢
    obtain rfl := H.out
    refine (wlset_range g id t w hr).mono ?_
    rintro e w' ⟨rfl, hb⟩
    exact ⟨rfl, h.grw hb, OnS.below hb⟩
  · by_cases hf : 32 ≤ x.all.length
    · have hset : whSet x id t = (x, 8) := by unfold whSet; rw [if_neg hr, if_pos hf]
      rw [hset] at H ⊢
      obtain rfl := H.out
      refine (wlset_full S B g x id t w h hr hf).mono ?_
      rintro e w' ⟨rfl, hb⟩
      exact ⟨rfl, h.grw hb, OnS.below hb⟩
    · have hset : (whSet x id t).2 = 0 := by unfold whSet; rw [if_neg hr, if_neg hf]
      rw [hset] at H
      obtain rfl := H.out
      exact wlset_ok S B g x id t w h (by omega) (by omega) hnow
theorem wlstep_lit (S : Nat → Prop) (B g : Nat) (x : Whl) (w : World) (h : WlH S B w g x) (hnow : x.now ≤ 1000000) {D : List Int} {m : Nat} (hD : whDue x = D) (hm : D.length = m) {x' : Whl} (hx : whStep x = x') :
    Calls Try.prog 22 #[.pointer (some ⟨g, 0, none⟩)] w fun e w' => ∃ A c, e = .returned (.slice A m c) ∧ GX encWi 1 w' (fun b => S b ∧ b ≠ g) A D ∧ WlH S B w' g x' ∧ OnS (fun b => b = g) w w' := by
  subst hD hm hx
  exact wlstep_any S B g x w h hnow
theorem wlset_lit (S : Nat → Prop) (B g : Nat) (x : Whl) (id t : Int) (w : World) (h : WlH S B w g x) (hnow : x.now ≤ 1000000) {z : Int} (hz : (whSet x id t).2 = z) {x' : Whl} (hx : (whSet x id t).1 = x') :
    Calls Try.prog 24 #[.pointer (some ⟨g, 0, none⟩), .int .i64 id, .int .i64 t] w fun e w' => e = .returned (.int .i64 z) ∧ WlH (Grw S w w') B w' g x' ∧ OnS S w w' := by
  subst hx
  exact wlset_any S B g x id t w h hnow (hid hz)
/-- What is so of a wheel all of whose blocks are from B on: behind its changes what was below B is as it was. -/
theorem WlH.low {S : Nat → Prop} {g : Nat} {w a b : World} {x : Whl} (h : WlH S w.heap.size a g x) (hb : Below w.heap.size w a) (ho : OnS S a b) : Below w.heap.size w b :=
  OnS.to_below hb ho (fun k _ hk => (h.sub k hk).2) hb.size
theorem WlH.low1 {S : Nat → Prop} {g : Nat} {w a b : World} {x : Whl} (h : WlH S w.heap.size a g x) (hb : Below w.heap.size w a) (ho : OnS (fun b => b = g) a b) : Below w.heap.size w b :=
  OnS.to_below hb ho (fun k _ hk => by obtain ⟨f, hf⟩ := h; rw [hk]; exact (hf.sub g hf.sg).2) hb.size
theorem WlH.wsub {S : Nat → Prop} {B g : Nat} {w : World} {x : Whl} (h : WlH S B w g x) : ∀ b, S b → b < w.heap.size := fun b hb => (h.sub b hb).1
theorem gx_seven (w : World) : GX encWi 1 (w.alloc (.cells #[.int .i64 7] 3)) (· < (w.alloc (.cells #[.int .i64 7] 3)).heap.size) (some ⟨w.heap.size, 0, none⟩) [7] :=
  (gx_new (M := [(7 : Int)]) encWi_len (Bk.new w 3 #[.int .i64 7]) rfl).imp fun b hb => by rw [hb, World.size_alloc]; omega
set_option maxRecDepth 100000 in
set_option maxHeartbeats 8000000 in
theorem known22_any (w : World) :
    Calls Try.prog 18 #[] w fun e w' => e = .returned (.bool true) ∧ Below w.heap.size w w' := by
  have hnot := enot
  go_enter Try.func18, Try.ntmps18
  go_wp2_with fail
  refine (wlnew_any w.heap.size w (Nat.le_refl _)).mono ?_
  rintro e w1 ⟨g, rfl, hg, hW, hb1⟩
  have HS1 := hid (wlset_lit _ _ g _ 7 2 w1 hW (by decide) (z := 0) rfl (x' := ⟨0, [(7, 2)]⟩) rfl)
  have H1 := hid (And.intro hW hb1)
  clear hg hW hb1
  go_wp2_with fail
  refine HS1.out.mono ?_
  rintro e w2 ⟨rfl, hW2, ho2⟩
  have H2 := hid (And.intro hW2 (WlH.low H1.out.1 H1.out.2 ho2))
  have HS2 := hid (wlset_lit _ _ g _ 8 51 w2 hW2 (by decide) (z := 12) rfl (x' := ⟨0, [(7, 2)]⟩) rfl)
  clear hW2 ho2 HS1 H1
  go_wp2_with fail
  refine HS2.out.mono ?_
  rintro e w3 ⟨rfl, hW3, ho3⟩
  have H3 := hid (And.intro hW3 (WlH.low H2.out.1 H2.out.2 ho3))
  have HT1 := hid (wlstep_lit _ _ g _ w3 hW3 (by decide) (D := []) (m := 0) rfl rfl (x' := ⟨1, [(7, 2)]⟩) rfl)
  clear hW3 ho3 HS2 H2
  go_wp2_with fail
  refine HT1.out.mono ?_
  rintro e w4 ⟨A4, c4, rfl, -, hW4, ho4⟩
  have H4 := hid (And.intro hW4 (WlH.low1 H3.out.1 H3.out.2 ho4))
  have HT2 := hid (wlstep_lit _ _ g _ w4 hW4 (by decide) (D := [7]) (m := 1) rfl rfl (x' := ⟨2, []⟩) rfl)
  clear hW4 ho4 HT1 H3
  go_wp2_with fail
  refine HT2.out.mono ?_
  rintro e w5 ⟨A5, c5, rfl, hg5, hW5, ho5⟩
  have H5 := hid (And.intro hW5 (WlH.low1 H4.out.1 H4.out.2 ho5))
  have HT3 := hid (wlstep_lit _ _ g _ w5 hW5 (by decide) (D := []) (m := 0) rfl rfl (x' := ⟨3, []⟩) rfl)
  have HG5 := hid hg5
  clear hW5 ho5 hg5 HT2 H4
  go_wp2_with fail
  refine HT3.out.mono ?_
  rintro e w6 ⟨A6, c6, rfl, -, hW6, ho6⟩
  have H6 := hid (And.intro hW6 (WlH.low1 H5.out.1 H5.out.2 ho6))
  have HG6 : Hid (GX encWi 1 w6 (· < w6.heap.size) A5 [7]) := hid ((HG5.out.same fun b hb => ho6.block b (H5.out.1.wsub b hb.1) hb.2).imp fun b hb => hW6.wsub b hb.1)
  clear hW6 ho6 HT3 H5 HG5
  have hnb := enew w6 (.cells #[.int .i64 7] 3)
  have HI := hid (ints_same A5 (some ⟨w6.heap.size, 0, none⟩) c5 1 [7] (n := 1) rfl _ (HG6.out.up hnb) (gx_seven w6) (by omega))
  have H7 := hid (And.intro (H6.out.1.up hnb) (estep H6.out.2 hnb))
  clear hnb HG6 H6
  go_wp2_with fail
  refine HI.out.mono ?_
  rintro e w7 ⟨rfl, hb7⟩
  have H8 := hid (And.intro (H7.out.1.up hb7) (estep H7.out.2 hb7))
  have HN := hid (wlnow_any _ _ g _ w7 H8.out.1 (k := 3) (hid rfl))
  clear hb7 H7 HI
  go_wp2_with fail
  refine HN.out.mono ?_
  rintro e w8 ⟨rfl, hb8⟩
  have H9 := hid (And.intro (H8.out.1.up hb8) (estep H8.out.2 hb8))
  have HL := hid (wllen_any _ _ g _ w8 H9.out.1 (k := 0) (hid rfl))
  clear hb8 H8 HN
  go_wp2_with fail
  refine HL.out.mono ?_
  rintro e w9 ⟨rfl, hb9⟩
  have HA := hid (estep H9.out.2 hb9)
  clear hb9 H9 HL
  go_wp2_with fail
  refine (wlset_nil 1 1 _).mono ?_
  rintro e wa ⟨rfl, hba⟩
  have HBc := hid (estep HA.out hba)
  clear hba
  go_wp2_with fail
  refine (wlstep_nil _).mono ?_
  rintro e wb ⟨rfl, hbb⟩
  have HC := hid (estep HBc.out hbb)
  clear hbb
  go_wp2_with fail
  refine (wllen_nil _).mono ?_
  rintro e wc ⟨rfl, hbc⟩
  have HD := hid (estep HC.out hbc)
  clear hbc
  go_wp2_with fail
  refine (wlnow_nil _).mono ?_
  rintro e wd ⟨rfl, hbd⟩
  have HE := hid (estep HD.out hbd)
  clear hbd
  go_wp2_with fail
  refine (wlall_nil _).mono ?_
  rintro e we ⟨rfl, hbe⟩
  have HF := hid (estep HE.out hbe)
  clear hbe
  go_wp2_with fail
  go_returns
  exact ⟨rfl, HF.out⟩
end Go.Proofs.Ytldilhbomilcpaa
