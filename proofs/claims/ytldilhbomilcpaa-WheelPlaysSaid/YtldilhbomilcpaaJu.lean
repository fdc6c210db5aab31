/- wheel: the definition's Set. -/
import Derived.Test.YtldilhbomilcpaaJt
namespace Go.Proofs.Ytldilhbomilcpaa
set_option linter.unusedVariables false
set_option linter.unusedSimpArgs false
open Go.RowKit Go.Joins

/-- A variable that holds the definition's wheel. -/
def BWh (w : World) (b : Nat) (now : Int) (y : Value) : Prop := Bk w b 43 #[.int .i64 now, y]
theorem BWh.cells {w : World} {b : Nat} {now : Int} {y : Value} (k : BWh w b now y) : w.cell? ⟨b, 0, none⟩ = some (.int .i64 now) ∧ w.cell? ⟨b, 1, none⟩ = some y := ⟨Bk.cell k 0, Bk.cell k 1⟩
theorem BWh.froz {w : World} {b : Nat} {now : Int} {y : Value} (k : BWh w b now y) : w.frozen? ⟨b, 0, none⟩ = false ∧ w.frozen? ⟨b, 1, none⟩ = false := ⟨Bk.frozen k 0, Bk.frozen k 1⟩
theorem BWh.up {w w' : World} {b : Nat} {now : Int} {y : Value} (k : BWh w b now y) (hb : Below w.heap.size w w') : BWh w' b now y := Bk.up k hb
theorem BWh.new (w : World) (now : Int) (y : Value) : BWh (w.alloc (.cells #[.int .i64 now, y] 43)) w.heap.size now y := Bk.new _ _ _
theorem BWh.set1 {w : World} {b : Nat} {now : Int} {y : Value} (k : BWh w b now y) (z : Value) : BWh (w.setCell ⟨b, 1, none⟩ z) b now z := Bk.set_ k 1 z
theorem BWh.set0 {w : World} {b : Nat} {now : Int} {y : Value} (k : BWh w b now y) (z : Int) : BWh (w.setCell ⟨b, 0, none⟩ (.int .i64 z)) b z y := Bk.set_ k 0 (.int .i64 z)
theorem BWh.set2 {w : World} {b : Nat} {now : Int} {y : Value} (k : BWh w b now y) (n2 : Int) (z : Value) : BWh ((w.setCell ⟨b, 0, none⟩ (.int .i64 n2)).setCell ⟨b, 1, none⟩ z) b n2 z := BWh.set1 (BWh.set0 k n2) z
theorem BWh.other {w : World} {b g i : Nat} {now : Int} {y : Value} (k : BWh w b now y) (hn : b ≠ g) (u : Value) : BWh (w.setCell ⟨g, i, none⟩ u) b now y := (Below.heap_setCell w ⟨g, i, none⟩ u b hn).trans k
/-- What the definition's Set answers: N has the blocks of the argument's list. -/
def RwS (N : Nat → Prop) (w : World) (x : Whl) (z : Int) (e : Ending) (w' : World) : Prop := ∃ A c, e = .returned (.tuple #[.agg #[.int .i64 x.now, .slice A x.all.length c], .int .i64 z]) ∧ GX encDu 2 w' (fun b => N b ∨ (w.heap.size ≤ b ∧ b < w'.heap.size)) A x.all ∧ (A = none → c = 0) ∧ Below w.heap.size w w'
theorem gx_two {N : Nat → Prop} {w v w2 : World} {A : Option Addr} {L : List (Int × Int)} (h : GX encDu 2 w N A L) (hN : ∀ b, N b → b < w.heap.size) (hb : Below w.heap.size w w2) : GX encDu 2 w2 (fun b => N b ∨ (w.heap.size ≤ b ∧ b < w2.heap.size)) A L :=
  (h.same fun b hB => hb.block b (hN b hB)).imp fun b hB => Or.inl hB
set_option maxRecDepth 100000 in
set_option maxHeartbeats 4000000 in
theorem rwset_any (N : Nat → Prop) (x : Whl) (A : Option Addr) (cap : Nat) (id t : Int) (w : World) (hR : GX encDu 2 w N A x.all) (hN : ∀ b, N b → b < w.heap.size) (hA : A = none → cap = 0) (h0 : 0 ≤ x.now) (hnow : x.now ≤ 1000000) (hl : x.all.length ≤ 1000000) {n : Nat} (hn : x.all.length = n) {z : Int} (H : Hid ((whSet x id t).2 = z)) :
    Calls Try.prog 23 #[.agg #[.int .i64 x.now, .slice A n cap], .int .i64 id, .int .i64 t] w fun e w' => RwS N w (whSet x id t).1 z e w' := by
  obtain ⟨now, all⟩ := x
  simp only at hR h0 hnow hl hn ⊢
  have hb0 := enew w (.cells #[.int .i64 now, .slice A n cap] 43)
  have hb1 := enew (w.alloc (.cells #[.int .i64 now, .slice A n cap] 43)) (.cells #[.int .i64 0, .slice none 0 0] 43)
  have kx := (BWh.new w now (.slice A n cap)).up hb1
  have kz := BWh.new (w.alloc (.cells #[.int .i64 now, .slice A n cap] 43)) 0 (.slice none 0 0)
  rw [World.size_alloc] at kz
  have HBb := hid (estep hb0 hb1)
  have KX := hid kx
  have KZ := hid kz
  have HA := hid hA
  have HR := hid hR
  have HNb := hid hN
  have HN := hid hn
  have hn6 : n ≤ 1000000 := by omega
  by_cases hr : t < 1 ∨ 50 < t
  · have hset : whSet ⟨now, all⟩ id t = (⟨now, all⟩, 12) := by unfold whSet; rw [if_pos hr]
    rw [hset] at H ⊢
    obtain rfl := H.out
    have hfin : ∀ w2, BWh w2 (w.heap.size + 1) 0 (.slice none 0 0) → Below w.heap.size w w2 → RwS N w ⟨now, all⟩ 12 (.returned (.tuple #[.agg #[.int .i64 now, .slice A n cap], .int .i64 12])) ((w2.setCell ⟨w.heap.size + 1, 0, none⟩ (.int .i64 now)).setCell ⟨w.heap.size + 1, 1, none⟩ (.slice A n cap)) := fun w2 k2 hb2 => by
      have hb3 : Below w.heap.size w ((w2.setCell ⟨w.heap.size + 1, 0, none⟩ (.int .i64 now)).setCell ⟨w.heap.size + 1, 1, none⟩ (.slice A n cap)) := (hb2.setCell (by show w.heap.size ≤ w.heap.size + 1; omega) _).setCell (by show w.heap.size ≤ w.heap.size + 1; omega) _
      exact ⟨A, cap, by simp only [hn], gx_two (v := w) hR hN hb3, hA, hb3⟩
    have HFIN := hid hfin
    clear hfin hset hb0 hb1 kx kz hA hR hN hn H
    have hd : (decide (t < 1) = true) ∨ (decide (t < 1) = false ∧ decide (50 < t) = true) := by
      by_cases h1 : t < 1
      · exact Or.inl (decide_eq_true h1)
      · exact Or.inr ⟨decide_eq_false h1, decide_eq_true (by omega)⟩
    clear hr
    rcases hd with d1 | ⟨d1, d2⟩
    all_goals
      go_enter Try.func23, Try.ntmps23
      go_upto_region 1 with (fail)
      generalize (w.alloc (.cells #[.int .i64 now, .slice A n cap] 43)).alloc (.cells #[.int .i64 0, .slice none 0 0] 43) = v0 at *
      obtain ⟨x0, x1⟩ := KX.out.cells
      obtain ⟨z0, z1⟩ := KZ.out.cells
      obtain ⟨u0, u1⟩ := KZ.out.froz
      have K3 := hid (BWh.set2 KZ.out now (.slice A n cap)).cells
      go_wp2_with fail
      (try simp only [Exit.inBlock, Exit.then])
      refine bodyPost_ret (v := .tuple #[.agg #[.int .i64 now, .slice A n cap], .int .i64 12]) (by simp [results, Try.results23, go_sem, K3.out.1, K3.out.2]) rfl ?_
      exact HFIN.out _ KZ.out HBb.out
  · have d1 : decide (t < 1) = false := decide_eq_false (by omega)
    have d2 : decide (50 < t) = false := decide_eq_false (by omega)
    by_cases hf : 32 ≤ n
    · have hset : whSet ⟨now, all⟩ id t = (⟨now, all⟩, 8) := by unfold whSet; rw [if_neg hr, if_pos (by simp only; omega)]
      rw [hset] at H ⊢
      obtain rfl := H.out
      have hfin : ∀ w2, BWh w2 (w.heap.size + 1) 0 (.slice none 0 0) → Below w.heap.size w w2 → RwS N w ⟨now, all⟩ 8 (.returned (.tuple #[.agg #[.int .i64 now, .slice A n cap], .int .i64 8])) ((w2.setCell ⟨w.heap.size + 1, 0, none⟩ (.int .i64 now)).setCell ⟨w.heap.size + 1, 1, none⟩ (.slice A n cap)) := fun w2 k2 hb2 => by
        have hb3 : Below w.heap.size w ((w2.setCell ⟨w.heap.size + 1, 0, none⟩ (.int .i64 now)).setCell ⟨w.heap.size + 1, 1, none⟩ (.slice A n cap)) := (hb2.setCell (by show w.heap.size ≤ w.heap.size + 1; omega) _).setCell (by show w.heap.size ≤ w.heap.size + 1; omega) _
        exact ⟨A, cap, by simp only [hn], gx_two (v := w) hR hN hb3, hA, hb3⟩
      have HFIN := hid hfin
      have d3 : decide ((32 : Int) ≤ (n : Int)) = true := decide_eq_true (by omega)
      have d4 : decide (32 ≤ n) = true := decide_eq_true hf
      clear hfin hset hb0 hb1 kx kz hA hR hN hn H hr
      go_enter Try.func23, Try.ntmps23
      go_upto_region 1 with (fail)
      generalize (w.alloc (.cells #[.int .i64 now, .slice A n cap] 43)).alloc (.cells #[.int .i64 0, .slice none 0 0] 43) = v0 at *
      obtain ⟨x0, x1⟩ := KX.out.cells
      obtain ⟨z0, z1⟩ := KZ.out.cells
      obtain ⟨u0, u1⟩ := KZ.out.froz
      have K3 := hid (BWh.set2 KZ.out now (.slice A n cap)).cells
      go_wp2_with fail
      (try simp only [Exit.inBlock, Exit.then])
      refine bodyPost_ret (v := .tuple #[.agg #[.int .i64 now, .slice A n cap], .int .i64 8]) (by simp [results, Try.results23, go_sem, K3.out.1, K3.out.2]) rfl ?_
      exact HFIN.out _ KZ.out HBb.out
    · have hset : whSet ⟨now, all⟩ id t = (⟨now, all ++ [(id, now + t)]⟩, 0) := by unfold whSet; rw [if_neg hr, if_neg (by simp only; omega)]
      rw [hset] at H ⊢
      obtain rfl := H.out
      have d3 : decide ((32 : Int) ≤ (n : Int)) = false := decide_eq_false (by omega)
      have d4 : decide (32 ≤ n) = false := decide_eq_false hf
      have ht1 : 1 ≤ t := by omega
      have ht2 : t ≤ 50 := by omega
      have HG := hid ((hR.imp hN).up (estep hb0 hb1))
      clear hset hb0 hb1 kx kz hA hR hN hn H hr
      go_enter Try.func23, Try.ntmps23
      go_upto_region 1 with (fail)
      have hsz0 : w.heap.size + 1 < ((w.alloc (.cells #[.int .i64 now, .slice A n cap] 43)).alloc (.cells #[.int .i64 0, .slice none 0 0] 43)).heap.size := Bk.lt KZ.out
      generalize (w.alloc (.cells #[.int .i64 now, .slice A n cap] 43)).alloc (.cells #[.int .i64 0, .slice none 0 0] 43) = v0 at *
      obtain ⟨x0, x1⟩ := KX.out.cells
      go_wp2_with (at_builtin; refine wpList_append_gx (W0 := v0) rowDu rfl _ _ rfl v0.heap.size (.slice none 0 0) [] all A cap (· < v0.heap.size) rfl (GB.nil _ _) (by rw [HN.out]; rfl) HG.out HA.out (by simp only [List.length_nil]; omega) (Below.refl _ _) (Nat.le_refl _) ?_)
      intro v1 w1 hown1 hbel1 _
      have hbs := enew w1 (.cells #[.int .i64 id, .int .i64 (now + t)] 76)
      have hx1 := gx_new (M := [(id, now + t)]) encDu_len (Bk.new w1 76 #[.int .i64 id, .int .i64 (now + t)]) rfl
      have HX1 := hid (And.intro hx1 (And.intro (hown1.below hbs) (hbel1.alloc hbel1.size (.cells #[.int .i64 id, .int .i64 (now + t)] 76))))
      have kx1 := KX.out.up hbel1
      clear x0 x1
      obtain ⟨x0, x1⟩ := kx1.cells
      clear hown1 hbel1 hx1 hbs kx1
      go_wp2_with (at_builtin; refine wpList_append_gx (W0 := v0) rowDu rfl _ _ rfl v0.heap.size v1 ([] ++ all) [(id, now + t)] (some ⟨w1.heap.size, 0, none⟩) 1 (fun b => b = w1.heap.size) rfl HX1.out.2.1 rfl HX1.out.1 (fun h => by cases h) (by simp only [List.nil_append, List.length_cons, List.length_nil]; omega) HX1.out.2.2 (Nat.le_refl _) ?_)
      intro v2 w2 hown2 hbel2 _
      clear HX1 x0 x1
      obtain ⟨A2, c2, rfl, hgx, hA2, hlc, hcm⟩ := GB.reads encDu_len hown2
      have hlen2 : (all ++ [(id, now + t)]).length = n + 1 := by rw [List.length_append, List.length_singleton, HN.out]
      rw [hlen2]
      have kx2 := KX.out.up hbel2
      have kz2 := KZ.out.up hbel2
      obtain ⟨x0, x1⟩ := kx2.cells
      obtain ⟨f0, f1⟩ := kx2.froz
      have kz3 : BWh (w2.setCell ⟨w.heap.size, 1, none⟩ (.slice A2 (n + 1) c2)) (w.heap.size + 1) 0 (.slice none 0 0) := kz2.other (by omega) _
      obtain ⟨z0, z1⟩ := kz3.cells
      obtain ⟨u0, u1⟩ := kz3.froz
      have K3 := hid (BWh.set2 kz3 now (.slice A2 (n + 1) c2)).cells
      have hb3 : Below w.heap.size w (((w2.setCell ⟨w.heap.size, 1, none⟩ (.slice A2 (n + 1) c2)).setCell ⟨w.heap.size + 1, 0, none⟩ (.int .i64 now)).setCell ⟨w.heap.size + 1, 1, none⟩ (.slice A2 (n + 1) c2)) := (((estep HBb.out hbel2).setCell (Nat.le_refl _) _).setCell (by show w.heap.size ≤ w.heap.size + 1; omega) _).setCell (by show w.heap.size ≤ w.heap.size + 1; omega) _
      have hg3 : GX encDu 2 (((w2.setCell ⟨w.heap.size, 1, none⟩ (.slice A2 (n + 1) c2)).setCell ⟨w.heap.size + 1, 0, none⟩ (.int .i64 now)).setCell ⟨w.heap.size + 1, 1, none⟩ (.slice A2 (n + 1) c2)) (fun b => N b ∨ (w.heap.size ≤ b ∧ b < (((w2.setCell ⟨w.heap.size, 1, none⟩ (.slice A2 (n + 1) c2)).setCell ⟨w.heap.size + 1, 0, none⟩ (.int .i64 now)).setCell ⟨w.heap.size + 1, 1, none⟩ (.slice A2 (n + 1) c2)).heap.size)) A2 (all ++ [(id, now + t)]) :=
        (hgx.same fun b hb => ((Below.heap_setCell _ ⟨w.heap.size + 1, 1, none⟩ _ b (by have := hb.1; show b ≠ w.heap.size + 1; omega)).trans (Below.heap_setCell _ ⟨w.heap.size + 1, 0, none⟩ _ b (by have := hb.1; show b ≠ w.heap.size + 1; omega))).trans (Below.heap_setCell w2 ⟨w.heap.size, 1, none⟩ _ b (by have := hb.1; show b ≠ w.heap.size; omega))).imp fun b hb => Or.inr ⟨by have := hb.1; omega, by rw [World.size_setCell, World.size_setCell, World.size_setCell]; exact hb.2⟩
      have HFIN := hid (show RwS N w ⟨now, all ++ [(id, now + t)]⟩ 0 (.returned (.tuple #[.agg #[.int .i64 now, .slice A2 (n + 1) c2], .int .i64 0])) _ from ⟨A2, c2, by simp only [hlen2], hg3, hA2, hb3⟩)
      clear hown2 hgx hA2 hlc hcm kx2 kz2 kz3 hb3 hg3 hbel2
      go_wp2_with fail
      (try simp only [Exit.inBlock, Exit.then])
      refine bodyPost_ret (v := .tuple #[.agg #[.int .i64 now, .slice A2 (n + 1) c2], .int .i64 0]) (by simp [results, Try.results23, go_sem, K3.out.1, K3.out.2]) rfl ?_
      exact HFIN.out
end Go.Proofs.Ytldilhbomilcpaa
