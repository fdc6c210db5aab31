/- ring: the definition's New and Put. -/
import Derived.Test.YtldilhbomilcpaaJe
import Derived.Test.YtldilhbomilcpaaGb
namespace Go.Proofs.Ytldilhbomilcpaa
set_option linter.unusedVariables false
set_option linter.unusedSimpArgs false
open Go.RowKit Go.Joins

set_option maxRecDepth 100000 in
theorem rrnew_any (room : Int) (w : World) :
    Calls Try.prog 11 #[.int .i64 room] w fun e w' => e = .returned (.agg #[.int .i64 (rgRoom room : Int), .slice none 0 0, .int .i64 0]) ∧ Below w.heap.size w w' := by
  obtain ⟨h1, h2⟩ := rgRoom_le room
  generalize rgRoom room = c at *
  have hmm : max 0 (min room 64) = (c : Int) := by omega
  clear h1 h2
  go_enter Try.func11, Try.ntmps11
  go_wp2_with fail
  go_returns
  exact ⟨rfl, enew _ _⟩
theorem bk_set3 {w : World} {g : Nat} {t : TypeId} {c0 c1 c2 : Value} (k : Bk w g t #[c0, c1, c2]) (a b c : Value) : Bk (((w.setCell ⟨g, 0, none⟩ a).setCell ⟨g, 1, none⟩ b).setCell ⟨g, 2, none⟩ c) g t #[a, b, c] := by
  have k1 : Bk (w.setCell ⟨g, 0, none⟩ a) g t #[a, c1, c2] := Bk.set_ k 0 a
  have k2 : Bk ((w.setCell ⟨g, 0, none⟩ a).setCell ⟨g, 1, none⟩ b) g t #[a, b, c2] := Bk.set_ k1 1 b
  exact Bk.set_ k2 2 c
theorem gx_setCell {α : Type} {enc : α → List Value} {k B : Nat} {w : World} {A : Option Addr} {M : List α} (h : GX enc k w (fun b => B ≤ b ∧ b < w.heap.size) A M) (g i : Nat) (hg : g < B) (u : Value) : GX enc k (w.setCell ⟨g, i, none⟩ u) (fun b => B ≤ b ∧ b < (w.setCell ⟨g, i, none⟩ u).heap.size) A M :=
  (h.same fun b hb => Below.heap_setCell w ⟨g, i, none⟩ u b (by have := hb.1; show b ≠ g; omega)).imp fun b hb => by rw [World.size_setCell]; exact hb
theorem gx_lower {α : Type} {enc : α → List Value} {k B C : Nat} {w : World} {A : Option Addr} {M : List α} (h : GX enc k w (fun b => B ≤ b ∧ b < w.heap.size) A M) (hC : C ≤ B) : GX enc k w (fun b => C ≤ b ∧ b < w.heap.size) A M := h.imp fun b hb => ⟨by have := hb.1; omega, hb.2⟩
theorem rr_gx1 {w2 : World} {B g C : Nat} {A : Option Addr} {M : List (List UInt8)} (h : GX encS1 1 w2 (fun b => B ≤ b ∧ b < w2.heap.size) A M) (hg : g + 1 < B) (hC : C ≤ B) (a b c d : Value) :
    GX encS1 1 ((((w2.setCell ⟨g, 1, none⟩ a).setCell ⟨g + 1, 0, none⟩ b).setCell ⟨g + 1, 1, none⟩ c).setCell ⟨g + 1, 2, none⟩ d) (fun x => C ≤ x ∧ x < ((((w2.setCell ⟨g, 1, none⟩ a).setCell ⟨g + 1, 0, none⟩ b).setCell ⟨g + 1, 1, none⟩ c).setCell ⟨g + 1, 2, none⟩ d).heap.size) A M :=
  gx_lower (gx_setCell (gx_setCell (gx_setCell (gx_setCell h g 1 (by omega) a) (g + 1) 0 hg b) (g + 1) 1 hg c) (g + 1) 2 hg d) hC
theorem rr_gx {w2 : World} {B g C : Nat} {A : Option Addr} {M : List (List UInt8)} (h : GX encS1 1 w2 (fun b => B ≤ b ∧ b < w2.heap.size) A M) (hg : g + 1 < B) (hC : C ≤ B) (z a b c d : Value) :
    GX encS1 1 (((((w2.setCell ⟨g, 2, none⟩ z).setCell ⟨g, 1, none⟩ a).setCell ⟨g + 1, 0, none⟩ b).setCell ⟨g + 1, 1, none⟩ c).setCell ⟨g + 1, 2, none⟩ d) (fun x => C ≤ x ∧ x < (((((w2.setCell ⟨g, 2, none⟩ z).setCell ⟨g, 1, none⟩ a).setCell ⟨g + 1, 0, none⟩ b).setCell ⟨g + 1, 1, none⟩ c).setCell ⟨g + 1, 2, none⟩ d).heap.size) A M :=
  rr_gx1 (gx_setCell h g 2 (by omega) z) hg hC a b c d
/-- The definition's ring. -/
def RrR (w0 : World) (c : Nat) (x : Rgs) (e : Ending) (w' : World) : Prop := ∃ A cap, e = .returned (.agg #[.int .i64 (c : Int), .slice A x.1.length cap, .int .i64 (x.2 : Int)]) ∧ GX encS1 1 w' (fun b => w0.heap.size ≤ b ∧ b < w'.heap.size) A x.1 ∧ (A = none → cap = 0) ∧ Below w0.heap.size w0 w'
set_option maxRecDepth 100000 in
set_option maxHeartbeats 4000000 in
theorem rrput_any (c : Nat) (L : List (List UInt8)) (n : Nat) (A : Option Addr) (cap : Nat) (s : List UInt8) (w : World) (hR : GX encS1 1 w (· < w.heap.size) A L) (hA : A = none → cap = 0) (hl : L.length ≤ 1000) (hc : c ≤ 64) (hn : n ≤ 1000000) :
    Calls Try.prog 13 #[.agg #[.int .i64 (c : Int), .slice A L.length cap, .int .i64 (n : Int)], .string (bs s)] w fun e w' => RrR w c (rgPut c (L, n) s) e w' := by
  have hb0 := enew w (.cells #[.int .i64 (c : Int), .slice A L.length cap, .int .i64 (n : Int)] 28)
  have hb1 := enew (w.alloc (.cells #[.int .i64 (c : Int), .slice A L.length cap, .int .i64 (n : Int)] 28)) (.cells #[.int .i64 0, .slice none 0 0, .int .i64 0] 28)
  have kx := (Bk.new w 28 #[.int .i64 (c : Int), .slice A L.length cap, .int .i64 (n : Int)]).up hb1
  have kz := Bk.new (w.alloc (.cells #[.int .i64 (c : Int), .slice A L.length cap, .int .i64 (n : Int)] 28)) 28 #[.int .i64 0, .slice none 0 0, .int .i64 0]
  rw [World.size_alloc] at kz
  have HBb := hid (estep hb0 hb1)
  have HG := hid (hR.up (estep hb0 hb1))
  have KX := hid kx
  have KZ := hid kz
  have HA := hid hA
  clear hb0 hb1 kx kz hR hA
  go_enter Try.func13, Try.ntmps13
  go_upto_region 1 with (fail)
  generalize (w.alloc (.cells #[.int .i64 (c : Int), .slice A L.length cap, .int .i64 (n : Int)] 28)).alloc (.cells #[.int .i64 0, .slice none 0 0, .int .i64 0] 28) = v0 at *
  have x0 := Bk.cell KX.out 0
  have x1 := Bk.cell KX.out 1
  have x2 := Bk.cell KX.out 2
  go_wp2_with (at_builtin; refine wpList_append_gx (W0 := v0) rowS1 rfl _ _ rfl v0.heap.size (.slice none 0 0) [] L A cap (· < v0.heap.size) rfl (GB.nil _ _) rfl HG.out HA.out (by simp; omega) (Below.refl _ _) (Nat.le_refl _) ?_)
  intro v1 w1 hown1 hbel1 _
  have H1 := hid (And.intro hown1 hbel1)
  have hx1 := gx_new (M := [s]) encS1_len (Bk.new w1 9 #[.string (bs s)]) rfl
  have hbs := enew w1 (.cells #[.string (bs s)] 9)
  have HX1 := hid (And.intro hx1 (And.intro (hown1.below hbs) (hbel1.alloc hbel1.size (.cells #[.string (bs s)] 9))))
  clear hown1 hbel1 x0 x1 x2 hx1 hbs H1
  go_wp2_with (at_builtin; refine wpList_append_gx (W0 := v0) rowS1 rfl _ _ rfl v0.heap.size v1 ([] ++ L) [s] (some ⟨w1.heap.size, 0, none⟩) 1 (fun b => b = w1.heap.size) rfl HX1.out.2.1 rfl HX1.out.1 (fun h => by cases h) (by simp only [List.nil_append, List.length_cons, List.length_nil]; omega) HX1.out.2.2 (Nat.le_refl _) ?_)
  intro v2 w2 hown2 hbel2 _
  clear HX1
  obtain ⟨A2, c2, rfl, hgx, hA2, hlc, hcm⟩ := GB.reads encS1_len hown2
  have hf2 : ∃ b, A2 = some b := by
    cases A2 with
    | none => have := hA2 rfl; rw [List.length_append, List.length_singleton] at hlc; omega
    | some b => exact ⟨b, rfl⟩
  obtain ⟨ad, rfl⟩ := hf2
  obtain ⟨k, hk⟩ : ∃ k, L.length = k := ⟨_, rfl⟩
  rw [List.length_append, List.length_singleton, hk] at hlc ⊢
  rw [hk] at hl
  have HK := hid hk
  have kx2 := KX.out.up hbel2
  have kz2 := KZ.out.up hbel2
  have hsz : w.heap.size + 1 < v0.heap.size := by have := Bk.lt KZ.out; exact this
  have H2 := hid (And.intro hgx (And.intro (estep HBb.out hbel2) (And.intro kx2 (And.intro kz2 hsz))))
  have x0 := Bk.cell kx2 0
  have x1 := Bk.cell kx2 1
  have x2 := Bk.cell kx2 2
  have y0 := Bk.frozen kx2 0
  have y1 := Bk.frozen kx2 1
  have y2 := Bk.frozen kx2 2
  have z0 := Bk.cell kz2 0
  have z1 := Bk.cell kz2 1
  have z2 := Bk.cell kz2 2
  have u0 := Bk.frozen kz2 0
  have u1 := Bk.frozen kz2 1
  have u2 := Bk.frozen kz2 2
  have hcm2 : c2 ≤ 9223372036854775807 := by unfold maxLen at hcm; omega
  have hmin : min ((n : Int) + 1) 1099511627776 = (n : Int) + 1 := by omega
  have hk0 : (0 : Int) ≤ (k : Int) := by omega
  clear hown2 hgx hbel2 kx2 kz2 hA2 hcm hk HBb HG HA
  by_cases hgt : c < k + 1
  · have hd : decide ((c : Int) < (k : Int) + 1) = true := decide_eq_true (by omega)
    have HE := hid (show rgPut c (L, n) s = ((L ++ [s]).drop 1, n + 1) by
      unfold rgPut
      have := HK.out
      simp only
      rw [if_pos (by omega), Nat.min_eq_left (by omega)])
    clear hgt
    go_upto_region 6 with (fail)
    obtain ⟨m, hm⟩ : ∃ m : Nat, (n : Int) + 1 = (m : Int) := ⟨n + 1, by omega⟩
    rw [hm] at hmin
    have hw : IntKind.i64.wrap ((n : Int) + 1) = (m : Int) := by rw [← hm]; exact IntWalk.i64_in _ (by omega)
    have HM := hid hm
    clear hm
    obtain ⟨A', hA'⟩ : ∃ A', (if c2 = 1 then some ad else some ⟨ad.block, ad.off + 1, none⟩) = A' := ⟨_, rfl⟩
    have HAp := hid hA'
    simp only [hA']
    clear hA'
    have k3 := bk_set3 (g := w.heap.size + 1) (rg_other (g' := w.heap.size) (i := 1) (rg_other (g' := w.heap.size) (i := 2) H2.out.2.2.2.1 (by omega) (.int .i64 (m : Int))) (by omega) (.slice A' k (c2 - 1))) (.int .i64 (c : Int)) (.slice A' k (c2 - 1)) (.int .i64 (m : Int))
    have K3 := hid (And.intro (Bk.cell k3 0) (And.intro (Bk.cell k3 1) (Bk.cell k3 2)))
    clear k3
    go_wp2_with fail
    (try simp only [Exit.inBlock, Exit.then])
    refine bodyPost_ret (v := .agg #[.int .i64 (c : Int), .slice A' k (c2 - 1), .int .i64 (m : Int)]) (by simp [results, Try.results13, go_sem, K3.out.1, K3.out.2.1, K3.out.2.2]) rfl ?_
    obtain ⟨hgx, hb, kx, kz, hsz⟩ := H2.out
    have hlk : ((L ++ [s]).drop 1).length = k := by rw [List.length_drop, List.length_append, List.length_singleton, HK.out]; omega
    refine ⟨A', c2 - 1, by rw [HE.out]; simp only [hlk]; rw [show ((n + 1 : Nat) : Int) = (m : Int) by have := HM.out; omega], ?_, fun h => ?_, ((((((hb.setCell (Nat.le_refl _) _).setCell (Nat.le_refl _) _).setCell (by show w.heap.size ≤ w.heap.size + 1; omega) _).setCell (by show w.heap.size ≤ w.heap.size + 1; omega) _)).setCell (by show w.heap.size ≤ w.heap.size + 1; omega) _)⟩
    · rw [HE.out]
      refine rr_gx ?_ hsz (by omega) _ _ _ _ _
      rcases Nat.eq_zero_or_pos k with h0 | h0
      · intro i hi; rw [hlk] at hi; omega
      · obtain ⟨b, o, e, -, -⟩ := hgx 0 (by rw [List.length_append, List.length_singleton, HK.out]; omega)
        injection e with e
        subst e
        have := HAp.out
        rw [if_neg (by omega)] at this
        rw [← this]
        have hd := hgx.drop 1
        rw [Nat.one_mul] at hd
        exact hd
    · have := HAp.out
      rw [h] at this
      split at this <;> cases this
  · have hd : decide ((c : Int) < (k : Int) + 1) = false := decide_eq_false (by omega)
    have HE := hid (show rgPut c (L, n) s = (L ++ [s], n) by
      unfold rgPut
      have := HK.out
      simp only
      rw [if_neg (by omega)])
    clear hgt
    have k3 := bk_set3 (g := w.heap.size + 1) (rg_other (g' := w.heap.size) (i := 1) H2.out.2.2.2.1 (by omega) (.slice (some ad) (k + 1) c2)) (.int .i64 (c : Int)) (.slice (some ad) (k + 1) c2) (.int .i64 (n : Int))
    have K3 := hid (And.intro (Bk.cell k3 0) (And.intro (Bk.cell k3 1) (Bk.cell k3 2)))
    clear k3
    go_wp2_with fail
    (try simp only [Exit.inBlock, Exit.then])
    refine bodyPost_ret (v := .agg #[.int .i64 (c : Int), .slice (some ad) (k + 1) c2, .int .i64 (n : Int)]) (by simp [results, Try.results13, go_sem, K3.out.1, K3.out.2.1, K3.out.2.2]) rfl ?_
    obtain ⟨hgx, hb, kx, kz, hsz⟩ := H2.out
    have hlk : (L ++ [s]).length = k + 1 := by rw [List.length_append, List.length_singleton, HK.out]
    refine ⟨some ad, c2, by rw [HE.out]; simp only [hlk], ?_, fun h => (by cases h), (((((hb.setCell (Nat.le_refl _) _).setCell (by show w.heap.size ≤ w.heap.size + 1; omega) _).setCell (by show w.heap.size ≤ w.heap.size + 1; omega) _)).setCell (by show w.heap.size ≤ w.heap.size + 1; omega) _)⟩
    rw [HE.out]
    exact rr_gx1 hgx hsz (by omega) _ _ _ _
end Go.Proofs.Ytldilhbomilcpaa
