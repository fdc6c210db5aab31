/- ring: what must come of fixed calls. -/
import Derived.Test.YtldilhbomilcpaaJf
import Derived.Test.YtldilhbomilcpaaJg
namespace Go.Proofs.Ytldilhbomilcpaa
set_option linter.unusedVariables false
set_option linter.unusedSimpArgs false
open Go.RowKit Go.Joins

theorem rgAlls_lit (g p c : Nat) (x : Rgs) (w : World) (h : RgH w g p c x) {k : Nat} (hk : x.1.length = k) :
    Calls Try.prog 15 #[.pointer (some ⟨g, 0, none⟩)] w fun e w' => ∃ A cap, e = .returned (.slice A k cap) ∧ STexts w' (· < w'.heap.size) A x.1 ∧ Below w.heap.size w w' := by
  refine (rgAlls_any g p c x w h).mono ?_
  rintro e w' ⟨v, rfl, hv, hb⟩
  obtain ⟨A, cap, rfl, hgx, -⟩ := GB.reads encS1_len hv
  exact ⟨A, cap, by rw [hk], (stx_of_gx hgx).imp fun b hb => hb.2, hb⟩
theorem texts_lit (A B : Option Addr) (ca cb : Nat) (L M : List (List UInt8)) (w : World) (hA : STexts w (· < w.heap.size) A L) (hB : STexts w (· < w.heap.size) B M) (hl : L.length ≤ 10000000) (hm : M.length ≤ 10000000) {k m : Nat} (hk : L.length = k) (hj : M.length = m) (he : L = M) :
    Calls Try.prog 14 #[.slice A k ca, .slice B m cb] w fun e w' => e = .returned (.bool true) ∧ Below w.heap.size w w' := by
  subst hk hj
  have := texts_any A B ca cb L M w hA hB hl hm
  rw [decide_eq_true he] at this
  exact this
theorem stx_two (w : World) (a b : List UInt8) : STexts (w.alloc (.cells #[.string (bs a), .string (bs b)] 9)) (fun x => x = w.heap.size) (some ⟨w.heap.size, 0, none⟩) [a, b] :=
  stx_of_gx (gx_new (enc := encS1) (M := [a, b]) encS1_len (Bk.new w 9 #[.string (bs a), .string (bs b)]) rfl)
theorem stx_three (w : World) (a b c : List UInt8) : STexts (w.alloc (.cells #[.string (bs a), .string (bs b), .string (bs c)] 9)) (fun x => x = w.heap.size) (some ⟨w.heap.size, 0, none⟩) [a, b, c] :=
  stx_of_gx (gx_new (enc := encS1) (M := [a, b, c]) encS1_len (Bk.new w 9 #[.string (bs a), .string (bs b), .string (bs c)]) rfl)
theorem rgPuts_abc (g p : Nat) (w : World) (h : RgH w g p 2 ([], 0)) :
    Calls Try.prog 12 #[.pointer (some ⟨g, 0, none⟩), .slice (some ⟨w.heap.size, 0, none⟩) 3 3] (w.alloc (.cells #[.string (bs [97]), .string (bs [98]), .string (bs [99])] 9)) fun e w' => e = .returned (.tuple #[]) ∧ RgH w' g p 2 ([[98], [99]], 1) ∧ OnS (fun b => b = g ∨ b = p) w w' := by
  have hb := enew w (.cells #[.string (bs [97]), .string (bs [98]), .string (bs [99])] 9)
  have := rgPuts_any (fun b => ¬ (b = g ∨ b = p)) g p 2 ([], 0) (some ⟨w.heap.size, 0, none⟩) 3 [[97], [98], [99]] _ (h.up hb) ((stx_three w [97] [98] [99]).imp fun b hB => by
    subst hB
    have := h.lt
    refine ⟨by simp, by omega⟩) (fun b hB => hB) (by decide) (by decide)
  refine this.mono ?_
  rintro e w' ⟨rfl, h1, h2⟩
  exact ⟨rfl, h1, (OnS.below hb).trans h2⟩
set_option maxRecDepth 100000 in
set_option maxHeartbeats 4000000 in
theorem known21_any (w : World) :
    Calls Try.prog 9 #[] w fun e w' => e = .returned (.bool true) ∧ Below w.heap.size w w' := by
  have c97 : (ByteArray.mk #[97]) = bs [97] := rfl
  have c98 : (ByteArray.mk #[98]) = bs [98] := rfl
  have c99 : (ByteArray.mk #[99]) = bs [99] := rfl
  have hnot := enot
  go_enter Try.func9, Try.ntmps9
  go_wp2_with fail
  refine (rgnew_any 2 w).mono ?_
  rintro e w1 ⟨g, p, rfl, hg, hp, hR, hb1⟩
  have h2 : rgRoom 2 = 2 := rfl
  rw [h2] at hR
  clear h2
  have HR1 := hid hR
  have H1 := hid (And.intro hg (And.intro hp hb1))
  have HLN := hid (rgLen_any g p 2 ([], 0) w1 hR (k := 0) (hid rfl))
  clear hg hp hR hb1
  go_wp2_with fail
  refine HLN.out.mono ?_
  rintro e w2 ⟨rfl, hb2⟩
  have HR2 := hid (HR1.out.up hb2)
  have H2 := hid (estep H1.out.2.2 hb2)
  have HPT := hid (rgPuts_abc g p w2 HR2.out)
  clear hb2 HLN
  go_wp2_with fail
  refine HPT.out.mono ?_
  rintro e w3 ⟨rfl, hR3, ho3⟩
  have HR3 := hid hR3
  have H3 : Hid (Below w.heap.size w w3) := hid (OnS.to_below H2.out ho3 (fun k _ hk => by have := H1.out.1; have := H1.out.2.1; omega) H2.out.size)
  clear hR3 ho3 HPT
  go_wp2_with fail
  refine (rgPuts_nil _ _).mono ?_
  rintro e w4 ⟨rfl, hb4⟩
  have hb34 : Below w3.heap.size w3 w4 := estep (enew _ _) hb4
  have HR4 := hid (HR3.out.up hb34)
  have H4 := hid (estep H3.out hb34)
  have HAL := hid (rgAlls_lit g p 2 _ w4 HR4.out (k := 2) rfl)
  clear hb4 hb34
  go_wp2_with fail
  refine HAL.out.mono ?_
  rintro e w5 ⟨A, cap, rfl, hs, hb5⟩
  have hbx := enew w5 (.cells #[.string (bs [98]), .string (bs [99])] 9)
  have HT := hid (texts_lit A (some ⟨w5.heap.size, 0, none⟩) cap 2 [[98], [99]] [[98], [99]] _ (hs.below hbx |>.imp fun b hb => Nat.lt_of_lt_of_le hb hbx.size) ((stx_two w5 [98] [99]).imp fun b hb => by subst hb; simp) (by decide) (by decide) (k := 2) (m := 2) rfl rfl rfl)
  have HR5 := hid (HR4.out.up (estep hb5 hbx))
  have H5 := hid (estep H4.out (estep hb5 hbx))
  clear hs hbx hb5 HAL
  go_wp2_with fail
  refine HT.out.mono ?_
  rintro e w6 ⟨rfl, hb6⟩
  have HR6 := hid (HR5.out.up hb6)
  have H6 := hid (estep H5.out hb6)
  clear hb6
  have HLN := hid (rgLen_any g p 2 _ w6 HR6.out (k := 2) (hid rfl))
  go_wp2_with fail
  refine HLN.out.mono ?_
  rintro e w7 ⟨rfl, hb7⟩
  have HR7 := hid (HR6.out.up hb7)
  have H7 := hid (estep H6.out hb7)
  clear hb7
  have HLO := hid (rgLost_any g p 2 _ w7 HR7.out (by decide) (k := 1) (hid rfl))
  go_wp2_with fail
  refine HLO.out.mono ?_
  rintro e w8 ⟨rfl, hb8⟩
  have H8 := hid (estep H7.out hb8)
  clear hb8
  go_wp2_with fail
  refine (rgAll_nil _).mono ?_
  rintro e w9 ⟨rfl, hb9⟩
  have H9 := hid (estep H8.out hb9)
  clear hb9
  go_wp2_with fail
  refine (rgLen_nil _).mono ?_
  rintro e wa ⟨rfl, hba⟩
  have HA := hid (estep H9.out hba)
  clear hba
  go_wp2_with fail
  refine (rgLost_nil _).mono ?_
  rintro e wb ⟨rfl, hbb⟩
  have HBb := hid (estep HA.out hbb)
  clear hbb
  go_wp2_with fail
  go_returns
  exact ⟨rfl, HBb.out⟩
end Go.Proofs.Ytldilhbomilcpaa
