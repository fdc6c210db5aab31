/- Texts put together: Lm Ln Lo Lp. -/
import Derived.Test.YtelglcakekgdeaaGreatDoorG36
import Derived.Test.YtelglcakekgdeaaGreatDoorG17
import Derived.Lib.OwnKind
import Derived.OneCell
namespace Go.Proofs.YtelglcakekgdeaaGreatDoor
set_option linter.unusedVariables false
set_option linter.unusedSimpArgs false
open Go.RowKit Go.Joins

set_option maxRecDepth 100000 in
set_option maxHeartbeats 4000000 in
theorem follows_any (line : Nat) (l last : Int) (hl : l = (line : Int)) (h13 : line ≤ 13) (w : World) :
    Calls Tryz.prog 60 #[.int .i64 l, .int .i64 last] w fun e w' => e = .returned (.bool (folP line last)) ∧ Below w.heap.size w w' := by
  have hnot := enot
  obtain ⟨zu, hzu⟩ : ∃ b : Bool, b = (decide (1 ≤ last) && decide (last < 8)) := ⟨_, rfl⟩
  have HF := hid (show folP line last = if l = 0 then decide (last = -1) else if l = 1 ∨ l = 13 then !zu && decide (last ≠ 13) else if l ≤ 8 then zu else decide (8 ≤ last) && decide (last < l) by
    subst hl
    unfold folP
    rw [hzu]
    by_cases a0 : line = 0
    · subst a0; rfl
    · rw [if_neg a0, if_neg (show ¬ ((line : Int) = 0) by omega)]
      by_cases a1 : line = 1 ∨ line = 13
      · rw [if_pos a1, if_pos (show (line : Int) = 1 ∨ (line : Int) = 13 by omega)]
      · rw [if_neg a1, if_neg (show ¬ ((line : Int) = 1 ∨ (line : Int) = 13) by omega)]
        by_cases a8 : line ≤ 8
        · rw [if_pos a8, if_pos (show (line : Int) ≤ 8 by omega)]
        · rw [if_neg a8, if_neg (show ¬ (line : Int) ≤ 8 by omega)])
  rw [HF.out]
  have hl0 : 0 ≤ l ∧ l ≤ 13 := by omega
  have HZU := hid hzu
  clear hl h13 hzu
  go_enter Tryz.func60, Tryz.ntmps60
  go_upto_region 1 with (fail)
  obtain ⟨x1, hx1⟩ : ∃ x, x = w := ⟨_, rfl⟩
  go_cut [5] from 6 to 11 (fun s wx => s = .bool zu ∧ wx = w)
  case first =>
    by_cases b1 : 1 ≤ last
    · by_cases b2 : last < 8
      · have HV := hid (show zu = true by rw [HZU.out, decide_eq_true b1, decide_eq_true b2]; rfl)
        have d1 : decide (1 ≤ last) = true := decide_eq_true b1
        have d2 : decide (last < 8) = true := decide_eq_true b2
        go_wp2_with fail
        go_meet
        exact ⟨by rw [HV.out], rfl⟩
      · have HV := hid (show zu = false by rw [HZU.out, decide_eq_true b1, decide_eq_false b2]; rfl)
        have d1 : decide (1 ≤ last) = true := decide_eq_true b1
        have d2 : decide (last < 8) = false := decide_eq_false b2
        go_wp2_with fail
        go_meet
        exact ⟨by rw [HV.out], rfl⟩
    · have HV := hid (show zu = false by rw [HZU.out, decide_eq_false b1]; rfl)
      have d1 : decide (1 ≤ last) = false := decide_eq_false b1
      go_wp2_with fail
      go_meet
      exact ⟨by rw [HV.out], rfl⟩
  case rest =>
  obtain ⟨rfl, rfl⟩ := hcut
  by_cases a0 : l = 0
  · subst a0
    go_wp2_with fail
    go_returns
    exact ⟨by by_cases h : last = -1 <;> simp [h], Below.refl _ _⟩
  have e0 : decide (l = 0) = false := decide_eq_false a0
  by_cases a1 : l = 1
  · subst a1
    by_cases b3 : last = 13
    · subst b3
      cases zu
      all_goals
        go_wp2_with fail
        go_returns
        exact ⟨by simp, Below.refl _ _⟩
    · have d3 : decide (last = 13) = false := decide_eq_false b3
      have d4 : (last != 13) = true := by simpa using b3
      cases zu
      all_goals
        go_wp2_with fail
        go_returns
        exact ⟨by simp [b3], Below.refl _ _⟩
  have e1 : decide (l = 1) = false := decide_eq_false a1
  by_cases a13 : l = 13
  · subst a13
    by_cases b3 : last = 13
    · subst b3
      cases zu
      all_goals
        go_wp2_with fail
        go_returns
        exact ⟨by simp, Below.refl _ _⟩
    · have d3 : decide (last = 13) = false := decide_eq_false b3
      have d4 : (last != 13) = true := by simpa using b3
      cases zu
      all_goals
        go_wp2_with fail
        go_returns
        exact ⟨by simp [b3], Below.refl _ _⟩
  have e13 : decide (l = 13) = false := decide_eq_false a13
  by_cases a8 : l ≤ 8
  · have e8 : decide (l ≤ 8) = true := decide_eq_true a8
    go_wp2_with fail
    go_returns
    exact ⟨by simp [a0, a1, a13, a8], Below.refl _ _⟩
  · have e8 : decide (l ≤ 8) = false := decide_eq_false a8
    by_cases b1 : 8 ≤ last
    · have d1 : decide (8 ≤ last) = true := decide_eq_true b1
      go_wp2_with fail
      go_returns
      exact ⟨by simp [a0, a1, a13, a8, b1], Below.refl _ _⟩
    · have d1 : decide (8 ≤ last) = false := decide_eq_false b1
      go_wp2_with fail
      go_returns
      exact ⟨by simp [a0, a1, a13, a8, b1], Below.refl _ _⟩
-- rows of the call's own, of one type, beside blocks and rows of other types
section
variable {α β : Type} {enc : α → List Value} {enc2 : β → List Value} {k k2 : Nat} {e e2 t : TypeId} {w w' : World} {b b2 g : Nat} {v v2 : Value} {L : List α} {M : List β} {cs : Array Value}
theorem GB.kind (h : GB enc k e w b v L) : ∀ g, v.ownBlock = some g → ∃ c fz, w.heap[g]? = some (.cells c e fz) := Lib.ownsRow_kind h
theorem GB.not_bk (h : GB enc k e w b v L) (hB : Bk w g t cs) (hte : t ≠ e) : some g ≠ v.ownBlock := fun he => by
  obtain ⟨c, fz, hc⟩ := h.kind g he.symm
  unfold Bk at hB
  rw [hB] at hc
  injection hc with hc
  injection hc with _ hc
  exact hte hc
theorem GB.apart (h : GB enc k e w b v L) (h2 : GB enc2 k2 e2 w b2 v2 M) (hte : e ≠ e2) : v.ownBlock = none ∨ v.ownBlock ≠ v2.ownBlock := by
  rcases hv : v.ownBlock with _ | g
  · exact Or.inl rfl
  · refine Or.inr fun he => ?_
    obtain ⟨c, fz, hc⟩ := h.kind g hv
    obtain ⟨c2, fz2, hc2⟩ := h2.kind g he.symm
    rw [hc] at hc2
    injection hc2 with hc2
    injection hc2 with _ hc2
    exact hte hc2
theorem GB.grown (h : GB enc k e w b v L) (h2 : GB enc2 k2 e2 w b2 v2 M) (hte : e ≠ e2) (hg : w.grownBy w' v2.ownBlock) : GB enc k e w' b v L := World.ownsRow.kept h hg (h.apart h2 hte)
theorem Bk.grown (hB : Bk w g t cs) (h : GB enc k e w b v L) (hte : t ≠ e) (hg : w.grownBy w' v.ownBlock) : Bk w' g t cs := by
  have h1 := hg.block g hB.lt (h.not_bk hB hte)
  unfold Bk at hB ⊢
  rw [h1]; exact hB
theorem GB.set (h : GB enc k e w b v L) (hB : Bk w g t cs) (hte : t ≠ e) (i : Nat) (u : Value) : GB enc k e (w.setCell ⟨g, i, none⟩ u) b v L := ownsRow_setCell_other h (fun he => h.not_bk hB hte he.symm) u
end
def encS (s : List UInt8) : List Value := [.string (bs s)]
theorem rowI : RowT Tryz.prog encI 1 99 3 (.int .i64 0) 8 where
  ht := Tryz.underlying99
  inf := by kernel_rfl
  hzs := rfl
  k0 := by decide
  hk := fun _ => rfl
  h1 := fun x u hu => by
    simp [encI] at hu
    subst hu; rfl
  hb := by decide
theorem rowS : RowT Tryz.prog encS 1 22 9 (.string ByteArray.empty) 16 where
  ht := Tryz.underlying22
  inf := by kernel_rfl
  hzs := rfl
  k0 := by decide
  hk := fun _ => rfl
  h1 := fun x u hu => by
    simp [encS] at hu
    subst hu; rfl
  hb := by decide
/-- What a line says, where it lies: a block of its own, rows of its own. -/
def SB (w : World) (base sa : Nat) (s : Sd) : Prop := base ≤ sa ∧ s.nums.length ≤ 100 ∧ s.words.length ≤ 100 ∧ ∃ ny wy, Bk w sa 101 #[.int .i64 s.line, ny, wy] ∧ GB encI 1 3 w base ny s.nums ∧ GB encS 1 9 w base wy s.words
theorem SB.up {w w' : World} {base sa : Nat} {s : Sd} (h : SB w base sa s) (hb : Below w.heap.size w w') : SB w' base sa s := by
  obtain ⟨h0, h1, h2, ny, wy, hk, hn, hw⟩ := h
  exact ⟨h0, h1, h2, ny, wy, hk.up hb, hn.below hb, hw.below hb⟩
end Go.Proofs.YtelglcakekgdeaaGreatDoor
namespace Go.Proofs.YtelglcakekgdeaaGreatDoor
set_option linter.unusedVariables false
set_option linter.unusedSimpArgs false
open Go.RowKit Go.Joins

theorem str_new (w : World) (a : List UInt8) (t : TypeId) : GX encS 1 (w.alloc (.cells #[.string (bs a)] t)) (fun b => b = w.heap.size) (some ⟨w.heap.size, 0, none⟩) [a] := GX.one (enc := encS) (k := 1) (Bk.new w t #[.string (bs a)]) rfl
theorem int_new (w : World) (a : Int) (t : TypeId) : GX encI 1 (w.alloc (.cells #[.int .i64 a] t)) (fun b => b = w.heap.size) (some ⟨w.heap.size, 0, none⟩) [a] := GX.one (enc := encI) (k := 1) (Bk.new w t #[.int .i64 a]) rfl
set_option maxRecDepth 100000 in
set_option maxHeartbeats 4000000 in
theorem take_any (base sa : Nat) (s : Sd) (sg : UInt8) (r : List UInt8) (w : World) (E : EnvC w) (hb : base ≤ w.heap.size) (hS : SB w base sa s) (hl : r.length ≤ 100000) (hln : s.nums.length ≤ 50 ∧ s.words.length ≤ 50) (hsg : sg = 110 ∨ sg = 115 ∨ sg = 116 ∨ sg = 119) {z : Option Sd} (H : Hid (takeP s sg r = z)) :
    Calls Tryz.prog 78 #[.pointer (some ⟨sa, 0, none⟩), .int .u8 sg.toNat, .string (bs r)] w fun e w' => e = .returned (.bool z.isSome) ∧ Hid (∀ s', z = some s' → SB w' base sa s') ∧ Below base w w' := by
  have c0 : (ByteArray.mk #[]) = bs [] := rfl
  obtain ⟨line, N, W⟩ := s
  obtain ⟨hsa, hn1, hw1, ny, wy, hk, hgn, hgw⟩ := hS
  simp only at hn1 hw1 hk hgn hgw hln
  obtain ⟨hl1, hl2⟩ := hln
  have HE := hid E
  have HS0 := hid (And.intro hk (And.intro hgn hgw))
  have HBS := hid hsa
  have HBW := hid hb
  clear E hgn hgw hsa hb
  have words : ∀ (w : World), Bk w sa 101 #[.int .i64 line, ny, wy] → GB encI 1 3 w base ny N → GB encS 1 9 w base wy W → ∀ (y2 : Value) (w3 : World), GB encS 1 9 w3 base y2 (W ++ [r]) → w.grownBy w3 wy.ownBlock → SB (w3.setCell ⟨sa, 2, none⟩ y2) base sa ⟨line, N, W ++ [r]⟩ := fun w h1 h2 h3 y2 w3 h4 hg => by
    have k1 := h1.grown h3 (by decide) hg
    have g1 := h2.grown h3 (by decide) hg
    exact ⟨HBS.out, hn1, by simp; omega, ny, y2, k1.set_ 2 y2, g1.set k1 (by decide) 2 y2, h4.set k1 (by decide) 2 y2⟩
  have numbers : ∀ (w : World) (n : Int), Bk w sa 101 #[.int .i64 line, ny, wy] → GB encI 1 3 w base ny N → GB encS 1 9 w base wy W → ∀ (y2 : Value) (w3 : World), GB encI 1 3 w3 base y2 (N ++ [n]) → w.grownBy w3 ny.ownBlock → SB (w3.setCell ⟨sa, 1, none⟩ y2) base sa ⟨line, N ++ [n], W⟩ := fun w n h1 h2 h3 y2 w3 h4 hg => by
    have k1 := h1.grown h2 (by decide) hg
    have g1 := h3.grown h2 (by decide) hg
    exact ⟨HBS.out, by simp; omega, hw1, y2, wy, k1.set_ 1 y2, h4.set k1 (by decide) 1 y2, g1.set k1 (by decide) 1 y2⟩
  have HWD := hid words
  have HNB := hid numbers
  clear words numbers
  by_cases h110 : sg = 110
  · subst h110
    obtain ⟨zn, hzn⟩ : ∃ z, numP r = z := ⟨_, rfl⟩
    have HN := hid (number_any r w HE.out hl (hid hzn))
    have HZ := hid (show z = zn.map (fun n => (⟨line, N ++ [n], W⟩ : Sd)) by rw [← H.out, ← hzn, takeP, if_pos rfl]; cases numP r <;> rfl)
    clear hzn H hsg
    obtain ⟨n, hn⟩ : ∃ n, zn.getD 0 = n := ⟨_, rfl⟩
    rw [hn] at HN
    go_enter Tryz.func78, Tryz.ntmps78
    go_wp2_with fail
    refine HN.out.mono ?_
    rintro e w1 ⟨rfl, hb1⟩
    have hb2 := enew w1 (.cells #[.int .i64 n] 3)
    have hb3 := estep hb1 hb2
    have HB1 := hid hb1
    have HB3 := hid hb3
    have HK := hid (And.intro (hk.up hb3) (And.intro (HS0.out.2.1.below hb3) (HS0.out.2.2.below hb3)))
    have HX := hid (int_new w1 n 3)
    have q1 := Bk.cell (hk.up hb1) 1
    simp at q1
    clear hb1 hb2 hb3
    go_wp2_with (at_builtin; refine wpList_append_gx (W0 := w) rowI rfl _ _ rfl base ny N [n] (some ⟨w1.heap.size, 0, none⟩) 1 _ rfl HK.out.2.1 rfl HX.out (fun h => by cases h) (by simp; omega) (HB3.out.mono HBW.out) HBW.out ?_)
    intro y2 w3 hown hbel hg
    obtain ⟨A2, c2, rfl, -⟩ := GB.reads (enc := encI) (k := 1) (fun _ => rfl) hown
    have k3 := Bk.grown HK.out.1 HK.out.2.1 (by decide) hg
    have hR := HNB.out _ n HK.out.1 HK.out.2.1 HK.out.2.2 _ w3 hown hg
    rw [List.length_append] at hR
    have HR := hid hR
    clear hR
    have HBL := hid hbel
    have p1 := Bk.cell k3 1
    have f1 := Bk.frozen k3 1
    simp at p1
    clear hown hbel hg k3 q1
    go_wp2_with fail
    go_returns
    refine ⟨?_, hid (fun s' hs' => ?_), Below.setCell HBL.out HBS.out _⟩
    · rw [HZ.out]; cases zn <;> rfl
    · rw [HZ.out] at hs'
      cases zn with
      | none => cases hs'
      | some m =>
        simp at hn
        subst hn
        injection hs' with hs'
        rw [← hs']
        exact HR.out
  have HZ0 := hid (show z = if sg = 115 ∧ r = [] then none else some ⟨line, N, W ++ [r]⟩ by rw [← H.out, takeP, if_neg h110])
  have hb2 := enew w (.cells #[.string (bs r)] 9)
  have HB3 := hid hb2
  have HK := hid (And.intro (hk.up hb2) (And.intro (HS0.out.2.1.below hb2) (HS0.out.2.2.below hb2)))
  have HX := hid (str_new w r 9)
  have q1 := Bk.cell hk 2
  simp at q1
  clear hb2 H
  rcases hsg with rfl | rfl | rfl | rfl
  · exact absurd rfl h110
  · by_cases he : r = []
    · have HZ := hid (show z = none by rw [HZ0.out, if_pos ⟨rfl, he⟩])
      subst he
      go_enter Tryz.func78, Tryz.ntmps78
      go_wp2_with fail
      go_returns
      exact ⟨by rw [HZ.out]; rfl, hid (fun s' hs' => by rw [HZ.out] at hs'; cases hs'), Below.refl _ _⟩
    · have HZ := hid (show z = some ⟨line, N, W ++ [r]⟩ by rw [HZ0.out, if_neg (fun h => he h.2)])
      have hrd : r.isEmpty = false := by cases r with
        | nil => exact absurd rfl he
        | cons => rfl
      have hrq : (r == []) = false := by cases r with
        | nil => exact absurd rfl he
        | cons => rfl
      clear he HZ0 h110
      go_enter Tryz.func78, Tryz.ntmps78
      go_wp2_with (at_builtin; refine wpList_append_gx (W0 := w) rowS rfl _ _ rfl base wy W [r] (some ⟨w.heap.size, 0, none⟩) 1 _ rfl HK.out.2.2 rfl HX.out (fun h => by cases h) (by simp; omega) (HB3.out.mono HBW.out) HBW.out ?_)
      intro y2 w3 hown hbel hg
      obtain ⟨A2, c2, rfl, -⟩ := GB.reads (enc := encS) (k := 1) (fun _ => rfl) hown
      have k3 := Bk.grown HK.out.1 HK.out.2.2 (by decide) hg
      have hR := HWD.out _ HK.out.1 HK.out.2.1 HK.out.2.2 _ w3 hown hg
      rw [List.length_append] at hR
      have HR := hid hR
      clear hR
      have HBL := hid hbel
      have p1 := Bk.cell k3 2
      have f1 := Bk.frozen k3 2
      simp at p1
      clear hown hbel hg k3 q1
      go_wp2_with fail
      go_returns
      refine ⟨by rw [HZ.out]; rfl, hid (fun s' hs' => ?_), Below.setCell HBL.out HBS.out _⟩
      rw [HZ.out] at hs'
      injection hs' with hs'
      rw [← hs']
      exact HR.out
  · have HZ := hid (show z = some ⟨line, N, W ++ [r]⟩ by rw [HZ0.out, if_neg (fun h => by cases h.1)])
    clear HZ0 h110
    go_enter Tryz.func78, Tryz.ntmps78
    go_wp2_with (at_builtin; refine wpList_append_gx (W0 := w) rowS rfl _ _ rfl base wy W [r] (some ⟨w.heap.size, 0, none⟩) 1 _ rfl HK.out.2.2 rfl HX.out (fun h => by cases h) (by simp; omega) (HB3.out.mono HBW.out) HBW.out ?_)
    intro y2 w3 hown hbel hg
    obtain ⟨A2, c2, rfl, -⟩ := GB.reads (enc := encS) (k := 1) (fun _ => rfl) hown
    have k3 := Bk.grown HK.out.1 HK.out.2.2 (by decide) hg
    have hR := HWD.out _ HK.out.1 HK.out.2.1 HK.out.2.2 _ w3 hown hg
    rw [List.length_append] at hR
    have HR := hid hR
    clear hR
    have HBL := hid hbel
    have p1 := Bk.cell k3 2
    have f1 := Bk.frozen k3 2
    simp at p1
    clear hown hbel hg k3 q1
    go_wp2_with fail
    go_returns
    refine ⟨by rw [HZ.out]; rfl, hid (fun s' hs' => ?_), Below.setCell HBL.out HBS.out _⟩
    rw [HZ.out] at hs'
    injection hs' with hs'
    rw [← hs']
    exact HR.out
  · have HZ := hid (show z = some ⟨line, N, W ++ [r]⟩ by rw [HZ0.out, if_neg (fun h => by cases h.1)])
    clear HZ0 h110
    go_enter Tryz.func78, Tryz.ntmps78
    go_wp2_with (at_builtin; refine wpList_append_gx (W0 := w) rowS rfl _ _ rfl base wy W [r] (some ⟨w.heap.size, 0, none⟩) 1 _ rfl HK.out.2.2 rfl HX.out (fun h => by cases h) (by simp; omega) (HB3.out.mono HBW.out) HBW.out ?_)
    intro y2 w3 hown hbel hg
    obtain ⟨A2, c2, rfl, -⟩ := GB.reads (enc := encS) (k := 1) (fun _ => rfl) hown
    have k3 := Bk.grown HK.out.1 HK.out.2.2 (by decide) hg
    have hR := HWD.out _ HK.out.1 HK.out.2.1 HK.out.2.2 _ w3 hown hg
    rw [List.length_append] at hR
    have HR := hid hR
    clear hR
    have HBL := hid hbel
    have p1 := Bk.cell k3 2
    have f1 := Bk.frozen k3 2
    simp at p1
    clear hown hbel hg k3 q1
    go_wp2_with fail
    go_returns
    refine ⟨by rw [HZ.out]; rfl, hid (fun s' hs' => ?_), Below.setCell HBL.out HBS.out _⟩
    rw [HZ.out] at hs'
    injection hs' with hs'
    rw [← hs']
    exact HR.out
end Go.Proofs.YtelglcakekgdeaaGreatDoor
namespace Go.Proofs.YtelglcakekgdeaaGreatDoor
set_option linter.unusedVariables false
set_option linter.unusedSimpArgs false
open Go.RowKit Go.Joins

theorem cutC_len (sep : List UInt8) : ∀ s : List UInt8, (cutS sep s).1.length ≤ s.length ∧ (cutS sep s).2.1.length ≤ s.length
  | [] => ⟨Nat.le_refl _, Nat.le_refl _⟩
  | b :: l => by
    have ih := cutC_len sep l
    rw [cutS]
    split
    · simp
    · simp; omega
/-- A variable that holds what a line says. -/
def BS (w : World) (g : Nat) (ln : Int) (ny wy : Value) : Prop := Bk w g 101 #[.int .i64 ln, ny, wy]
theorem BS.new (w : World) (ln : Int) (ny wy : Value) : BS (w.alloc (.cells #[.int .i64 ln, ny, wy] 101)) w.heap.size ln ny wy := Bk.new _ _ _
theorem BS.cells {w : World} {g : Nat} {ln : Int} {ny wy : Value} (k : BS w g ln ny wy) : w.cell? ⟨g, 0, none⟩ = some (.int .i64 ln) ∧ w.cell? ⟨g, 1, none⟩ = some ny ∧ w.cell? ⟨g, 2, none⟩ = some wy := ⟨Bk.cell k 0, Bk.cell k 1, Bk.cell k 2⟩
theorem BS.froz {w : World} {g : Nat} {ln : Int} {ny wy : Value} (k : BS w g ln ny wy) : w.frozen? ⟨g, 0, none⟩ = false ∧ w.frozen? ⟨g, 1, none⟩ = false ∧ w.frozen? ⟨g, 2, none⟩ = false := ⟨Bk.frozen k 0, Bk.frozen k 1, Bk.frozen k 2⟩
theorem BS.up {w w' : World} {g : Nat} {ln : Int} {ny wy : Value} (k : BS w g ln ny wy) (hb : Below w.heap.size w w') : BS w' g ln ny wy := Bk.up k hb
theorem BS.set3 {w : World} {g : Nat} {ln : Int} {ny wy : Value} (k : BS w g ln ny wy) (ln' : Int) (ny' wy' : Value) : BS (((w.setCell ⟨g, 0, none⟩ (.int .i64 ln')).setCell ⟨g, 1, none⟩ ny').setCell ⟨g, 2, none⟩ wy') g ln' ny' wy' := by
  have := ((Bk.set_ k 0 (.int .i64 ln')).set_ 1 ny').set_ 2 wy'
  exact this
theorem sbelow_set3 {B : Nat} {w w' : World} (h : Below B w w') (g : Nat) (hg : B ≤ g) (a b c : Value) : Below B w (((w'.setCell ⟨g, 0, none⟩ a).setCell ⟨g, 1, none⟩ b).setCell ⟨g, 2, none⟩ c) :=
  Below.setCell (Below.setCell (Below.setCell h hg _) hg _) hg _
theorem GB.set3 {α : Type} {enc : α → List Value} {k : Nat} {e : TypeId} {w : World} {b g : Nat} {v : Value} {L : List α} {ln : Int} {ny wy : Value} (h : GB enc k e w b v L) (hB : BS w g ln ny wy) (hte : 101 ≠ e) (ln' : Int) (ny' wy' : Value) : GB enc k e (((w.setCell ⟨g, 0, none⟩ (.int .i64 ln')).setCell ⟨g, 1, none⟩ ny').setCell ⟨g, 2, none⟩ wy') b v L :=
  ((h.set hB hte 0 _).set (Bk.set_ hB 0 _) hte 1 _).set ((Bk.set_ hB 0 _).set_ 1 _) hte 2 _
theorem frmB_signs : ∀ i : Fin 14, (frmB i.val).all (fun c => c == 110 || c == 115 || c == 116 || c == 119) = true := by decide +kernel
theorem frmB_sign {i : Nat} (hi : i < 14) {k : Nat} (hk : k < (frmB i).length) : (frmB i)[k] = 110 ∨ (frmB i)[k] = 115 ∨ (frmB i)[k] = 116 ∨ (frmB i)[k] = 119 := by
  have := List.all_eq_true.1 (frmB_signs ⟨i, hi⟩) _ (List.getElem_mem hk)
  simpa [or_assoc] using this
theorem cutP_len (sg : UInt8) (r : List UInt8) : (cutP sg r).1.length ≤ r.length ∧ (cutP sg r).2.1.length ≤ r.length := by
  unfold cutP
  split
  · simp
  · have := cutC_len [32] r
    omega
theorem takeP_len {s s' : Sd} {sg : UInt8} {r : List UInt8} (h : takeP s sg r = some s') : s'.nums.length ≤ s.nums.length + 1 ∧ s'.words.length ≤ s.words.length + 1 ∧ s'.line = s.line := by
  unfold takeP at h
  split at h
  · split at h
    · injection h with h; subst h; simp
    · cases h
  · split at h
    · cases h
    · injection h with h; subst h; simp
/-- What hear returns, and where what it says lies. -/
def HO (w w' : World) (ln : Int) (A1 : Option Addr) (n1 : Nat) (A2 : Option Addr) (n2 : Nat) (z : Option Sd) : Prop := ∀ s, z = some s → ln = (s.line : Int) ∧ n1 = s.nums.length ∧ n2 = s.words.length ∧ GX encI 1 w' (fun b => w.heap.size ≤ b ∧ b < w'.heap.size) A1 s.nums ∧ GX encS 1 w' (fun b => w.heap.size ≤ b ∧ b < w'.heap.size) A2 s.words
theorem HO.none (w w' : World) (ln : Int) (A1 : Option Addr) (n1 : Nat) (A2 : Option Addr) (n2 : Nat) : HO w w' ln A1 n1 A2 n2 none := fun s hs => by cases hs
/-- What hear returns. -/
def Heard (w : World) (z : Option Sd) (e : Ending) (w' : World) : Prop := ∃ ln A1 n1 c1 A2 n2 c2, e = .returned (.tuple #[.agg #[.int .i64 ln, .slice A1 n1 c1, .slice A2 n2 c2], .bool z.isSome]) ∧ HO w w' ln A1 n1 A2 n2 z
theorem Heard.no (w w' : World) : Heard w none (.returned (.tuple #[.agg #[.int .i64 0, .slice none 0 0, .slice none 0 0], .bool false])) w' := ⟨0, none, 0, 0, none, 0, 0, rfl, HO.none _ _ _ _ _ _ _⟩
theorem GB.gx {α : Type} {enc : α → List Value} {k : Nat} (hk : ∀ x, (enc x).length = k) {e : TypeId} {w : World} {b : Nat} {A : Option Addr} {n c : Nat} {L : List α} (h : GB enc k e w b (.slice A n c) L) : n = L.length ∧ GX enc k w (fun x => b ≤ x ∧ x < w.heap.size) A L := by
  obtain ⟨A', c', e', h', -⟩ := GB.reads hk h
  injection e' with e1 e2 e3
  subst e1
  exact ⟨e2, h'⟩
theorem behP_no {s : Sd} {sg : UInt8} {t r : List UInt8} (h : takeP s sg (cutP sg r).1 = none) : behP (sg :: t) s r true = none := by simp [behP, h]
theorem behP_yes {s s' : Sd} {sg : UInt8} {t r : List UInt8} (h : takeP s sg (cutP sg r).1 = some s') : behP (sg :: t) s r true = behP t s' (cutP sg r).2.1 (cutP sg r).2.2 := by simp [behP, h]
theorem ixI_bounds {fs : List UInt8} {i : Nat} (h : lineIx fs = some i) : i < 14 := by
  unfold lineIx at h
  split at h
  · injection h with h; omega
  · cases h
set_option maxRecDepth 100000 in
set_option maxHeartbeats 8000000 in
theorem hear_any (l : List UInt8) (w : World) (E : EnvC w) (hl : l.length ≤ 100000) {z : Option Sd} (H : Hid (hearP l = z)) :
    Calls Tryz.prog 59 #[.string (bs l)] w fun e w' => Heard w z e w' ∧ Below w.heap.size w w' := by
  have hnot := enot
  have c1 : (ByteArray.mk #[32]) = bs [32] := rfl
  have c0 : (ByteArray.mk #[]) = bs [] := rfl
  have hb0 := enew w (.cells #[.int .i64 0, .slice none 0 0, .slice none 0 0] 101)
  have hr0 := BS.new w 0 (.slice none 0 0) (.slice none 0 0)
  have HE := hid (E.up hb0)
  have HE0 := hid E
  have HB := hid hb0
  have HL := hid (fun w2 (e : EnvC w2) => lib_cut l [32] (by simp) hl w2 e.1)
  have HZ := hid (show z = match lineIx (cutS [32] l).1 with
    | none => none
    | some i => match behP (frmB i) ⟨i, [], []⟩ (cutS [32] l).2.1 (cutS [32] l).2.2 with
      | some (s, false) => some s
      | _ => none by rw [← H.out]; rfl)
  have hcl := cutC_len [32] l
  generalize cutS [32] l = cc at *
  obtain ⟨fs, r0, m0⟩ := cc
  simp only at HZ hcl HL
  obtain ⟨hcl1, hcl2⟩ := hcl
  obtain ⟨ix, hix⟩ : ∃ ix, lineIx fs = ix := ⟨_, rfl⟩
  have HIX := hid hix
  have HLO := hid (fun w2 (f : Frm w2) => lineOf_any fs w2 f)
  rw [hix] at HLO HZ
  have hszg : w.heap.size ≤ w.heap.size := Nat.le_refl _
  clear E H hb0 hix
  go_enter Tryz.func59, Tryz.ntmps59
  go_upto_region 1 with (fail)
  generalize w.alloc (.cells #[.int .i64 0, .slice none 0 0, .slice none 0 0] 101) = v0 at *
  go_wp2_with fail
  refine (HL.out _ HE.out).mono ?_
  rintro e w1 ⟨rfl, hb1⟩
  have HE1 := hid (HE.out.up hb1)
  have HB1 := hid (estep HB.out hb1)
  have HR1 := hid (hr0.up hb1)
  clear hb1 HL hr0
  go_wp2_with fail
  refine (HLO.out _ HE1.out.2).mono ?_
  rintro e w2 ⟨rfl, rfl⟩
  have x1 := w1
  cases ix with
  | none =>
    have HZN := hid (show z = none from HZ.out)
    obtain ⟨r00, r01, r02⟩ := HR1.out.cells
    obtain ⟨f0, f1, f2⟩ := HR1.out.froz
    obtain ⟨a0, a1, a2⟩ := (HR1.out.set3 0 (.slice none 0 0) (.slice none 0 0)).cells
    have HA := hid (And.intro a0 (And.intro a1 a2))
    have HB2 := hid (sbelow_set3 HB1.out w.heap.size hszg (.int .i64 0) (.slice none 0 0) (.slice none 0 0))
    clear a0 a1 a2
    simp only [ixI]
    go_wp2_with fail
    (try simp only [Exit.inBlock, Exit.then])
    refine bodyPost_ret (v := .tuple #[.agg #[.int .i64 0, .slice none 0 0, .slice none 0 0], .bool false]) (by simp [results, Tryz.results59, go_sem, HA.out.1, HA.out.2.1, HA.out.2.2]; try rfl) rfl ?_
    rw [HZN.out]
    exact ⟨Heard.no _ _, HB2.out⟩
  | some i =>
    have hi14 := ixI_bounds HIX.out
    obtain ⟨sg, hsg⟩ : ∃ sg, frmB i = sg := ⟨_, rfl⟩
    have HSG := hid (fun (k : Nat) (hk : k < sg.length) => show sg[k] = 110 ∨ sg[k] = 115 ∨ sg[k] = 116 ∨ sg[k] = 119 by subst hsg; exact frmB_sign hi14 hk)
    have hsl : sg.length ≤ 2 := by rw [← hsg]; exact (frmW_len ⟨i, hi14⟩).2
    have HZ1 := hid (show z = match behP sg ⟨i, [], []⟩ r0 m0 with
      | some (s, false) => some s
      | _ => none by rw [HZ.out, ← hsg])
    have hi0 : (0 : Int) ≤ (i : Int) := by omega
    have hi1 : (i : Int) < 14 := by omega
    have hin : decide ((i : Int) = -1) = false := decide_eq_false (by omega)
    obtain ⟨-, fb⟩ := (HE1.out.up (enew w1 (.cells #[.int .i64 i, .slice none 0 0, .slice none 0 0] 101))).2 i hi14
    rw [hsg] at fb
    have hb2 := enew w1 (.cells #[.int .i64 i, .slice none 0 0, .slice none 0 0] 101)
    have hs0 : SB (w1.alloc (.cells #[.int .i64 i, .slice none 0 0, .slice none 0 0] 101)) w1.heap.size w1.heap.size ⟨i, [], []⟩ := ⟨Nat.le_refl _, by simp, by simp, _, _, Bk.new _ _ _, GB.nil _ _, GB.nil _ _⟩
    have HS0 := hid (And.intro hs0 (And.intro (HR1.out.up hb2) hb2))
    have HE2 := hid (HE1.out.up hb2)
    have hsz1 : w.heap.size < w1.heap.size := Bk.lt HR1.out
    have HSZ := hid hsz1
    clear HZ hb2 hs0 hsg hsz1 HIX HLO
    simp only [ixI]
    obtain ⟨n, hn⟩ : ∃ n, sg.length = n := ⟨_, rfl⟩
    have HNL := hid hn
    go_upto_region 8 with (fail)
    clear fb
    generalize w1.alloc (.cells #[.int .i64 i, .slice none 0 0, .slice none 0 0] 101) = v1 at *
    rw [hn] at hsl
    clear hn
    go_loopg [5, 6, 10, 11, 31] n (fun g1 vr vm vi vw vk wr => ∃ (k : Nat) (s : Sd) (r : List UInt8) (mo : Bool), vk = .int .i64 k ∧ k ≤ n ∧ n - k ≤ g1 ∧ vr = .string (bs r) ∧ vm = .bool mo ∧ r.length ≤ 100000 ∧ Hid ((behP (sg.drop k) s r mo = behP sg ⟨i, [], []⟩ r0 m0) ∧ SB wr w1.heap.size w1.heap.size s ∧ s.nums.length ≤ k ∧ s.words.length ≤ k ∧ Below w1.heap.size v1 wr))
    case atStart => exact ⟨0, ⟨i, [], []⟩, r0, m0, rfl, by omega, by omega, rfl, rfl, by omega, hid ⟨by rw [List.drop_zero], HS0.out.1, by simp, by simp, Below.refl _ _⟩⟩
    case round =>
      obtain ⟨k, s, r, mo, rfl, hkn, hgk, rfl, rfl, hrl, HW⟩ := hrel
      have HB3 := hid (HB1.out.trans ((HS0.out.2.2.mono (Nat.le_of_lt HSZ.out)).trans (HW.out.2.2.2.2.mono (Nat.le_of_lt HSZ.out))))
      have HR3 := hid (Bk.below HS0.out.2.1 HW.out.2.2.2.2 HSZ.out)
      by_cases hlt : k < n
      · have hkd : decide ((k : Int) < (n : Int)) = true := by simp; omega
        have hk0 : (0 : Int) ≤ (k : Int) := by omega
        have hk1 : (k : Int) < (n : Int) := by omega
        have hks : k < sg.length := by rw [HNL.out]; exact hlt
        have hk2 : (k : Int) < (sg.length : Int) := by omega
        have hc := UInt8.toNat_lt sg[k]
        have HDR := hid (show sg.drop k = sg[k] :: sg.drop (k + 1) from List.drop_eq_getElem_cons hks)
        have HSK := hid (HSG.out k hks)
        cases mo
        · have HZN := hid (show z = none by rw [HZ1.out, ← HW.out.1, HDR.out, behP, if_pos rfl])
          obtain ⟨r00, r01, r02⟩ := BS.cells HR3.out
          obtain ⟨f0, f1, f2⟩ := BS.froz HR3.out
          obtain ⟨a0, a1, a2⟩ := (BS.set3 HR3.out 0 (.slice none 0 0) (.slice none 0 0)).cells
          have HA := hid (And.intro a0 (And.intro a1 a2))
          have HB2 := hid (sbelow_set3 HB3.out w.heap.size hszg (.int .i64 0) (.slice none 0 0) (.slice none 0 0))
          clear a0 a1 a2
          go_wp2_with fail
          (try simp only [Exit.inBlock, Exit.then])
          refine bodyPost_ret (v := .tuple #[.agg #[.int .i64 0, .slice none 0 0, .slice none 0 0], .bool false]) (by simp [results, Tryz.results59, go_sem, HA.out.1, HA.out.2.1, HA.out.2.2]; try rfl) rfl ?_
          rw [HZN.out]
          exact ⟨Heard.no _ _, HB2.out⟩
        · have HCU := hid (fun w2 (e : EnvC w2) => ccut_any sg[k] r w2 e hrl HSK.out)
          have HCL := hid (cutP_len sg[k] r)
          have HE3 := hid (HE0.out.up HB3.out)
          obtain ⟨zt, hzt⟩ : ∃ zt, takeP s sg[k] (cutP sg[k] r).1 = zt := ⟨_, rfl⟩
          have HTK := hid (fun w2 (e : EnvC w2) (hS : SB w2 w1.heap.size w1.heap.size s) (hb : w1.heap.size ≤ w2.heap.size) => take_any w1.heap.size w1.heap.size s sg[k] (cutP sg[k] r).1 w2 e hb hS (by have := HCL.out.1; omega) ⟨by have := HW.out.2.2.1; omega, by have := HW.out.2.2.2.1; omega⟩ HSK.out (hid hzt))
          have HNO := hid (fun (h : zt = none) => show z = none by rw [HZ1.out, ← HW.out.1, HDR.out, behP_no (by rw [hzt]; exact h)])
          have HYES := hid (fun (s' : Sd) (h : zt = some s') => And.intro (show behP (sg.drop (k + 1)) s' (cutP sg[k] r).2.1 (cutP sg[k] r).2.2 = behP sg ⟨i, [], []⟩ r0 m0 by rw [← HW.out.1, HDR.out, behP_yes (by rw [hzt]; exact h)]) (takeP_len (by rw [hzt]; exact h)))
          clear hzt
          generalize cutP sg[k] r = cc at *
          obtain ⟨cw, cr, cm⟩ := cc
          simp only at HCU HCL HTK HYES
          go_wp2_with fail
          refine (HCU.out _ HE3.out).mono ?_
          rintro e w4 ⟨rfl, hb4⟩
          have HE4 := hid (HE3.out.up hb4)
          have hgt : w1.heap.size ≤ wr.heap.size := Nat.le_trans HS0.out.2.2.size HW.out.2.2.2.2.size
          have hs4 : wr.heap.size ≤ w4.heap.size := hb4.size
          have hg4 : w1.heap.size ≤ w4.heap.size := Nat.le_trans hgt hb4.size
          have HB4 := hid (estep HB3.out hb4)
          have HB4' := hid (HW.out.2.2.2.2.trans (hb4.mono hgt))
          have HS4 := hid (HW.out.2.1.up hb4)
          clear hb4 HCU
          go_wp2_with fail
          refine (HTK.out w4 HE4.out HS4.out hg4).mono ?_
          rintro e w5 ⟨rfl, HS5, hb5⟩
          have HB5 := hid (HB4'.out.trans hb5)
          have HB6 := hid (HB4.out.trans (hb5.mono (Nat.le_of_lt HSZ.out)))
          have HR5 := hid (Bk.below (HR3.out.up (Below.refl _ _)) (show Below w1.heap.size wr w5 from by
            have h1 := HB5.out
            have h2 := HW.out.2.2.2.2
            exact ⟨h1.os.trans h2.os.symm, h1.tape.trans h2.tape.symm, h1.output.trans h2.output.symm, Nat.le_trans hs4 hb5.size, fun j hj => (h1.block j hj).trans (h2.block j hj).symm⟩) HSZ.out)
          clear hb5 HTK hgt hg4 hs4
          cases zt with
          | none =>
            have HZN := hid (HNO.out rfl)
            obtain ⟨r00, r01, r02⟩ := BS.cells HR5.out
            obtain ⟨f0, f1, f2⟩ := BS.froz HR5.out
            obtain ⟨a0, a1, a2⟩ := (BS.set3 HR5.out 0 (.slice none 0 0) (.slice none 0 0)).cells
            have HA := hid (And.intro a0 (And.intro a1 a2))
            have HB2 := hid (sbelow_set3 HB6.out w.heap.size hszg (.int .i64 0) (.slice none 0 0) (.slice none 0 0))
            clear a0 a1 a2
            go_wp2_with fail
            (try simp only [Exit.inBlock, Exit.then])
            refine bodyPost_ret (v := .tuple #[.agg #[.int .i64 0, .slice none 0 0, .slice none 0 0], .bool false]) (by simp [results, Tryz.results59, go_sem, HA.out.1, HA.out.2.1, HA.out.2.2]; try rfl) rfl ?_
            rw [HZN.out]
            exact ⟨Heard.no _ _, HB2.out⟩
          | some s' =>
            have HY := hid (HYES.out s' rfl)
            have HS6 := hid (HS5.out s' rfl)
            go_wp2_with fail
            go_roundg (n - (k + 1))
            case measure => omega
            case rel => exact ⟨k + 1, s', cr, cm, by go_num, by omega, by omega, rfl, rfl, by have := HCL.out.2; omega, hid ⟨HY.out.1, HS6.out, by have := HY.out.2.1; have := HW.out.2.2.1; omega, by have := HY.out.2.2.1; have := HW.out.2.2.2.1; omega, HB5.out⟩⟩
      · obtain rfl : k = n := by omega
        have hkd : decide ((k : Int) < (k : Int)) = false := by simp
        have HZ2 := hid (show z = if mo = false then some s else none by
          have h := HW.out.1
          rw [List.drop_of_length_le (by rw [HNL.out]; exact Nat.le_refl _)] at h
          rw [HZ1.out, ← h]
          cases mo <;> rfl)
        obtain ⟨-, -, -, ny, wy, hk3, hgn, hgw⟩ := id HW.out.2.1
        obtain ⟨A1, c1', rfl, -⟩ := GB.reads (enc := encI) (k := 1) (fun _ => rfl) hgn
        obtain ⟨A2, c2', rfl, -⟩ := GB.reads (enc := encS) (k := 1) (fun _ => rfl) hgw
        obtain ⟨n1, hn1⟩ : ∃ x, s.nums.length = x := ⟨_, rfl⟩
        obtain ⟨n2, hn2⟩ : ∃ x, s.words.length = x := ⟨_, rfl⟩
        obtain ⟨ln, hln⟩ : ∃ x : Int, (s.line : Int) = x := ⟨_, rfl⟩
        have HNS := hid (And.intro hn1 (And.intro hn2 hln))
        rw [hn1] at hk3 hgn
        rw [hn2] at hk3 hgw
        rw [hln] at hk3
        clear hn1 hn2 hln
        obtain ⟨s00, s01, s02⟩ := BS.cells hk3
        obtain ⟨r00, r01, r02⟩ := BS.cells HR3.out
        obtain ⟨f0, f1, f2⟩ := BS.froz HR3.out
        obtain ⟨a0, a1, a2⟩ := (BS.set3 HR3.out ln (.slice A1 n1 c1') (.slice A2 n2 c2')).cells
        have HA := hid (And.intro a0 (And.intro a1 a2))
        have HB2 := hid (sbelow_set3 HB3.out w.heap.size hszg (.int .i64 ln) (.slice A1 n1 c1') (.slice A2 n2 c2'))
        have HG1 := hid (GB.set3 hgn HR3.out (by decide) ln (.slice A1 n1 c1') (.slice A2 n2 c2'))
        have HG2 := hid (GB.set3 hgw HR3.out (by decide) ln (.slice A1 n1 c1') (.slice A2 n2 c2'))
        clear a0 a1 a2 hk3 hgn hgw
        cases mo
        all_goals
          go_wp2_with fail
          (try simp only [Exit.inBlock, Exit.then])
          refine bodyPost_ret (v := .tuple #[.agg #[.int .i64 ln, .slice A1 n1 c1', .slice A2 n2 c2'], .bool z.isSome]) (by rw [HZ2.out]; simp [results, Tryz.results59, go_sem, HA.out.1, HA.out.2.1, HA.out.2.2]; try rfl) rfl ?_
          refine ⟨⟨ln, A1, n1, c1', A2, n2, c2', rfl, fun s9 hs9 => ?_⟩, HB2.out⟩
          rw [HZ2.out] at hs9
          first
            | (simp at hs9; done)
            | (have e9 : s = s9 := by simpa using hs9
               subst e9
               exact ⟨HNS.out.2.2.symm, HNS.out.1.symm, HNS.out.2.1.symm, (GB.gx (enc := encI) (fun _ => rfl) HG1.out).2.imp (fun b hb => ⟨Nat.le_trans (Nat.le_of_lt HSZ.out) hb.1, hb.2⟩), (GB.gx (enc := encS) (fun _ => rfl) HG2.out).2.imp (fun b hb => ⟨Nat.le_trans (Nat.le_of_lt HSZ.out) hb.1, hb.2⟩)⟩)
end Go.Proofs.YtelglcakekgdeaaGreatDoor
namespace Go.Proofs.YtelglcakekgdeaaGreatDoor
set_option linter.unusedVariables false
set_option linter.unusedSimpArgs false
open Go.RowKit Go.Joins

theorem gxS_cell {w : World} {N : Nat → Prop} {b o : Nat} {L : List (List UInt8)} (h : GX encS 1 w N (some ⟨b, o, none⟩) L) {i : Nat} (hi : i < L.length) : w.cell? ⟨b, o + i, none⟩ = some (.string (bs L[i])) := by
  obtain ⟨b', o', e, -, h2⟩ := h i hi
  injection e with e; injection e with e1 e2; subst e1; subst e2
  have := h2 0 (by omega)
  rw [Nat.mul_one, Nat.add_zero] at this
  exact this
theorem gxI_cell {w : World} {N : Nat → Prop} {b o : Nat} {L : List Int} (h : GX encI 1 w N (some ⟨b, o, none⟩) L) {i : Nat} (hi : i < L.length) : w.cell? ⟨b, o + i, none⟩ = some (.int .i64 L[i]) := by
  obtain ⟨b', o', e, -, h2⟩ := h i hi
  injection e with e; injection e with e1 e2; subst e1; subst e2
  have := h2 0 (by omega)
  rw [Nat.mul_one, Nat.add_zero] at this
  exact this
theorem cell_a3 {w : World} {p : Addr} {v : Value} (h : w.cell? p = some v) : ∀ o1 o2 o3, (((w.alloc o1).alloc o2).alloc o3).cell? p = some v := fun o1 o2 o3 =>
  ((((Below.refl w.heap.size w).alloc (Nat.le_refl _) o1).alloc (by simp) o2).alloc (by simp; omega) o3).cell (lt_of_cell h) |>.trans h
theorem below3 (w : World) (o1 o2 o3 : Obj) : Below w.heap.size w (((w.alloc o1).alloc o2).alloc o3) := (((Below.refl w.heap.size w).alloc (Nat.le_refl _) o1).alloc (by simp) o2).alloc (by simp; omega) o3
set_option maxRecDepth 100000 in
set_option maxHeartbeats 4000000 in
theorem predOf_6 (A1 : Option Addr) (n1 c1 b o c2 : Nat) (x y : List UInt8) (w : World) (h0 : w.cell? ⟨b, o, none⟩ = some (.string (bs x))) (h1 : w.cell? ⟨b, o + 1, none⟩ = some (.string (bs y))) :
    Calls Tryz.prog 88 #[.agg #[.int .i64 6, .slice A1 n1 c1, .slice (some ⟨b, o, none⟩) 2 c2]] w fun e w' => e = .returned (.agg #[.int .i64 5, .string (bs x), .string (bs y)]) ∧ Below w.heap.size w w' := by
  have c0 : (ByteArray.mk #[]) = bs [] := rfl
  have hbl := lt_of_cell h0
  simp only at hbl
  have q0 := cell_a3 h0
  have q1 := cell_a3 h1
  go_enter Tryz.func88, Tryz.ntmps88
  go_wp2_with fail
  go_region
  all_goals
    go_wp2_with fail
    go_returns
    exact ⟨rfl, by first | exact (below3 _ _ _ _).drew | exact below3 _ _ _ _⟩
set_option maxRecDepth 100000 in
set_option maxHeartbeats 4000000 in
theorem predOf_7 (A1 : Option Addr) (n1 c1 b o c2 : Nat) (x : List UInt8) (w : World) (h0 : w.cell? ⟨b, o, none⟩ = some (.string (bs x))) :
    Calls Tryz.prog 88 #[.agg #[.int .i64 7, .slice A1 n1 c1, .slice (some ⟨b, o, none⟩) 1 c2]] w fun e w' => e = .returned (.agg #[.int .i64 6, .string (bs x), .string (bs [])]) ∧ Below w.heap.size w w' := by
  have c0 : (ByteArray.mk #[]) = bs [] := rfl
  have hbl := lt_of_cell h0
  simp only at hbl
  have q0 := cell_a3 h0
  go_enter Tryz.func88, Tryz.ntmps88
  go_wp2_with fail
  go_returns
  exact ⟨rfl, by first | exact (below3 _ _ _ _).drew | exact below3 _ _ _ _⟩
set_option maxRecDepth 100000 in
set_option maxHeartbeats 4000000 in
theorem predOf_2 (A1 : Option Addr) (n1 c1 b o c2 : Nat) (x : List UInt8) (w : World) (h0 : w.cell? ⟨b, o, none⟩ = some (.string (bs x))) :
    Calls Tryz.prog 88 #[.agg #[.int .i64 2, .slice A1 n1 c1, .slice (some ⟨b, o, none⟩) 1 c2]] w fun e w' => e = .returned (.agg #[.int .i64 1, .string (bs []), .string (bs x)]) ∧ Below w.heap.size w w' := by
  have c0 : (ByteArray.mk #[]) = bs [] := rfl
  have hbl := lt_of_cell h0
  simp only at hbl
  have q0 := cell_a3 h0
  go_enter Tryz.func88, Tryz.ntmps88
  go_wp2_with fail
  go_returns
  exact ⟨rfl, by first | exact (below3 _ _ _ _).drew | exact below3 _ _ _ _⟩
set_option maxRecDepth 100000 in
set_option maxHeartbeats 4000000 in
theorem predOf_3 (A1 : Option Addr) (n1 c1 b o c2 : Nat) (x : List UInt8) (w : World) (h0 : w.cell? ⟨b, o, none⟩ = some (.string (bs x))) :
    Calls Tryz.prog 88 #[.agg #[.int .i64 3, .slice A1 n1 c1, .slice (some ⟨b, o, none⟩) 1 c2]] w fun e w' => e = .returned (.agg #[.int .i64 2, .string (bs []), .string (bs x)]) ∧ Below w.heap.size w w' := by
  have c0 : (ByteArray.mk #[]) = bs [] := rfl
  have hbl := lt_of_cell h0
  simp only at hbl
  have q0 := cell_a3 h0
  go_enter Tryz.func88, Tryz.ntmps88
  go_wp2_with fail
  go_returns
  exact ⟨rfl, by first | exact (below3 _ _ _ _).drew | exact below3 _ _ _ _⟩
set_option maxRecDepth 100000 in
set_option maxHeartbeats 4000000 in
theorem predOf_4 (A1 : Option Addr) (n1 c1 b o c2 : Nat) (x : List UInt8) (w : World) (h0 : w.cell? ⟨b, o, none⟩ = some (.string (bs x))) :
    Calls Tryz.prog 88 #[.agg #[.int .i64 4, .slice A1 n1 c1, .slice (some ⟨b, o, none⟩) 1 c2]] w fun e w' => e = .returned (.agg #[.int .i64 3, .string (bs []), .string (bs x)]) ∧ Below w.heap.size w w' := by
  have c0 : (ByteArray.mk #[]) = bs [] := rfl
  have hbl := lt_of_cell h0
  simp only at hbl
  have q0 := cell_a3 h0
  go_enter Tryz.func88, Tryz.ntmps88
  go_wp2_with fail
  go_returns
  exact ⟨rfl, by first | exact (below3 _ _ _ _).drew | exact below3 _ _ _ _⟩
set_option maxRecDepth 100000 in
set_option maxHeartbeats 4000000 in
theorem predOf_5 (A1 : Option Addr) (n1 c1 b o c2 : Nat) (x : List UInt8) (w : World) (h0 : w.cell? ⟨b, o, none⟩ = some (.string (bs x))) :
    Calls Tryz.prog 88 #[.agg #[.int .i64 5, .slice A1 n1 c1, .slice (some ⟨b, o, none⟩) 1 c2]] w fun e w' => e = .returned (.agg #[.int .i64 4, .string (bs []), .string (bs x)]) ∧ Below w.heap.size w w' := by
  have c0 : (ByteArray.mk #[]) = bs [] := rfl
  have hbl := lt_of_cell h0
  simp only at hbl
  have q0 := cell_a3 h0
  go_enter Tryz.func88, Tryz.ntmps88
  go_wp2_with fail
  go_returns
  exact ⟨rfl, by first | exact (below3 _ _ _ _).drew | exact below3 _ _ _ _⟩
/-- A predicate's line: what it says is of its kind. -/
theorem predOf_any (s : Sd) (A1 : Option Addr) (n1 c1 : Nat) (A2 : Option Addr) (n2 c2 : Nat) (w : World) {N : Nat → Prop} (hl : s.line ∈ [2, 3, 4, 5, 6, 7]) (hw : s.words.length = if s.line = 6 then 2 else 1) (hn2 : n2 = s.words.length) (hg : GX encS 1 w N A2 s.words) :
    Calls Tryz.prog 88 #[.agg #[.int .i64 s.line, .slice A1 n1 c1, .slice A2 n2 c2]] w fun e w' => e = .returned (.agg #[.int .i64 (predP s).k, .string (bs (predP s).n), .string (bs (predP s).v)]) ∧ Below w.heap.size w w' := by
  obtain ⟨line, nums, words⟩ := s
  simp only at hl hw hn2 hg
  subst hn2
  by_cases h6 : line = 6
  · subst h6
    rw [if_pos rfl] at hw
    match words, hw, hg with
    | [x, y], _, hg =>
      obtain ⟨b, o, rfl, -⟩ := hg 0 (by simp)
      exact predOf_6 A1 n1 c1 b o c2 x y w (gxS_cell hg (i := 0) (by simp)) (gxS_cell hg (i := 1) (by simp))
  · rw [if_neg h6] at hw
    match words, hw, hg with
    | [x], _, hg =>
      obtain ⟨b, o, rfl, -⟩ := hg 0 (by simp)
      have h0 := gxS_cell hg (i := 0) (by simp)
      simp only [List.mem_cons, List.mem_nil_iff, or_false] at hl
      rcases hl with rfl | rfl | rfl | rfl | rfl | rfl
      · exact predOf_2 A1 n1 c1 b o c2 x w h0
      · exact predOf_3 A1 n1 c1 b o c2 x w h0
      · exact predOf_4 A1 n1 c1 b o c2 x w h0
      · exact predOf_5 A1 n1 c1 b o c2 x w h0
      · exact absurd rfl h6
      · exact predOf_7 A1 n1 c1 b o c2 x w h0
end Go.Proofs.YtelglcakekgdeaaGreatDoor
