import Derived.Test.YtmdlkoigjacipaaRw
namespace Go.Proofs.Ytmdlkoigjacipaa
set_option linter.unusedVariables false
set_option linter.unusedSimpArgs false
open Go.RowKit Go.Sort Go.Proofs
variable {P : Program} {α : Type} {enc : α → List Value} {k : Nat}

set_option maxHeartbeats 4000000 in
set_option maxRecDepth 1000000 in
theorem swapRange_any (S : SortP P k) (F : P.funcs[88]? = some Try.f88) (hk : ∀ x, (enc x).length = k) (h1 : ∀ x, ∀ v ∈ enc x, v.oneCell' = true)
    (g o cap n a b c : Nat) (fv : Value) (pre X M Y post : List α) (hXY : X.length = Y.length) (ha : a = pre.length) (hb : b = pre.length + X.length + M.length) (hc : c = X.length) (hn : n = pre.length + X.length + M.length + Y.length + post.length) (hsz : n ≤ 1000000)
    (w : World) (hW : GW enc k w g o (pre ++ X ++ M ++ Y ++ post)) :
    Calls P 88 #[.slice (some ⟨g, o, none⟩) n cap, .int .i64 a, .int .i64 b, .int .i64 c, fv] w fun e w' => e = .returned (.tuple #[]) ∧ GW enc k w' g o (pre ++ Y ++ M ++ X ++ post) ∧ Onl g w w' := by
  have mixed := S.mixed; have t0 := S.t0; have a0 := S.a0; have z0 := S.z0; have v0 := S.v0; have t3 := S.t3; have a3 := S.a3; have z3 := S.z3; have v3 := S.v3; have t4 := S.t4; have a4 := S.a4; have z4 := S.z4; have v4 := S.v4; have t22 := S.t22; have a22 := S.a22; have z22 := S.z22; have v22 := S.v22; have t25 := S.t25; have a25 := S.a25; have z25 := S.z25; have v25 := S.v25; have aE := S.aE; have zE := S.zE
  have und := run_underlying S.t22
  have H0 : Hid (X.length = Y.length ∧ a = pre.length ∧ b = pre.length + X.length + M.length ∧ c = X.length ∧ n = pre.length + X.length + M.length + Y.length + post.length) := ⟨hXY, ha, hb, hc, hn⟩
  have hbn : b + c ≤ n := by omega
  have han : a + c ≤ b := by omega
  have HK : Hid (∀ x, (enc x).length = k) := hk
  have H1 : Hid (∀ x, ∀ v ∈ enc x, v.oneCell' = true) := h1
  have HW : Hid (GW enc k w g o (pre ++ X ++ M ++ Y ++ post)) := hW
  clear hXY ha hb hc hn hk h1 hW
  go_enter F, Try.ntmps88
  go_wp2
  go_loopg [10] c (fun g1 vi wr => ∃ i : Nat, vi = .int .i64 i ∧ i ≤ c ∧ c - i ≤ g1 ∧ Hid (GW enc k wr g o (pre ++ Y.take i ++ X.drop i ++ M ++ X.take i ++ Y.drop i ++ post) ∧ Onl g w wr))
  case atStart => exact ⟨0, rfl, by omega, by omega, ⟨by simpa using HW.out, Onl.refl _ _⟩⟩
  case round =>
    obtain ⟨i, rfl, hic, hg1, HI⟩ := hrel
    by_cases hlt : i < c
    · obtain ⟨e1, e2, e3, e4, e5⟩ := H0.out
      have hx : i < X.length := by omega
      have hy : i < Y.length := by omega
      obtain ⟨x, hxx⟩ : ∃ x, X[i] = x := ⟨_, rfl⟩
      obtain ⟨y, hyy⟩ : ∃ y, Y[i] = y := ⟨_, rfl⟩
      have dX : X.drop i = x :: X.drop (i + 1) := by rw [← hxx]; exact List.drop_eq_getElem_cons hx
      have dY : Y.drop i = y :: Y.drop (i + 1) := by rw [← hyy]; exact List.drop_eq_getElem_cons hy
      have tX : X.take (i + 1) = X.take i ++ [x] := by rw [← hxx]; exact List.take_succ_eq_append_getElem hx
      have tY : Y.take (i + 1) = Y.take i ++ [y] := by rw [← hyy]; exact List.take_succ_eq_append_getElem hy
      have hC : pre ++ Y.take i ++ X.drop i ++ M ++ X.take i ++ Y.drop i ++ post = (pre ++ Y.take i) ++ x :: (X.drop (i + 1) ++ M ++ X.take i) ++ y :: (Y.drop (i + 1) ++ post) := by
        rw [dX, dY]; simp
      have hC2 : (pre ++ Y.take i) ++ y :: (X.drop (i + 1) ++ M ++ X.take i) ++ x :: (Y.drop (i + 1) ++ post) = pre ++ Y.take (i + 1) ++ X.drop (i + 1) ++ M ++ X.take (i + 1) ++ Y.drop (i + 1) ++ post := by
        rw [tX, tY]; simp
      have la : (pre ++ Y.take i).length = a + i := by simp; omega
      have lb : (pre ++ Y.take i).length + 1 + (X.drop (i + 1) ++ M ++ X.take i).length = b + i := by simp; omega
      have hG := HI.out.1
      rw [hC] at hG
      have hlen : ((pre ++ Y.take i) ++ x :: (X.drop (i + 1) ++ M ++ X.take i) ++ y :: (Y.drop (i + 1) ++ post)).length = n := by simp; omega
      have hgm := get_mid (pre ++ Y.take i) (X.drop (i + 1) ++ M ++ X.take i) (Y.drop (i + 1) ++ post) x y
      have hsm := swap_mid (pre ++ Y.take i) (X.drop (i + 1) ++ M ++ X.take i) (Y.drop (i + 1) ++ post) x y
      rw [lb, la] at hsm
      rw [lb, la] at hgm
      rw [hC2] at hsm
      generalize (pre ++ Y.take i) ++ x :: (X.drop (i + 1) ++ M ++ X.take i) ++ y :: (Y.drop (i + 1) ++ post) = C at *
      have hGd := hG.drew
      have la1 : Sem.run P (loadCellsFrom ⟨g, o + (a + i) * k, none⟩ 0 k #[]) wr.drew = .ok (enc x).toArray wr.drew := hGd.load HK.out hgm.1
      have lb1 : Sem.run P (loadCellsFrom ⟨g, o + (b + i) * k, none⟩ 0 k #[]) wr.drew = .ok (enc y).toArray wr.drew := hGd.load HK.out hgm.2
      have s1 : Sem.run P (storeCells ⟨g, o + (a + i) * k, none⟩ (enc y) 0) wr.drew = .ok () (wr.drew.setCells g (o + (a + i) * k) (enc y)) := hGd.store HK.out H1.out (by omega) y
      have hG1 := hGd.set_ HK.out (i := a + i) (by omega) y
      have s2 : Sem.run P (storeCells ⟨g, o + (b + i) * k, none⟩ (enc x) 0) (wr.drew.setCells g (o + (a + i) * k) (enc y)) = .ok () ((wr.drew.setCells g (o + (a + i) * k) (enc y)).setCells g (o + (b + i) * k) (enc x)) := hG1.store HK.out H1.out (by rw [List.length_set]; omega) x
      have hG2 := hG1.set_ HK.out (i := b + i) (by rw [List.length_set]; omega) x
      rw [hsm] at hG2
      have HG2 : Hid _ := hG2
      have hsX : (enc x).length = k := HK.out _
      have hsY : (enc y).length = k := HK.out _
      obtain ⟨cx, hcx⟩ : ∃ c, c = enc x := ⟨_, rfl⟩
      obtain ⟨cy, hcy⟩ : ∃ c, c = enc y := ⟨_, rfl⟩
      rw [← hcx] at la1 hsX s2
      rw [← hcy] at lb1 hsY s1 s2
      rw [← hcx, ← hcy] at HG2
      have q1 : (a : Int) + (i : Int) < (n : Int) := by omega
      have q2 : (b : Int) + (i : Int) < (n : Int) := by omega
      have q3 : (0 : Int) ≤ (a : Int) + (i : Int) := by omega
      have q4 : (0 : Int) ≤ (b : Int) + (i : Int) := by omega
      have q5 : ((a : Int) + (i : Int)).toNat = a + i := by omega
      have q6 : ((b : Int) + (i : Int)).toNat = b + i := by omega
      have hltz : (i : Int) < (c : Int) := by omega
      clear hC hC2 la lb dX dY tX tY hxx hyy hG hlen hgm hsm hGd hG1 hG2 hcx hcy e1 e2 e3 e4 e5 hx hy
      go_wp2_with fail
      go_big_region_o
      all_goals go_wp2
      go_roundg (c - (i + 1))
      case measure => omega
      case rel => exact ⟨i + 1, by go_num, by omega, by omega, ⟨HG2.out, ((HI.out.2.drew).sets _ _).sets _ _⟩⟩
    · have hltz : ¬ (i : Int) < (c : Int) := by omega
      obtain rfl : i = c := by omega
      have hfin : pre ++ Y.take i ++ X.drop i ++ M ++ X.take i ++ Y.drop i ++ post = pre ++ Y ++ M ++ X ++ post := by
        obtain ⟨e1, e2, e3, e4, e5⟩ := H0.out
        rw [List.take_of_length_le (l := Y) (by omega), List.drop_of_length_le (l := X) (by omega), List.take_of_length_le (l := X) (by omega), List.drop_of_length_le (l := Y) (by omega)]; simp
      have HF : Hid _ := hfin
      clear hfin
      go_wp2
      go_end0
      have hfw := HI.out.1
      rw [HF.out] at hfw
      exact ⟨rfl, by simpa [List.append_assoc] using hfw, HI.out.2⟩
end Go.Proofs.Ytmdlkoigjacipaa
