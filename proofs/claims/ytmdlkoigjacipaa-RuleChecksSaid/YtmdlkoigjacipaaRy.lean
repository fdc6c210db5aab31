import Derived.Test.YtmdlkoigjacipaaRx
namespace Go.Proofs.Ytmdlkoigjacipaa
set_option linter.unusedVariables false
set_option linter.unusedSimpArgs false
open Go.RowKit Go.Sort Go.Proofs
variable {P : Program} {α : Type} {enc : α → List Value} {k : Nat}

set_option maxHeartbeats 4000000 in
set_option maxRecDepth 1000000 in
theorem rotate_any (S : SortP P k) (F88 : P.funcs[88]? = some Try.f88) (e88 : ∀ args w, (callFunc 88 args).run P w = .ok (.enter 88 args) w)
    (F : P.funcs[85]? = some Try.f85) (hk : ∀ x, (enc x).length = k) (h1 : ∀ x, ∀ v ∈ enc x, v.oneCell' = true)
    (g o cap n a m b : Nat) (fv : Value) (pre X Y post : List α) (hX : 0 < X.length) (hY : 0 < Y.length) (ha : a = pre.length) (hm : m = pre.length + X.length) (hb : b = pre.length + X.length + Y.length) (hn : n = pre.length + X.length + Y.length + post.length) (hsz : n ≤ 1000000)
    (w : World) (hW : GW enc k w g o (pre ++ X ++ Y ++ post)) :
    Calls P 85 #[.slice (some ⟨g, o, none⟩) n cap, .int .i64 a, .int .i64 m, .int .i64 b, fv] w fun e w' => e = .returned (.tuple #[]) ∧ GW enc k w' g o (pre ++ Y ++ X ++ post) ∧ Onl g w w' := by
  have mixed := S.mixed; have t0 := S.t0; have a0 := S.a0; have z0 := S.z0; have v0 := S.v0; have t3 := S.t3; have a3 := S.a3; have z3 := S.z3; have v3 := S.v3; have t4 := S.t4; have a4 := S.a4; have z4 := S.z4; have v4 := S.v4; have t22 := S.t22; have a22 := S.a22; have z22 := S.z22; have v22 := S.v22; have t25 := S.t25; have a25 := S.a25; have z25 := S.z25; have v25 := S.v25; have aE := S.aE; have zE := S.zE
  have und := run_underlying S.t22
  have hi0 : (m : Int) - (a : Int) = ((X.length : Nat) : Int) := by omega
  have hj0 : (b : Int) - (m : Int) = ((Y.length : Nat) : Int) := by omega
  have hmn : m ≤ n := by omega
  have hbn : b ≤ n := by omega
  have ham : a ≤ m := by omega
  have hmb : m ≤ b := by omega
  have HSW := hid (fun (w2 : World) (a b c : Nat) (pre X M Y post : List α) (hXY : X.length = Y.length) (ha : a = pre.length) (hb : b = pre.length + X.length + M.length) (hc : c = X.length) (hn : n = pre.length + X.length + M.length + Y.length + post.length) (hW : GW enc k w2 g o (pre ++ X ++ M ++ Y ++ post)) => swapRange_any S F88 hk h1 g o cap n a b c fv pre X M Y post hXY ha hb hc hn hsz w2 hW)
  have H0 : Hid (0 < X.length ∧ 0 < Y.length ∧ m = pre.length + X.length ∧ n = pre.length + X.length + Y.length + post.length) := ⟨hX, hY, hm, hn⟩
  have HW : Hid (GW enc k w g o (pre ++ X ++ Y ++ post)) := hW
  clear hX hY ha hm hb hn hk h1 hW
  go_enter F, Try.ntmps85
  go_wp2_with fail
  go_loopg [10, 11] (X.length + Y.length) (fun g1 vi vj wr => ∃ (i j : Nat) (p U V q : List α), vi = .int .i64 i ∧ vj = .int .i64 j ∧ 0 < i ∧ 0 < j ∧ i ≤ m ∧ m + j ≤ n ∧ i + j ≤ g1 ∧ Hid (U.length = i ∧ V.length = j ∧ m = p.length + i ∧ n = m + j + q.length ∧ p ++ V ++ U ++ q = pre ++ Y ++ X ++ post ∧ GW enc k wr g o (p ++ U ++ V ++ q) ∧ Onl g w wr))
  case atStart =>
    obtain ⟨e1, e2, e3, e4⟩ := H0.out
    exact ⟨X.length, Y.length, pre, X, Y, post, rfl, rfl, e1, e2, by omega, by omega, by omega, ⟨rfl, rfl, e3, by omega, rfl, HW.out, Onl.refl _ _⟩⟩
  case round =>
    obtain ⟨i, j, p, U, V, q, rfl, rfl, hi, hj, him, hjn, hg1, HI⟩ := hrel
    rcases Nat.lt_trichotomy i j with hlt | rfl | hlt
    · have hne : ((i : Int) != (j : Int)) = true := by simp; omega
      have hgt : decide ((j : Int) < (i : Int)) = false := decide_eq_false (by omega)
      have hgt2 : ¬ (j : Int) < (i : Int) := by omega
      obtain ⟨f1, f2, f3, f4, f5, f6, f7⟩ := HI.out
      have c1 : (m : Int) - (i : Int) = ((m - i : Nat) : Int) := by omega
      have c2 : (m : Int) + (j : Int) - (i : Int) = ((m + j - i : Nat) : Int) := by omega
      have hV : V = V.take (j - i) ++ V.drop (j - i) := (List.take_append_drop _ _).symm
      have l1 : (V.take (j - i)).length = j - i := by simp; omega
      have l2 : (V.drop (j - i)).length = i := by simp; omega
      generalize V.take (j - i) = V1 at *
      generalize V.drop (j - i) = V2 at *
      subst hV
      have hc := HSW.out wr (m - i) (m + j - i) i p U V1 V2 q (by omega) (by omega) (by omega) (by omega) (by omega) (by simpa [List.append_assoc] using f6)
      rw [← c1, ← c2] at hc
      have HC := hid hc
      have HT := hid (show p ++ V1 ++ V2 ++ (U ++ q) = pre ++ Y ++ X ++ post by rw [← f5]; simp)
      have HL := hid (And.intro l1 (And.intro l2 (And.intro f3 (And.intro f1 f4))))
      clear hc c1 c2 f1 f2 f3 f4 f5 f6 l1 l2
      go_wp2_with fail
      refine HC.out.mono ?_
      rintro e w2 ⟨rfl, hg2, ho2⟩
      have H2 := hid (And.intro hg2 (f7.trans ho2))
      clear hg2 ho2 f7
      go_wp2_with fail
      go_roundg (i + (j - i))
      case measure => omega
      case rel =>
        obtain ⟨l1, l2, f3, f1, f4⟩ := HL.out
        exact ⟨i, j - i, p, V2, V1, U ++ q, rfl, by go_num, hi, by omega, him, by omega, by omega, ⟨l2, l1, f3, by simp; omega, HT.out, by simpa [List.append_assoc] using H2.out.1, H2.out.2⟩⟩
    · have hne : ((i : Int) != (i : Int)) = false := by simp
      obtain ⟨f1, f2, f3, f4, f5, f6, f7⟩ := HI.out
      have c1 : (m : Int) - (i : Int) = ((m - i : Nat) : Int) := by omega
      have hc := HSW.out wr (m - i) m i p U [] V q (by omega) (by omega) (by simp; omega) (by omega) (by simp; omega) (by simpa [List.append_assoc] using f6)
      rw [← c1] at hc
      have HC := hid hc
      have HT := hid f5
      clear hc c1 f1 f2 f3 f4 f5 f6
      go_wp2_with fail
      refine HC.out.mono ?_
      rintro e w2 ⟨rfl, hg2, ho2⟩
      have H2 := hid (And.intro hg2 (f7.trans ho2))
      clear hg2 ho2 f7
      go_wp2_with fail
      go_end0
      exact ⟨rfl, by rw [← HT.out]; simpa [List.append_assoc] using H2.out.1, H2.out.2⟩
    · have hne : ((i : Int) != (j : Int)) = true := by simp; omega
      have hgt : decide ((j : Int) < (i : Int)) = true := decide_eq_true (by omega)
      have hgt2 : (j : Int) < (i : Int) := by omega
      obtain ⟨f1, f2, f3, f4, f5, f6, f7⟩ := HI.out
      have c1 : (m : Int) - (i : Int) = ((m - i : Nat) : Int) := by omega
      have hU : U = U.take j ++ U.drop j := (List.take_append_drop _ _).symm
      have l1 : (U.take j).length = j := by simp; omega
      have l2 : (U.drop j).length = i - j := by simp; omega
      generalize U.take j = U1 at *
      generalize U.drop j = U2 at *
      subst hU
      have hc := HSW.out wr (m - i) m j p U1 U2 V q (by omega) (by omega) (by omega) (by omega) (by omega) (by simpa [List.append_assoc] using f6)
      rw [← c1] at hc
      have HC := hid hc
      have HT := hid (show (p ++ V) ++ U1 ++ U2 ++ q = pre ++ Y ++ X ++ post by rw [← f5]; simp)
      have HL := hid (And.intro l1 (And.intro l2 (And.intro f3 (And.intro f2 f4))))
      clear hc c1 f1 f2 f3 f4 f5 f6 l1 l2
      go_wp2_with fail
      refine HC.out.mono ?_
      rintro e w2 ⟨rfl, hg2, ho2⟩
      have H2 := hid (And.intro hg2 (f7.trans ho2))
      clear hg2 ho2 f7
      go_wp2_with fail
      go_roundg ((i - j) + j)
      case measure => omega
      case rel =>
        obtain ⟨l1, l2, f3, f2, f4⟩ := HL.out
        exact ⟨i - j, j, p ++ V, U2, U1, q, by go_num, rfl, by omega, hj, by omega, hjn, by omega, ⟨l2, l1, by simp; omega, by omega, HT.out, by simpa [List.append_assoc] using H2.out.1, H2.out.2⟩⟩
end Go.Proofs.Ytmdlkoigjacipaa
