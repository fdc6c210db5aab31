/- Texts put together: Si Sj Ba Sk Bb Bc Bd Be Sl Bf Bg. -/
import Derived.Test.YtpfhmpblcmednaaE33
import Derived.Test.YtpfhmpblcmednaaE32
import Derived.Test.YtpfhmpblcmednaaE02
import Derived.BigRegion
import Derived.Deep.Cut
import Derived.Test.YtpfhmpblcmednaaE31
import Derived.Laws.StructEq
import Derived.Test.YtpfhmpblcmednaaE19
import Derived.Deep.RegionHeld3
import Derived.Deep.QuietTactic
import Derived.BigQuiet
namespace Go.Proofs.Ytpfhmpblcmednaa
set_option linter.unusedVariables false
set_option linter.unusedSimpArgs false
open Go.RowKit Go.Joins

def fxS (l : List UInt8) : Nat → Int → List Nat × Int
  | 0, _ => ([], 0)
  | k + 1, a => if (getS l a 8).2 ≠ 0 then ([], (getS l a 8).2) else if (fxS l k (a + 8)).2 ≠ 0 then ([], (fxS l k (a + 8)).2) else ((getS l a 8).1 :: (fxS l k (a + 8)).1, 0)
def cmf (acc : List Nat) (r : List Nat × Int) : List Nat × Int := if r.2 ≠ 0 then ([], r.2) else (acc ++ r.1, 0)
theorem cmf_nil (l : List UInt8) (k : Nat) (a : Int) : cmf [] (fxS l k a) = fxS l k a := by
  cases k with
  | zero => rfl
  | succ k =>
    by_cases h : (getS l a 8).2 = 0
    · by_cases h2 : (fxS l k (a + 8)).2 = 0
      · simp [cmf, fxS, h, h2]
      · simp [cmf, fxS, h, h2]
    · simp [cmf, fxS, h]
theorem fxS_err {l : List UInt8} {k : Nat} {a : Int} {n : Nat} {e : Int} (h : getS l a 8 = (n, e)) (he : e ≠ 0) : fxS l (k + 1) a = ([], e) := by rw [fxS, h, if_pos he]
theorem cmf_step {l : List UInt8} {k : Nat} {a : Int} {n : Nat} (acc : List Nat) (h : getS l a 8 = (n, 0)) : cmf acc (fxS l (k + 1) a) = cmf (acc ++ [n]) (fxS l k (a + 8)) := by
  rw [fxS, h]
  simp only [ne_eq, not_true_eq_false, if_false]
  unfold cmf
  by_cases h2 : (fxS l k (a + 8)).2 = 0
  · simp [h2]
  · simp [h2]
theorem srget_at (l : List UInt8) (a wd : Int) (w : World) (hs : l.length ≤ 140737488351232) (ha : a ≤ 9223372036854775807) {n : Nat} {e : Int} (H : Hid (getS l a wd = (n, e))) :
    Calls Try.prog 130 #[.string (bs l), .int .i64 a, .int .i64 wd] w fun r w' => r = .returned (.tuple #[.int .u64 n, .int .i64 e]) ∧ w = w' :=
  (rget_any (bs l) a wd w (by rw [bs_size]; unfold maxLen; omega) ha).mono fun r w' ⟨h1, h2⟩ => ⟨by rw [bs_data, H.out] at h1; exact h1, h2⟩
set_option maxHeartbeats 1600000 in
theorem fixed_any (l : List UInt8) (a : Nat) (w : World) (hs : l.length ≤ 140737488351232) (ha : a ≤ l.length) {L : List Nat} {e : Int} (H : Hid (fxS l 4 a = (L, e))) :
    Calls Try.prog 93 #[.string (bs l), .int .i64 a] w fun r w' => (∃ v, r = .returned (.tuple #[v, .int .i64 e]) ∧ NU w' w.heap.size v L) ∧ Below w.heap.size w w' := by
  go_enter Try.func93, Try.ntmps93
  go_wp2_with fail
  go_loopw [6, 7] (fun f i wr => ∃ (k : Nat) (acc : List Nat), k ≤ 4 ∧ Hid (acc.length = k ∧ cmf acc (fxS l (4 - k) ((a + 8 * k : Nat) : Int)) = (L, e) ∧ NU wr w.heap.size f acc ∧ Below w.heap.size w wr) ∧ i = .int .i64 k) (fun _ i _ => 4 - (intOf i).toNat)
  case atStart => exact ⟨0, [], by omega, hid ⟨rfl, by rw [cmf_nil]; exact H.out, NU.nil _ _, Below.refl _ _⟩, rfl⟩
  case round =>
    obtain ⟨k, acc, hk, HW, rfl⟩ := hrel
    by_cases hlt : k < 4
    · obtain ⟨n, er, hn⟩ : ∃ n er, getS l ((a + 8 * k : Nat) : Int) 8 = (n, er) := ⟨_, _, rfl⟩
      have HN := hid hn
      have hki : decide ((k : Int) < 4) = true := by simp; omega
      have h8 : IntKind.i64.wrap (8 * (k : Int)) = 8 * (k : Int) := IntWalk.i64_in _ (by omega)
      have hw8 : IntKind.i64.wrap ((a : Int) + 8 * (k : Int)) = ((a + 8 * k : Nat) : Int) := by rw [IntWalk.i64_in _ (by omega)]; omega
      have hra := fun w' => srget_at l ((a + 8 * k : Nat) : Int) 8 w' hs (by omega) HN
      have e8 : ((a + 8 * k : Nat) : Int) = (a : Int) + 8 * (k : Int) := by omega
      rw [e8] at hra
      by_cases he : er = 0
      · subst he
        have HS := hid (cmf_step (k := 4 - (k + 1)) acc hn)
        clear hn
        have hsz : ∀ o, Below w.heap.size w (wr.alloc o) := fun o => HW.out.2.2.2.alloc HW.out.2.2.2.size _
        have HZ := hid hsz
        clear hsz
        go_wp2_with fail
        refine (hra _).mono ?_
        rintro r w1 ⟨rfl, rfl⟩
        go_wp2_with (at_builtin; refine wpList_append_NU rfl _ _ rfl w.heap.size _ acc n wr.heap.size rfl (HW.out.2.2.1.below (sbelow_new _ _)) rfl (by simp) (by have := HW.out.1; omega) (HZ.out _) (Nat.le_refl _) ?_)
        intro v' w2 hown hb2
        have H2 := hid (And.intro hown hb2)
        clear hown hb2
        go_wp2_with fail
        go_roundw
        case rel =>
          refine ⟨k + 1, acc ++ [n], by omega, hid ⟨by rw [List.length_append, HW.out.1]; rfl, ?_, H2.out.1, H2.out.2⟩, by go_num⟩
          have h0 := HW.out.2.1
          rw [show 4 - k = 4 - (k + 1) + 1 by omega, HS.out] at h0
          rw [show ((a + 8 * (k + 1) : Nat) : Int) = ((a + 8 * k : Nat) : Int) + 8 by omega]
          exact h0
        case measure => simp [intOf]; omega
      · have HS := hid (fxS_err (k := 4 - (k + 1)) hn he)
        have hb : (er != 0) = true := by simpa using he
        have H0 := HW.out.2.1
        rw [show 4 - k = 4 - (k + 1) + 1 by omega, HS.out, cmf, if_pos he] at H0
        simp only [Prod.mk.injEq] at H0
        obtain ⟨rfl, rfl⟩ := H0
        clear hn he
        go_wp2_with fail
        refine (hra _).mono ?_
        rintro r w1 ⟨rfl, rfl⟩
        go_wp2_with fail
        go_returns
        exact ⟨⟨_, rfl, NU.nil _ _⟩, HW.out.2.2.2⟩
    · obtain rfl : k = 4 := by omega
      have H0 := HW.out.2.1
      rw [Nat.sub_self, fxS, cmf, if_neg (by simp)] at H0
      simp only [Prod.mk.injEq, List.append_nil] at H0
      obtain ⟨rfl, rfl⟩ := H0
      go_wp2_with fail
      go_returns
      exact ⟨⟨_, rfl, HW.out.2.2.1⟩, HW.out.2.2.2⟩
/-- The reader's parts, as the definition reads them. -/
theorem oct_get {l : List UInt8} {a b e : Int} {n : Nat} (h : octP l 8 a 0 = (n, b, e)) : getS l a 8 = (n, e) ∧ (e = 0 → b = a + 8) := by
  rw [octP, if_neg (by simp)] at h
  split at h
  · rename_i h0
    simp only [Prod.mk.injEq] at h
    obtain ⟨h1, h2, h3⟩ := h
    exact ⟨Prod.ext h1 (by rw [h0, ← h3]), fun _ => h2.symm⟩
  · rename_i h0
    simp only [Prod.mk.injEq] at h
    obtain ⟨h1, h2, h3⟩ := h
    exact ⟨Prod.ext h1 h3, fun he => absurd (h3.trans he) h0⟩
theorem num_numM {l : List UInt8} {a b e : Int} {n : Nat} (h : numP l a 0 = (n, b, e)) : (e = 0 → numM l a 1099511627776 = (n, b, 0)) ∧ (e ≠ 0 → numM l a 1099511627776 = (0, 0, e)) := by
  rw [numP, if_neg (by simp)] at h
  rw [numM]
  split at h
  · rename_i h0
    simp only [Prod.mk.injEq] at h
    obtain ⟨h1, h2, h3⟩ := h
    exact ⟨fun he => absurd (h3.trans he) h0, fun _ => by rw [if_pos h0, h3]⟩
  · rename_i h0
    split at h
    · rename_i h4
      simp only [Prod.mk.injEq] at h
      obtain ⟨h1, h2, h3⟩ := h
      exact ⟨fun he => absurd (h3.trans he) (by omega), fun _ => by rw [if_neg h0, if_pos h4, h3]⟩
    · rename_i h4
      simp only [Prod.mk.injEq] at h
      obtain ⟨h1, h2, h3⟩ := h
      exact ⟨fun _ => by rw [if_neg h0, if_neg h4, h1, h2], fun he => absurd h3.symm he⟩
end Go.Proofs.Ytpfhmpblcmednaa
namespace Go.Proofs.Ytpfhmpblcmednaa
set_option linter.unusedVariables false
set_option linter.unusedSimpArgs false
open Go.RowKit Go.Joins

theorem srvtake_at (l : List UInt8) (a m : Int) (w : World) (hs : l.length ≤ 140737488351232) (ha : a ≤ 9223372036854775807) (hm : m ≤ 9223372036854775807) {n : List UInt8} {b e : Int} (H : Hid (takeS l a m = (n, b, e))) :
    Calls Try.prog 94 #[.string (bs l), .int .i64 a, .int .i64 m] w fun r w' => r = .returned (.tuple #[.string (bs n), .int .i64 b, .int .i64 e]) ∧ w = w' :=
  (rvtake_any l a m w hs ha hm).mono fun r w' ⟨h1, h2⟩ => ⟨by rw [H.out] at h1; exact h1, h2⟩
theorem RB.up' {w v v' : World} {cs : Array Value} (h : RB w v cs) (hb : v = v') : RB w v' cs := hb ▸ h
theorem octP_eq {l : List UInt8} {a : Int} {n : Nat} {e : Int} (h : getS l a 8 = (n, e)) : octP l 8 a 0 = if e = 0 then (n, a + 8, 0) else (n, a, e) := by rw [octP, if_neg (by simp), h]
/-- The four numbers, as the definition reads them. -/
theorem fx_chain {l : List UInt8} {a a1 a2 a3 a4 e1 e2 e3 e4 : Int} {hi lo id up : Nat} (h1 : octP l 8 a 0 = (hi, a1, e1)) (h2 : octP l 8 a1 e1 = (lo, a2, e2)) (h3 : octP l 8 a2 e2 = (id, a3, e3)) (h4 : octP l 8 a3 e3 = (up, a4, e4)) :
    (e4 = 0 → fxS l 4 a = ([hi, lo, id, up], 0) ∧ a4 = a + 32) ∧ (e4 ≠ 0 → fxS l 4 a = ([], e4)) := by
  obtain ⟨g1, b1⟩ := oct_get h1
  by_cases c1 : e1 = 0
  · subst c1
    obtain rfl := b1 rfl
    obtain ⟨g2, b2⟩ := oct_get h2
    by_cases c2 : e2 = 0
    · subst c2
      obtain rfl := b2 rfl
      obtain ⟨g3, b3⟩ := oct_get h3
      by_cases c3 : e3 = 0
      · subst c3
        obtain rfl := b3 rfl
        obtain ⟨g4, b4⟩ := oct_get h4
        by_cases c4 : e4 = 0
        · subst c4
          obtain rfl := b4 rfl
          exact ⟨fun _ => ⟨by simp [fxS, g1, g2, g3, g4], by omega⟩, fun h => absurd rfl h⟩
        · exact ⟨fun h => absurd h c4, fun _ => by simp [fxS, g1, g2, g3, g4, c4]⟩
      · rw [octP_err c3] at h4
        simp only [Prod.mk.injEq] at h4
        obtain ⟨_, _, rfl⟩ := h4
        exact ⟨fun h => absurd h c3, fun _ => by simp [fxS, g1, g2, g3, c3]⟩
    · rw [octP_err c2] at h3
      simp only [Prod.mk.injEq] at h3
      obtain ⟨_, _, rfl⟩ := h3
      rw [octP_err c2] at h4
      simp only [Prod.mk.injEq] at h4
      obtain ⟨_, _, rfl⟩ := h4
      exact ⟨fun h => absurd h c2, fun _ => by simp [fxS, g1, g2, c2]⟩
  · rw [octP_err c1] at h2
    simp only [Prod.mk.injEq] at h2
    obtain ⟨_, _, rfl⟩ := h2
    rw [octP_err c1] at h3
    simp only [Prod.mk.injEq] at h3
    obtain ⟨_, _, rfl⟩ := h3
    rw [octP_err c1] at h4
    simp only [Prod.mk.injEq] at h4
    obtain ⟨_, _, rfl⟩ := h4
    exact ⟨fun h => absurd h c1, fun _ => by simp [fxS, g1, c1]⟩
theorem nam_take {l : List UInt8} {a b e : Int} {n : List UInt8} (h : namP l a 0 = (n, b, e)) : ∃ m c, takeS l a 32 = (m, c, e) ∧ (e = 0 → m = n ∧ c = b) := by
  rw [namP, if_neg (by simp)] at h
  obtain ⟨N, B, E, hv⟩ : ∃ N B E, takeS l a 32 = (N, B, E) := ⟨_, _, _, rfl⟩
  rw [hv] at h ⊢
  simp only at h
  split at h
  · rename_i h0
    simp only [Prod.mk.injEq] at h
    obtain ⟨h1, h2, h3⟩ := h
    exact ⟨N, B, by rw [h3], fun he => absurd (h3.trans he) h0⟩
  · rename_i h0
    simp only [Prod.mk.injEq] at h
    obtain ⟨h1, h2, h3⟩ := h
    refine ⟨N, B, ?_, fun _ => ⟨h1, h2⟩⟩
    rw [← h3]
    simp only [ne_eq, Decidable.not_not] at h0
    rw [h0]
theorem sm_one {l : List UInt8} {a b e : Int} {n : Nat} {k : Nat} (h : numP l a 0 = (n, b, e)) : (e ≠ 0 → smS l (k + 1) a = ([], 0, e)) ∧ (e = 0 → numM l a 1099511627776 = (n, b, 0)) := by
  obtain ⟨g1, g2⟩ := num_numM h
  exact ⟨fun he => smS_err (g2 he) he, g1⟩
theorem smS_cons {l : List UInt8} {a b : Int} {n k : Nat} (h : numM l a 1099511627776 = (n, b, 0)) : smS l (k + 1) a = if (smS l k b).2.2 ≠ 0 then ([], 0, (smS l k b).2.2) else (n :: (smS l k b).1, (smS l k b).2.1, 0) := by
  rw [smS, h]; simp only [ne_eq, not_true_eq_false, if_false]
theorem sm2_chain {l : List UInt8} {a a1 a2 e1 e2 : Int} {n m : Nat} (h1 : numP l a 0 = (n, a1, e1)) (h2 : numP l a1 e1 = (m, a2, e2)) : (e2 = 0 → smS l 2 a = ([n, m], a2, 0)) ∧ (e2 ≠ 0 → smS l 2 a = ([], 0, e2)) := by
  by_cases c1 : e1 = 0
  · subst c1
    have g1 := (sm_one (k := 0) h1).2 rfl
    by_cases c2 : e2 = 0
    · subst c2
      have g2 := (sm_one (k := 0) h2).2 rfl
      exact ⟨fun _ => by rw [smS_cons g1, smS_cons g2]; simp [smS], fun h => absurd rfl h⟩
    · have g2 := (sm_one (k := 0) h2).1 c2
      exact ⟨fun h => absurd h c2, fun _ => by rw [smS_cons g1, g2]; simp [c2]⟩
  · rw [numP_err c1] at h2
    simp only [Prod.mk.injEq] at h2
    obtain ⟨_, _, rfl⟩ := h2
    exact ⟨fun h => absurd h c1, fun _ => (sm_one h1).1 c1⟩
theorem sm3_chain {l : List UInt8} {a a1 a2 a3 e1 e2 e3 : Int} {n m q : Nat} (h1 : numP l a 0 = (n, a1, e1)) (h2 : numP l a1 e1 = (m, a2, e2)) (h3 : numP l a2 e2 = (q, a3, e3)) : (e3 = 0 → smS l 3 a = ([n, m, q], a3, 0)) ∧ (e3 ≠ 0 → smS l 3 a = ([], 0, e3)) := by
  by_cases c1 : e1 = 0
  · subst c1
    have g1 := (sm_one (k := 0) h1).2 rfl
    obtain ⟨p1, p2⟩ := sm2_chain h2 h3
    by_cases c3 : e3 = 0
    · exact ⟨fun _ => by rw [smS_cons g1, p1 c3]; simp, fun h => absurd c3 h⟩
    · exact ⟨fun h => absurd h c3, fun _ => by rw [smS_cons g1, p2 c3]; simp [c3]⟩
  · rw [numP_err c1] at h2
    simp only [Prod.mk.injEq] at h2
    obtain ⟨_, _, rfl⟩ := h2
    rw [numP_err c1] at h3
    simp only [Prod.mk.injEq] at h3
    obtain ⟨_, _, rfl⟩ := h3
    exact ⟨fun h => absurd h c1, fun _ => (sm_one h1).1 c1⟩
theorem sha_get {l : List UInt8} {a b e : Int} {z : Bool} (h : shaP l a 0 = (z, b, e)) (h0 : 0 ≤ a) (hl : a ≤ l.length) : (a = l.length → e = 5) ∧ (∀ hlt : a.toNat < l.length, (1 < l[a.toNat].toNat → e = 3) ∧ (¬ 1 < l[a.toNat].toNat → e = 0 ∧ b = a + 1 ∧ z = decide (l[a.toNat].toNat = 1))) := by
  refine ⟨fun hE => ?_, fun hlt => ?_⟩
  · have ho : octP l 1 a 0 = (0, a, 5) := by rw [octP, if_neg (by simp), getS_short (by omega) (by omega), if_neg (by simp)]
    rw [shaP, ho, if_neg (by simp)] at h
    simp only [Prod.mk.injEq] at h
    exact h.2.2.symm
  · have hd : (l.drop a.toNat).take (1 : Int).toNat = [l[a.toNat]] := by rw [List.drop_eq_getElem_cons hlt]; rfl
    have hg : getS l a 1 = (l[a.toNat].toNat, 0) := by
      rw [getS_ok (by omega) (by omega), hd]
      simp [val]
    have ho : octP l 1 a 0 = (l[a.toNat].toNat, a + 1, 0) := by rw [octP, if_neg (by simp), hg, if_pos rfl]
    rw [shaP, ho] at h
    simp only at h
    refine ⟨fun h1 => ?_, fun h1 => ?_⟩
    · rw [if_pos h1] at h; simp only [Prod.mk.injEq] at h; exact h.2.2.symm
    · rw [if_neg h1] at h
      simp only [Prod.mk.injEq] at h
      exact ⟨h.2.2.symm, h.2.1.symm, h.1.symm⟩
theorem numP_in {l : List UInt8} {a b e : Int} {n : Nat} (h : numP l a e = (n, b, e)) (h0 : 0 ≤ a ∧ a ≤ l.length) : 0 ≤ b ∧ b ≤ l.length := by
  obtain ⟨N, B, E, hv⟩ : ∃ N B E, vgetS l a = (N, B, E) := ⟨_, _, _, rfl⟩
  have hp := vgetS_pos hv
  unfold numP at h
  rw [hv] at h
  simp only at h
  split at h
  · simp only [Prod.mk.injEq] at h; omega
  · split at h
    · simp only [Prod.mk.injEq] at h; omega
    · split at h
      · simp only [Prod.mk.injEq] at h; omega
      · simp only [Prod.mk.injEq] at h; omega
theorem keep9 {v : World} {gf gg gh : Nat} {q0 q1 q2 q3 q4 q5 q6 q7 q8 : Value} (h0 : v.cell? ⟨gf, 0, none⟩ = some q0) (h1 : v.cell? ⟨gf, 1, none⟩ = some q1) (h2 : v.cell? ⟨gf, 2, none⟩ = some q2) (h3 : v.cell? ⟨gf, 3, none⟩ = some q3) (h4 : v.cell? ⟨gg, 0, none⟩ = some q4) (h5 : v.cell? ⟨gg, 1, none⟩ = some q5) (h6 : v.cell? ⟨gg, 2, none⟩ = some q6) (h7 : v.cell? ⟨gh, 0, none⟩ = some q7) (h8 : v.cell? ⟨gh, 1, none⟩ = some q8) : v.drew.cell? ⟨gf, 0, none⟩ = some q0 ∧ v.drew.cell? ⟨gf, 1, none⟩ = some q1 ∧ v.drew.cell? ⟨gf, 2, none⟩ = some q2 ∧ v.drew.cell? ⟨gf, 3, none⟩ = some q3 ∧ v.drew.cell? ⟨gg, 0, none⟩ = some q4 ∧ v.drew.cell? ⟨gg, 1, none⟩ = some q5 ∧ v.drew.cell? ⟨gg, 2, none⟩ = some q6 ∧ v.drew.cell? ⟨gh, 0, none⟩ = some q7 ∧ v.drew.cell? ⟨gh, 1, none⟩ = some q8 := ⟨h0, h1, h2, h3, h4, h5, h6, h7, h8⟩
theorem keep9a {v : World} {gf gg gh : Nat} {q0 q1 q2 q3 q4 q5 q6 q7 q8 : Value} (h0 : v.cell? ⟨gf, 0, none⟩ = some q0) (h1 : v.cell? ⟨gf, 1, none⟩ = some q1) (h2 : v.cell? ⟨gf, 2, none⟩ = some q2) (h3 : v.cell? ⟨gf, 3, none⟩ = some q3) (h4 : v.cell? ⟨gg, 0, none⟩ = some q4) (h5 : v.cell? ⟨gg, 1, none⟩ = some q5) (h6 : v.cell? ⟨gg, 2, none⟩ = some q6) (h7 : v.cell? ⟨gh, 0, none⟩ = some q7) (h8 : v.cell? ⟨gh, 1, none⟩ = some q8) (o : Obj) : (v.alloc o).drew.cell? ⟨gf, 0, none⟩ = some q0 ∧ (v.alloc o).drew.cell? ⟨gf, 1, none⟩ = some q1 ∧ (v.alloc o).drew.cell? ⟨gf, 2, none⟩ = some q2 ∧ (v.alloc o).drew.cell? ⟨gf, 3, none⟩ = some q3 ∧ (v.alloc o).drew.cell? ⟨gg, 0, none⟩ = some q4 ∧ (v.alloc o).drew.cell? ⟨gg, 1, none⟩ = some q5 ∧ (v.alloc o).drew.cell? ⟨gg, 2, none⟩ = some q6 ∧ (v.alloc o).drew.cell? ⟨gh, 0, none⟩ = some q7 ∧ (v.alloc o).drew.cell? ⟨gh, 1, none⟩ = some q8 :=
  ⟨((sbelow_new v o).cell (p := ⟨gf, 0, none⟩) (lt_of_cell h0)).trans h0, ((sbelow_new v o).cell (p := ⟨gf, 1, none⟩) (lt_of_cell h1)).trans h1, ((sbelow_new v o).cell (p := ⟨gf, 2, none⟩) (lt_of_cell h2)).trans h2, ((sbelow_new v o).cell (p := ⟨gf, 3, none⟩) (lt_of_cell h3)).trans h3, ((sbelow_new v o).cell (p := ⟨gg, 0, none⟩) (lt_of_cell h4)).trans h4, ((sbelow_new v o).cell (p := ⟨gg, 1, none⟩) (lt_of_cell h5)).trans h5, ((sbelow_new v o).cell (p := ⟨gg, 2, none⟩) (lt_of_cell h6)).trans h6, ((sbelow_new v o).cell (p := ⟨gh, 0, none⟩) (lt_of_cell h7)).trans h7, ((sbelow_new v o).cell (p := ⟨gh, 1, none⟩) (lt_of_cell h8)).trans h8⟩
theorem readS_e4 {l : List UInt8} {a a1 a2 a3 a4 e1 e2 e3 e4 : Int} {hi : Nat} {lo : Nat} {id : Nat} {up : Nat} (h1 : octP l 8 a 0 = (hi, a1, e1)) (h2 : octP l 8 a1 e1 = (lo, a2, e2)) (h3 : octP l 8 a2 e2 = (id, a3, e3)) (h4 : octP l 8 a3 e3 = (up, a4, e4)) (he : e4 ≠ 0) : readS l a = (sp0, 0, e4) := by
  exact readS_err (runS_eq h1 h2 h3 h4 (namP_err he) (numP_err he) (numP_err he) (numP_err he) (shaP_err he) (numP_err he) (numP_err he)) he
theorem readS_e5 {l : List UInt8} {a a1 a2 a3 a4 a5 e1 e2 e3 e4 e5 : Int} {hi : Nat} {lo : Nat} {id : Nat} {up : Nat} {nm : List UInt8} (h1 : octP l 8 a 0 = (hi, a1, e1)) (h2 : octP l 8 a1 e1 = (lo, a2, e2)) (h3 : octP l 8 a2 e2 = (id, a3, e3)) (h4 : octP l 8 a3 e3 = (up, a4, e4)) (h5 : namP l a4 e4 = (nm, a5, e5)) (he : e5 ≠ 0) : readS l a = (sp0, 0, e5) := by
  exact readS_err (runS_eq h1 h2 h3 h4 h5 (numP_err he) (numP_err he) (numP_err he) (shaP_err he) (numP_err he) (numP_err he)) he
theorem readS_e8 {l : List UInt8} {a a1 a2 a3 a4 a5 a6 a7 a8 e1 e2 e3 e4 e5 e6 e7 e8 : Int} {hi : Nat} {lo : Nat} {id : Nat} {up : Nat} {nm : List UInt8} {st : Nat} {sq : Nat} {kd : Nat} (h1 : octP l 8 a 0 = (hi, a1, e1)) (h2 : octP l 8 a1 e1 = (lo, a2, e2)) (h3 : octP l 8 a2 e2 = (id, a3, e3)) (h4 : octP l 8 a3 e3 = (up, a4, e4)) (h5 : namP l a4 e4 = (nm, a5, e5)) (h6 : numP l a5 e5 = (st, a6, e6)) (h7 : numP l a6 e6 = (sq, a7, e7)) (h8 : numP l a7 e7 = (kd, a8, e8)) (he : e8 ≠ 0) : readS l a = (sp0, 0, e8) := by
  exact readS_err (runS_eq h1 h2 h3 h4 h5 h6 h7 h8 (shaP_err he) (numP_err he) (numP_err he)) he
theorem readS_e9 {l : List UInt8} {a a1 a2 a3 a4 a5 a6 a7 a8 a9 e1 e2 e3 e4 e5 e6 e7 e8 e9 : Int} {hi : Nat} {lo : Nat} {id : Nat} {up : Nat} {nm : List UInt8} {st : Nat} {sq : Nat} {kd : Nat} {sh : Bool} (h1 : octP l 8 a 0 = (hi, a1, e1)) (h2 : octP l 8 a1 e1 = (lo, a2, e2)) (h3 : octP l 8 a2 e2 = (id, a3, e3)) (h4 : octP l 8 a3 e3 = (up, a4, e4)) (h5 : namP l a4 e4 = (nm, a5, e5)) (h6 : numP l a5 e5 = (st, a6, e6)) (h7 : numP l a6 e6 = (sq, a7, e7)) (h8 : numP l a7 e7 = (kd, a8, e8)) (h9 : shaP l a8 e8 = (sh, a9, e9)) (he : e9 ≠ 0) : readS l a = (sp0, 0, e9) := by
  exact readS_err (runS_eq h1 h2 h3 h4 h5 h6 h7 h8 h9 (numP_err he) (numP_err he)) he
theorem readS_e11 {l : List UInt8} {a a1 a2 a3 a4 a5 a6 a7 a8 a9 a10 a11 e1 e2 e3 e4 e5 e6 e7 e8 e9 e10 e11 : Int} {hi : Nat} {lo : Nat} {id : Nat} {up : Nat} {nm : List UInt8} {st : Nat} {sq : Nat} {kd : Nat} {sh : Bool} {s0 : Nat} {s1 : Nat} (h1 : octP l 8 a 0 = (hi, a1, e1)) (h2 : octP l 8 a1 e1 = (lo, a2, e2)) (h3 : octP l 8 a2 e2 = (id, a3, e3)) (h4 : octP l 8 a3 e3 = (up, a4, e4)) (h5 : namP l a4 e4 = (nm, a5, e5)) (h6 : numP l a5 e5 = (st, a6, e6)) (h7 : numP l a6 e6 = (sq, a7, e7)) (h8 : numP l a7 e7 = (kd, a8, e8)) (h9 : shaP l a8 e8 = (sh, a9, e9)) (h10 : numP l a9 e9 = (s0, a10, e10)) (h11 : numP l a10 e10 = (s1, a11, e11)) (he : e11 ≠ 0) : readS l a = (sp0, 0, e11) := by
  exact readS_err (runS_eq h1 h2 h3 h4 h5 h6 h7 h8 h9 h10 h11 ) he
set_option maxRecDepth 100000 in
set_option maxHeartbeats 16000000 in
theorem rspread_any (l : List UInt8) (a : Int) (w : World) (hs : l.length ≤ 140737488351232) (ha : -9223372036854775808 ≤ a ∧ a ≤ 9223372036854775807) {s : Sp} {b e : Int} (H : Hid (readS l a = (s, b, e))) :
    Calls Try.prog 55 #[.string (bs l), .int .i64 a] w fun r w' => r = .returned (.tuple #[.agg (spA s), .int .i64 b, .int .i64 e]) ∧ Below w.heap.size w w' := by
  obtain ⟨ha1, ha2⟩ := ha
  have H0 := H.out
  clear H
  by_cases hneg : a < 0
  · have h1 := oct_neg (l := l) hneg
    rw [readS_err (runS_eq h1 (octP_err (by omega)) (octP_err (by omega)) (octP_err (by omega)) (namP_err (by omega)) (numP_err (by omega)) (numP_err (by omega)) (numP_err (by omega)) (shaP_err (by omega)) (numP_err (by omega)) (numP_err (by omega))) (by omega)] at H0
    simp only [Prod.mk.injEq] at H0
    obtain ⟨rfl, rfl, rfl⟩ := H0
    clear h1
    go_enter Try.func55, Try.ntmps55
    go_upto_region 1 with (fail)
    have eZ : (.cells #[.int .u64 0, .int .u64 0, .int .u64 0, .int .u64 0, .string (ByteArray.mk #[]), .int .i64 0, .int .i64 0, .int .i64 0, .bool false, .int .i64 0, .int .i64 0] 37 : Obj) = .cells zs 37 := rfl
    rw [eZ]
    clear eZ
    have t1 := RB.new w
    generalize w.alloc (.cells zs 37) = v0 at *
    have r0 : v0.cell? ⟨w.heap.size, 0, none⟩ = some (.int .u64 0) := (t1.cell 0).1
    have z0 : v0.frozen? ⟨w.heap.size, 0, none⟩ = false := (t1.cell 0).2
    have r1 : v0.cell? ⟨w.heap.size, 1, none⟩ = some (.int .u64 0) := (t1.cell 1).1
    have z1 : v0.frozen? ⟨w.heap.size, 1, none⟩ = false := (t1.cell 1).2
    have r2 : v0.cell? ⟨w.heap.size, 2, none⟩ = some (.int .u64 0) := (t1.cell 2).1
    have z2 : v0.frozen? ⟨w.heap.size, 2, none⟩ = false := (t1.cell 2).2
    have r3 : v0.cell? ⟨w.heap.size, 3, none⟩ = some (.int .u64 0) := (t1.cell 3).1
    have z3 : v0.frozen? ⟨w.heap.size, 3, none⟩ = false := (t1.cell 3).2
    have r4 : v0.cell? ⟨w.heap.size, 4, none⟩ = some (.string (bs [])) := (t1.cell 4).1
    have z4 : v0.frozen? ⟨w.heap.size, 4, none⟩ = false := (t1.cell 4).2
    have r5 : v0.cell? ⟨w.heap.size, 5, none⟩ = some (.int .i64 0) := (t1.cell 5).1
    have z5 : v0.frozen? ⟨w.heap.size, 5, none⟩ = false := (t1.cell 5).2
    have r6 : v0.cell? ⟨w.heap.size, 6, none⟩ = some (.int .i64 0) := (t1.cell 6).1
    have z6 : v0.frozen? ⟨w.heap.size, 6, none⟩ = false := (t1.cell 6).2
    have r7 : v0.cell? ⟨w.heap.size, 7, none⟩ = some (.int .i64 0) := (t1.cell 7).1
    have z7 : v0.frozen? ⟨w.heap.size, 7, none⟩ = false := (t1.cell 7).2
    have r8 : v0.cell? ⟨w.heap.size, 8, none⟩ = some (.bool false) := (t1.cell 8).1
    have z8 : v0.frozen? ⟨w.heap.size, 8, none⟩ = false := (t1.cell 8).2
    have r9 : v0.cell? ⟨w.heap.size, 9, none⟩ = some (.int .i64 0) := (t1.cell 9).1
    have z9 : v0.frozen? ⟨w.heap.size, 9, none⟩ = false := (t1.cell 9).2
    have r10 : v0.cell? ⟨w.heap.size, 10, none⟩ = some (.int .i64 0) := (t1.cell 10).1
    have z10 : v0.frozen? ⟨w.heap.size, 10, none⟩ = false := (t1.cell 10).2
    go_wp2_with fail
    have t9 := RB.fill t1 (.int .u64 0) (.int .u64 0) (.int .u64 0) (.int .u64 0) (.string (ByteArray.mk #[])) (.int .i64 0) (.int .i64 0) (.int .i64 0) (.bool false) (.int .i64 0) (.int .i64 0)
    clear r0 z0 r1 z1 r2 z2 r3 z3 r4 z4 r5 z5 r6 z6 r7 z7 r8 z8 r9 z9 r10 z10
    generalize (((((((((((v0.setCell ⟨w.heap.size, 0, none⟩ (.int .u64 0)).setCell ⟨w.heap.size, 1, none⟩ (.int .u64 0)).setCell ⟨w.heap.size, 2, none⟩ (.int .u64 0)).setCell ⟨w.heap.size, 3, none⟩ (.int .u64 0)).setCell ⟨w.heap.size, 4, none⟩ (.string (ByteArray.mk #[]))).setCell ⟨w.heap.size, 5, none⟩ (.int .i64 0)).setCell ⟨w.heap.size, 6, none⟩ (.int .i64 0)).setCell ⟨w.heap.size, 7, none⟩ (.int .i64 0)).setCell ⟨w.heap.size, 8, none⟩ (.bool false)).setCell ⟨w.heap.size, 9, none⟩ (.int .i64 0)).setCell ⟨w.heap.size, 10, none⟩ (.int .i64 0)) = v9 at *
    have r0 : v9.cell? ⟨w.heap.size, 0, none⟩ = some (.int .u64 0) := (t9.cell 0).1
    have r1 : v9.cell? ⟨w.heap.size, 1, none⟩ = some (.int .u64 0) := (t9.cell 1).1
    have r2 : v9.cell? ⟨w.heap.size, 2, none⟩ = some (.int .u64 0) := (t9.cell 2).1
    have r3 : v9.cell? ⟨w.heap.size, 3, none⟩ = some (.int .u64 0) := (t9.cell 3).1
    have r4 : v9.cell? ⟨w.heap.size, 4, none⟩ = some (.string (ByteArray.mk #[])) := (t9.cell 4).1
    have r5 : v9.cell? ⟨w.heap.size, 5, none⟩ = some (.int .i64 0) := (t9.cell 5).1
    have r6 : v9.cell? ⟨w.heap.size, 6, none⟩ = some (.int .i64 0) := (t9.cell 6).1
    have r7 : v9.cell? ⟨w.heap.size, 7, none⟩ = some (.int .i64 0) := (t9.cell 7).1
    have r8 : v9.cell? ⟨w.heap.size, 8, none⟩ = some (.bool false) := (t9.cell 8).1
    have r9 : v9.cell? ⟨w.heap.size, 9, none⟩ = some (.int .i64 0) := (t9.cell 9).1
    have r10 : v9.cell? ⟨w.heap.size, 10, none⟩ = some (.int .i64 0) := (t9.cell 10).1
    (try simp only [Exit.inBlock, Exit.then])
    refine bodyPost_ret (v := .tuple #[.agg #[.int .u64 0, .int .u64 0, .int .u64 0, .int .u64 0, .string (ByteArray.mk #[]), .int .i64 0, .int .i64 0, .int .i64 0, .bool false, .int .i64 0, .int .i64 0], .int .i64 0, .int .i64 2]) (by simp [results, Try.results55, go_sem, r0, r1, r2, r3, r4, r5, r6, r7, r8, r9, r10]; try rfl) rfl ?_
    exact ⟨rfl, t9.bel⟩
  obtain ⟨a, rfl⟩ := Int.eq_ofNat_of_zero_le (show 0 ≤ a by omega)
  by_cases hfar : l.length < a
  · have h1 : octP l 8 (a : Int) 0 = (0, (a : Int), 5) := by rw [octP, if_neg (by simp), getS_short (by omega) (by omega), if_neg (by simp)]
    rw [readS_err (runS_eq h1 (octP_err (by omega)) (octP_err (by omega)) (octP_err (by omega)) (namP_err (by omega)) (numP_err (by omega)) (numP_err (by omega)) (numP_err (by omega)) (shaP_err (by omega)) (numP_err (by omega)) (numP_err (by omega))) (by omega)] at H0
    simp only [Prod.mk.injEq] at H0
    obtain ⟨rfl, rfl, rfl⟩ := H0
    clear h1
    have hgt : (l.length : Int) < (a : Int) := by omega
    go_enter Try.func55, Try.ntmps55
    go_upto_region 1 with (fail)
    have eZ : (.cells #[.int .u64 0, .int .u64 0, .int .u64 0, .int .u64 0, .string (ByteArray.mk #[]), .int .i64 0, .int .i64 0, .int .i64 0, .bool false, .int .i64 0, .int .i64 0] 37 : Obj) = .cells zs 37 := rfl
    rw [eZ]
    clear eZ
    have t1 := RB.new w
    generalize w.alloc (.cells zs 37) = v0 at *
    have r0 : v0.cell? ⟨w.heap.size, 0, none⟩ = some (.int .u64 0) := (t1.cell 0).1
    have z0 : v0.frozen? ⟨w.heap.size, 0, none⟩ = false := (t1.cell 0).2
    have r1 : v0.cell? ⟨w.heap.size, 1, none⟩ = some (.int .u64 0) := (t1.cell 1).1
    have z1 : v0.frozen? ⟨w.heap.size, 1, none⟩ = false := (t1.cell 1).2
    have r2 : v0.cell? ⟨w.heap.size, 2, none⟩ = some (.int .u64 0) := (t1.cell 2).1
    have z2 : v0.frozen? ⟨w.heap.size, 2, none⟩ = false := (t1.cell 2).2
    have r3 : v0.cell? ⟨w.heap.size, 3, none⟩ = some (.int .u64 0) := (t1.cell 3).1
    have z3 : v0.frozen? ⟨w.heap.size, 3, none⟩ = false := (t1.cell 3).2
    have r4 : v0.cell? ⟨w.heap.size, 4, none⟩ = some (.string (bs [])) := (t1.cell 4).1
    have z4 : v0.frozen? ⟨w.heap.size, 4, none⟩ = false := (t1.cell 4).2
    have r5 : v0.cell? ⟨w.heap.size, 5, none⟩ = some (.int .i64 0) := (t1.cell 5).1
    have z5 : v0.frozen? ⟨w.heap.size, 5, none⟩ = false := (t1.cell 5).2
    have r6 : v0.cell? ⟨w.heap.size, 6, none⟩ = some (.int .i64 0) := (t1.cell 6).1
    have z6 : v0.frozen? ⟨w.heap.size, 6, none⟩ = false := (t1.cell 6).2
    have r7 : v0.cell? ⟨w.heap.size, 7, none⟩ = some (.int .i64 0) := (t1.cell 7).1
    have z7 : v0.frozen? ⟨w.heap.size, 7, none⟩ = false := (t1.cell 7).2
    have r8 : v0.cell? ⟨w.heap.size, 8, none⟩ = some (.bool false) := (t1.cell 8).1
    have z8 : v0.frozen? ⟨w.heap.size, 8, none⟩ = false := (t1.cell 8).2
    have r9 : v0.cell? ⟨w.heap.size, 9, none⟩ = some (.int .i64 0) := (t1.cell 9).1
    have z9 : v0.frozen? ⟨w.heap.size, 9, none⟩ = false := (t1.cell 9).2
    have r10 : v0.cell? ⟨w.heap.size, 10, none⟩ = some (.int .i64 0) := (t1.cell 10).1
    have z10 : v0.frozen? ⟨w.heap.size, 10, none⟩ = false := (t1.cell 10).2
    go_wp2_with fail
    have t9 := RB.fill t1 (.int .u64 0) (.int .u64 0) (.int .u64 0) (.int .u64 0) (.string (ByteArray.mk #[])) (.int .i64 0) (.int .i64 0) (.int .i64 0) (.bool false) (.int .i64 0) (.int .i64 0)
    clear r0 z0 r1 z1 r2 z2 r3 z3 r4 z4 r5 z5 r6 z6 r7 z7 r8 z8 r9 z9 r10 z10
    generalize (((((((((((v0.setCell ⟨w.heap.size, 0, none⟩ (.int .u64 0)).setCell ⟨w.heap.size, 1, none⟩ (.int .u64 0)).setCell ⟨w.heap.size, 2, none⟩ (.int .u64 0)).setCell ⟨w.heap.size, 3, none⟩ (.int .u64 0)).setCell ⟨w.heap.size, 4, none⟩ (.string (ByteArray.mk #[]))).setCell ⟨w.heap.size, 5, none⟩ (.int .i64 0)).setCell ⟨w.heap.size, 6, none⟩ (.int .i64 0)).setCell ⟨w.heap.size, 7, none⟩ (.int .i64 0)).setCell ⟨w.heap.size, 8, none⟩ (.bool false)).setCell ⟨w.heap.size, 9, none⟩ (.int .i64 0)).setCell ⟨w.heap.size, 10, none⟩ (.int .i64 0)) = v9 at *
    have r0 : v9.cell? ⟨w.heap.size, 0, none⟩ = some (.int .u64 0) := (t9.cell 0).1
    have r1 : v9.cell? ⟨w.heap.size, 1, none⟩ = some (.int .u64 0) := (t9.cell 1).1
    have r2 : v9.cell? ⟨w.heap.size, 2, none⟩ = some (.int .u64 0) := (t9.cell 2).1
    have r3 : v9.cell? ⟨w.heap.size, 3, none⟩ = some (.int .u64 0) := (t9.cell 3).1
    have r4 : v9.cell? ⟨w.heap.size, 4, none⟩ = some (.string (ByteArray.mk #[])) := (t9.cell 4).1
    have r5 : v9.cell? ⟨w.heap.size, 5, none⟩ = some (.int .i64 0) := (t9.cell 5).1
    have r6 : v9.cell? ⟨w.heap.size, 6, none⟩ = some (.int .i64 0) := (t9.cell 6).1
    have r7 : v9.cell? ⟨w.heap.size, 7, none⟩ = some (.int .i64 0) := (t9.cell 7).1
    have r8 : v9.cell? ⟨w.heap.size, 8, none⟩ = some (.bool false) := (t9.cell 8).1
    have r9 : v9.cell? ⟨w.heap.size, 9, none⟩ = some (.int .i64 0) := (t9.cell 9).1
    have r10 : v9.cell? ⟨w.heap.size, 10, none⟩ = some (.int .i64 0) := (t9.cell 10).1
    (try simp only [Exit.inBlock, Exit.then])
    refine bodyPost_ret (v := .tuple #[.agg #[.int .u64 0, .int .u64 0, .int .u64 0, .int .u64 0, .string (ByteArray.mk #[]), .int .i64 0, .int .i64 0, .int .i64 0, .bool false, .int .i64 0, .int .i64 0], .int .i64 0, .int .i64 5]) (by simp [results, Try.results55, go_sem, r0, r1, r2, r3, r4, r5, r6, r7, r8, r9, r10]; try rfl) rfl ?_
    exact ⟨rfl, t9.bel⟩
  have hal : a ≤ l.length := by omega
  obtain ⟨hi, a1, e1, h1⟩ : ∃ p q r, octP l 8 (a : Int) 0 = (p, q, r) := ⟨_, _, _, rfl⟩
  obtain ⟨lo, a2, e2, h2⟩ : ∃ p q r, octP l 8 a1 e1 = (p, q, r) := ⟨_, _, _, rfl⟩
  obtain ⟨id, a3, e3, h3⟩ : ∃ p q r, octP l 8 a2 e2 = (p, q, r) := ⟨_, _, _, rfl⟩
  obtain ⟨up, a4, e4, h4⟩ : ∃ p q r, octP l 8 a3 e3 = (p, q, r) := ⟨_, _, _, rfl⟩
  obtain ⟨nm, a5, e5, h5⟩ : ∃ p q r, namP l a4 e4 = (p, q, r) := ⟨_, _, _, rfl⟩
  obtain ⟨st, a6, e6, h6⟩ : ∃ p q r, numP l a5 e5 = (p, q, r) := ⟨_, _, _, rfl⟩
  obtain ⟨sq, a7, e7, h7⟩ : ∃ p q r, numP l a6 e6 = (p, q, r) := ⟨_, _, _, rfl⟩
  obtain ⟨kd, a8, e8, h8⟩ : ∃ p q r, numP l a7 e7 = (p, q, r) := ⟨_, _, _, rfl⟩
  obtain ⟨sh, a9, e9, h9⟩ : ∃ p q r, shaP l a8 e8 = (p, q, r) := ⟨_, _, _, rfl⟩
  obtain ⟨s0, a10, e10, h10⟩ : ∃ p q r, numP l a9 e9 = (p, q, r) := ⟨_, _, _, rfl⟩
  obtain ⟨s1, a11, e11, h11⟩ : ∃ p q r, numP l a10 e10 = (p, q, r) := ⟨_, _, _, rfl⟩
  obtain ⟨x0, x1⟩ := fx_chain h1 h2 h3 h4
  by_cases c4 : e4 = 0
  rotate_left
  · rw [readS_e4 h1 h2 h3 h4 c4] at H0
    simp only [Prod.mk.injEq] at H0
    obtain ⟨rfl, rfl, rfl⟩ := H0
    have HF := hid (x1 c4)
    have hb : (e4 != 0) = true := by simpa using c4
    clear h1 h2 h3 h4 h5 h6 h7 h8 h9 h10 h11 x0 x1 c4
    go_enter Try.func55, Try.ntmps55
    go_upto_region 1 with (fail)
    have eZ : (.cells #[.int .u64 0, .int .u64 0, .int .u64 0, .int .u64 0, .string (ByteArray.mk #[]), .int .i64 0, .int .i64 0, .int .i64 0, .bool false, .int .i64 0, .int .i64 0] 37 : Obj) = .cells zs 37 := rfl
    rw [eZ]
    clear eZ
    have t1 := RB.new w
    generalize w.alloc (.cells zs 37) = v0 at *
    go_upto_region 5 with (fail)
    go_wp2_with fail
    refine (fixed_any l a _ hs hal HF).mono ?_
    rintro r w1 ⟨⟨vf, rfl, hf⟩, hb1⟩
    have T1 := hid (t1.up hb1)
    have F1 := hid (NU.more hf t1.bel.size)
    clear hf hb1 t1
    have r0 : w1.cell? ⟨w.heap.size, 0, none⟩ = some (.int .u64 0) := (T1.out.cell 0).1
    have z0 : w1.frozen? ⟨w.heap.size, 0, none⟩ = false := (T1.out.cell 0).2
    have r1 : w1.cell? ⟨w.heap.size, 1, none⟩ = some (.int .u64 0) := (T1.out.cell 1).1
    have z1 : w1.frozen? ⟨w.heap.size, 1, none⟩ = false := (T1.out.cell 1).2
    have r2 : w1.cell? ⟨w.heap.size, 2, none⟩ = some (.int .u64 0) := (T1.out.cell 2).1
    have z2 : w1.frozen? ⟨w.heap.size, 2, none⟩ = false := (T1.out.cell 2).2
    have r3 : w1.cell? ⟨w.heap.size, 3, none⟩ = some (.int .u64 0) := (T1.out.cell 3).1
    have z3 : w1.frozen? ⟨w.heap.size, 3, none⟩ = false := (T1.out.cell 3).2
    have r4 : w1.cell? ⟨w.heap.size, 4, none⟩ = some (.string (bs [])) := (T1.out.cell 4).1
    have z4 : w1.frozen? ⟨w.heap.size, 4, none⟩ = false := (T1.out.cell 4).2
    have r5 : w1.cell? ⟨w.heap.size, 5, none⟩ = some (.int .i64 0) := (T1.out.cell 5).1
    have z5 : w1.frozen? ⟨w.heap.size, 5, none⟩ = false := (T1.out.cell 5).2
    have r6 : w1.cell? ⟨w.heap.size, 6, none⟩ = some (.int .i64 0) := (T1.out.cell 6).1
    have z6 : w1.frozen? ⟨w.heap.size, 6, none⟩ = false := (T1.out.cell 6).2
    have r7 : w1.cell? ⟨w.heap.size, 7, none⟩ = some (.int .i64 0) := (T1.out.cell 7).1
    have z7 : w1.frozen? ⟨w.heap.size, 7, none⟩ = false := (T1.out.cell 7).2
    have r8 : w1.cell? ⟨w.heap.size, 8, none⟩ = some (.bool false) := (T1.out.cell 8).1
    have z8 : w1.frozen? ⟨w.heap.size, 8, none⟩ = false := (T1.out.cell 8).2
    have r9 : w1.cell? ⟨w.heap.size, 9, none⟩ = some (.int .i64 0) := (T1.out.cell 9).1
    have z9 : w1.frozen? ⟨w.heap.size, 9, none⟩ = false := (T1.out.cell 9).2
    have r10 : w1.cell? ⟨w.heap.size, 10, none⟩ = some (.int .i64 0) := (T1.out.cell 10).1
    have z10 : w1.frozen? ⟨w.heap.size, 10, none⟩ = false := (T1.out.cell 10).2
    go_wp2_with fail
    have t9 := RB.fill T1.out (.int .u64 0) (.int .u64 0) (.int .u64 0) (.int .u64 0) (.string (ByteArray.mk #[])) (.int .i64 0) (.int .i64 0) (.int .i64 0) (.bool false) (.int .i64 0) (.int .i64 0)
    clear r0 z0 r1 z1 r2 z2 r3 z3 r4 z4 r5 z5 r6 z6 r7 z7 r8 z8 r9 z9 r10 z10
    generalize (((((((((((w1.setCell ⟨w.heap.size, 0, none⟩ (.int .u64 0)).setCell ⟨w.heap.size, 1, none⟩ (.int .u64 0)).setCell ⟨w.heap.size, 2, none⟩ (.int .u64 0)).setCell ⟨w.heap.size, 3, none⟩ (.int .u64 0)).setCell ⟨w.heap.size, 4, none⟩ (.string (ByteArray.mk #[]))).setCell ⟨w.heap.size, 5, none⟩ (.int .i64 0)).setCell ⟨w.heap.size, 6, none⟩ (.int .i64 0)).setCell ⟨w.heap.size, 7, none⟩ (.int .i64 0)).setCell ⟨w.heap.size, 8, none⟩ (.bool false)).setCell ⟨w.heap.size, 9, none⟩ (.int .i64 0)).setCell ⟨w.heap.size, 10, none⟩ (.int .i64 0)) = v9 at *
    have r0 : v9.cell? ⟨w.heap.size, 0, none⟩ = some (.int .u64 0) := (t9.cell 0).1
    have r1 : v9.cell? ⟨w.heap.size, 1, none⟩ = some (.int .u64 0) := (t9.cell 1).1
    have r2 : v9.cell? ⟨w.heap.size, 2, none⟩ = some (.int .u64 0) := (t9.cell 2).1
    have r3 : v9.cell? ⟨w.heap.size, 3, none⟩ = some (.int .u64 0) := (t9.cell 3).1
    have r4 : v9.cell? ⟨w.heap.size, 4, none⟩ = some (.string (ByteArray.mk #[])) := (t9.cell 4).1
    have r5 : v9.cell? ⟨w.heap.size, 5, none⟩ = some (.int .i64 0) := (t9.cell 5).1
    have r6 : v9.cell? ⟨w.heap.size, 6, none⟩ = some (.int .i64 0) := (t9.cell 6).1
    have r7 : v9.cell? ⟨w.heap.size, 7, none⟩ = some (.int .i64 0) := (t9.cell 7).1
    have r8 : v9.cell? ⟨w.heap.size, 8, none⟩ = some (.bool false) := (t9.cell 8).1
    have r9 : v9.cell? ⟨w.heap.size, 9, none⟩ = some (.int .i64 0) := (t9.cell 9).1
    have r10 : v9.cell? ⟨w.heap.size, 10, none⟩ = some (.int .i64 0) := (t9.cell 10).1
    (try simp only [Exit.inBlock, Exit.then])
    refine bodyPost_ret (v := .tuple #[.agg #[.int .u64 0, .int .u64 0, .int .u64 0, .int .u64 0, .string (ByteArray.mk #[]), .int .i64 0, .int .i64 0, .int .i64 0, .bool false, .int .i64 0, .int .i64 0], .int .i64 0, .int .i64 e4]) (by simp [results, Try.results55, go_sem, r0, r1, r2, r3, r4, r5, r6, r7, r8, r9, r10]; try rfl) rfl ?_
    exact ⟨rfl, t9.bel⟩
  subst c4
  obtain ⟨x2, rfl⟩ := x0 rfl
  have HF := hid x2
  clear x0 x1 x2
  obtain ⟨nm', b5, x3, x4⟩ := nam_take h5
  have HT := hid x3
  have hw32 : IntKind.i64.wrap ((a : Int) + 32) = (a : Int) + 32 := IntWalk.i64_in _ (by omega)
  by_cases c5 : e5 = 0
  rotate_left
  · rw [readS_e5 h1 h2 h3 h4 h5 c5] at H0
    simp only [Prod.mk.injEq] at H0
    obtain ⟨rfl, rfl, rfl⟩ := H0
    have hb : (e5 != 0) = true := by simpa using c5
    clear h1 h2 h3 h4 h5 h6 h7 h8 h9 h10 h11 x3 x4 c5
    go_enter Try.func55, Try.ntmps55
    go_upto_region 1 with (fail)
    have eZ : (.cells #[.int .u64 0, .int .u64 0, .int .u64 0, .int .u64 0, .string (ByteArray.mk #[]), .int .i64 0, .int .i64 0, .int .i64 0, .bool false, .int .i64 0, .int .i64 0] 37 : Obj) = .cells zs 37 := rfl
    rw [eZ]
    clear eZ
    have t1 := RB.new w
    generalize w.alloc (.cells zs 37) = v0 at *
    go_upto_region 5 with (fail)
    go_wp2_with fail
    refine (fixed_any l a _ hs hal HF).mono ?_
    rintro r w1 ⟨⟨vf, rfl, hf⟩, hb1⟩
    have T1 := hid (t1.up hb1)
    have F1 := hid (NU.more hf t1.bel.size)
    clear hf hb1 t1
    go_upto_region 8 with (fail)
    go_wp2_with fail
    refine (srvtake_at l _ 32 _ hs (by omega) (by omega) HT).mono ?_
    rintro r u1 ⟨rfl, rfl⟩
    have r0 : w1.cell? ⟨w.heap.size, 0, none⟩ = some (.int .u64 0) := (T1.out.cell 0).1
    have z0 : w1.frozen? ⟨w.heap.size, 0, none⟩ = false := (T1.out.cell 0).2
    have r1 : w1.cell? ⟨w.heap.size, 1, none⟩ = some (.int .u64 0) := (T1.out.cell 1).1
    have z1 : w1.frozen? ⟨w.heap.size, 1, none⟩ = false := (T1.out.cell 1).2
    have r2 : w1.cell? ⟨w.heap.size, 2, none⟩ = some (.int .u64 0) := (T1.out.cell 2).1
    have z2 : w1.frozen? ⟨w.heap.size, 2, none⟩ = false := (T1.out.cell 2).2
    have r3 : w1.cell? ⟨w.heap.size, 3, none⟩ = some (.int .u64 0) := (T1.out.cell 3).1
    have z3 : w1.frozen? ⟨w.heap.size, 3, none⟩ = false := (T1.out.cell 3).2
    have r4 : w1.cell? ⟨w.heap.size, 4, none⟩ = some (.string (bs [])) := (T1.out.cell 4).1
    have z4 : w1.frozen? ⟨w.heap.size, 4, none⟩ = false := (T1.out.cell 4).2
    have r5 : w1.cell? ⟨w.heap.size, 5, none⟩ = some (.int .i64 0) := (T1.out.cell 5).1
    have z5 : w1.frozen? ⟨w.heap.size, 5, none⟩ = false := (T1.out.cell 5).2
    have r6 : w1.cell? ⟨w.heap.size, 6, none⟩ = some (.int .i64 0) := (T1.out.cell 6).1
    have z6 : w1.frozen? ⟨w.heap.size, 6, none⟩ = false := (T1.out.cell 6).2
    have r7 : w1.cell? ⟨w.heap.size, 7, none⟩ = some (.int .i64 0) := (T1.out.cell 7).1
    have z7 : w1.frozen? ⟨w.heap.size, 7, none⟩ = false := (T1.out.cell 7).2
    have r8 : w1.cell? ⟨w.heap.size, 8, none⟩ = some (.bool false) := (T1.out.cell 8).1
    have z8 : w1.frozen? ⟨w.heap.size, 8, none⟩ = false := (T1.out.cell 8).2
    have r9 : w1.cell? ⟨w.heap.size, 9, none⟩ = some (.int .i64 0) := (T1.out.cell 9).1
    have z9 : w1.frozen? ⟨w.heap.size, 9, none⟩ = false := (T1.out.cell 9).2
    have r10 : w1.cell? ⟨w.heap.size, 10, none⟩ = some (.int .i64 0) := (T1.out.cell 10).1
    have z10 : w1.frozen? ⟨w.heap.size, 10, none⟩ = false := (T1.out.cell 10).2
    go_wp2_with fail
    have t9 := RB.fill T1.out (.int .u64 0) (.int .u64 0) (.int .u64 0) (.int .u64 0) (.string (ByteArray.mk #[])) (.int .i64 0) (.int .i64 0) (.int .i64 0) (.bool false) (.int .i64 0) (.int .i64 0)
    clear r0 z0 r1 z1 r2 z2 r3 z3 r4 z4 r5 z5 r6 z6 r7 z7 r8 z8 r9 z9 r10 z10
    generalize (((((((((((w1.setCell ⟨w.heap.size, 0, none⟩ (.int .u64 0)).setCell ⟨w.heap.size, 1, none⟩ (.int .u64 0)).setCell ⟨w.heap.size, 2, none⟩ (.int .u64 0)).setCell ⟨w.heap.size, 3, none⟩ (.int .u64 0)).setCell ⟨w.heap.size, 4, none⟩ (.string (ByteArray.mk #[]))).setCell ⟨w.heap.size, 5, none⟩ (.int .i64 0)).setCell ⟨w.heap.size, 6, none⟩ (.int .i64 0)).setCell ⟨w.heap.size, 7, none⟩ (.int .i64 0)).setCell ⟨w.heap.size, 8, none⟩ (.bool false)).setCell ⟨w.heap.size, 9, none⟩ (.int .i64 0)).setCell ⟨w.heap.size, 10, none⟩ (.int .i64 0)) = v9 at *
    have r0 : v9.cell? ⟨w.heap.size, 0, none⟩ = some (.int .u64 0) := (t9.cell 0).1
    have r1 : v9.cell? ⟨w.heap.size, 1, none⟩ = some (.int .u64 0) := (t9.cell 1).1
    have r2 : v9.cell? ⟨w.heap.size, 2, none⟩ = some (.int .u64 0) := (t9.cell 2).1
    have r3 : v9.cell? ⟨w.heap.size, 3, none⟩ = some (.int .u64 0) := (t9.cell 3).1
    have r4 : v9.cell? ⟨w.heap.size, 4, none⟩ = some (.string (ByteArray.mk #[])) := (t9.cell 4).1
    have r5 : v9.cell? ⟨w.heap.size, 5, none⟩ = some (.int .i64 0) := (t9.cell 5).1
    have r6 : v9.cell? ⟨w.heap.size, 6, none⟩ = some (.int .i64 0) := (t9.cell 6).1
    have r7 : v9.cell? ⟨w.heap.size, 7, none⟩ = some (.int .i64 0) := (t9.cell 7).1
    have r8 : v9.cell? ⟨w.heap.size, 8, none⟩ = some (.bool false) := (t9.cell 8).1
    have r9 : v9.cell? ⟨w.heap.size, 9, none⟩ = some (.int .i64 0) := (t9.cell 9).1
    have r10 : v9.cell? ⟨w.heap.size, 10, none⟩ = some (.int .i64 0) := (t9.cell 10).1
    (try simp only [Exit.inBlock, Exit.then])
    refine bodyPost_ret (v := .tuple #[.agg #[.int .u64 0, .int .u64 0, .int .u64 0, .int .u64 0, .string (ByteArray.mk #[]), .int .i64 0, .int .i64 0, .int .i64 0, .bool false, .int .i64 0, .int .i64 0], .int .i64 0, .int .i64 e5]) (by simp [results, Try.results55, go_sem, r0, r1, r2, r3, r4, r5, r6, r7, r8, r9, r10]; try rfl) rfl ?_
    exact ⟨rfl, t9.bel⟩
  subst c5
  obtain ⟨q1, q2⟩ := x4 rfl
  rw [q1, q2] at x3 HT
  clear q1 q2 x3 x4 nm' b5
  have hn5 := nam_back h5
  obtain ⟨y0, y1⟩ := sm3_chain h6 h7 h8
  by_cases c8 : e8 = 0
  rotate_left
  · rw [readS_e8 h1 h2 h3 h4 h5 h6 h7 h8 c8] at H0
    simp only [Prod.mk.injEq] at H0
    obtain ⟨rfl, rfl, rfl⟩ := H0
    have hsm3 : ∀ w, _ := fun w => small_any l a5 3 w hs (by omega) (by omega) (hid (y1 c8))
    have hb : (e8 != 0) = true := by simpa using c8
    clear h1 h2 h3 h4 h5 h6 h7 h8 h9 h10 h11 y0 y1 c8
    go_enter Try.func55, Try.ntmps55
    go_upto_region 1 with (fail)
    have eZ : (.cells #[.int .u64 0, .int .u64 0, .int .u64 0, .int .u64 0, .string (ByteArray.mk #[]), .int .i64 0, .int .i64 0, .int .i64 0, .bool false, .int .i64 0, .int .i64 0] 37 : Obj) = .cells zs 37 := rfl
    rw [eZ]
    clear eZ
    have t1 := RB.new w
    generalize w.alloc (.cells zs 37) = v0 at *
    go_upto_region 5 with (fail)
    go_wp2_with fail
    refine (fixed_any l a _ hs hal HF).mono ?_
    rintro r w1 ⟨⟨vf, rfl, hf⟩, hb1⟩
    have T1 := hid (t1.up hb1)
    have F1 := hid (NU.more hf t1.bel.size)
    clear hf hb1 t1
    go_upto_region 8 with (fail)
    go_wp2_with fail
    refine (srvtake_at l _ 32 _ hs (by omega) (by omega) HT).mono ?_
    rintro r u1 ⟨rfl, rfl⟩
    go_upto_region 11 with (fail)
    go_wp2_with fail
    refine (hsm3 _).mono ?_
    rintro r w2 ⟨⟨vg, rfl, hg⟩, hb2⟩
    have T2 := hid (T1.out.up hb2)
    have F2 := hid (F1.out.below hb2)
    have G2 := hid (NI.more hg T1.out.bel.size)
    clear hg hb2 T1 F1
    have r0 : w2.cell? ⟨w.heap.size, 0, none⟩ = some (.int .u64 0) := (T2.out.cell 0).1
    have z0 : w2.frozen? ⟨w.heap.size, 0, none⟩ = false := (T2.out.cell 0).2
    have r1 : w2.cell? ⟨w.heap.size, 1, none⟩ = some (.int .u64 0) := (T2.out.cell 1).1
    have z1 : w2.frozen? ⟨w.heap.size, 1, none⟩ = false := (T2.out.cell 1).2
    have r2 : w2.cell? ⟨w.heap.size, 2, none⟩ = some (.int .u64 0) := (T2.out.cell 2).1
    have z2 : w2.frozen? ⟨w.heap.size, 2, none⟩ = false := (T2.out.cell 2).2
    have r3 : w2.cell? ⟨w.heap.size, 3, none⟩ = some (.int .u64 0) := (T2.out.cell 3).1
    have z3 : w2.frozen? ⟨w.heap.size, 3, none⟩ = false := (T2.out.cell 3).2
    have r4 : w2.cell? ⟨w.heap.size, 4, none⟩ = some (.string (bs [])) := (T2.out.cell 4).1
    have z4 : w2.frozen? ⟨w.heap.size, 4, none⟩ = false := (T2.out.cell 4).2
    have r5 : w2.cell? ⟨w.heap.size, 5, none⟩ = some (.int .i64 0) := (T2.out.cell 5).1
    have z5 : w2.frozen? ⟨w.heap.size, 5, none⟩ = false := (T2.out.cell 5).2
    have r6 : w2.cell? ⟨w.heap.size, 6, none⟩ = some (.int .i64 0) := (T2.out.cell 6).1
    have z6 : w2.frozen? ⟨w.heap.size, 6, none⟩ = false := (T2.out.cell 6).2
    have r7 : w2.cell? ⟨w.heap.size, 7, none⟩ = some (.int .i64 0) := (T2.out.cell 7).1
    have z7 : w2.frozen? ⟨w.heap.size, 7, none⟩ = false := (T2.out.cell 7).2
    have r8 : w2.cell? ⟨w.heap.size, 8, none⟩ = some (.bool false) := (T2.out.cell 8).1
    have z8 : w2.frozen? ⟨w.heap.size, 8, none⟩ = false := (T2.out.cell 8).2
    have r9 : w2.cell? ⟨w.heap.size, 9, none⟩ = some (.int .i64 0) := (T2.out.cell 9).1
    have z9 : w2.frozen? ⟨w.heap.size, 9, none⟩ = false := (T2.out.cell 9).2
    have r10 : w2.cell? ⟨w.heap.size, 10, none⟩ = some (.int .i64 0) := (T2.out.cell 10).1
    have z10 : w2.frozen? ⟨w.heap.size, 10, none⟩ = false := (T2.out.cell 10).2
    go_wp2_with fail
    have t9 := RB.fill T2.out (.int .u64 0) (.int .u64 0) (.int .u64 0) (.int .u64 0) (.string (ByteArray.mk #[])) (.int .i64 0) (.int .i64 0) (.int .i64 0) (.bool false) (.int .i64 0) (.int .i64 0)
    clear r0 z0 r1 z1 r2 z2 r3 z3 r4 z4 r5 z5 r6 z6 r7 z7 r8 z8 r9 z9 r10 z10
    generalize (((((((((((w2.setCell ⟨w.heap.size, 0, none⟩ (.int .u64 0)).setCell ⟨w.heap.size, 1, none⟩ (.int .u64 0)).setCell ⟨w.heap.size, 2, none⟩ (.int .u64 0)).setCell ⟨w.heap.size, 3, none⟩ (.int .u64 0)).setCell ⟨w.heap.size, 4, none⟩ (.string (ByteArray.mk #[]))).setCell ⟨w.heap.size, 5, none⟩ (.int .i64 0)).setCell ⟨w.heap.size, 6, none⟩ (.int .i64 0)).setCell ⟨w.heap.size, 7, none⟩ (.int .i64 0)).setCell ⟨w.heap.size, 8, none⟩ (.bool false)).setCell ⟨w.heap.size, 9, none⟩ (.int .i64 0)).setCell ⟨w.heap.size, 10, none⟩ (.int .i64 0)) = v9 at *
    have r0 : v9.cell? ⟨w.heap.size, 0, none⟩ = some (.int .u64 0) := (t9.cell 0).1
    have r1 : v9.cell? ⟨w.heap.size, 1, none⟩ = some (.int .u64 0) := (t9.cell 1).1
    have r2 : v9.cell? ⟨w.heap.size, 2, none⟩ = some (.int .u64 0) := (t9.cell 2).1
    have r3 : v9.cell? ⟨w.heap.size, 3, none⟩ = some (.int .u64 0) := (t9.cell 3).1
    have r4 : v9.cell? ⟨w.heap.size, 4, none⟩ = some (.string (ByteArray.mk #[])) := (t9.cell 4).1
    have r5 : v9.cell? ⟨w.heap.size, 5, none⟩ = some (.int .i64 0) := (t9.cell 5).1
    have r6 : v9.cell? ⟨w.heap.size, 6, none⟩ = some (.int .i64 0) := (t9.cell 6).1
    have r7 : v9.cell? ⟨w.heap.size, 7, none⟩ = some (.int .i64 0) := (t9.cell 7).1
    have r8 : v9.cell? ⟨w.heap.size, 8, none⟩ = some (.bool false) := (t9.cell 8).1
    have r9 : v9.cell? ⟨w.heap.size, 9, none⟩ = some (.int .i64 0) := (t9.cell 9).1
    have r10 : v9.cell? ⟨w.heap.size, 10, none⟩ = some (.int .i64 0) := (t9.cell 10).1
    (try simp only [Exit.inBlock, Exit.then])
    refine bodyPost_ret (v := .tuple #[.agg #[.int .u64 0, .int .u64 0, .int .u64 0, .int .u64 0, .string (ByteArray.mk #[]), .int .i64 0, .int .i64 0, .int .i64 0, .bool false, .int .i64 0, .int .i64 0], .int .i64 0, .int .i64 e8]) (by simp [results, Try.results55, go_sem, r0, r1, r2, r3, r4, r5, r6, r7, r8, r9, r10]; try rfl) rfl ?_
    exact ⟨rfl, t9.bel⟩
  subst c8
  have HS3 := hid (y0 rfl)
  have hsm3 : ∀ w, _ := fun w => small_any l a5 3 w hs (by omega) (by omega) HS3
  clear y0 y1
  obtain rfl := numE h8
  obtain rfl := numE h7
  obtain ⟨z1, z2, z3, _⟩ := num_back h6
  obtain ⟨z4, z5, z6, _⟩ := num_back h7
  obtain ⟨z7, z8, z9, _⟩ := num_back h8
  obtain ⟨p8, rfl⟩ := Int.eq_ofNat_of_zero_le (show 0 ≤ a8 by omega)
  obtain ⟨y5, y6⟩ := sha_get h9 (by omega) z8
  by_cases hend : p8 = l.length
  · have he9 : e9 = 5 := y5 (by omega)
    subst he9
    rw [readS_e9 h1 h2 h3 h4 h5 h6 h7 h8 h9 (by omega)] at H0
    simp only [Prod.mk.injEq] at H0
    obtain ⟨rfl, rfl, rfl⟩ := H0
    have hge : decide ((l.length : Int) ≤ (p8 : Int)) = true := by simp; omega
    clear h1 h2 h3 h4 h5 h6 h7 h8 h9 h10 h11 y5 y6
    go_enter Try.func55, Try.ntmps55
    go_upto_region 1 with (fail)
    have eZ : (.cells #[.int .u64 0, .int .u64 0, .int .u64 0, .int .u64 0, .string (ByteArray.mk #[]), .int .i64 0, .int .i64 0, .int .i64 0, .bool false, .int .i64 0, .int .i64 0] 37 : Obj) = .cells zs 37 := rfl
    rw [eZ]
    clear eZ
    have t1 := RB.new w
    generalize w.alloc (.cells zs 37) = v0 at *
    go_upto_region 5 with (fail)
    go_wp2_with fail
    refine (fixed_any l a _ hs hal HF).mono ?_
    rintro r w1 ⟨⟨vf, rfl, hf⟩, hb1⟩
    have T1 := hid (t1.up hb1)
    have F1 := hid (NU.more hf t1.bel.size)
    clear hf hb1 t1
    go_upto_region 8 with (fail)
    go_wp2_with fail
    refine (srvtake_at l _ 32 _ hs (by omega) (by omega) HT).mono ?_
    rintro r u1 ⟨rfl, rfl⟩
    go_upto_region 11 with (fail)
    go_wp2_with fail
    refine (hsm3 _).mono ?_
    rintro r w2 ⟨⟨vg, rfl, hg⟩, hb2⟩
    have T2 := hid (T1.out.up hb2)
    have F2 := hid (F1.out.below hb2)
    have G2 := hid (NI.more hg T1.out.bel.size)
    clear hg hb2 T1 F1
    have r0 : w2.cell? ⟨w.heap.size, 0, none⟩ = some (.int .u64 0) := (T2.out.cell 0).1
    have z0 : w2.frozen? ⟨w.heap.size, 0, none⟩ = false := (T2.out.cell 0).2
    have r1 : w2.cell? ⟨w.heap.size, 1, none⟩ = some (.int .u64 0) := (T2.out.cell 1).1
    have z1 : w2.frozen? ⟨w.heap.size, 1, none⟩ = false := (T2.out.cell 1).2
    have r2 : w2.cell? ⟨w.heap.size, 2, none⟩ = some (.int .u64 0) := (T2.out.cell 2).1
    have z2 : w2.frozen? ⟨w.heap.size, 2, none⟩ = false := (T2.out.cell 2).2
    have r3 : w2.cell? ⟨w.heap.size, 3, none⟩ = some (.int .u64 0) := (T2.out.cell 3).1
    have z3 : w2.frozen? ⟨w.heap.size, 3, none⟩ = false := (T2.out.cell 3).2
    have r4 : w2.cell? ⟨w.heap.size, 4, none⟩ = some (.string (bs [])) := (T2.out.cell 4).1
    have z4 : w2.frozen? ⟨w.heap.size, 4, none⟩ = false := (T2.out.cell 4).2
    have r5 : w2.cell? ⟨w.heap.size, 5, none⟩ = some (.int .i64 0) := (T2.out.cell 5).1
    have z5 : w2.frozen? ⟨w.heap.size, 5, none⟩ = false := (T2.out.cell 5).2
    have r6 : w2.cell? ⟨w.heap.size, 6, none⟩ = some (.int .i64 0) := (T2.out.cell 6).1
    have z6 : w2.frozen? ⟨w.heap.size, 6, none⟩ = false := (T2.out.cell 6).2
    have r7 : w2.cell? ⟨w.heap.size, 7, none⟩ = some (.int .i64 0) := (T2.out.cell 7).1
    have z7 : w2.frozen? ⟨w.heap.size, 7, none⟩ = false := (T2.out.cell 7).2
    have r8 : w2.cell? ⟨w.heap.size, 8, none⟩ = some (.bool false) := (T2.out.cell 8).1
    have z8 : w2.frozen? ⟨w.heap.size, 8, none⟩ = false := (T2.out.cell 8).2
    have r9 : w2.cell? ⟨w.heap.size, 9, none⟩ = some (.int .i64 0) := (T2.out.cell 9).1
    have z9 : w2.frozen? ⟨w.heap.size, 9, none⟩ = false := (T2.out.cell 9).2
    have r10 : w2.cell? ⟨w.heap.size, 10, none⟩ = some (.int .i64 0) := (T2.out.cell 10).1
    have z10 : w2.frozen? ⟨w.heap.size, 10, none⟩ = false := (T2.out.cell 10).2
    go_wp2_with fail
    have t9 := RB.fill T2.out (.int .u64 0) (.int .u64 0) (.int .u64 0) (.int .u64 0) (.string (ByteArray.mk #[])) (.int .i64 0) (.int .i64 0) (.int .i64 0) (.bool false) (.int .i64 0) (.int .i64 0)
    clear r0 z0 r1 z1 r2 z2 r3 z3 r4 z4 r5 z5 r6 z6 r7 z7 r8 z8 r9 z9 r10 z10
    generalize (((((((((((w2.setCell ⟨w.heap.size, 0, none⟩ (.int .u64 0)).setCell ⟨w.heap.size, 1, none⟩ (.int .u64 0)).setCell ⟨w.heap.size, 2, none⟩ (.int .u64 0)).setCell ⟨w.heap.size, 3, none⟩ (.int .u64 0)).setCell ⟨w.heap.size, 4, none⟩ (.string (ByteArray.mk #[]))).setCell ⟨w.heap.size, 5, none⟩ (.int .i64 0)).setCell ⟨w.heap.size, 6, none⟩ (.int .i64 0)).setCell ⟨w.heap.size, 7, none⟩ (.int .i64 0)).setCell ⟨w.heap.size, 8, none⟩ (.bool false)).setCell ⟨w.heap.size, 9, none⟩ (.int .i64 0)).setCell ⟨w.heap.size, 10, none⟩ (.int .i64 0)) = v9 at *
    have r0 : v9.cell? ⟨w.heap.size, 0, none⟩ = some (.int .u64 0) := (t9.cell 0).1
    have r1 : v9.cell? ⟨w.heap.size, 1, none⟩ = some (.int .u64 0) := (t9.cell 1).1
    have r2 : v9.cell? ⟨w.heap.size, 2, none⟩ = some (.int .u64 0) := (t9.cell 2).1
    have r3 : v9.cell? ⟨w.heap.size, 3, none⟩ = some (.int .u64 0) := (t9.cell 3).1
    have r4 : v9.cell? ⟨w.heap.size, 4, none⟩ = some (.string (ByteArray.mk #[])) := (t9.cell 4).1
    have r5 : v9.cell? ⟨w.heap.size, 5, none⟩ = some (.int .i64 0) := (t9.cell 5).1
    have r6 : v9.cell? ⟨w.heap.size, 6, none⟩ = some (.int .i64 0) := (t9.cell 6).1
    have r7 : v9.cell? ⟨w.heap.size, 7, none⟩ = some (.int .i64 0) := (t9.cell 7).1
    have r8 : v9.cell? ⟨w.heap.size, 8, none⟩ = some (.bool false) := (t9.cell 8).1
    have r9 : v9.cell? ⟨w.heap.size, 9, none⟩ = some (.int .i64 0) := (t9.cell 9).1
    have r10 : v9.cell? ⟨w.heap.size, 10, none⟩ = some (.int .i64 0) := (t9.cell 10).1
    (try simp only [Exit.inBlock, Exit.then])
    refine bodyPost_ret (v := .tuple #[.agg #[.int .u64 0, .int .u64 0, .int .u64 0, .int .u64 0, .string (ByteArray.mk #[]), .int .i64 0, .int .i64 0, .int .i64 0, .bool false, .int .i64 0, .int .i64 0], .int .i64 0, .int .i64 5]) (by simp [results, Try.results55, go_sem, r0, r1, r2, r3, r4, r5, r6, r7, r8, r9, r10]; try rfl) rfl ?_
    exact ⟨rfl, t9.bel⟩
  have hp8 : p8 < l.length := by omega
  have hge : decide ((l.length : Int) ≤ (p8 : Int)) = false := by simp; omega
  obtain ⟨y7, y8⟩ := y6 hp8
  clear y5 y6
  simp only [Int.toNat_natCast] at y7 y8
  by_cases hbig : 1 < l[p8].toNat
  · have he9 := y7 hbig
    subst he9
    rw [readS_e9 h1 h2 h3 h4 h5 h6 h7 h8 h9 (by omega)] at H0
    simp only [Prod.mk.injEq] at H0
    obtain ⟨rfl, rfl, rfl⟩ := H0
    have hgt : decide ((1 : Int) < (l[p8].toNat : Int)) = true := by simp; omega
    clear h1 h2 h3 h4 h5 h6 h7 h8 h9 h10 h11 y7 y8
    go_enter Try.func55, Try.ntmps55
    go_upto_region 1 with (fail)
    have eZ : (.cells #[.int .u64 0, .int .u64 0, .int .u64 0, .int .u64 0, .string (ByteArray.mk #[]), .int .i64 0, .int .i64 0, .int .i64 0, .bool false, .int .i64 0, .int .i64 0] 37 : Obj) = .cells zs 37 := rfl
    rw [eZ]
    clear eZ
    have t1 := RB.new w
    generalize w.alloc (.cells zs 37) = v0 at *
    go_upto_region 5 with (fail)
    go_wp2_with fail
    refine (fixed_any l a _ hs hal HF).mono ?_
    rintro r w1 ⟨⟨vf, rfl, hf⟩, hb1⟩
    have T1 := hid (t1.up hb1)
    have F1 := hid (NU.more hf t1.bel.size)
    clear hf hb1 t1
    go_upto_region 8 with (fail)
    go_wp2_with fail
    refine (srvtake_at l _ 32 _ hs (by omega) (by omega) HT).mono ?_
    rintro r u1 ⟨rfl, rfl⟩
    go_upto_region 11 with (fail)
    go_wp2_with fail
    refine (hsm3 _).mono ?_
    rintro r w2 ⟨⟨vg, rfl, hg⟩, hb2⟩
    have T2 := hid (T1.out.up hb2)
    have F2 := hid (F1.out.below hb2)
    have G2 := hid (NI.more hg T1.out.bel.size)
    clear hg hb2 T1 F1
    have r0 : w2.cell? ⟨w.heap.size, 0, none⟩ = some (.int .u64 0) := (T2.out.cell 0).1
    have z0 : w2.frozen? ⟨w.heap.size, 0, none⟩ = false := (T2.out.cell 0).2
    have r1 : w2.cell? ⟨w.heap.size, 1, none⟩ = some (.int .u64 0) := (T2.out.cell 1).1
    have z1 : w2.frozen? ⟨w.heap.size, 1, none⟩ = false := (T2.out.cell 1).2
    have r2 : w2.cell? ⟨w.heap.size, 2, none⟩ = some (.int .u64 0) := (T2.out.cell 2).1
    have z2 : w2.frozen? ⟨w.heap.size, 2, none⟩ = false := (T2.out.cell 2).2
    have r3 : w2.cell? ⟨w.heap.size, 3, none⟩ = some (.int .u64 0) := (T2.out.cell 3).1
    have z3 : w2.frozen? ⟨w.heap.size, 3, none⟩ = false := (T2.out.cell 3).2
    have r4 : w2.cell? ⟨w.heap.size, 4, none⟩ = some (.string (bs [])) := (T2.out.cell 4).1
    have z4 : w2.frozen? ⟨w.heap.size, 4, none⟩ = false := (T2.out.cell 4).2
    have r5 : w2.cell? ⟨w.heap.size, 5, none⟩ = some (.int .i64 0) := (T2.out.cell 5).1
    have z5 : w2.frozen? ⟨w.heap.size, 5, none⟩ = false := (T2.out.cell 5).2
    have r6 : w2.cell? ⟨w.heap.size, 6, none⟩ = some (.int .i64 0) := (T2.out.cell 6).1
    have z6 : w2.frozen? ⟨w.heap.size, 6, none⟩ = false := (T2.out.cell 6).2
    have r7 : w2.cell? ⟨w.heap.size, 7, none⟩ = some (.int .i64 0) := (T2.out.cell 7).1
    have z7 : w2.frozen? ⟨w.heap.size, 7, none⟩ = false := (T2.out.cell 7).2
    have r8 : w2.cell? ⟨w.heap.size, 8, none⟩ = some (.bool false) := (T2.out.cell 8).1
    have z8 : w2.frozen? ⟨w.heap.size, 8, none⟩ = false := (T2.out.cell 8).2
    have r9 : w2.cell? ⟨w.heap.size, 9, none⟩ = some (.int .i64 0) := (T2.out.cell 9).1
    have z9 : w2.frozen? ⟨w.heap.size, 9, none⟩ = false := (T2.out.cell 9).2
    have r10 : w2.cell? ⟨w.heap.size, 10, none⟩ = some (.int .i64 0) := (T2.out.cell 10).1
    have z10 : w2.frozen? ⟨w.heap.size, 10, none⟩ = false := (T2.out.cell 10).2
    go_wp2_with fail
    have t9 := RB.fill T2.out (.int .u64 0) (.int .u64 0) (.int .u64 0) (.int .u64 0) (.string (ByteArray.mk #[])) (.int .i64 0) (.int .i64 0) (.int .i64 0) (.bool false) (.int .i64 0) (.int .i64 0)
    clear r0 z0 r1 z1 r2 z2 r3 z3 r4 z4 r5 z5 r6 z6 r7 z7 r8 z8 r9 z9 r10 z10
    generalize (((((((((((w2.setCell ⟨w.heap.size, 0, none⟩ (.int .u64 0)).setCell ⟨w.heap.size, 1, none⟩ (.int .u64 0)).setCell ⟨w.heap.size, 2, none⟩ (.int .u64 0)).setCell ⟨w.heap.size, 3, none⟩ (.int .u64 0)).setCell ⟨w.heap.size, 4, none⟩ (.string (ByteArray.mk #[]))).setCell ⟨w.heap.size, 5, none⟩ (.int .i64 0)).setCell ⟨w.heap.size, 6, none⟩ (.int .i64 0)).setCell ⟨w.heap.size, 7, none⟩ (.int .i64 0)).setCell ⟨w.heap.size, 8, none⟩ (.bool false)).setCell ⟨w.heap.size, 9, none⟩ (.int .i64 0)).setCell ⟨w.heap.size, 10, none⟩ (.int .i64 0)) = v9 at *
    have r0 : v9.cell? ⟨w.heap.size, 0, none⟩ = some (.int .u64 0) := (t9.cell 0).1
    have r1 : v9.cell? ⟨w.heap.size, 1, none⟩ = some (.int .u64 0) := (t9.cell 1).1
    have r2 : v9.cell? ⟨w.heap.size, 2, none⟩ = some (.int .u64 0) := (t9.cell 2).1
    have r3 : v9.cell? ⟨w.heap.size, 3, none⟩ = some (.int .u64 0) := (t9.cell 3).1
    have r4 : v9.cell? ⟨w.heap.size, 4, none⟩ = some (.string (ByteArray.mk #[])) := (t9.cell 4).1
    have r5 : v9.cell? ⟨w.heap.size, 5, none⟩ = some (.int .i64 0) := (t9.cell 5).1
    have r6 : v9.cell? ⟨w.heap.size, 6, none⟩ = some (.int .i64 0) := (t9.cell 6).1
    have r7 : v9.cell? ⟨w.heap.size, 7, none⟩ = some (.int .i64 0) := (t9.cell 7).1
    have r8 : v9.cell? ⟨w.heap.size, 8, none⟩ = some (.bool false) := (t9.cell 8).1
    have r9 : v9.cell? ⟨w.heap.size, 9, none⟩ = some (.int .i64 0) := (t9.cell 9).1
    have r10 : v9.cell? ⟨w.heap.size, 10, none⟩ = some (.int .i64 0) := (t9.cell 10).1
    (try simp only [Exit.inBlock, Exit.then])
    refine bodyPost_ret (v := .tuple #[.agg #[.int .u64 0, .int .u64 0, .int .u64 0, .int .u64 0, .string (ByteArray.mk #[]), .int .i64 0, .int .i64 0, .int .i64 0, .bool false, .int .i64 0, .int .i64 0], .int .i64 0, .int .i64 3]) (by simp [results, Try.results55, go_sem, r0, r1, r2, r3, r4, r5, r6, r7, r8, r9, r10]; try rfl) rfl ?_
    exact ⟨rfl, t9.bel⟩
  have hgt : decide ((1 : Int) < (l[p8].toNat : Int)) = false := by simp; omega
  obtain ⟨rfl, rfl, hsh⟩ := y8 hbig
  clear y7 y8
  have hsh2 : ((l[p8].toNat : Int) == 1) = sh := by rw [hsh, Bool.eq_iff_iff]; simp; omega
  have hw1 : IntKind.i64.wrap ((p8 : Int) + 1) = (p8 : Int) + 1 := IntWalk.i64_in _ (by omega)
  obtain ⟨y0, y1⟩ := sm2_chain h10 h11
  by_cases c11 : e11 = 0
  rotate_left
  · rw [readS_e11 h1 h2 h3 h4 h5 h6 h7 h8 h9 h10 h11 c11] at H0
    simp only [Prod.mk.injEq] at H0
    obtain ⟨rfl, rfl, rfl⟩ := H0
    have hsm2 : ∀ w, _ := fun w => small_any l ((p8 : Int) + 1) 2 w hs (by omega) (by omega) (hid (y1 c11))
    have hb : (e11 != 0) = true := by simpa using c11
    clear h1 h2 h3 h4 h5 h6 h7 h8 h9 h10 h11 y0 y1 c11
    go_enter Try.func55, Try.ntmps55
    go_upto_region 1 with (fail)
    have eZ : (.cells #[.int .u64 0, .int .u64 0, .int .u64 0, .int .u64 0, .string (ByteArray.mk #[]), .int .i64 0, .int .i64 0, .int .i64 0, .bool false, .int .i64 0, .int .i64 0] 37 : Obj) = .cells zs 37 := rfl
    rw [eZ]
    clear eZ
    have t1 := RB.new w
    generalize w.alloc (.cells zs 37) = v0 at *
    go_upto_region 5 with (fail)
    go_wp2_with fail
    refine (fixed_any l a _ hs hal HF).mono ?_
    rintro r w1 ⟨⟨vf, rfl, hf⟩, hb1⟩
    have T1 := hid (t1.up hb1)
    have F1 := hid (NU.more hf t1.bel.size)
    clear hf hb1 t1
    go_upto_region 8 with (fail)
    go_wp2_with fail
    refine (srvtake_at l _ 32 _ hs (by omega) (by omega) HT).mono ?_
    rintro r u1 ⟨rfl, rfl⟩
    go_upto_region 11 with (fail)
    go_wp2_with fail
    refine (hsm3 _).mono ?_
    rintro r w2 ⟨⟨vg, rfl, hg⟩, hb2⟩
    have T2 := hid (T1.out.up hb2)
    have F2 := hid (F1.out.below hb2)
    have G2 := hid (NI.more hg T1.out.bel.size)
    clear hg hb2 T1 F1
    go_upto_region 14 with (fail)
    go_upto_region 19 with (fail)
    go_wp2_with fail
    refine (hsm2 _).mono ?_
    rintro r w3 ⟨⟨vh, rfl, hh⟩, hb3⟩
    have T3 := hid (T2.out.up hb3)
    have F3 := hid (F2.out.below hb3)
    have G3 := hid (G2.out.below hb3)
    have K3 := hid (NI.more hh T2.out.bel.size)
    clear hh hb3 T2 F2 G2
    have r0 : w3.cell? ⟨w.heap.size, 0, none⟩ = some (.int .u64 0) := (T3.out.cell 0).1
    have z0 : w3.frozen? ⟨w.heap.size, 0, none⟩ = false := (T3.out.cell 0).2
    have r1 : w3.cell? ⟨w.heap.size, 1, none⟩ = some (.int .u64 0) := (T3.out.cell 1).1
    have z1 : w3.frozen? ⟨w.heap.size, 1, none⟩ = false := (T3.out.cell 1).2
    have r2 : w3.cell? ⟨w.heap.size, 2, none⟩ = some (.int .u64 0) := (T3.out.cell 2).1
    have z2 : w3.frozen? ⟨w.heap.size, 2, none⟩ = false := (T3.out.cell 2).2
    have r3 : w3.cell? ⟨w.heap.size, 3, none⟩ = some (.int .u64 0) := (T3.out.cell 3).1
    have z3 : w3.frozen? ⟨w.heap.size, 3, none⟩ = false := (T3.out.cell 3).2
    have r4 : w3.cell? ⟨w.heap.size, 4, none⟩ = some (.string (bs [])) := (T3.out.cell 4).1
    have z4 : w3.frozen? ⟨w.heap.size, 4, none⟩ = false := (T3.out.cell 4).2
    have r5 : w3.cell? ⟨w.heap.size, 5, none⟩ = some (.int .i64 0) := (T3.out.cell 5).1
    have z5 : w3.frozen? ⟨w.heap.size, 5, none⟩ = false := (T3.out.cell 5).2
    have r6 : w3.cell? ⟨w.heap.size, 6, none⟩ = some (.int .i64 0) := (T3.out.cell 6).1
    have z6 : w3.frozen? ⟨w.heap.size, 6, none⟩ = false := (T3.out.cell 6).2
    have r7 : w3.cell? ⟨w.heap.size, 7, none⟩ = some (.int .i64 0) := (T3.out.cell 7).1
    have z7 : w3.frozen? ⟨w.heap.size, 7, none⟩ = false := (T3.out.cell 7).2
    have r8 : w3.cell? ⟨w.heap.size, 8, none⟩ = some (.bool false) := (T3.out.cell 8).1
    have z8 : w3.frozen? ⟨w.heap.size, 8, none⟩ = false := (T3.out.cell 8).2
    have r9 : w3.cell? ⟨w.heap.size, 9, none⟩ = some (.int .i64 0) := (T3.out.cell 9).1
    have z9 : w3.frozen? ⟨w.heap.size, 9, none⟩ = false := (T3.out.cell 9).2
    have r10 : w3.cell? ⟨w.heap.size, 10, none⟩ = some (.int .i64 0) := (T3.out.cell 10).1
    have z10 : w3.frozen? ⟨w.heap.size, 10, none⟩ = false := (T3.out.cell 10).2
    go_wp2_with fail
    have t9 := RB.fill T3.out (.int .u64 0) (.int .u64 0) (.int .u64 0) (.int .u64 0) (.string (ByteArray.mk #[])) (.int .i64 0) (.int .i64 0) (.int .i64 0) (.bool false) (.int .i64 0) (.int .i64 0)
    clear r0 z0 r1 z1 r2 z2 r3 z3 r4 z4 r5 z5 r6 z6 r7 z7 r8 z8 r9 z9 r10 z10
    generalize (((((((((((w3.setCell ⟨w.heap.size, 0, none⟩ (.int .u64 0)).setCell ⟨w.heap.size, 1, none⟩ (.int .u64 0)).setCell ⟨w.heap.size, 2, none⟩ (.int .u64 0)).setCell ⟨w.heap.size, 3, none⟩ (.int .u64 0)).setCell ⟨w.heap.size, 4, none⟩ (.string (ByteArray.mk #[]))).setCell ⟨w.heap.size, 5, none⟩ (.int .i64 0)).setCell ⟨w.heap.size, 6, none⟩ (.int .i64 0)).setCell ⟨w.heap.size, 7, none⟩ (.int .i64 0)).setCell ⟨w.heap.size, 8, none⟩ (.bool false)).setCell ⟨w.heap.size, 9, none⟩ (.int .i64 0)).setCell ⟨w.heap.size, 10, none⟩ (.int .i64 0)) = v9 at *
    have r0 : v9.cell? ⟨w.heap.size, 0, none⟩ = some (.int .u64 0) := (t9.cell 0).1
    have r1 : v9.cell? ⟨w.heap.size, 1, none⟩ = some (.int .u64 0) := (t9.cell 1).1
    have r2 : v9.cell? ⟨w.heap.size, 2, none⟩ = some (.int .u64 0) := (t9.cell 2).1
    have r3 : v9.cell? ⟨w.heap.size, 3, none⟩ = some (.int .u64 0) := (t9.cell 3).1
    have r4 : v9.cell? ⟨w.heap.size, 4, none⟩ = some (.string (ByteArray.mk #[])) := (t9.cell 4).1
    have r5 : v9.cell? ⟨w.heap.size, 5, none⟩ = some (.int .i64 0) := (t9.cell 5).1
    have r6 : v9.cell? ⟨w.heap.size, 6, none⟩ = some (.int .i64 0) := (t9.cell 6).1
    have r7 : v9.cell? ⟨w.heap.size, 7, none⟩ = some (.int .i64 0) := (t9.cell 7).1
    have r8 : v9.cell? ⟨w.heap.size, 8, none⟩ = some (.bool false) := (t9.cell 8).1
    have r9 : v9.cell? ⟨w.heap.size, 9, none⟩ = some (.int .i64 0) := (t9.cell 9).1
    have r10 : v9.cell? ⟨w.heap.size, 10, none⟩ = some (.int .i64 0) := (t9.cell 10).1
    (try simp only [Exit.inBlock, Exit.then])
    refine bodyPost_ret (v := .tuple #[.agg #[.int .u64 0, .int .u64 0, .int .u64 0, .int .u64 0, .string (ByteArray.mk #[]), .int .i64 0, .int .i64 0, .int .i64 0, .bool false, .int .i64 0, .int .i64 0], .int .i64 0, .int .i64 e11]) (by simp [results, Try.results55, go_sem, r0, r1, r2, r3, r4, r5, r6, r7, r8, r9, r10]; try rfl) rfl ?_
    exact ⟨rfl, t9.bel⟩
  subst c11
  have HS2 := hid (y0 rfl)
  have hsm2 : ∀ w, _ := fun w => small_any l ((p8 : Int) + 1) 2 w hs (by omega) (by omega) HS2
  clear y0 y1
  have n10 := numP_le l ((p8 : Int) + 1) 0
  have n11 := numP_le l a10 e10
  rw [h10] at n10
  rw [h11] at n11
  simp only at n10 n11
  have hru := runS_eq h1 h2 h3 h4 h5 h6 h7 h8 h9 h10 h11
  have hnl := hn5.2.2.1
  clear h1 h2 h3 h4 h5 h6 h7 h8 h9 h10 h11
  go_enter Try.func55, Try.ntmps55
  go_upto_region 1 with (fail)
  have eZ : (.cells #[.int .u64 0, .int .u64 0, .int .u64 0, .int .u64 0, .string (ByteArray.mk #[]), .int .i64 0, .int .i64 0, .int .i64 0, .bool false, .int .i64 0, .int .i64 0] 37 : Obj) = .cells zs 37 := rfl
  rw [eZ]
  clear eZ
  have t1 := RB.new w
  generalize w.alloc (.cells zs 37) = v0 at *
  go_upto_region 5 with (fail)
  go_wp2_with fail
  refine (fixed_any l a _ hs hal HF).mono ?_
  rintro r w1 ⟨⟨vf, rfl, hf⟩, hb1⟩
  have T1 := hid (t1.up hb1)
  have F1 := hid (NU.more hf t1.bel.size)
  clear hf hb1 t1
  go_upto_region 8 with (fail)
  go_wp2_with fail
  refine (srvtake_at l _ 32 _ hs (by omega) (by omega) HT).mono ?_
  rintro r u1 ⟨rfl, rfl⟩
  go_upto_region 11 with (fail)
  go_wp2_with fail
  refine (hsm3 _).mono ?_
  rintro r w2 ⟨⟨vg, rfl, hg⟩, hb2⟩
  have T2 := hid (T1.out.up hb2)
  have F2 := hid (F1.out.below hb2)
  have G2 := hid (NI.more hg T1.out.bel.size)
  clear hg hb2 T1 F1
  go_upto_region 14 with (fail)
  go_upto_region 19 with (fail)
  go_wp2_with fail
  refine (hsm2 _).mono ?_
  rintro r w3 ⟨⟨vh, rfl, hh⟩, hb3⟩
  have T3 := hid (T2.out.up hb3)
  have F3 := hid (F2.out.below hb3)
  have G3 := hid (G2.out.below hb3)
  have K3 := hid (NI.more hh T2.out.bel.size)
  clear hh hb3 T2 F2 G2
  obtain ⟨gf, cf, rfl, hgf, lf, kf⟩ := F3.out.form (by simp)
  obtain ⟨gg, cg, rfl, hgg, lg, kg⟩ := G3.out.form (by simp)
  obtain ⟨gh, ch, rfl, hgh, lh, kh⟩ := K3.out.form (by simp)
  have f0 : w3.cell? ⟨gf, 0, none⟩ = some (.int .u64 (hi : Int)) := kf 0 (by simp)
  have f1 : w3.cell? ⟨gf, 1, none⟩ = some (.int .u64 (lo : Int)) := kf 1 (by simp)
  have f2 : w3.cell? ⟨gf, 2, none⟩ = some (.int .u64 (id : Int)) := kf 2 (by simp)
  have f3 : w3.cell? ⟨gf, 3, none⟩ = some (.int .u64 (up : Int)) := kf 3 (by simp)
  have f4 : w3.cell? ⟨gg, 0, none⟩ = some (.int .i64 (st : Int)) := kg 0 (by simp)
  have f5 : w3.cell? ⟨gg, 1, none⟩ = some (.int .i64 (sq : Int)) := kg 1 (by simp)
  have f6 : w3.cell? ⟨gg, 2, none⟩ = some (.int .i64 (kd : Int)) := kg 2 (by simp)
  have f7 : w3.cell? ⟨gh, 0, none⟩ = some (.int .i64 (s0 : Int)) := kh 0 (by simp)
  have f8 : w3.cell? ⟨gh, 1, none⟩ = some (.int .i64 (s1 : Int)) := kh 1 (by simp)
  have hsum : IntKind.i64.wrap ((s0 : Int) + (s1 : Int)) = (s0 : Int) + s1 := IntWalk.i64_in _ (by omega)
  clear kf kg kh F3 G3 K3
  simp only [List.length_cons, List.length_nil]
  go_wp2_with fail
  go_region_held3 (fun w' => w'.cell? ⟨gf, 0, none⟩ = some (.int .u64 (hi : Int)) ∧ w'.cell? ⟨gf, 1, none⟩ = some (.int .u64 (lo : Int)) ∧ w'.cell? ⟨gf, 2, none⟩ = some (.int .u64 (id : Int)) ∧ w'.cell? ⟨gf, 3, none⟩ = some (.int .u64 (up : Int)) ∧ w'.cell? ⟨gg, 0, none⟩ = some (.int .i64 (st : Int)) ∧ w'.cell? ⟨gg, 1, none⟩ = some (.int .i64 (sq : Int)) ∧ w'.cell? ⟨gg, 2, none⟩ = some (.int .i64 (kd : Int)) ∧ w'.cell? ⟨gh, 0, none⟩ = some (.int .i64 (s0 : Int)) ∧ w'.cell? ⟨gh, 1, none⟩ = some (.int .i64 (s1 : Int))) (first | (with_reducible exact keep9 f0 f1 f2 f3 f4 f5 f6 f7 f8) | (with_reducible exact keep9a f0 f1 f2 f3 f4 f5 f6 f7 f8 _)) (fail)
  subst hsh
  obtain ⟨sx, hsx⟩ : ∃ sx, (s0 : Int) + (s1 : Int) = sx := ⟨_, rfl⟩
  rw [hsx] at hru
  simp only [hsx]
  generalize decide (l[p8].toNat = 1) = zz at *
  have T4 := RB.drew (T3.out.up (sbelow_new w3 (.cells #[.int .u64 (hi : Int), .int .u64 (lo : Int), .int .u64 (id : Int), .int .u64 (up : Int), .string (bs nm), .int .i64 (st : Int), .int .i64 (sq : Int), .int .i64 (kd : Int), .bool zz, .int .i64 (s0 : Int), .int .i64 sx] 37)))
  have S4 : SB (w3.alloc (.cells #[.int .u64 (hi : Int), .int .u64 (lo : Int), .int .u64 (id : Int), .int .u64 (up : Int), .string (bs nm), .int .i64 (st : Int), .int .i64 (sq : Int), .int .i64 (kd : Int), .bool zz, .int .i64 (s0 : Int), .int .i64 sx] 37)).drew w3.heap.size hi lo id up nm st sq kd zz s0 sx := Blk.drew (SB.new w3 hi lo id up nm st sq kd zz s0 sx)
  clear f0 f1 f2 f3 f4 f5 f6 f7 f8 T3 hsx hsum
  generalize (w3.alloc (.cells #[.int .u64 (hi : Int), .int .u64 (lo : Int), .int .u64 (id : Int), .int .u64 (up : Int), .string (bs nm), .int .i64 (st : Int), .int .i64 (sq : Int), .int .i64 (kd : Int), .bool zz, .int .i64 (s0 : Int), .int .i64 sx] 37)).drew = w4 at *
  obtain ⟨c0, c1, c2, c3, c4, c5, c6, c7, c8, c9, c10⟩ := S4.cells
  obtain ⟨c, hc⟩ : ∃ c, chkS ⟨hi, lo, id, up, nm, st, sq, kd, zz, s0, sx⟩ = c := ⟨_, rfl⟩
  have HC := hid hc
  have hck := fun w' => rspcheck_at hi lo id up nm st sq kd zz s0 sx w' (by omega) HC
  go_wp2_with fail
  refine (hck _).mono ?_
  rintro r w5 ⟨rfl, hb5⟩
  have T5 := T4.up hb5
  have S5 := S4.up hb5
  clear c0 c1 c2 c3 c4 c5 c6 c7 c8 c9 c10 T4 S4 hb5
  obtain ⟨c0, c1, c2, c3, c4, c5, c6, c7, c8, c9, c10⟩ := S5.cells
  by_cases hc0 : c = 0
  rotate_left
  · have hb : (c != 0) = true := by simpa using hc0
    rw [readS_chk hru (by rw [hc]; exact hc0), hc] at H0
    simp only [Prod.mk.injEq] at H0
    obtain ⟨rfl, rfl, rfl⟩ := H0
    clear hc hru
    go_wp2_with fail
    refine (hck _).mono ?_
    rintro r w6 ⟨rfl, hb6⟩
    have T6 := T5.up hb6
    clear c0 c1 c2 c3 c4 c5 c6 c7 c8 c9 c10 T5 S5 hb6
    have r0 : w6.cell? ⟨w.heap.size, 0, none⟩ = some (.int .u64 0) := (T6.cell 0).1
    have z0 : w6.frozen? ⟨w.heap.size, 0, none⟩ = false := (T6.cell 0).2
    have r1 : w6.cell? ⟨w.heap.size, 1, none⟩ = some (.int .u64 0) := (T6.cell 1).1
    have z1 : w6.frozen? ⟨w.heap.size, 1, none⟩ = false := (T6.cell 1).2
    have r2 : w6.cell? ⟨w.heap.size, 2, none⟩ = some (.int .u64 0) := (T6.cell 2).1
    have z2 : w6.frozen? ⟨w.heap.size, 2, none⟩ = false := (T6.cell 2).2
    have r3 : w6.cell? ⟨w.heap.size, 3, none⟩ = some (.int .u64 0) := (T6.cell 3).1
    have z3 : w6.frozen? ⟨w.heap.size, 3, none⟩ = false := (T6.cell 3).2
    have r4 : w6.cell? ⟨w.heap.size, 4, none⟩ = some (.string (bs [])) := (T6.cell 4).1
    have z4 : w6.frozen? ⟨w.heap.size, 4, none⟩ = false := (T6.cell 4).2
    have r5 : w6.cell? ⟨w.heap.size, 5, none⟩ = some (.int .i64 0) := (T6.cell 5).1
    have z5 : w6.frozen? ⟨w.heap.size, 5, none⟩ = false := (T6.cell 5).2
    have r6 : w6.cell? ⟨w.heap.size, 6, none⟩ = some (.int .i64 0) := (T6.cell 6).1
    have z6 : w6.frozen? ⟨w.heap.size, 6, none⟩ = false := (T6.cell 6).2
    have r7 : w6.cell? ⟨w.heap.size, 7, none⟩ = some (.int .i64 0) := (T6.cell 7).1
    have z7 : w6.frozen? ⟨w.heap.size, 7, none⟩ = false := (T6.cell 7).2
    have r8 : w6.cell? ⟨w.heap.size, 8, none⟩ = some (.bool false) := (T6.cell 8).1
    have z8 : w6.frozen? ⟨w.heap.size, 8, none⟩ = false := (T6.cell 8).2
    have r9 : w6.cell? ⟨w.heap.size, 9, none⟩ = some (.int .i64 0) := (T6.cell 9).1
    have z9 : w6.frozen? ⟨w.heap.size, 9, none⟩ = false := (T6.cell 9).2
    have r10 : w6.cell? ⟨w.heap.size, 10, none⟩ = some (.int .i64 0) := (T6.cell 10).1
    have z10 : w6.frozen? ⟨w.heap.size, 10, none⟩ = false := (T6.cell 10).2
    go_wp2_with fail
    have t9 := RB.fill T6 (.int .u64 0) (.int .u64 0) (.int .u64 0) (.int .u64 0) (.string (ByteArray.mk #[])) (.int .i64 0) (.int .i64 0) (.int .i64 0) (.bool false) (.int .i64 0) (.int .i64 0)
    clear r0 z0 r1 z1 r2 z2 r3 z3 r4 z4 r5 z5 r6 z6 r7 z7 r8 z8 r9 z9 r10 z10
    generalize (((((((((((w6.setCell ⟨w.heap.size, 0, none⟩ (.int .u64 0)).setCell ⟨w.heap.size, 1, none⟩ (.int .u64 0)).setCell ⟨w.heap.size, 2, none⟩ (.int .u64 0)).setCell ⟨w.heap.size, 3, none⟩ (.int .u64 0)).setCell ⟨w.heap.size, 4, none⟩ (.string (ByteArray.mk #[]))).setCell ⟨w.heap.size, 5, none⟩ (.int .i64 0)).setCell ⟨w.heap.size, 6, none⟩ (.int .i64 0)).setCell ⟨w.heap.size, 7, none⟩ (.int .i64 0)).setCell ⟨w.heap.size, 8, none⟩ (.bool false)).setCell ⟨w.heap.size, 9, none⟩ (.int .i64 0)).setCell ⟨w.heap.size, 10, none⟩ (.int .i64 0)) = v9 at *
    have r0 : v9.cell? ⟨w.heap.size, 0, none⟩ = some (.int .u64 0) := (t9.cell 0).1
    have r1 : v9.cell? ⟨w.heap.size, 1, none⟩ = some (.int .u64 0) := (t9.cell 1).1
    have r2 : v9.cell? ⟨w.heap.size, 2, none⟩ = some (.int .u64 0) := (t9.cell 2).1
    have r3 : v9.cell? ⟨w.heap.size, 3, none⟩ = some (.int .u64 0) := (t9.cell 3).1
    have r4 : v9.cell? ⟨w.heap.size, 4, none⟩ = some (.string (ByteArray.mk #[])) := (t9.cell 4).1
    have r5 : v9.cell? ⟨w.heap.size, 5, none⟩ = some (.int .i64 0) := (t9.cell 5).1
    have r6 : v9.cell? ⟨w.heap.size, 6, none⟩ = some (.int .i64 0) := (t9.cell 6).1
    have r7 : v9.cell? ⟨w.heap.size, 7, none⟩ = some (.int .i64 0) := (t9.cell 7).1
    have r8 : v9.cell? ⟨w.heap.size, 8, none⟩ = some (.bool false) := (t9.cell 8).1
    have r9 : v9.cell? ⟨w.heap.size, 9, none⟩ = some (.int .i64 0) := (t9.cell 9).1
    have r10 : v9.cell? ⟨w.heap.size, 10, none⟩ = some (.int .i64 0) := (t9.cell 10).1
    (try simp only [Exit.inBlock, Exit.then])
    refine bodyPost_ret (v := .tuple #[.agg #[.int .u64 0, .int .u64 0, .int .u64 0, .int .u64 0, .string (ByteArray.mk #[]), .int .i64 0, .int .i64 0, .int .i64 0, .bool false, .int .i64 0, .int .i64 0], .int .i64 0, .int .i64 c]) (by simp [results, Try.results55, go_sem, r0, r1, r2, r3, r4, r5, r6, r7, r8, r9, r10]; try rfl) rfl ?_
    exact ⟨rfl, t9.bel⟩
  subst hc0
  rw [readS_ok hru hc] at H0
  simp only [Prod.mk.injEq] at H0
  obtain ⟨rfl, rfl, rfl⟩ := H0
  clear hc hru
  have r0 : w5.cell? ⟨w.heap.size, 0, none⟩ = some (.int .u64 0) := (T5.cell 0).1
  have z0 : w5.frozen? ⟨w.heap.size, 0, none⟩ = false := (T5.cell 0).2
  have r1 : w5.cell? ⟨w.heap.size, 1, none⟩ = some (.int .u64 0) := (T5.cell 1).1
  have z1 : w5.frozen? ⟨w.heap.size, 1, none⟩ = false := (T5.cell 1).2
  have r2 : w5.cell? ⟨w.heap.size, 2, none⟩ = some (.int .u64 0) := (T5.cell 2).1
  have z2 : w5.frozen? ⟨w.heap.size, 2, none⟩ = false := (T5.cell 2).2
  have r3 : w5.cell? ⟨w.heap.size, 3, none⟩ = some (.int .u64 0) := (T5.cell 3).1
  have z3 : w5.frozen? ⟨w.heap.size, 3, none⟩ = false := (T5.cell 3).2
  have r4 : w5.cell? ⟨w.heap.size, 4, none⟩ = some (.string (bs [])) := (T5.cell 4).1
  have z4 : w5.frozen? ⟨w.heap.size, 4, none⟩ = false := (T5.cell 4).2
  have r5 : w5.cell? ⟨w.heap.size, 5, none⟩ = some (.int .i64 0) := (T5.cell 5).1
  have z5 : w5.frozen? ⟨w.heap.size, 5, none⟩ = false := (T5.cell 5).2
  have r6 : w5.cell? ⟨w.heap.size, 6, none⟩ = some (.int .i64 0) := (T5.cell 6).1
  have z6 : w5.frozen? ⟨w.heap.size, 6, none⟩ = false := (T5.cell 6).2
  have r7 : w5.cell? ⟨w.heap.size, 7, none⟩ = some (.int .i64 0) := (T5.cell 7).1
  have z7 : w5.frozen? ⟨w.heap.size, 7, none⟩ = false := (T5.cell 7).2
  have r8 : w5.cell? ⟨w.heap.size, 8, none⟩ = some (.bool false) := (T5.cell 8).1
  have z8 : w5.frozen? ⟨w.heap.size, 8, none⟩ = false := (T5.cell 8).2
  have r9 : w5.cell? ⟨w.heap.size, 9, none⟩ = some (.int .i64 0) := (T5.cell 9).1
  have z9 : w5.frozen? ⟨w.heap.size, 9, none⟩ = false := (T5.cell 9).2
  have r10 : w5.cell? ⟨w.heap.size, 10, none⟩ = some (.int .i64 0) := (T5.cell 10).1
  have z10 : w5.frozen? ⟨w.heap.size, 10, none⟩ = false := (T5.cell 10).2
  have hne : w.heap.size ≠ w3.heap.size := by have := T5.bel.size; omega
  go_wp2_with fail
  have t9 := RB.fill T5 (.int .u64 (hi : Int)) (.int .u64 (lo : Int)) (.int .u64 (id : Int)) (.int .u64 (up : Int)) (.string (bs nm)) (.int .i64 (st : Int)) (.int .i64 (sq : Int)) (.int .i64 (kd : Int)) (.bool zz) (.int .i64 (s0 : Int)) (.int .i64 sx)
  clear r0 z0 r1 z1 r2 z2 r3 z3 r4 z4 r5 z5 r6 z6 r7 z7 r8 z8 r9 z9 r10 z10
  generalize (((((((((((w5.setCell ⟨w.heap.size, 0, none⟩ (.int .u64 (hi : Int))).setCell ⟨w.heap.size, 1, none⟩ (.int .u64 (lo : Int))).setCell ⟨w.heap.size, 2, none⟩ (.int .u64 (id : Int))).setCell ⟨w.heap.size, 3, none⟩ (.int .u64 (up : Int))).setCell ⟨w.heap.size, 4, none⟩ (.string (bs nm))).setCell ⟨w.heap.size, 5, none⟩ (.int .i64 (st : Int))).setCell ⟨w.heap.size, 6, none⟩ (.int .i64 (sq : Int))).setCell ⟨w.heap.size, 7, none⟩ (.int .i64 (kd : Int))).setCell ⟨w.heap.size, 8, none⟩ (.bool zz)).setCell ⟨w.heap.size, 9, none⟩ (.int .i64 (s0 : Int))).setCell ⟨w.heap.size, 10, none⟩ (.int .i64 sx)) = v9 at *
  have r0 : v9.cell? ⟨w.heap.size, 0, none⟩ = some (.int .u64 (hi : Int)) := (t9.cell 0).1
  have r1 : v9.cell? ⟨w.heap.size, 1, none⟩ = some (.int .u64 (lo : Int)) := (t9.cell 1).1
  have r2 : v9.cell? ⟨w.heap.size, 2, none⟩ = some (.int .u64 (id : Int)) := (t9.cell 2).1
  have r3 : v9.cell? ⟨w.heap.size, 3, none⟩ = some (.int .u64 (up : Int)) := (t9.cell 3).1
  have r4 : v9.cell? ⟨w.heap.size, 4, none⟩ = some (.string (bs nm)) := (t9.cell 4).1
  have r5 : v9.cell? ⟨w.heap.size, 5, none⟩ = some (.int .i64 (st : Int)) := (t9.cell 5).1
  have r6 : v9.cell? ⟨w.heap.size, 6, none⟩ = some (.int .i64 (sq : Int)) := (t9.cell 6).1
  have r7 : v9.cell? ⟨w.heap.size, 7, none⟩ = some (.int .i64 (kd : Int)) := (t9.cell 7).1
  have r8 : v9.cell? ⟨w.heap.size, 8, none⟩ = some (.bool zz) := (t9.cell 8).1
  have r9 : v9.cell? ⟨w.heap.size, 9, none⟩ = some (.int .i64 (s0 : Int)) := (t9.cell 9).1
  have r10 : v9.cell? ⟨w.heap.size, 10, none⟩ = some (.int .i64 sx) := (t9.cell 10).1
  (try simp only [Exit.inBlock, Exit.then])
  refine bodyPost_ret (v := .tuple #[.agg #[.int .u64 (hi : Int), .int .u64 (lo : Int), .int .u64 (id : Int), .int .u64 (up : Int), .string (bs nm), .int .i64 (st : Int), .int .i64 (sq : Int), .int .i64 (kd : Int), .bool zz, .int .i64 (s0 : Int), .int .i64 sx], .int .i64 a11, .int .i64 0]) (by simp [results, Try.results55, go_sem, r0, r1, r2, r3, r4, r5, r6, r7, r8, r9, r10]; try rfl) rfl ?_
  exact ⟨rfl, t9.bel⟩
end Go.Proofs.Ytpfhmpblcmednaa
namespace Go.Proofs.Ytpfhmpblcmednaa
set_option linter.unusedVariables false
set_option linter.unusedSimpArgs false
open Go.RowKit Go.Joins

/-- The cells of a slice of spans, in a block that N allows. -/
def SR (w : World) (N : Nat → Prop) (A : Option Addr) (L : List Sp) : Prop :=
  ∀ k (h : k < L.length), ∃ b o, A = some ⟨b, o, none⟩ ∧ N b ∧ w.cell? ⟨b, o + k * 11, none⟩ = some (.int .u64 (L[k].hi : Int)) ∧ w.cell? ⟨b, o + k * 11 + 1, none⟩ = some (.int .u64 (L[k].lo : Int)) ∧ w.cell? ⟨b, o + k * 11 + 2, none⟩ = some (.int .u64 (L[k].id : Int)) ∧ w.cell? ⟨b, o + k * 11 + 3, none⟩ = some (.int .u64 (L[k].up : Int)) ∧ w.cell? ⟨b, o + k * 11 + 4, none⟩ = some (.string (bs L[k].name)) ∧ w.cell? ⟨b, o + k * 11 + 5, none⟩ = some (.int .i64 L[k].status) ∧ w.cell? ⟨b, o + k * 11 + 6, none⟩ = some (.int .i64 L[k].seq) ∧ w.cell? ⟨b, o + k * 11 + 7, none⟩ = some (.int .i64 L[k].kids) ∧ w.cell? ⟨b, o + k * 11 + 8, none⟩ = some (.bool L[k].shade) ∧ w.cell? ⟨b, o + k * 11 + 9, none⟩ = some (.int .i64 L[k].start) ∧ w.cell? ⟨b, o + k * 11 + 10, none⟩ = some (.int .i64 L[k].fin)
theorem SR.imp {w : World} {N M : Nat → Prop} {A : Option Addr} {L : List Sp} (h : SR w N A L) (hn : ∀ b, N b → M b) : SR w M A L := by
  intro k hk
  obtain ⟨b, o, e, h1, h2⟩ := h k hk
  exact ⟨b, o, e, hn _ h1, h2⟩
theorem SR.below {w w' : World} {B : Nat} {A : Option Addr} {L : List Sp} (h : SR w (· < B) A L) (hb : Below B w w') : SR w' (· < B) A L := by
  intro k hk
  obtain ⟨b, o, e, h1, c0, c1, c2, c3, c4, c5, c6, c7, c8, c9, c10⟩ := h k hk
  exact ⟨b, o, e, h1, (hb.cell h1).trans c0, (hb.cell h1).trans c1, (hb.cell h1).trans c2, (hb.cell h1).trans c3, (hb.cell h1).trans c4, (hb.cell h1).trans c5, (hb.cell h1).trans c6, (hb.cell h1).trans c7, (hb.cell h1).trans c8, (hb.cell h1).trans c9, (hb.cell h1).trans c10⟩
theorem SR.up {w w' : World} {A : Option Addr} {L : List Sp} (h : SR w (· < w.heap.size) A L) (hb : Below w.heap.size w w') : SR w' (· < w'.heap.size) A L :=
  (h.below hb).imp fun b hb' => Nat.lt_of_lt_of_le hb' hb.size
theorem SR.nil (w : World) (N : Nat → Prop) : SR w N none [] := fun k hk => absurd hk (by simp)
def smallS (L : List Sp) : Prop := ∀ s ∈ L, s.name.length ≤ 140737488351232
theorem smallS.at_ {L : List Sp} (h : smallS L) {k : Nat} (hk : k < L.length) : L[k].name.length ≤ 140737488351232 := h _ (List.getElem_mem hk)
/-- A variable that holds a batch. -/
def BB (w : World) (g : Nat) (n q : Int) (v : Value) : Prop := Blk w g 45 #[.int .i64 n, .int .i64 q, v]
theorem BB.new (w : World) (n q : Int) (v : Value) : BB (w.alloc (.cells #[.int .i64 n, .int .i64 q, v] 45)) w.heap.size n q v := Blk.new _ _ _
theorem BB.up {w w' : World} {g : Nat} {n q : Int} {v : Value} (h : BB w g n q v) (hb : Below w.heap.size w w') : BB w' g n q v := Blk.below h hb (Blk.lt h)
theorem BB.cells {w : World} {g : Nat} {n q : Int} {v : Value} (h : BB w g n q v) : w.cell? ⟨g, 0, none⟩ = some (.int .i64 n) ∧ w.cell? ⟨g, 1, none⟩ = some (.int .i64 q) ∧ w.cell? ⟨g, 2, none⟩ = some v := ⟨Blk.cell h 0, Blk.cell h 1, Blk.cell h 2⟩
theorem inR_eq (n q : Int) : inR n q = (decide (0 ≤ n) && (decide (n ≤ 7) && (decide (0 ≤ q) && decide (q ≤ 1099511627776)))) := by rw [inR, Bool.eq_iff_iff]; simp
theorem inrange_any (n q : Int) (w : World) {z : Bool} (H : Hid (inR n q = z)) :
    Calls Try.prog 143 #[.int .i64 n, .int .i64 q] w fun e w' => e = .returned (.bool z) ∧ w = w' := by
  have hz := H.out
  rw [inR_eq] at hz
  clear H
  by_cases h1 : 0 ≤ n
  all_goals by_cases h2 : n ≤ 7
  all_goals by_cases h3 : 0 ≤ q
  all_goals by_cases h4 : q ≤ 1099511627776
  all_goals
    simp only [h1, h2, h3, h4, decide_true, decide_false, Bool.true_and, Bool.false_and, Bool.and_true, Bool.and_false] at hz
    subst hz
    go_enter Try.func143, Try.ntmps143
    go_wp2_with fail
    all_goals (go_returns; exact ⟨rfl, rfl⟩)
theorem place_any (n q : Int) (w : World) {z : Bool} (H : Hid (inR n q = z)) :
    Calls Try.prog 113 #[.int .i64 n, .int .i64 q] w fun e w' => e = .returned (.bool z) ∧ w = w' := by
  have hz := H.out
  rw [inR_eq] at hz
  clear H
  by_cases h1 : 0 ≤ n
  all_goals by_cases h2 : n ≤ 7
  all_goals by_cases h3 : 0 ≤ q
  all_goals by_cases h4 : q ≤ 1099511627776
  all_goals
    simp only [h1, h2, h3, h4, decide_true, decide_false, Bool.true_and, Bool.false_and, Bool.and_true, Bool.and_false] at hz
    subst hz
    go_enter Try.func113, Try.ntmps113
    go_wp2_with fail
    all_goals (go_returns; exact ⟨rfl, rfl⟩)
theorem fltB_drop (L : List Sp) (k : Nat) (h : k < L.length) : fltB (L.drop k) = if chkS L[k] ≠ 0 then chkS L[k] else fltB (L.drop (k + 1)) := by
  rw [List.drop_eq_getElem_cons h]; rfl
set_option maxRecDepth 100000 in
set_option maxHeartbeats 4000000 in
theorem bcheck_any (A : Option Addr) (cap : Nat) (L : List Sp) (n q : Int) (w : World) (hR : SR w (· < w.heap.size) A L) (hl : L.length ≤ 9223372036854775807) (hs : smallS L) :
    Calls Try.prog 137 #[.agg #[.int .i64 n, .int .i64 q, .slice A L.length cap]] w fun e w' => e = .returned (.int .i64 (chkB n q L)) ∧ Below w.heap.size w w' := by
  have HC := hid (show chkB n q L = if inR n q = false then 12 else if L.length = 0 then 9 else if 16 < L.length then 8 else fltB L from rfl)
  have hnot := snot
  have hb0 := sbelow_new w (.cells #[.int .i64 n, .int .i64 q, .slice A L.length cap] 45)
  have hs0 := BB.new w n q (.slice A L.length cap)
  have HR := hid hR
  have HS := hid hs
  clear hR hs
  cases hi : inR n q
  · have HI := hid hi
    clear hi
    go_enter Try.func137, Try.ntmps137
    go_upto_region 1 with (fail)
    generalize w.alloc (.cells #[.int .i64 n, .int .i64 q, .slice A L.length cap] 45) = v0 at *
    obtain ⟨k0, k1, k2⟩ := hs0.cells
    go_wp2_with fail
    refine (inrange_any n q _ HI).mono ?_
    rintro e w1 ⟨rfl, rfl⟩
    go_wp2_with fail
    go_returns
    exact ⟨by rw [HC.out, if_pos HI.out]; rfl, hb0⟩
  have HI := hid hi
  clear hi
  by_cases h0 : L.length = 0
  · have hz : (((L.length : Nat) : Int) == 0) = true := by simp [h0]
    have H0 := hid h0
    clear h0
    go_enter Try.func137, Try.ntmps137
    go_upto_region 1 with (fail)
    generalize w.alloc (.cells #[.int .i64 n, .int .i64 q, .slice A L.length cap] 45) = v0 at *
    obtain ⟨k0, k1, k2⟩ := hs0.cells
    go_wp2_with fail
    refine (inrange_any n q _ HI).mono ?_
    rintro e w1 ⟨rfl, rfl⟩
    go_wp2_with fail
    go_returns
    exact ⟨by rw [HC.out, if_neg (by rw [HI.out]; simp), if_pos H0.out]; rfl, hb0⟩
  have hz : (((L.length : Nat) : Int) == 0) = false := by rw [beq_eq_false_iff_ne]; omega
  by_cases h16 : 16 < L.length
  · have hgt : decide ((16 : Int) < ((L.length : Nat) : Int)) = true := by simp; omega
    go_enter Try.func137, Try.ntmps137
    go_upto_region 1 with (fail)
    generalize w.alloc (.cells #[.int .i64 n, .int .i64 q, .slice A L.length cap] 45) = v0 at *
    obtain ⟨k0, k1, k2⟩ := hs0.cells
    go_wp2_with fail
    refine (inrange_any n q _ HI).mono ?_
    rintro e w1 ⟨rfl, rfl⟩
    go_wp2_with fail
    go_returns
    exact ⟨by rw [HC.out, if_neg (by rw [HI.out]; simp), if_neg h0, if_pos h16]; rfl, hb0⟩
  have hgt : decide ((16 : Int) < ((L.length : Nat) : Int)) = false := by simp; omega
  have HF := hid (show chkB n q L = fltB L by rw [HC.out, if_neg (by rw [HI.out]; simp), if_neg h0, if_neg h16])
  clear HC
  go_enter Try.func137, Try.ntmps137
  go_upto_region 1 with (fail)
  generalize w.alloc (.cells #[.int .i64 n, .int .i64 q, .slice A L.length cap] 45) = v0 at *
  obtain ⟨k0, k1, k2⟩ := hs0.cells
  go_wp2_with fail
  refine (inrange_any n q _ HI).mono ?_
  rintro e w1 ⟨rfl, rfl⟩
  go_wp2_with fail
  clear k0 k1 k2
  go_loopw [26] (fun i wr => ∃ k : Nat, k ≤ L.length ∧ i = .int .i64 k ∧ Hid (fltB L = fltB (L.drop k) ∧ Below w.heap.size w wr ∧ BB wr w.heap.size n q (.slice A L.length cap))) (fun i _ => L.length - (intOf i).toNat)
  case atStart => exact ⟨0, by omega, rfl, hid ⟨rfl, hb0, hs0⟩⟩
  case round =>
    obtain ⟨k, hk, rfl, HW⟩ := hrel
    obtain ⟨k0, k1, k2⟩ := HW.out.2.2.cells
    by_cases hlt : k < L.length
    · obtain ⟨bk, ok, rfl, hB, c0, c1, c2, c3, c4, c5, c6, c7, c8, c9, c10⟩ := (HR.out.below HW.out.2.1) k hlt
      have HD := hid (fltB_drop L k hlt)
      have hnm := HS.out.at_ hlt
      generalize L[k] = s at *
      obtain ⟨a, b, c, d, nm, st, sq, kd, sh, x, y⟩ := s
      simp only at hnm c0 c1 c2 c3 c4 c5 c6 c7 c8 c9 c10
      have hki : decide ((k : Int) < ((L.length : Nat) : Int)) = true := by simp; omega
      have hbz : bk < wr.heap.size := Nat.lt_of_lt_of_le hB HW.out.2.1.size
      obtain ⟨r, hr⟩ : ∃ r, chkS ⟨a, b, c, d, nm, st, sq, kd, sh, x, y⟩ = r := ⟨_, rfl⟩
      have HRR := hid hr
      have hck := fun w' => spcheck_at a b c d nm st sq kd sh x y w' hnm HRR
      have hb1 := sbelow_step HW.out.2.1 (sbelow_new wr (.cells #[.int .u64 (a : Int), .int .u64 (b : Int), .int .u64 (c : Int), .int .u64 (d : Int), .string (bs nm), .int .i64 st, .int .i64 sq, .int .i64 kd, .bool sh, .int .i64 x, .int .i64 y] 37))
      have hs1 := HW.out.2.2.up (sbelow_new wr (.cells #[.int .u64 (a : Int), .int .u64 (b : Int), .int .u64 (c : Int), .int .u64 (d : Int), .string (bs nm), .int .i64 st, .int .i64 sq, .int .i64 kd, .bool sh, .int .i64 x, .int .i64 y] 37))
      have ss1 := SB.new wr a b c d nm st sq kd sh x y
      by_cases hr0 : r = 0
      · subst hr0
        clear hr
        go_upto_region 10 with (fail)
        clear c0 c1 c2 c3 c4 c5 c6 c7 c8 c9 c10 k0 k1 k2
        generalize wr.alloc (.cells #[.int .u64 (a : Int), .int .u64 (b : Int), .int .u64 (c : Int), .int .u64 (d : Int), .string (bs nm), .int .i64 st, .int .i64 sq, .int .i64 kd, .bool sh, .int .i64 x, .int .i64 y] 37) = v1 at *
        obtain ⟨c0, c1, c2, c3, c4, c5, c6, c7, c8, c9, c10⟩ := ss1.cells
        go_wp2_with fail
        refine (hck _).mono ?_
        rintro e w1 ⟨rfl, hb2⟩
        have H2 := hid (And.intro (sbelow_step hb1 hb2) (hs1.up hb2))
        clear hb1 hb2 hs1 ss1 c0 c1 c2 c3 c4 c5 c6 c7 c8 c9 c10
        go_wp2_with fail
        go_roundw
        case rel => exact ⟨k + 1, by omega, by go_num, hid ⟨by rw [HW.out.1, HD.out, if_neg (by rw [HRR.out]; simp)], H2.out.1, H2.out.2⟩⟩
        case measure => simp [intOf]; omega
      · have hb : (r != 0) = true := by simpa using hr0
        have HE := hid (show fltB L = r by rw [HW.out.1, HD.out, hr, if_pos hr0])
        clear hr hr0
        go_upto_region 10 with (fail)
        clear c0 c1 c2 c3 c4 c5 c6 c7 c8 c9 c10 k0 k1 k2
        generalize wr.alloc (.cells #[.int .u64 (a : Int), .int .u64 (b : Int), .int .u64 (c : Int), .int .u64 (d : Int), .string (bs nm), .int .i64 st, .int .i64 sq, .int .i64 kd, .bool sh, .int .i64 x, .int .i64 y] 37) = v1 at *
        obtain ⟨c0, c1, c2, c3, c4, c5, c6, c7, c8, c9, c10⟩ := ss1.cells
        go_wp2_with fail
        refine (hck _).mono ?_
        rintro e w1 ⟨rfl, hb2⟩
        have H2 := hid (And.intro (sbelow_step hb1 hb2) (hs1.up hb2))
        clear hb1 hb2 hs1 ss1 c0 c1 c2 c3 c4 c5 c6 c7 c8 c9 c10
        go_wp2_with fail
        go_returns
        exact ⟨by rw [HF.out, HE.out]; rfl, H2.out.1⟩
    · obtain rfl : k = L.length := by omega
      go_wp2_with fail
      go_returns
      exact ⟨by rw [HF.out, HW.out.1, List.drop_length]; rfl, HW.out.2.1⟩
set_option maxRecDepth 100000 in
set_option maxHeartbeats 4000000 in
theorem rbcheck_any (A : Option Addr) (cap : Nat) (L : List Sp) (n q : Int) (w : World) (hR : SR w (· < w.heap.size) A L) (hl : L.length ≤ 9223372036854775807) (hs : smallS L) :
    Calls Try.prog 78 #[.agg #[.int .i64 n, .int .i64 q, .slice A L.length cap]] w fun e w' => e = .returned (.int .i64 (chkB n q L)) ∧ Below w.heap.size w w' := by
  have HC := hid (show chkB n q L = if inR n q = false then 12 else if L.length = 0 then 9 else if 16 < L.length then 8 else fltB L from rfl)
  have hnot := snot
  have hb0 := sbelow_new w (.cells #[.int .i64 n, .int .i64 q, .slice A L.length cap] 45)
  have hs0 := BB.new w n q (.slice A L.length cap)
  have HR := hid hR
  have HS := hid hs
  clear hR hs
  cases hi : inR n q
  · have HI := hid hi
    clear hi
    go_enter Try.func78, Try.ntmps78
    go_upto_region 1 with (fail)
    generalize w.alloc (.cells #[.int .i64 n, .int .i64 q, .slice A L.length cap] 45) = v0 at *
    obtain ⟨k0, k1, k2⟩ := hs0.cells
    go_wp2_with fail
    refine (place_any n q _ HI).mono ?_
    rintro e w1 ⟨rfl, rfl⟩
    go_wp2_with fail
    go_returns
    exact ⟨by rw [HC.out, if_pos HI.out]; rfl, hb0⟩
  have HI := hid hi
  clear hi
  by_cases h0 : L.length = 0
  · have hz : (((L.length : Nat) : Int) == 0) = true := by simp [h0]
    have H0 := hid h0
    clear h0
    go_enter Try.func78, Try.ntmps78
    go_upto_region 1 with (fail)
    generalize w.alloc (.cells #[.int .i64 n, .int .i64 q, .slice A L.length cap] 45) = v0 at *
    obtain ⟨k0, k1, k2⟩ := hs0.cells
    go_wp2_with fail
    refine (place_any n q _ HI).mono ?_
    rintro e w1 ⟨rfl, rfl⟩
    go_wp2_with fail
    go_returns
    exact ⟨by rw [HC.out, if_neg (by rw [HI.out]; simp), if_pos H0.out]; rfl, hb0⟩
  have hz : (((L.length : Nat) : Int) == 0) = false := by rw [beq_eq_false_iff_ne]; omega
  by_cases h16 : 16 < L.length
  · have hgt : decide ((16 : Int) < ((L.length : Nat) : Int)) = true := by simp; omega
    go_enter Try.func78, Try.ntmps78
    go_upto_region 1 with (fail)
    generalize w.alloc (.cells #[.int .i64 n, .int .i64 q, .slice A L.length cap] 45) = v0 at *
    obtain ⟨k0, k1, k2⟩ := hs0.cells
    go_wp2_with fail
    refine (place_any n q _ HI).mono ?_
    rintro e w1 ⟨rfl, rfl⟩
    go_wp2_with fail
    go_returns
    exact ⟨by rw [HC.out, if_neg (by rw [HI.out]; simp), if_neg h0, if_pos h16]; rfl, hb0⟩
  have hgt : decide ((16 : Int) < ((L.length : Nat) : Int)) = false := by simp; omega
  have HF := hid (show chkB n q L = fltB L by rw [HC.out, if_neg (by rw [HI.out]; simp), if_neg h0, if_neg h16])
  clear HC
  go_enter Try.func78, Try.ntmps78
  go_upto_region 1 with (fail)
  generalize w.alloc (.cells #[.int .i64 n, .int .i64 q, .slice A L.length cap] 45) = v0 at *
  obtain ⟨k0, k1, k2⟩ := hs0.cells
  go_wp2_with fail
  refine (place_any n q _ HI).mono ?_
  rintro e w1 ⟨rfl, rfl⟩
  go_wp2_with fail
  clear k0 k1 k2
  go_loopw [3] (fun i wr => ∃ k : Nat, k ≤ L.length ∧ i = .int .i64 k ∧ Hid (fltB L = fltB (L.drop k) ∧ Below w.heap.size w wr ∧ BB wr w.heap.size n q (.slice A L.length cap))) (fun i _ => L.length - (intOf i).toNat)
  case atStart => exact ⟨0, by omega, rfl, hid ⟨rfl, hb0, hs0⟩⟩
  case round =>
    obtain ⟨k, hk, rfl, HW⟩ := hrel
    obtain ⟨k0, k1, k2⟩ := HW.out.2.2.cells
    by_cases hlt : k < L.length
    · obtain ⟨bk, ok, rfl, hB, c0, c1, c2, c3, c4, c5, c6, c7, c8, c9, c10⟩ := (HR.out.below HW.out.2.1) k hlt
      have HD := hid (fltB_drop L k hlt)
      have hnm := HS.out.at_ hlt
      generalize L[k] = s at *
      obtain ⟨a, b, c, d, nm, st, sq, kd, sh, x, y⟩ := s
      simp only at hnm c0 c1 c2 c3 c4 c5 c6 c7 c8 c9 c10
      have hki : decide ((k : Int) < ((L.length : Nat) : Int)) = true := by simp; omega
      have hbz : bk < wr.heap.size := Nat.lt_of_lt_of_le hB HW.out.2.1.size
      obtain ⟨r, hr⟩ : ∃ r, chkS ⟨a, b, c, d, nm, st, sq, kd, sh, x, y⟩ = r := ⟨_, rfl⟩
      have HRR := hid hr
      have hck := fun w' => rspcheck_at a b c d nm st sq kd sh x y w' hnm HRR
      by_cases hr0 : r = 0
      · subst hr0
        clear hr
        go_wp2_with fail
        refine (hck _).mono ?_
        rintro e w1 ⟨rfl, hb2⟩
        have H2 := hid (And.intro (sbelow_step HW.out.2.1 hb2) (HW.out.2.2.up hb2))
        clear hb2 c0 c1 c2 c3 c4 c5 c6 c7 c8 c9 c10 k0 k1 k2
        go_wp2_with fail
        go_roundw
        case rel => exact ⟨k + 1, by omega, by go_num, hid ⟨by rw [HW.out.1, HD.out, if_neg (by rw [HRR.out]; simp)], H2.out.1, H2.out.2⟩⟩
        case measure => simp [intOf]; omega
      · have hb : (r != 0) = true := by simpa using hr0
        have HE := hid (show fltB L = r by rw [HW.out.1, HD.out, hr, if_pos hr0])
        clear hr hr0
        go_wp2_with fail
        refine (hck _).mono ?_
        rintro e w1 ⟨rfl, hb2⟩
        have H2 := hid (And.intro (sbelow_step HW.out.2.1 hb2) (HW.out.2.2.up hb2))
        clear hb2 c0 c1 c2 c3 c4 c5 c6 c7 c8 c9 c10 k0 k1 k2
        go_wp2_with fail
        go_returns
        exact ⟨by rw [HF.out, HE.out]; rfl, H2.out.1⟩
    · obtain rfl : k = L.length := by omega
      go_wp2_with fail
      go_returns
      exact ⟨by rw [HF.out, HW.out.1, List.drop_length]; rfl, HW.out.2.1⟩
def fewB (L : List Sp) : Bool := decide (L.length ≤ 40) && L.all fun s => decide (s.name.length ≤ 200)
theorem fewB_ok {L : List Sp} (h : fewB L = true) : L.length ≤ 40 ∧ ∀ s ∈ L, s.name.length ≤ 200 := by
  simp only [fewB, Bool.and_eq_true, decide_eq_true_eq, List.all_eq_true] at h
  exact h
end Go.Proofs.Ytpfhmpblcmednaa
namespace Go.Proofs.Ytpfhmpblcmednaa
set_option linter.unusedVariables false
set_option linter.unusedSimpArgs false
open Go.RowKit Go.Joins

set_option maxHeartbeats 1600000 in
theorem spwrite_at (a b c d : Nat) (nm : List UInt8) (st sq kd : Int) (sh : Bool) (x y : Int) (w : World) (hs : nm.length ≤ 140737488351232) (wd : Hid (a < 18446744073709551616 ∧ b < 18446744073709551616 ∧ c < 18446744073709551616 ∧ d < 18446744073709551616)) {t : List UInt8} {r : Int} (H : Hid (writeS ⟨a, b, c, d, nm, st, sq, kd, sh, x, y⟩ = (t, r))) :
    Calls Try.prog 139 #[.agg #[.int .u64 (a : Int), .int .u64 (b : Int), .int .u64 (c : Int), .int .u64 (d : Int), .string (bs nm), .int .i64 st, .int .i64 sq, .int .i64 kd, .bool sh, .int .i64 x, .int .i64 y]] w fun e w' => e = .returned (.tuple #[.string (bs t), .int .i64 r]) ∧ Below w.heap.size w w' := by
  by_cases hc : chkS ⟨a, b, c, d, nm, st, sq, kd, sh, x, y⟩ = 0
  · refine (spwrite_ok a b c d nm st sq kd sh x y w wd hc).mono fun e w' ⟨h1, h2⟩ => ⟨?_, h2⟩
    have h := H.out
    have h3 : (writeS ⟨a, b, c, d, nm, st, sq, kd, sh, x, y⟩).2 = 0 := by rw [writeS, if_pos hc]
    rw [h] at h1 h3
    rw [h1, ← h3]
  · obtain ⟨q, hq⟩ : ∃ q, chkS ⟨a, b, c, d, nm, st, sq, kd, sh, x, y⟩ = q := ⟨_, rfl⟩
    have h := H.out
    rw [writeS, if_neg hc, hq] at h
    simp only [Prod.mk.injEq] at h
    obtain ⟨rfl, rfl⟩ := h
    have hb : (q != 0) = true := by rw [← hq]; simpa using hc
    have HC := hid hq
    have hck := fun w' => spcheck_at a b c d nm st sq kd sh x y w' hs HC
    have hb0 := sbelow_new w (.cells #[.int .u64 (a : Int), .int .u64 (b : Int), .int .u64 (c : Int), .int .u64 (d : Int), .string (bs nm), .int .i64 st, .int .i64 sq, .int .i64 kd, .bool sh, .int .i64 x, .int .i64 y] 37)
    have hs0 := SB.new w a b c d nm st sq kd sh x y
    clear hc hq H
    go_enter Try.func139, Try.ntmps139
    go_upto_region 1 with (fail)
    generalize w.alloc (.cells #[.int .u64 (a : Int), .int .u64 (b : Int), .int .u64 (c : Int), .int .u64 (d : Int), .string (bs nm), .int .i64 st, .int .i64 sq, .int .i64 kd, .bool sh, .int .i64 x, .int .i64 y] 37) = v0 at *
    obtain ⟨k0, k1, k2, k3, k4, k5, k6, k7, k8, k9, k10⟩ := hs0.cells
    go_wp2_with fail
    clear k0 k1 k2 k3 k4 k5 k6 k7 k8 k9 k10
    refine (hck _).mono ?_
    rintro e w1 ⟨rfl, hb1⟩
    have hs0 := hs0.up hb1
    have hb0 := sbelow_step hb0 hb1
    clear hb1
    go_wp2_with fail
    go_returns
    exact ⟨rfl, hb0⟩
set_option maxHeartbeats 1600000 in
theorem rspwrite_at (a b c d : Nat) (nm : List UInt8) (st sq kd : Int) (sh : Bool) (x y : Int) (w : World) (hs : nm.length ≤ 140737488351232) (wd : Hid (a < 18446744073709551616 ∧ b < 18446744073709551616 ∧ c < 18446744073709551616 ∧ d < 18446744073709551616)) {t : List UInt8} {r : Int} (H : Hid (writeS ⟨a, b, c, d, nm, st, sq, kd, sh, x, y⟩ = (t, r))) :
    Calls Try.prog 80 #[.agg #[.int .u64 (a : Int), .int .u64 (b : Int), .int .u64 (c : Int), .int .u64 (d : Int), .string (bs nm), .int .i64 st, .int .i64 sq, .int .i64 kd, .bool sh, .int .i64 x, .int .i64 y]] w fun e w' => e = .returned (.tuple #[.string (bs t), .int .i64 r]) ∧ Below w.heap.size w w' := by
  by_cases hc : chkS ⟨a, b, c, d, nm, st, sq, kd, sh, x, y⟩ = 0
  · refine (rspwrite_ok a b c d nm st sq kd sh x y w wd hc).mono fun e w' ⟨h1, h2⟩ => ⟨?_, h2⟩
    have h := H.out
    have h3 : (writeS ⟨a, b, c, d, nm, st, sq, kd, sh, x, y⟩).2 = 0 := by rw [writeS, if_pos hc]
    rw [h] at h1 h3
    rw [h1, ← h3]
  · obtain ⟨q, hq⟩ : ∃ q, chkS ⟨a, b, c, d, nm, st, sq, kd, sh, x, y⟩ = q := ⟨_, rfl⟩
    have h := H.out
    rw [writeS, if_neg hc, hq] at h
    simp only [Prod.mk.injEq] at h
    obtain ⟨rfl, rfl⟩ := h
    have hb : (q != 0) = true := by rw [← hq]; simpa using hc
    have HC := hid hq
    have hck := fun w' => rspcheck_at a b c d nm st sq kd sh x y w' hs HC
    have hb0 := sbelow_new w (.cells #[.int .u64 (a : Int), .int .u64 (b : Int), .int .u64 (c : Int), .int .u64 (d : Int), .string (bs nm), .int .i64 st, .int .i64 sq, .int .i64 kd, .bool sh, .int .i64 x, .int .i64 y] 37)
    have hs0 := SB.new w a b c d nm st sq kd sh x y
    clear hc hq H
    go_enter Try.func80, Try.ntmps80
    go_upto_region 1 with (fail)
    generalize w.alloc (.cells #[.int .u64 (a : Int), .int .u64 (b : Int), .int .u64 (c : Int), .int .u64 (d : Int), .string (bs nm), .int .i64 st, .int .i64 sq, .int .i64 kd, .bool sh, .int .i64 x, .int .i64 y] 37) = v0 at *
    obtain ⟨k0, k1, k2, k3, k4, k5, k6, k7, k8, k9, k10⟩ := hs0.cells
    go_wp2_with fail
    clear k0 k1 k2 k3 k4 k5 k6 k7 k8 k9 k10
    refine (hck _).mono ?_
    rintro e w1 ⟨rfl, hb1⟩
    have hs0 := hs0.up hb1
    have hb0 := sbelow_step hb0 hb1
    clear hb1
    obtain ⟨k0, k1, k2, k3, k4, k5, k6, k7, k8, k9, k10⟩ := hs0.cells
    go_wp2_with fail
    clear k0 k1 k2 k3 k4 k5 k6 k7 k8 k9 k10
    refine (hck _).mono ?_
    rintro e w1 ⟨rfl, hb1⟩
    have hs0 := hs0.up hb1
    have hb0 := sbelow_step hb0 hb1
    clear hb1
    go_wp2_with fail
    go_returns
    exact ⟨rfl, hb0⟩
theorem sp_guard (op : BinOp) (p q : Operand) (xs ys : Array Value) (w : World) : (eqGuard op 37 p q (.agg xs) (.agg ys)).run Try.prog w = .ok () w := run_eqGuard_agg w op _ p q xs ys (by kernel_rfl)
theorem tr_self (w : World) (a b : Nat) : (Op.equalIn 9999 35 (.agg #[.int .u64 (a : Int), .int .u64 (b : Int)]) (.agg #[.int .u64 (a : Int), .int .u64 (b : Int)])).run Try.prog w = .ok true w := by
  have us := Try.underlying33
  have asx := Try.isAgg33
  have zs := Try.sizeOf33
  rw [show (9999 : Nat) = 9998 + 1 from rfl, run_equalIn_agg w 9998 _ _ _ (by kernel_rfl) (by kernel_rfl)]
  simp only [Program.fieldsOf, Try.underlying35]
  go_simp
theorem sp_eqIn (w : World) (a b c d : Nat) (nm : List UInt8) (st sq kd : Int) (sh : Bool) (x y : Int) : (Op.equalIn 10000 37 (.agg #[.int .u64 (a : Int), .int .u64 (b : Int), .int .u64 (c : Int), .int .u64 (d : Int), .string (bs nm), .int .i64 st, .int .i64 sq, .int .i64 kd, .bool sh, .int .i64 x, .int .i64 y]) (.agg #[.int .u64 (a : Int), .int .u64 (b : Int), .int .u64 (c : Int), .int .u64 (d : Int), .string (bs nm), .int .i64 st, .int .i64 sq, .int .i64 kd, .bool sh, .int .i64 x, .int .i64 y])).run Try.prog w = .ok true w := by
  have us := Try.underlying33
  have asx := Try.isAgg33
  have zs := Try.sizeOf33
  have us2 := Try.underlying3
  have as2 := Try.isAgg3
  have zs2 := Try.sizeOf3
  have us3 := Try.underlying35
  have as3 := Try.isAgg35
  have zs3 := Try.sizeOf35
  have us4 := Try.underlying9
  have as4 := Try.isAgg9
  have zs4 := Try.sizeOf9
  have us5 := Try.underlying4
  have as5 := Try.isAgg4
  have zs5 := Try.sizeOf4
  have ht := tr_self w a b
  rw [show (10000 : Nat) = 9999 + 1 from rfl, run_equalIn_agg w 9999 _ _ _ (by kernel_rfl) (by kernel_rfl)]
  simp only [Program.fieldsOf, Try.underlying37]
  go_simp
theorem sp_eql (w : World) (a b c d : Nat) (nm : List UInt8) (st sq kd : Int) (sh : Bool) (x y : Int) : (binOp .eql 37 (.agg #[.int .u64 (a : Int), .int .u64 (b : Int), .int .u64 (c : Int), .int .u64 (d : Int), .string (bs nm), .int .i64 st, .int .i64 sq, .int .i64 kd, .bool sh, .int .i64 x, .int .i64 y]) (.agg #[.int .u64 (a : Int), .int .u64 (b : Int), .int .u64 (c : Int), .int .u64 (d : Int), .string (bs nm), .int .i64 st, .int .i64 sq, .int .i64 kd, .bool sh, .int .i64 x, .int .i64 y])).run Try.prog w = .ok (.bool true) w := by
  rw [run_eql_struct, sp_eqIn]; rfl
theorem sp_neq (w : World) (a b c d : Nat) (nm : List UInt8) (st sq kd : Int) (sh : Bool) (x y : Int) : (binOp .neq 37 (.agg #[.int .u64 (a : Int), .int .u64 (b : Int), .int .u64 (c : Int), .int .u64 (d : Int), .string (bs nm), .int .i64 st, .int .i64 sq, .int .i64 kd, .bool sh, .int .i64 x, .int .i64 y]) (.agg #[.int .u64 (a : Int), .int .u64 (b : Int), .int .u64 (c : Int), .int .u64 (d : Int), .string (bs nm), .int .i64 st, .int .i64 sq, .int .i64 kd, .bool sh, .int .i64 x, .int .i64 y])).run Try.prog w = .ok (.bool false) w := by
  rw [run_neq_struct, sp_eqIn]; rfl
def k9S : Sp := ⟨0, 1, 2, 3, [97], 100, 1, 2, true, 5, 9⟩
theorem k9_chk : chkS k9S = 0 := by decide +kernel
theorem k9_len : (bytesS k9S).length = 40 := by decide +kernel
theorem k9_write (w : World) {t : List UInt8} (H : Hid (bytesS k9S = t)) : Calls Try.prog 139 #[.agg #[.int .u64 0, .int .u64 1, .int .u64 2, .int .u64 3, .string (bs [97]), .int .i64 100, .int .i64 1, .int .i64 2, .bool true, .int .i64 5, .int .i64 9]] w fun e w' => e = .returned (.tuple #[.string (bs t), .int .i64 0]) ∧ Below w.heap.size w w' :=
  spwrite_at 0 1 2 3 [97] 100 1 2 true 5 9 w (by decide) (hid (by decide)) (hid (show writeS k9S = (t, 0) by rw [writeS, if_pos k9_chk, H.out]))
theorem k9_check (w : World) : Calls Try.prog 46 #[.agg #[.int .u64 0, .int .u64 0, .int .u64 0, .int .u64 0, .string (ByteArray.mk #[]), .int .i64 0, .int .i64 0, .int .i64 0, .bool false, .int .i64 0, .int .i64 0]] w fun e w' => e = .returned (.int .i64 11) ∧ Below w.heap.size w w' :=
  spcheck_at 0 0 0 0 [] 0 0 0 false 0 0 w (by decide) (hid (by decide))
end Go.Proofs.Ytpfhmpblcmednaa
namespace Go.Proofs.Ytpfhmpblcmednaa
set_option linter.unusedVariables false
set_option linter.unusedSimpArgs false
open Go.RowKit Go.Joins

theorem scseal_at (l : List UInt8) (w : World) (hs : l.length ≤ 140737488351232) {t : List UInt8} (H : Hid (sealS l = t)) :
    Calls Try.prog 140 #[.string (bs l)] w fun e w' => e = .returned (.string (bs t)) ∧ Below w.heap.size w w' :=
  (cseal_any l w hs).mono fun e w' ⟨h1, h2⟩ => ⟨by rw [← H.out]; exact h1, h2⟩
theorem srseal_at (l : List UInt8) (w : World) (hs : l.length ≤ 140737488351232) {t : List UInt8} (H : Hid (sealS l = t)) :
    Calls Try.prog 81 #[.string (bs l)] w fun e w' => e = .returned (.string (bs t)) ∧ Below w.heap.size w w' :=
  (rseal_any l w hs).mono fun e w' ⟨h1, h2⟩ => ⟨by rw [← H.out]; exact h1, h2⟩
def fms (L : List Nat) : List UInt8 := (L.map vput).flatten
theorem fms_len : ∀ L : List Nat, (fms L).length ≤ 10 * L.length
  | [] => by simp [fms]
  | n :: r => by
    have h1 := (vput_length_le n).2
    have h2 := fms_len r
    have : fms (n :: r) = vput n ++ fms r := by simp [fms]
    rw [this, List.length_append, List.length_cons]; omega
theorem fms_take (L : List Nat) (k : Nat) (h : k < L.length) : fms (L.take (k + 1)) = fms (L.take k) ++ vput L[k] := by
  unfold fms; rw [List.take_succ_eq_append_getElem h, List.map_append, List.flatten_append]; simp
theorem flatB_take (L : List Sp) (k : Nat) (h : k < L.length) : flatB (L.take (k + 1)) = flatB (L.take k) ++ bytesS L[k] := by
  unfold flatB; rw [List.take_succ_eq_append_getElem h, List.map_append, List.flatten_append]; simp
set_option maxRecDepth 100000 in
set_option maxHeartbeats 1600000 in
theorem forms_any (g : Nat) (cap : Nat) (L : List Nat) (w : World) (hc : ∀ k (h : k < L.length), w.cell? ⟨g, k, none⟩ = some (.int .i64 (L[k] : Int))) (hg : g < w.heap.size) (hl : L.length ≤ 10) (hL : ∀ x ∈ L, x ≤ 1099511627776) :
    Calls Try.prog 138 #[.slice (some ⟨g, 0, none⟩) L.length cap] w fun e w' => e = .returned (.string (bs (fms L))) ∧ Below w.heap.size w w' := by
  have HC := hid hc
  clear hc
  go_enter Try.func138, Try.ntmps138
  go_wp2_with fail
  go_loopw [3, 8] (fun s i wr => ∃ (k : Nat) (acc : List UInt8), k ≤ L.length ∧ acc.length ≤ 10 * k ∧ s = .string (bs acc) ∧ i = .int .i64 k ∧ Hid (acc = fms (L.take k) ∧ Below w.heap.size w wr)) (fun _ i _ => L.length - (intOf i).toNat)
  case atStart => exact ⟨0, [], by omega, by simp, rfl, rfl, hid ⟨rfl, Below.refl _ _⟩⟩
  case round =>
    obtain ⟨k, acc, hk, ha, rfl, rfl, HW⟩ := hrel
    by_cases hlt : k < L.length
    · have hki : decide ((k : Int) < ((L.length : Nat) : Int)) = true := by simp; omega
      have hcell : wr.cell? ⟨g, k, none⟩ = some (.int .i64 (L[k] : Int)) := (HW.out.2.cell (p := ⟨g, k, none⟩) hg).trans (HC.out k hlt)
      have HT := hid (fms_take L k hlt)
      have hx := hL _ (List.getElem_mem hlt)
      generalize L[k] = x at *
      have HX := hid (show x < 18446744073709551616 by omega)
      have hwr := wrap_u64_nat x HX.out
      obtain ⟨t, ht⟩ : ∃ t, vput x = t := ⟨_, rfl⟩
      have htl : t.length ≤ 10 := by rw [← ht]; exact (vput_length_le x).2
      have HP := hid ht
      clear ht
      have hput := fun w' => svput_at x w' HX HP
      have u1 : ¬ 9223372036854775807 < acc.length + t.length := by omega
      go_wp2_with fail
      refine (hput _).mono ?_
      rintro e w1 ⟨rfl, hb1⟩
      have HBD := hid (sbelow_step HW.out.2 hb1)
      clear hb1 hcell
      go_wp2_with fail
      go_roundw
      case rel => exact ⟨k + 1, acc ++ t, by omega, by rw [List.length_append]; omega, rfl, by go_num, hid ⟨by rw [HT.out, HP.out, HW.out.1], HBD.out⟩⟩
      case measure => simp [intOf]; omega
    · obtain rfl : k = L.length := by omega
      go_wp2_with fail
      go_returns
      exact ⟨by rw [HW.out.1, List.take_length]; rfl, HW.out.2⟩
theorem keepBB {w1 w' : World} {g : Nat} {n q : Int} {v : Value} (h : BB w1 g n q v) (hb : Below w1.heap.size w1 w') : w'.cell? ⟨g, 0, none⟩ = some (.int .i64 n) ∧ w'.cell? ⟨g, 1, none⟩ = some (.int .i64 q) ∧ w'.cell? ⟨g, 2, none⟩ = some v ∧ Below w1.heap.size w1 w' := by
  have h1 := h.up hb
  exact ⟨Blk.cell h1 0, Blk.cell h1 1, Blk.cell h1 2, hb⟩
theorem chkB_atbwrite (A : Option Addr) (cap : Nat) (L : List Sp) (n q : Int) (hl : L.length ≤ 9223372036854775807) (hs : smallS L) {c : Int} (H : Hid (chkB n q L = c)) (w : World) (hR : SR w (· < w.heap.size) A L) :
    Calls Try.prog 137 #[.agg #[.int .i64 n, .int .i64 q, .slice A L.length cap]] w fun e w' => e = .returned (.int .i64 c) ∧ Below w.heap.size w w' := by
  rw [← H.out]; exact bcheck_any A cap L n q w hR hl hs
set_option maxRecDepth 100000 in
set_option maxHeartbeats 8000000 in
theorem bwrite_any (A : Option Addr) (cap : Nat) (L : List Sp) (n q : Int) (w : World) (hR : SR w (· < w.heap.size) A L) (hl : L.length ≤ 9223372036854775807) (hs : ∀ s ∈ L, okSp s) :
    Calls Try.prog 126 #[.agg #[.int .i64 n, .int .i64 q, .slice A L.length cap]] w fun e w' => e = .returned (.tuple #[.string (bs (writeB n q L).1), .int .i64 (writeB n q L).2]) ∧ Below w.heap.size w w' := by
  have hsm : smallS L := fun s h => (hs s h).1
  have HS := hid hs
  have hb0 := sbelow_new w (.cells #[.int .i64 n, .int .i64 q, .slice A L.length cap] 45)
  have hs0 := BB.new w n q (.slice A L.length cap)
  have hR := hR.up hb0
  clear hs
  by_cases hc : chkB n q L = 0
  rotate_left
  · obtain ⟨c, hcc⟩ : ∃ c, chkB n q L = c := ⟨_, rfl⟩
    have HWr := hid (show writeB n q L = ([], c) by rw [writeB, if_neg hc, hcc])
    have hb : (c != 0) = true := by rw [← hcc]; simpa using hc
    have hck := chkB_atbwrite A cap L n q hl hsm (hid hcc)
    clear hc hcc
    go_enter Try.func126, Try.ntmps126
    go_upto_region 1 with (fail)
    generalize w.alloc (.cells #[.int .i64 n, .int .i64 q, .slice A L.length cap] 45) = v0 at *
    obtain ⟨k0, k1, k2⟩ := hs0.cells
    go_wp2_with fail
    refine (hck _ hR).mono ?_
    rintro e w1 ⟨rfl, hb1⟩
    have hs0 := hs0.up hb1
    have hb0 := sbelow_step hb0 hb1
    have hR := hR.up hb1
    clear hb1 k0 k1 k2
    go_wp2_with fail
    go_returns
    exact ⟨by rw [HWr.out]; rfl, hb0⟩
  have hck := chkB_atbwrite A cap L n q hl hsm (hid hc)
  obtain ⟨h1, h2, h3, h4⟩ := chkB_ok hc
  rw [inR, decide_eq_true_eq] at h1
  obtain ⟨n, rfl⟩ := Int.eq_ofNat_of_zero_le h1.1
  obtain ⟨q, rfl⟩ := Int.eq_ofNat_of_zero_le h1.2.2.1
  have hbl := bodyB_len hc
  obtain ⟨t, ht⟩ : ∃ t, sealS (bodyB n q L) = t := ⟨_, rfl⟩
  have HWr := hid (show writeB n q L = (t, 0) by rw [writeB, if_pos hc, ht])
  have HSL := hid ht
  have HBD := hid (show bodyB n q L = (mkB ++ fms [n, q, L.length]) ++ flatB L by simp [bodyB, fms])
  have h4' := h4
  have H4 := hid h4'
  have hfl := fms_len [n, q, L.length]
  obtain ⟨fm, hfm⟩ : ∃ fm, fms [n, q, L.length] = fm := ⟨_, rfl⟩
  rw [hfm] at HBD hfl
  have hfl2 : fm.length ≤ 30 := hfl
  have HFM := hid hfm
  have cmk : (ByteArray.mk #[80, 66, 1]) = bs mkB := rfl
  have hmk : mkB.length ≤ 3 := Nat.le_refl 3
  generalize mkB = mk at *
  clear hc ht h4 h4' hfm hfl
  go_enter Try.func126, Try.ntmps126
  go_upto_region 1 with (fail)
  generalize w.alloc (.cells #[.int .i64 n, .int .i64 q, .slice A L.length cap] 45) = v0 at *
  obtain ⟨k0, k1, k2⟩ := hs0.cells
  go_wp2_with fail
  refine (hck _ hR).mono ?_
  rintro e w1 ⟨rfl, hb1⟩
  have hs0 := hs0.up hb1
  have hb0 := sbelow_step hb0 hb1
  have hR := hR.up hb1
  clear hb1 k0 k1 k2
  obtain ⟨k0, k1, k2⟩ := hs0.cells
  have hbz := sbelow_step hb0 (sbelow_new w1 (.cells #[.int .i64 (n : Int), .int .i64 (q : Int), .int .i64 ((L.length : Nat) : Int)] 3))
  have hsz := hs0.up (sbelow_new w1 (.cells #[.int .i64 (n : Int), .int .i64 (q : Int), .int .i64 ((L.length : Nat) : Int)] 3))
  have hRz := hR.up (sbelow_new w1 (.cells #[.int .i64 (n : Int), .int .i64 (q : Int), .int .i64 ((L.length : Nat) : Int)] 3))
  have hfc : ∀ k (h : k < [n, q, L.length].length), (w1.alloc (.cells #[.int .i64 (n : Int), .int .i64 (q : Int), .int .i64 ((L.length : Nat) : Int)] 3)).cell? ⟨w1.heap.size, k, none⟩ = some (.int .i64 ([n, q, L.length][k] : Int)) := fun k h => by
    match k, h with
    | 0, _ => simp
    | 1, _ => simp
    | 2, _ => simp
  have hfa := forms_any w1.heap.size 3 [n, q, L.length] _ hfc (by simp) (by simp) (fun x hx => by simp at hx; omega)
  rw [HFM.out] at hfa
  have HFA := hid hfa
  have u1 : ¬ 9223372036854775807 < mk.length + fm.length := by omega
  clear hfc hfa
  go_wp2_with fail
  refine HFA.out.mono ?_
  rintro e w2 ⟨rfl, hb2⟩
  have hs0 := hsz.up hb2
  have hb0 := sbelow_step hbz hb2
  have hR := hRz.up hb2
  clear hbz hsz hRz hb2 k0 k1 k2 HFA
  obtain ⟨k0, k1, k2⟩ := hs0.cells
  go_wp2_with fail
  clear k0 k1 k2 u1
  have H0 := hid (And.intro hb0 (And.intro hs0 hR))
  clear hb0 hs0 hR
  go_loopw [5, 28] (fun s i wr => ∃ (k : Nat) (acc : List UInt8), k ≤ L.length ∧ acc.length ≤ 100 + 150 * k ∧ s = .string (bs acc) ∧ i = .int .i64 k ∧ Hid (acc = (mk ++ fm) ++ flatB (L.take k) ∧ Below w.heap.size w wr ∧ BB wr w.heap.size n q (.slice A L.length cap) ∧ SR wr (· < wr.heap.size) A L)) (fun _ i _ => L.length - (intOf i).toNat)
  case atStart => exact ⟨0, mk ++ fm, by omega, by rw [List.length_append]; omega, rfl, rfl, hid ⟨by simp [flatB], H0.out.1, H0.out.2.1, H0.out.2.2⟩⟩
  case round =>
    obtain ⟨k, acc, hk, ha, rfl, rfl, HW⟩ := hrel
    obtain ⟨k0, k1, k2⟩ := HW.out.2.2.1.cells
    by_cases hlt : k < L.length
    · obtain ⟨bk, ok, rfl, hB, c0, c1, c2, c3, c4, c5, c6, c7, c8, c9, c10⟩ := HW.out.2.2.2 k hlt
      have HT := hid (flatB_take L k hlt)
      have hok := HS.out _ (List.getElem_mem hlt)
      have hch := H4.out _ (List.getElem_mem hlt)
      have hlen := (bytesS_len _ hch).1
      generalize L[k] = s at *
      obtain ⟨a, b, c, d, nm, st, sq, kd, sh, x, y⟩ := s
      obtain ⟨hnm, hwide⟩ := hok
      simp only at hnm c0 c1 c2 c3 c4 c5 c6 c7 c8 c9 c10
      have hki : decide ((k : Int) < ((L.length : Nat) : Int)) = true := by simp; omega
      obtain ⟨t', ht'⟩ : ∃ t, bytesS ⟨a, b, c, d, nm, st, sq, kd, sh, x, y⟩ = t := ⟨_, rfl⟩
      rw [ht'] at hlen
      have HTT := hid ht'
      have hwt := fun w' => spwrite_at a b c d nm st sq kd sh x y w' hnm (hid hwide) (hid (show writeS ⟨a, b, c, d, nm, st, sq, kd, sh, x, y⟩ = (t', 0) by rw [writeS, if_pos hch, ht']))
      have HWT := hid hwt
      have u1 : ¬ 9223372036854775807 < acc.length + t'.length := by omega
      clear ht' hch hwt hwide
      have hb1 := sbelow_step HW.out.2.1 (sbelow_new wr (.cells #[.int .u64 (a : Int), .int .u64 (b : Int), .int .u64 (c : Int), .int .u64 (d : Int), .string (bs nm), .int .i64 st, .int .i64 sq, .int .i64 kd, .bool sh, .int .i64 x, .int .i64 y] 37))
      have hs1 := HW.out.2.2.1.up (sbelow_new wr (.cells #[.int .u64 (a : Int), .int .u64 (b : Int), .int .u64 (c : Int), .int .u64 (d : Int), .string (bs nm), .int .i64 st, .int .i64 sq, .int .i64 kd, .bool sh, .int .i64 x, .int .i64 y] 37))
      have hR1 := HW.out.2.2.2.up (sbelow_new wr (.cells #[.int .u64 (a : Int), .int .u64 (b : Int), .int .u64 (c : Int), .int .u64 (d : Int), .string (bs nm), .int .i64 st, .int .i64 sq, .int .i64 kd, .bool sh, .int .i64 x, .int .i64 y] 37))
      have ss1 := SB.new wr a b c d nm st sq kd sh x y
      go_upto_region 8 with (fail)
      clear c0 c1 c2 c3 c4 c5 c6 c7 c8 c9 c10 k0 k1 k2
      generalize wr.alloc (.cells #[.int .u64 (a : Int), .int .u64 (b : Int), .int .u64 (c : Int), .int .u64 (d : Int), .string (bs nm), .int .i64 st, .int .i64 sq, .int .i64 kd, .bool sh, .int .i64 x, .int .i64 y] 37) = v1 at *
      obtain ⟨c0, c1, c2, c3, c4, c5, c6, c7, c8, c9, c10⟩ := ss1.cells
      go_wp2_with fail
      refine (HWT.out _).mono ?_
      rintro e w3 ⟨rfl, hb2⟩
      have H2 := hid (And.intro (sbelow_step hb1 hb2) (And.intro (hs1.up hb2) (hR1.up hb2)))
      clear hb1 hb2 hs1 hR1 ss1 c0 c1 c2 c3 c4 c5 c6 c7 c8 c9 c10
      go_wp2_with fail
      go_roundw
      case rel => exact ⟨k + 1, acc ++ t', by omega, by rw [List.length_append]; omega, rfl, by go_num, hid ⟨by rw [HT.out, HTT.out, HW.out.1]; simp, H2.out.1, H2.out.2.1, H2.out.2.2⟩⟩
      case measure => simp [intOf]; omega
    · obtain rfl : k = L.length := by omega
      have hacc := HW.out.1
      rw [List.take_length] at hacc
      have hse := fun w' => scseal_at acc w' (by omega) (hid (show sealS acc = t by rw [hacc, ← HBD.out]; exact HSL.out))
      clear hacc
      go_wp2_with fail
      refine (hse _).mono ?_
      rintro e w4 ⟨rfl, hb4⟩
      have HB4 := hid (sbelow_step HW.out.2.1 hb4)
      clear hb4
      go_wp2_with fail
      go_returns
      exact ⟨by rw [HWr.out]; rfl, HB4.out⟩
theorem chkB_atrbwrite (A : Option Addr) (cap : Nat) (L : List Sp) (n q : Int) (hl : L.length ≤ 9223372036854775807) (hs : smallS L) {c : Int} (H : Hid (chkB n q L = c)) (w : World) (hR : SR w (· < w.heap.size) A L) :
    Calls Try.prog 78 #[.agg #[.int .i64 n, .int .i64 q, .slice A L.length cap]] w fun e w' => e = .returned (.int .i64 c) ∧ Below w.heap.size w w' := by
  rw [← H.out]; exact rbcheck_any A cap L n q w hR hl hs
set_option maxRecDepth 100000 in
set_option maxHeartbeats 8000000 in
theorem rbwrite_any (A : Option Addr) (cap : Nat) (L : List Sp) (n q : Int) (w : World) (hR : SR w (· < w.heap.size) A L) (hl : L.length ≤ 9223372036854775807) (hs : ∀ s ∈ L, okSp s) :
    Calls Try.prog 41 #[.agg #[.int .i64 n, .int .i64 q, .slice A L.length cap]] w fun e w' => e = .returned (.tuple #[.string (bs (writeB n q L).1), .int .i64 (writeB n q L).2]) ∧ Below w.heap.size w w' := by
  have hsm : smallS L := fun s h => (hs s h).1
  have HS := hid hs
  have hb0 := sbelow_new w (.cells #[.int .i64 n, .int .i64 q, .slice A L.length cap] 45)
  have hs0 := BB.new w n q (.slice A L.length cap)
  have hR := hR.up hb0
  clear hs
  by_cases hc : chkB n q L = 0
  rotate_left
  · obtain ⟨c, hcc⟩ : ∃ c, chkB n q L = c := ⟨_, rfl⟩
    have HWr := hid (show writeB n q L = ([], c) by rw [writeB, if_neg hc, hcc])
    have hb : (c != 0) = true := by rw [← hcc]; simpa using hc
    have hck := chkB_atrbwrite A cap L n q hl hsm (hid hcc)
    clear hc hcc
    go_enter Try.func41, Try.ntmps41
    go_upto_region 1 with (fail)
    generalize w.alloc (.cells #[.int .i64 n, .int .i64 q, .slice A L.length cap] 45) = v0 at *
    obtain ⟨k0, k1, k2⟩ := hs0.cells
    go_wp2_with fail
    refine (hck _ hR).mono ?_
    rintro e w1 ⟨rfl, hb1⟩
    have hs0 := hs0.up hb1
    have hb0 := sbelow_step hb0 hb1
    have hR := hR.up hb1
    clear hb1 k0 k1 k2
    obtain ⟨k0, k1, k2⟩ := hs0.cells
    go_wp2_with fail
    refine (hck _ hR).mono ?_
    rintro e w1 ⟨rfl, hb1⟩
    have hs0 := hs0.up hb1
    have hb0 := sbelow_step hb0 hb1
    have hR := hR.up hb1
    clear hb1 k0 k1 k2
    go_wp2_with fail
    go_returns
    exact ⟨by rw [HWr.out]; rfl, hb0⟩
  have hck := chkB_atrbwrite A cap L n q hl hsm (hid hc)
  obtain ⟨h1, h2, h3, h4⟩ := chkB_ok hc
  rw [inR, decide_eq_true_eq] at h1
  obtain ⟨n, rfl⟩ := Int.eq_ofNat_of_zero_le h1.1
  obtain ⟨q, rfl⟩ := Int.eq_ofNat_of_zero_le h1.2.2.1
  have hbl := bodyB_len hc
  obtain ⟨t, ht⟩ : ∃ t, sealS (bodyB n q L) = t := ⟨_, rfl⟩
  have HWr := hid (show writeB n q L = (t, 0) by rw [writeB, if_pos hc, ht])
  have HSL := hid ht
  have HBD := hid (show bodyB n q L = (mkB ++ fms [n, q, L.length]) ++ flatB L by simp [bodyB, fms])
  have h4' := h4
  have H4 := hid h4'
  have hfl := fms_len [n, q, L.length]
  obtain ⟨fm, hfm⟩ : ∃ fm, fms [n, q, L.length] = fm := ⟨_, rfl⟩
  rw [hfm] at HBD hfl
  have hfl2 : fm.length ≤ 30 := hfl
  have HFM := hid hfm
  have cmk : (ByteArray.mk #[80, 66, 1]) = bs mkB := rfl
  have hmk : mkB.length ≤ 3 := Nat.le_refl 3
  generalize mkB = mk at *
  clear hc ht h4 h4' hfm hfl
  go_enter Try.func41, Try.ntmps41
  go_upto_region 1 with (fail)
  generalize w.alloc (.cells #[.int .i64 n, .int .i64 q, .slice A L.length cap] 45) = v0 at *
  obtain ⟨k0, k1, k2⟩ := hs0.cells
  go_wp2_with fail
  refine (hck _ hR).mono ?_
  rintro e w1 ⟨rfl, hb1⟩
  have hs0 := hs0.up hb1
  have hb0 := sbelow_step hb0 hb1
  have hR := hR.up hb1
  clear hb1 k0 k1 k2
  obtain ⟨k0, k1, k2⟩ := hs0.cells
  have q1 := wrap_u64_nat n (by omega)
  have q2 := wrap_u64_nat q (by omega)
  have q3 := wrap_u64_nat L.length (by omega)
  obtain ⟨t1, ht1⟩ : ∃ t, vput n = t := ⟨_, rfl⟩
  obtain ⟨t2, ht2⟩ : ∃ t, vput q = t := ⟨_, rfl⟩
  obtain ⟨t3, ht3⟩ : ∃ t, vput L.length = t := ⟨_, rfl⟩
  have l1 : t1.length ≤ 10 := by rw [← ht1]; exact (vput_length_le _).2
  have l2 : t2.length ≤ 10 := by rw [← ht2]; exact (vput_length_le _).2
  have l3 : t3.length ≤ 10 := by rw [← ht3]; exact (vput_length_le _).2
  have HF2 := hid (show fm = t1 ++ (t2 ++ t3) by rw [← HFM.out, ← ht1, ← ht2, ← ht3]; simp [fms])
  have p1 := fun w' => srvput_at n w' (hid (by omega)) (hid ht1)
  have p2 := fun w' => srvput_at q w' (hid (by omega)) (hid ht2)
  have p3 := fun w' => srvput_at L.length w' (hid (by omega)) (hid ht3)
  have P1 := hid p1
  have P2 := hid p2
  have P3 := hid p3
  clear p1 p2 p3 ht1 ht2 ht3
  have u1 : ¬ 9223372036854775807 < mk.length + t1.length := by omega
  have u2 : ¬ 9223372036854775807 < mk.length + t1.length + t2.length := by omega
  have u3 : ¬ 9223372036854775807 < mk.length + (t1.length + t2.length) + t3.length := by omega
  go_wp2_with fail
  clear k0 k1 k2
  have hz : Below w1.heap.size w1 w1.drew := (Below.refl _ _).drew
  go_region_held3 (fun w' => w'.cell? ⟨w.heap.size, 0, none⟩ = some (.int .i64 (n : Int)) ∧ w'.cell? ⟨w.heap.size, 1, none⟩ = some (.int .i64 (q : Int)) ∧ w'.cell? ⟨w.heap.size, 2, none⟩ = some (.slice A L.length cap) ∧ Below w1.heap.size w1 w') (first | (with_reducible exact keepBB hs0 hz) | (with_reducible exact keepBB hs0 (hz.trans (Below.mono (by assumption) hz.size)))) (first
    | (go_at_call 79
       first
         | ((with_reducible refine (P1.out _).mono ?_); rintro e w5 ⟨rfl, hy⟩)
         | ((with_reducible refine (P2.out _).mono ?_); rintro e w5 ⟨rfl, hy⟩)
         | ((with_reducible refine (P3.out _).mono ?_); rintro e w5 ⟨rfl, hy⟩)
       have hz := hz.trans (hy.mono hz.size)))
  all_goals
    have H0 := hid (And.intro (sbelow_step hb0 hz) (And.intro (hs0.up hz) (hR.up hz)))
    clear hb0 hs0 hR hz u1 u2 u3 P1 P2 P3 q1 q2 q3
    have hfm2 := HF2.out
    have e1 : mk ++ (t1 ++ (t2 ++ t3)) = mk ++ fm := by rw [hfm2]
    go_wp2_with fail
    simp only [e1]
    clear e1 hfm2 HF2 l1 l2 l3
    go_loopw [4, 5] (fun s i wr => ∃ (k : Nat) (acc : List UInt8), k ≤ L.length ∧ acc.length ≤ 100 + 150 * k ∧ s = .string (bs acc) ∧ i = .int .i64 k ∧ Hid (acc = (mk ++ fm) ++ flatB (L.take k) ∧ Below w.heap.size w wr ∧ BB wr w.heap.size n q (.slice A L.length cap) ∧ SR wr (· < wr.heap.size) A L)) (fun _ i _ => L.length - (intOf i).toNat)
    case atStart => exact ⟨0, mk ++ fm, by omega, by rw [List.length_append]; omega, rfl, rfl, hid ⟨by simp [flatB], H0.out.1, H0.out.2.1, H0.out.2.2⟩⟩
    case round =>
      obtain ⟨k, acc, hk, ha, rfl, rfl, HW⟩ := hrel
      obtain ⟨k0, k1, k2⟩ := HW.out.2.2.1.cells
      by_cases hlt : k < L.length
      · obtain ⟨bk, ok, rfl, hB, c0, c1, c2, c3, c4, c5, c6, c7, c8, c9, c10⟩ := HW.out.2.2.2 k hlt
        have HT := hid (flatB_take L k hlt)
        have hok := HS.out _ (List.getElem_mem hlt)
        have hch := H4.out _ (List.getElem_mem hlt)
        have hlen := (bytesS_len _ hch).1
        generalize L[k] = s at *
        obtain ⟨a, b, c, d, nm, st, sq, kd, sh, x, y⟩ := s
        obtain ⟨hnm, hwide⟩ := hok
        simp only at hnm c0 c1 c2 c3 c4 c5 c6 c7 c8 c9 c10
        have hki : decide ((k : Int) < ((L.length : Nat) : Int)) = true := by simp; omega
        obtain ⟨t', ht'⟩ : ∃ t, bytesS ⟨a, b, c, d, nm, st, sq, kd, sh, x, y⟩ = t := ⟨_, rfl⟩
        rw [ht'] at hlen
        have HTT := hid ht'
        have hwt := fun w' => rspwrite_at a b c d nm st sq kd sh x y w' hnm (hid hwide) (hid (show writeS ⟨a, b, c, d, nm, st, sq, kd, sh, x, y⟩ = (t', 0) by rw [writeS, if_pos hch, ht']))
        have HWT := hid hwt
        have u1 : ¬ 9223372036854775807 < acc.length + t'.length := by omega
        clear ht' hch hwt hwide
        go_wp2_with fail
        refine (HWT.out _).mono ?_
        rintro e w3 ⟨rfl, hb2⟩
        have H2 := hid (And.intro (sbelow_step HW.out.2.1 hb2) (And.intro (HW.out.2.2.1.up hb2) (HW.out.2.2.2.up hb2)))
        clear hb2 c0 c1 c2 c3 c4 c5 c6 c7 c8 c9 c10 k0 k1 k2
        go_wp2_with fail
        go_roundw
        case rel => exact ⟨k + 1, acc ++ t', by omega, by rw [List.length_append]; omega, rfl, by go_num, hid ⟨by rw [HT.out, HTT.out, HW.out.1]; simp, H2.out.1, H2.out.2.1, H2.out.2.2⟩⟩
        case measure => simp [intOf]; omega
      · obtain rfl : k = L.length := by omega
        have hacc := HW.out.1
        rw [List.take_length] at hacc
        have hse := fun w' => srseal_at acc w' (by omega) (hid (show sealS acc = t by rw [hacc, ← HBD.out]; exact HSL.out))
        clear hacc
        go_wp2_with fail
        refine (hse _).mono ?_
        rintro e w4 ⟨rfl, hb4⟩
        have HB4 := hid (sbelow_step HW.out.2.1 hb4)
        clear hb4
        go_wp2_with fail
        go_returns
        exact ⟨by rw [HWr.out]; rfl, HB4.out⟩
end Go.Proofs.Ytpfhmpblcmednaa
namespace Go.Proofs.Ytpfhmpblcmednaa
set_option linter.unusedVariables false
set_option linter.unusedSimpArgs false
open Go.RowKit Go.Joins

theorem hasP_len {p s : List UInt8} (h : p.length ≤ s.length) : hasP p s = (s.take p.length == p) := by rw [hasP, decide_eq_true h]; rfl
theorem hasP_short {p s : List UInt8} (h : ¬ p.length ≤ s.length) : hasP p s = false := by rw [hasP, decide_eq_false h]; rfl
set_option maxHeartbeats 800000 in
theorem begins_any (s p : List UInt8) (w : World) (hs : s.length ≤ 140737488351232) (hp : p.length ≤ 1000) {z : Bool} (H : Hid (hasP p s = z)) :
    Calls Try.prog 129 #[.string (bs s), .string (bs p)] w fun e w' => e = .returned (.bool z) ∧ w = w' := by
  by_cases h : p.length ≤ s.length
  · have hd : decide (((p.length : Nat) : Int) ≤ ((s.length : Nat) : Int)) = true := by simp; omega
    have hext : (bs s).extract 0 p.length = bs (s.take p.length) := by rw [bs_extract]; simp
    have hz := H.out
    rw [hasP_len h] at hz
    have HZ := hid hz
    clear hz H
    go_enter Try.func129, Try.ntmps129
    go_wp2_with fail
    all_goals
      go_returns
      exact ⟨by rw [← HZ.out]; first | rfl | simp_all, rfl⟩
  · have hd : decide (((p.length : Nat) : Int) ≤ ((s.length : Nat) : Int)) = false := by simp; omega
    have hz := H.out
    rw [hasP_short h] at hz
    subst hz
    go_enter Try.func129, Try.ntmps129
    go_wp2_with fail
    go_returns
    exact ⟨rfl, rfl⟩
theorem lit_mkB : (ByteArray.mk #[80, 66, 1]) = bs mkB := rfl
theorem lit_mkA : (ByteArray.mk #[80, 65, 1]) = bs mkA := rfl
theorem mkB_len : mkB.length = 3 := rfl
theorem mkA_len : mkA.length = 3 := rfl
set_option maxHeartbeats 800000 in
theorem rkind_any (s : List UInt8) (w : World) (hs : s.length ≤ 140737488351232) {k : Int} (H : Hid (kindB s = k)) :
    Calls Try.prog 91 #[.string (bs s)] w fun e w' => e = .returned (.int .i64 k) ∧ w = w' := by
  have c1 := lit_mkB
  have c2 := lit_mkA
  have hB := fun w' z (h : Hid (hasP mkB s = z)) => begins_any s mkB w' hs (by rw [mkB_len]; omega) h
  have hA := fun w' z (h : Hid (hasP mkA s = z)) => begins_any s mkA w' hs (by rw [mkA_len]; omega) h
  have H0 := H.out
  unfold kindB at H0
  generalize mkB = m1 at *
  generalize mkA = m2 at *
  clear H
  cases h1 : hasP m1 s
  · rw [h1] at H0
    cases h2 : hasP m2 s
    · rw [h2] at H0
      simp at H0
      subst H0
      have h1 := hid h1
      have h2 := hid h2
      go_enter Try.func91, Try.ntmps91
      go_wp2_with fail
      refine (hB _ _ h1).mono ?_
      rintro e w' ⟨rfl, rfl⟩
      go_wp2_with fail
      refine (hA _ _ h2).mono ?_
      rintro e w' ⟨rfl, rfl⟩
      go_wp2_with fail
      go_returns
      exact ⟨rfl, rfl⟩
    · rw [h2] at H0
      simp at H0
      subst H0
      have h1 := hid h1
      have h2 := hid h2
      go_enter Try.func91, Try.ntmps91
      go_wp2_with fail
      refine (hB _ _ h1).mono ?_
      rintro e w' ⟨rfl, rfl⟩
      go_wp2_with fail
      refine (hA _ _ h2).mono ?_
      rintro e w' ⟨rfl, rfl⟩
      go_wp2_with fail
      go_returns
      exact ⟨rfl, rfl⟩
  · rw [h1] at H0
    simp at H0
    subst H0
    have h1 := hid h1
    go_enter Try.func91, Try.ntmps91
    go_wp2_with fail
    refine (hB _ _ h1).mono ?_
    rintro e w' ⟨rfl, rfl⟩
    go_wp2_with fail
    go_returns
    exact ⟨rfl, rfl⟩
theorem sropen_at (l : List UInt8) (w : World) (hs : l.length ≤ 140737488351232) {t : List UInt8} {e : Int} (H : Hid (openS l = (t, e))) :
    Calls Try.prog 90 #[.string (bs l)] w fun r w' => r = .returned (.tuple #[.string (bs t), .int .i64 e]) ∧ Below w.heap.size w w' :=
  (ropen_any l w hs).mono fun r w' ⟨h1, h2⟩ => ⟨by rw [H.out] at h1; exact h1, h2⟩
theorem openS_len (l : List UInt8) : (openS l).1.length ≤ l.length := by
  by_cases h : l.length < 4
  · rw [openS_short h]; simp
  · by_cases h2 : val (l.drop (l.length - 4)) = crcS (l.take (l.length - 4))
    · rw [openS_ok h h2]; simp
    · rw [openS_bad h h2]; simp
theorem opM_len {m s t : List UInt8} {e : Int} (h : opM m s = (t, e)) : t.length ≤ s.length := by
  have hl := openS_len s
  unfold opM at h
  split at h
  · simp only [Prod.mk.injEq] at h; rw [← h.1]; simp
  · split at h
    · simp only [Prod.mk.injEq] at h; rw [← h.1, List.length_drop]; omega
    · simp only [Prod.mk.injEq] at h; rw [← h.1]; simp
/-- What numbers' functions share. -/
def NC (w : World) (g : Nat) (l : List UInt8) (a e : Int) : Prop :=
  w.cell? ⟨g, 0, none⟩ = some (.string (bs l)) ∧ w.cell? ⟨g + 1, 0, none⟩ = some (.int .i64 a) ∧ w.cell? ⟨g + 2, 0, none⟩ = some (.int .i64 e) ∧ w.frozen? ⟨g + 1, 0, none⟩ = false ∧ w.frozen? ⟨g + 2, 0, none⟩ = false
theorem NC.lt {w : World} {g : Nat} {l : List UInt8} {a e : Int} (h : NC w g l a e) : g + 2 < w.heap.size := lt_of_cell h.2.2.1
theorem NC.up {w w' : World} {g : Nat} {l : List UInt8} {a e : Int} (h : NC w g l a e) (hb : Below w.heap.size w w') : NC w' g l a e := by
  have hl := h.lt
  obtain ⟨h0, h1, h2, f1, f2⟩ := h
  exact ⟨(hb.cell (p := ⟨g, 0, none⟩) (by omega : g < _)).trans h0, (hb.cell (p := ⟨g + 1, 0, none⟩) (by omega : g + 1 < _)).trans h1, (hb.cell (p := ⟨g + 2, 0, none⟩) (by omega : g + 2 < _)).trans h2, (hb.frozen (p := ⟨g + 1, 0, none⟩) (by omega : g + 1 < _)).trans f1, (hb.frozen (p := ⟨g + 2, 0, none⟩) (by omega : g + 2 < _)).trans f2⟩
theorem NC.set {w : World} {g : Nat} {l : List UInt8} {a e : Int} (h : NC w g l a e) (a' e' : Int) : NC ((w.setCell ⟨g + 1, 0, none⟩ (.int .i64 a')).setCell ⟨g + 2, 0, none⟩ (.int .i64 e')) g l a' e' := by
  obtain ⟨h0, h1, h2, f1, f2⟩ := h
  refine ⟨?_, ?_, ?_, ?_, ?_⟩ <;> go_simp
theorem NC.set2 {w : World} {g : Nat} {l : List UInt8} {a e : Int} (h : NC w g l a e) (e' : Int) : NC (w.setCell ⟨g + 2, 0, none⟩ (.int .i64 e')) g l a e' := by
  obtain ⟨h0, h1, h2, f1, f2⟩ := h
  refine ⟨?_, ?_, ?_, ?_, ?_⟩ <;> go_simp
theorem setb {B g i : Nat} {w0 w : World} (h : Below B w0 w) (hg : B ≤ g) (u : Value) : Below B w0 (w.setCell ⟨g, i, none⟩ u) := Below.setCell h hg u
theorem NC.new (w : World) (l : List UInt8) (t0 t1 t2 : TypeId) : NC (((w.alloc (.cells #[.string (bs l)] t0)).alloc (.cells #[.int .i64 0] t1)).alloc (.cells #[.int .i64 0] t2)) w.heap.size l 0 0 := by
  have b0 := ((Blk.new w t0 #[.string (bs l)]).alloc (.cells #[.int .i64 0] t1)).alloc (.cells #[.int .i64 0] t2)
  have b1 := (Blk.new (w.alloc (.cells #[.string (bs l)] t0)) t1 #[.int .i64 0]).alloc (.cells #[.int .i64 0] t2)
  have b2 := Blk.new ((w.alloc (.cells #[.string (bs l)] t0)).alloc (.cells #[.int .i64 0] t1)) t2 #[.int .i64 0]
  rw [show (w.alloc (.cells #[.string (bs l)] t0)).heap.size = w.heap.size + 1 by simp] at b1
  rw [show ((w.alloc (.cells #[.string (bs l)] t0)).alloc (.cells #[.int .i64 0] t1)).heap.size = w.heap.size + 2 by simp] at b2
  exact ⟨Blk.cell b0 0, Blk.cell b1 0, Blk.cell b2 0, Blk.frozen b1 0, Blk.frozen b2 0⟩
theorem vgetS_num0 {l : List UInt8} {a b e : Int} {n : Nat} (h : vgetS l a = (n, b, e)) (he : e ≠ 0) : n = 0 := vget_err0 h he
end Go.Proofs.Ytpfhmpblcmednaa
namespace Go.Proofs.Ytpfhmpblcmednaa
set_option linter.unusedVariables false
set_option linter.unusedSimpArgs false
open Go.RowKit Go.Joins

theorem ackB_ok {n q : Nat} (h : inR n q = true) {t : List UInt8} (ht : sealS (mkA ++ (vput n ++ vput q)) = t) : ackB n q = (t, 0) := by
  rw [ackB, if_pos h, Int.toNat_natCast, Int.toNat_natCast, ht]
theorem ackB_no {n q : Int} (h : inR n q = false) : ackB n q = ([], 12) := by rw [ackB, if_neg (by rw [h]; simp)]
theorem beq_nil (l : List UInt8) : (l != []) = !decide (l = []) := by cases l <;> rfl
end Go.Proofs.Ytpfhmpblcmednaa
namespace Go.Proofs.Ytpfhmpblcmednaa
set_option linter.unusedVariables false
set_option linter.unusedSimpArgs false
open Go.RowKit Go.Joins

theorem infoSP : (Try.prog.info? 37).map (fun i => (i.zero, i.size, i.bytes)) = some (some (.agg #[.int .u64 0, .int .u64 0, .int .u64 0, .int .u64 0, .string ByteArray.empty, .int .i64 0, .int .i64 0, .int .i64 0, .bool false, .int .i64 0, .int .i64 0]), 11, 96) := by kernel_rfl
def svals (L : List Sp) : List Value := (L.map fun s => (spA s).toList).flatten
theorem spA_len (s : Sp) : (spA s).toList.length = 11 := rfl
theorem svals_len : ∀ L : List Sp, (svals L).length = L.length * 11
  | [] => rfl
  | s :: r => by
    have : svals (s :: r) = (spA s).toList ++ svals r := by simp [svals]
    rw [this, List.length_append, svals_len r, spA_len, List.length_cons]; omega
theorem svals_snoc (L : List Sp) (s : Sp) : svals L ++ (spA s).toList = svals (L ++ [s]) := by simp [svals]
theorem svals_at : ∀ (L : List Sp) (k i : Nat) (hk : k < L.length), i < 11 → (svals L)[k * 11 + i]? = (spA L[k]).toList[i]?
  | s :: r, 0, i, hk, hi => by
    have : svals (s :: r) = (spA s).toList ++ svals r := by simp [svals]
    rw [this, List.getElem?_append_left (by rw [spA_len]; omega)]; simp
  | s :: r, k + 1, i, hk, hi => by
    have : svals (s :: r) = (spA s).toList ++ svals r := by simp [svals]
    rw [this, List.getElem?_append_right (by rw [spA_len]; omega), spA_len, show (k + 1) * 11 + i - 11 = k * 11 + i by omega, svals_at r k i (by simpa using hk) hi]
    simp
/-- A slice of spans that the call itself has made, holding L. -/
def SPB (w : World) (base : Nat) (v : Value) (L : List Sp) : Prop := w.ownsRow base 37 11 v L.length (svals L)
theorem SPB.nil (w : World) (base : Nat) : SPB w base (.slice none 0 0) [] := ⟨rfl, Or.inl ⟨rfl, rfl⟩⟩
theorem SPB.below {w w' : World} {base : Nat} {v : Value} {L : List Sp} (h : SPB w base v L) (hb : Below w.heap.size w w') : SPB w' base v L := by
  unfold SPB at *
  refine World.ownsRow.kept (row := none) h ⟨hb.os, hb.tape, hb.output, hb.size, fun k hk _ => hb.block k hk⟩ ?_
  by_cases e : v.ownBlock = none
  · exact Or.inl e
  · exact Or.inr e
theorem SPB.more {w : World} {base base' : Nat} {v : Value} {L : List Sp} (h : SPB w base v L) (hb : base' ≤ base) : SPB w base' v L := by
  refine ⟨h.1, ?_⟩
  rcases h.2 with h2 | ⟨g, cap', cur, e1, e2, e3⟩
  · exact Or.inl h2
  · exact Or.inr ⟨g, cap', cur, e1, Nat.le_trans hb e2, e3⟩
theorem SPB.far {w : World} {base g i : Nat} {v : Value} {L : List Sp} (h : SPB w base v L) (hg : g < base) (u : Value) : SPB (w.setCell ⟨g, i, none⟩ u) base v L := ownsRow_setCell_below h hg u
theorem SPB.form {w : World} {base : Nat} {v : Value} {L : List Sp} (h : SPB w base v L) : ∃ A cap, v = .slice A L.length cap ∧ SR w (fun b => base ≤ b ∧ b < w.heap.size) A L := by
  rcases ownsRow_forms h with ⟨rfl, h0⟩ | ⟨g, cap, rfl⟩
  · exact ⟨none, 0, by rw [h0], fun k hk => absurd hk (by omega)⟩
  · refine ⟨some ⟨g, 0, none⟩, cap, rfl, fun k hk => ⟨g, 0, rfl, World.ownsRow.lt h g rfl, ?_⟩⟩
    have hat : ∀ i, i < 11 → w.cell? ⟨g, k * 11 + i, none⟩ = (spA L[k]).toList[i]? := fun i hi => by
      rw [World.ownsRow.cellAt h (k * 11 + i) (by omega)]; exact svals_at L k i hk hi
    refine ⟨?_, ?_, ?_, ?_, ?_, ?_, ?_, ?_, ?_, ?_, ?_⟩
    · rw [Nat.zero_add]; exact hat 0 (by omega)
    · rw [Nat.zero_add]; exact hat 1 (by omega)
    · rw [Nat.zero_add]; exact hat 2 (by omega)
    · rw [Nat.zero_add]; exact hat 3 (by omega)
    · rw [Nat.zero_add]; exact hat 4 (by omega)
    · rw [Nat.zero_add]; exact hat 5 (by omega)
    · rw [Nat.zero_add]; exact hat 6 (by omega)
    · rw [Nat.zero_add]; exact hat 7 (by omega)
    · rw [Nat.zero_add]; exact hat 8 (by omega)
    · rw [Nat.zero_add]; exact hat 9 (by omega)
    · rw [Nat.zero_add]; exact hat 10 (by omega)
theorem SPB.sr {w : World} {base : Nat} {v : Value} {L : List Sp} (h : SPB w base v L) : ∃ A cap, v = .slice A L.length cap ∧ SR w (· < w.heap.size) A L := by
  obtain ⟨A, cap, e, hr⟩ := h.form
  exact ⟨A, cap, e, hr.imp fun b hb => hb.2⟩
theorem wpList_append_sp {ops : Array Oper} {rest : List Oper} {o : Oper} {a : Act} {Q : Exit → Act → World → Prop} {w W0 : World} (hgd : o.guard = none) (s x : Operand)
    (ho : o.op = .call { callee := .builtin .append, args := #[s, x], argTypes := #[43, 43] }) (base : Nat) (v : Value) (L : List Sp) (h : Sp) (g : Nat)
    (hs : a.eval s = v) (hown : SPB w base v L) (hx : a.eval x = .slice (some ⟨g, 0, none⟩) 1 1) (hc : ∀ i, i < 11 → w.cell? ⟨g, i, none⟩ = (spA h).toList[i]?)
    (hl : L.length ≤ 10000000) (hW : Below base W0 w) (hbase : base ≤ W0.heap.size) (K : ∀ v' w', SPB w' base v' (L ++ [h]) → Below base W0 w' → w.grownBy w' v.ownBlock → wpList Try.prog ops Q rest (a.put o.dst v') w') : wpList Try.prog ops Q (o :: rest) a w := by
  obtain ⟨i0, hi, hz0, hz1, hz2⟩ := info_parts infoSP
  have hbw : base ≤ w.heap.size := Nat.le_trans hbase hW.size
  refine wpList_append_own _ hgd s x 43 ho base 37 i0 (.agg #[.int .u64 0, .int .u64 0, .int .u64 0, .int .u64 0, .string ByteArray.empty, .int .i64 0, .int .i64 0, .int .i64 0, .bool false, .int .i64 0, .int .i64 0]) 11 96 Try.underlying43 hi hz0 hz1 hz2 rfl (by decide) v L.length (svals L) hs hown ⟨g, 0, none⟩ 1 1
    (spA h).toList hx rfl ?_ ?_ (by unfold maxLen; omega) (by omega) hbw ?_
  · intro j u hj
    have hlt : j < 11 := by
      by_cases hlt : j < 11
      · exact hlt
      · rw [List.getElem?_eq_none (by rw [spA_len]; omega)] at hj; cases hj
    rw [Addr.add_lit, Nat.zero_add, hc j hlt]
    exact hj
  · intro u hu
    simp [spA] at hu
    rcases hu with rfl | rfl | rfl | rfl | rfl | rfl | rfl | rfl | rfl | rfl | rfl <;> rfl
  · intro v' w' h1 h2 _
    refine K v' w' ?_ (hW.grown h2 hbw (fun k hk => (World.ownsRow.lt hown k hk).1)) h2
    unfold SPB
    rw [List.length_append, ← svals_snoc]
    exact h1
/-- The definition's front of a batch or an answer. -/
def frS (m s : List UInt8) : List UInt8 × List Nat × Int × Int :=
  if (openS s).2 ≠ 0 then ([], [], 0, (openS s).2) else if hasP m (openS s).1 = false then ([], [], 0, 3) else
  if (numM (openS s).1 3 7).2.2 ≠ 0 then ([], [], 0, (numM (openS s).1 3 7).2.2) else
  if (numM (openS s).1 (numM (openS s).1 3 7).2.1 1099511627776).2.2 ≠ 0 then ([], [], 0, (numM (openS s).1 (numM (openS s).1 3 7).2.1 1099511627776).2.2) else
  ((openS s).1, [(numM (openS s).1 3 7).1, (numM (openS s).1 (numM (openS s).1 3 7).2.1 1099511627776).1], (numM (openS s).1 (numM (openS s).1 3 7).2.1 1099511627776).2.1, 0)
theorem kind_one (t : List UInt8) : kindB t = 1 ↔ hasP mkB t = true := by
  unfold kindB
  cases hasP mkB t
  · simp; split <;> omega
  · simp
theorem hasP_excl {t : List UInt8} (h : hasP mkB t = true) : hasP mkA t = false := by
  rw [hasP_split h]; exact hasP_ne _
theorem kind_two (t : List UInt8) : kindB t = 2 ↔ hasP mkA t = true := by
  unfold kindB
  cases h : hasP mkB t
  · cases hasP mkA t <;> simp
  · rw [hasP_excl h]; simp
theorem fr_link {m s l : List UInt8} {e : Int} (hm : m.length = 3) (ho : opM m s = (l, e)) {n q : Nat} {a b e1 e2 : Int} (h1 : nmP l 7 0 0 = (n, a, e1)) (h2 : nmP l 1099511627776 a e1 = (q, b, e2)) :
    (e ≠ 0 → frS m s = ([], [], 0, e)) ∧ (e = 0 → e2 ≠ 0 → frS m s = ([], [], 0, e2)) ∧ (e = 0 → e2 = 0 → frS m s = (m ++ l, [n, q], 3 + b, 0)) := by
  obtain ⟨t, x, hx⟩ : ∃ t x, openS s = (t, x) := ⟨_, _, rfl⟩
  have ho' := ho
  rw [opM, hx] at ho
  simp only at ho
  by_cases hx0 : x = 0
  · subst hx0
    rw [if_neg (by simp)] at ho
    cases hp : hasP m t
    · rw [hp, if_neg (by simp)] at ho
      simp only [Prod.mk.injEq] at ho
      obtain ⟨rfl, rfl⟩ := ho
      exact ⟨fun _ => by rw [frS, hx]; simp [hp], fun h => absurd h (by omega), fun h => absurd h (by omega)⟩
    · rw [hp, if_pos rfl] at ho
      simp only [Prod.mk.injEq] at ho
      obtain ⟨hl, rfl⟩ := ho
      have ht : t = m ++ l := by rw [← hl]; exact hasP_split hp
      obtain ⟨p1, p2⟩ := num_link m l (Int.le_refl 0) h1
      rw [hm] at p1 p2
      have e30 : ((3 : Nat) : Int) + 0 = 3 := rfl
      rw [e30, ← ht] at p1 p2
      refine ⟨fun h => absurd rfl h, fun _ h20 => ?_, fun _ h20 => ?_⟩
      · by_cases h10 : e1 = 0
        · subst h10
          obtain ⟨g1, g2, g3, _⟩ := p1 rfl
          obtain ⟨_, q2⟩ := num_link m l g2 h2
          rw [hm, ← ht] at q2
          have g4 := q2 h20
          rw [frS, hx]
          simp only
          rw [if_neg (by simp), if_neg (by rw [hp]; simp), g1]
          simp only
          rw [if_neg (by simp), show ((3 : Nat) : Int) = 3 from rfl] at *
          rw [g4, if_pos h20]
        · have g1 := p2 h10
          rw [nmP_err h10] at h2
          simp only [Prod.mk.injEq] at h2
          obtain ⟨_, _, rfl⟩ := h2
          rw [frS, hx]
          simp only
          rw [if_neg (by simp), if_neg (by rw [hp]; simp), g1, if_pos h10]
      · subst h20
        obtain rfl := nmE h2
        obtain ⟨g1, g2, g3, _⟩ := p1 rfl
        obtain ⟨q1, _⟩ := num_link m l g2 h2
        rw [hm, ← ht] at q1
        obtain ⟨g4, _⟩ := q1 rfl
        rw [frS, hx]
        simp only
        rw [if_neg (by simp), if_neg (by rw [hp]; simp), g1]
        simp only
        rw [if_neg (by simp), g4]
        simp only
        rw [if_neg (by simp), ← ht]
        rfl
  · rw [if_pos hx0] at ho
    simp only [Prod.mk.injEq] at ho
    obtain ⟨rfl, rfl⟩ := ho
    exact ⟨fun _ => by rw [frS, hx]; simp [hx0], fun h => absurd h hx0, fun h => absurd h hx0⟩
set_option maxHeartbeats 1600000 in
theorem front_any (m s : List UInt8) (kind : Int) (hk : ∀ t, kindB t = kind ↔ hasP m t = true) (w : World) (hs : s.length ≤ 140737488351232) {t : List UInt8} {L : List Nat} {a e : Int} (H : Hid (frS m s = (t, L, a, e))) :
    Calls Try.prog 53 #[.string (bs s), .int .i64 kind] w fun r w' => (∃ v, r = .returned (.tuple #[.string (bs t), v, .int .i64 a, .int .i64 e]) ∧ NI w' w.heap.size v L) ∧ Below w.heap.size w w' := by
  obtain ⟨u, x, ho⟩ : ∃ u x, openS s = (u, x) := ⟨_, _, rfl⟩
  have hul : u.length ≤ s.length := by have := openS_len s; rw [ho] at this; exact this
  have H0 := H.out
  rw [frS, ho] at H0
  simp only at H0
  have HO := hid ho
  clear ho H
  by_cases hx : x = 0
  rotate_left
  · rw [if_pos hx] at H0
    simp only [Prod.mk.injEq] at H0
    obtain ⟨rfl, rfl, rfl, rfl⟩ := H0
    have hb : (x != 0) = true := by simpa using hx
    clear hx
    go_enter Try.func53, Try.ntmps53
    go_wp2_with fail
    refine (sropen_at s _ hs HO).mono ?_
    rintro r w1 ⟨rfl, hb1⟩
    go_wp2_with fail
    go_returns
    exact ⟨⟨_, rfl, NI.nil _ _⟩, hb1⟩
  subst hx
  rw [if_neg (by simp)] at H0
  obtain ⟨kk, hkk⟩ : ∃ kk, kindB u = kk := ⟨_, rfl⟩
  have hrk := fun w' => rkind_any u w' (by omega) (hid hkk)
  have hkb : (kk != kind) = !hasP m u := by
    rw [← hkk]
    cases hp : hasP m u
    · have : ¬ kindB u = kind := fun h => by rw [(hk u).1 h] at hp; cases hp
      simpa using this
    · have := (hk u).2 hp
      simpa using this
  have HRK := hid hrk
  clear hrk hkk hk
  cases hp : hasP m u
  · rw [hp, if_pos rfl] at H0
    simp only [Prod.mk.injEq] at H0
    obtain ⟨rfl, rfl, rfl, rfl⟩ := H0
    rw [hp] at hkb
    simp only [Bool.not_false] at hkb
    clear hp
    go_enter Try.func53, Try.ntmps53
    go_wp2_with fail
    refine (sropen_at s _ hs HO).mono ?_
    rintro r w1 ⟨rfl, hb1⟩
    go_wp2_with fail
    refine (HRK.out _).mono ?_
    rintro r w2 ⟨rfl, rfl⟩
    go_wp2_with fail
    go_returns
    exact ⟨⟨_, rfl, NI.nil _ _⟩, hb1⟩
  rw [hp, if_neg (by simp)] at H0
  rw [hp] at hkb
  simp only [Bool.not_true] at hkb
  clear hp
  obtain ⟨n, a1, e1, h1⟩ : ∃ x y z, numM u 3 7 = (x, y, z) := ⟨_, _, _, rfl⟩
  have hp1 := numM_pos h1
  rw [h1] at H0
  simp only at H0
  have hn1 := fun w' => rnumber_any u 3 7 w' (by omega) (by omega) (by omega) (hid h1)
  have HN1 := hid hn1
  have hl1 := numM_le h1
  clear hn1 h1
  by_cases h10 : e1 = 0
  rotate_left
  · rw [if_pos h10] at H0
    simp only [Prod.mk.injEq] at H0
    obtain ⟨rfl, rfl, rfl, rfl⟩ := H0
    have hb : (e1 != 0) = true := by simpa using h10
    clear h10
    go_enter Try.func53, Try.ntmps53
    go_wp2_with fail
    refine (sropen_at s _ hs HO).mono ?_
    rintro r w1 ⟨rfl, hb1⟩
    go_wp2_with fail
    refine (HRK.out _).mono ?_
    rintro r w2 ⟨rfl, rfl⟩
    go_wp2_with fail
    refine (HN1.out _).mono ?_
    rintro r w2 ⟨rfl, rfl⟩
    go_wp2_with fail
    go_returns
    exact ⟨⟨_, rfl, NI.nil _ _⟩, hb1⟩
  subst h10
  rw [if_neg (by simp)] at H0
  obtain ⟨q, a2, e2, h2⟩ : ∃ x y z, numM u a1 1099511627776 = (x, y, z) := ⟨_, _, _, rfl⟩
  have hp2 := numM_pos h2
  rw [h2] at H0
  simp only at H0
  have hn2 := fun w' => rnumber_any u a1 1099511627776 w' (by omega) (by omega) (by omega) (hid h2)
  have HN2 := hid hn2
  clear hn2 h2
  by_cases h20 : e2 = 0
  rotate_left
  · rw [if_pos h20] at H0
    simp only [Prod.mk.injEq] at H0
    obtain ⟨rfl, rfl, rfl, rfl⟩ := H0
    have hb : (e2 != 0) = true := by simpa using h20
    clear h20
    go_enter Try.func53, Try.ntmps53
    go_wp2_with fail
    refine (sropen_at s _ hs HO).mono ?_
    rintro r w1 ⟨rfl, hb1⟩
    go_wp2_with fail
    refine (HRK.out _).mono ?_
    rintro r w2 ⟨rfl, rfl⟩
    go_wp2_with fail
    refine (HN1.out _).mono ?_
    rintro r w2 ⟨rfl, rfl⟩
    go_wp2_with fail
    refine (HN2.out _).mono ?_
    rintro r w2 ⟨rfl, rfl⟩
    go_wp2_with fail
    go_returns
    exact ⟨⟨_, rfl, NI.nil _ _⟩, hb1⟩
  subst h20
  rw [if_neg (by simp)] at H0
  simp only [Prod.mk.injEq] at H0
  obtain ⟨rfl, rfl, rfl, rfl⟩ := H0
  go_enter Try.func53, Try.ntmps53
  go_wp2_with fail
  refine (sropen_at s _ hs HO).mono ?_
  rintro r w1 ⟨rfl, hb1⟩
  go_wp2_with fail
  refine (HRK.out _).mono ?_
  rintro r w2 ⟨rfl, rfl⟩
  go_wp2_with fail
  refine (HN1.out _).mono ?_
  rintro r w2 ⟨rfl, rfl⟩
  go_wp2_with fail
  refine (HN2.out _).mono ?_
  rintro r w2 ⟨rfl, rfl⟩
  have hown : NI (w1.alloc (.cells #[.int .i64 (n : Int), .int .i64 (q : Int)] 3)) w.heap.size (.slice (some ⟨w1.heap.size, 0, none⟩) 2 2) [n, q] := World.ownsRow_lit w1 #[.int .i64 (n : Int), .int .i64 (q : Int)] 2 hb1.size (by decide) rfl
  have hb3 := sbelow_step hb1 (sbelow_new w1 (.cells #[.int .i64 (n : Int), .int .i64 (q : Int)] 3))
  have H3 := hid (And.intro hown hb3)
  clear hown hb3
  go_wp2_with fail
  go_returns
  exact ⟨⟨_, rfl, H3.out.1⟩, H3.out.2⟩
end Go.Proofs.Ytpfhmpblcmednaa
namespace Go.Proofs.Ytpfhmpblcmednaa
set_option linter.unusedVariables false
set_option linter.unusedSimpArgs false
open Go.RowKit Go.Joins

theorem rspread_at (l : List UInt8) (p : Int) (w : World) (hs : l.length ≤ 140737488351232) (hp : -9223372036854775808 ≤ p ∧ p ≤ 9223372036854775807) {a b c d : Nat} {nm : List UInt8} {st sq kd : Int} {sh : Bool} {x y : Int} {q r : Int} (H : Hid (readS l p = (⟨a, b, c, d, nm, st, sq, kd, sh, x, y⟩, q, r))) :
    Calls Try.prog 55 #[.string (bs l), .int .i64 p] w fun e w' => e = .returned (.tuple #[.agg #[.int .u64 (a : Int), .int .u64 (b : Int), .int .u64 (c : Int), .int .u64 (d : Int), .string (bs nm), .int .i64 st, .int .i64 sq, .int .i64 kd, .bool sh, .int .i64 x, .int .i64 y], .int .i64 q, .int .i64 r]) ∧ Below w.heap.size w w' := rspread_any l p w hs hp H
end Go.Proofs.Ytpfhmpblcmednaa
namespace Go.Proofs.Ytpfhmpblcmednaa
set_option linter.unusedVariables false
set_option linter.unusedSimpArgs false
open Go.RowKit Go.Joins

theorem readS_name {l : List UInt8} {p b : Int} {s : Sp} {e : Int} (h : readS l p = (s, b, e)) : s.name.length ≤ l.length := by
  obtain ⟨t, c, x, hr⟩ : ∃ t c x, runS l p = (t, c, x) := ⟨_, _, _, rfl⟩
  have hn := runS_name hr
  by_cases hx : x = 0
  · subst hx
    by_cases hk : chkS t = 0
    · rw [readS_ok hr hk] at h; simp only [Prod.mk.injEq] at h; rw [← h.1]; exact hn
    · rw [readS_chk hr hk] at h; simp only [Prod.mk.injEq] at h; rw [← h.1]; simp [sp0]
  · rw [readS_err hr hx] at h; simp only [Prod.mk.injEq] at h; rw [← h.1]; simp [sp0]
/-- The variable of a result that is a batch. -/
structure RW (w v : World) (c0 c1 c2 : Value) : Prop where
  res : Blk v w.heap.size 45 #[c0, c1, c2]
  bel : Below w.heap.size w v
theorem RW.new (w : World) : RW w (w.alloc (.cells #[.int .i64 0, .int .i64 0, .slice none 0 0] 45)) (.int .i64 0) (.int .i64 0) (.slice none 0 0) := ⟨Blk.new _ _ _, sbelow_new _ _⟩
theorem RW.up {w v v' : World} {c0 c1 c2 : Value} (h : RW w v c0 c1 c2) (hb : Below v.heap.size v v') : RW w v' c0 c1 c2 := ⟨Blk.below h.res hb (Blk.lt h.res), sbelow_step h.bel hb⟩
theorem RW.fill {w v : World} {c0 c1 c2 : Value} (h : RW w v c0 c1 c2) (x0 x1 x2 : Value) : RW w (((v.setCell ⟨w.heap.size, 0, none⟩ x0).setCell ⟨w.heap.size, 1, none⟩ x1).setCell ⟨w.heap.size, 2, none⟩ x2) x0 x1 x2 := by
  have h0 : Blk (v.setCell ⟨w.heap.size, 0, none⟩ x0) w.heap.size 45 #[x0, c1, c2] := Blk.set_ h.res 0 x0
  have h1 : Blk ((v.setCell ⟨w.heap.size, 0, none⟩ x0).setCell ⟨w.heap.size, 1, none⟩ x1) w.heap.size 45 #[x0, x1, c2] := Blk.set_ h0 1 x1
  exact ⟨Blk.set_ h1 2 x2, setb (setb (setb h.bel (Nat.le_refl _) x0) (Nat.le_refl _) x1) (Nat.le_refl _) x2⟩
theorem RW.cells {w v : World} {c0 c1 c2 : Value} (h : RW w v c0 c1 c2) : v.cell? ⟨w.heap.size, 0, none⟩ = some c0 ∧ v.cell? ⟨w.heap.size, 1, none⟩ = some c1 ∧ v.cell? ⟨w.heap.size, 2, none⟩ = some c2 ∧ v.frozen? ⟨w.heap.size, 0, none⟩ = false ∧ v.frozen? ⟨w.heap.size, 1, none⟩ = false ∧ v.frozen? ⟨w.heap.size, 2, none⟩ = false :=
  ⟨Blk.cell h.res 0, Blk.cell h.res 1, Blk.cell h.res 2, Blk.frozen h.res 0, Blk.frozen h.res 1, Blk.frozen h.res 2⟩
end Go.Proofs.Ytpfhmpblcmednaa
namespace Go.Proofs.Ytpfhmpblcmednaa
set_option linter.unusedVariables false
set_option linter.unusedSimpArgs false
open Go.RowKit Go.Joins

theorem RW.upB {w v v' : World} {c0 c1 c2 : Value} {Bd : Nat} (h : RW w v c0 c1 c2) (hb : Below Bd v v') (h1 : w.heap.size < Bd) (h2 : Bd ≤ v.heap.size) : RW w v' c0 c1 c2 :=
  ⟨Blk.below h.res hb h1, h.bel.trans (hb.mono (Nat.le_of_lt h1))⟩
theorem RW.setFar {w v : World} {c0 c1 c2 : Value} {g i : Nat} (h : RW w v c0 c1 c2) (hg : w.heap.size < g) (u : Value) : RW w (v.setCell ⟨g, i, none⟩ u) c0 c1 c2 :=
  ⟨Blk.far h.res (by simp only [ne_eq]; omega) u, setb h.bel (by omega) u⟩
theorem SPB.setFar {w : World} {base g i : Nat} {v : Value} {L : List Sp} (h : SPB w base v L) (hg : g < base) (u : Value) : SPB (w.setCell ⟨g, i, none⟩ u) base v L := h.far hg u
theorem SPB.grown {w w' : World} {base : Nat} {v : Value} {L : List Sp} (h : SPB w base v L) (hb : Below w.heap.size w w') : SPB w' base v L := h.below hb
/-- Where the definition's loop is. -/
structure LP (w : World) (g Bd : Nat) (n q : Int) (v : World) (f : Value) (acc : List Sp) : Prop where
  res : RW w v (.int .i64 0) (.int .i64 0) (.slice none 0 0)
  own : Blk v g 45 #[.int .i64 n, .int .i64 q, f]
  row : SPB v Bd f acc
  size : Bd ≤ v.heap.size
  ltw : w.heap.size < g
  ltg : g < Bd
theorem LP.up {w : World} {g Bd : Nat} {n q : Int} {v v' : World} {f : Value} {acc : List Sp} (h : LP w g Bd n q v f acc) (hb : Below v.heap.size v v') : LP w g Bd n q v' f acc :=
  ⟨h.res.up hb, Blk.below h.own hb (Blk.lt h.own), h.row.below hb, Nat.le_trans h.size hb.size, h.ltw, h.ltg⟩
theorem LP.put {w : World} {g Bd : Nat} {n q : Int} {v v' : World} {f f' : Value} {acc acc' : List Sp} (h : LP w g Bd n q v f acc) (hb : Below Bd v v') (hr : SPB v' Bd f' acc') : LP w g Bd n q (v'.setCell ⟨g, 2, none⟩ f') f' acc' := by
  have hl1 := h.ltw
  have hl2 := h.ltg
  have ho : Blk v' g 45 #[.int .i64 n, .int .i64 q, f] := Blk.below h.own hb hl2
  refine ⟨(h.res.upB hb (by omega) h.size).setFar hl1 _, Blk.set_ ho 2 f', hr.setFar hl2 _, ?_, hl1, hl2⟩
  have := hb.size
  simp [World.setCell]
  exact Nat.le_trans h.size this
theorem LP.cells {w : World} {g Bd : Nat} {n q : Int} {v : World} {f : Value} {acc : List Sp} (h : LP w g Bd n q v f acc) : v.cell? ⟨g, 0, none⟩ = some (.int .i64 n) ∧ v.cell? ⟨g, 1, none⟩ = some (.int .i64 q) ∧ v.cell? ⟨g, 2, none⟩ = some f ∧ v.frozen? ⟨g, 2, none⟩ = false :=
  ⟨Blk.cell h.own 0, Blk.cell h.own 1, Blk.cell h.own 2, Blk.frozen h.own 2⟩
theorem keep2 {v : World} {g : Nat} {x y : Value} (h0 : v.cell? ⟨g, 0, none⟩ = some x) (h1 : v.cell? ⟨g, 1, none⟩ = some y) : v.drew.cell? ⟨g, 0, none⟩ = some x ∧ v.drew.cell? ⟨g, 1, none⟩ = some y := ⟨h0, h1⟩
theorem keep2a {v : World} {g : Nat} {x y : Value} (h0 : v.cell? ⟨g, 0, none⟩ = some x) (h1 : v.cell? ⟨g, 1, none⟩ = some y) (ob : Obj) : (v.alloc ob).drew.cell? ⟨g, 0, none⟩ = some x ∧ (v.alloc ob).drew.cell? ⟨g, 1, none⟩ = some y :=
  ⟨((sbelow_new v ob).cell (p := ⟨g, 0, none⟩) (lt_of_cell h0)).trans h0, ((sbelow_new v ob).cell (p := ⟨g, 1, none⟩) (lt_of_cell h1)).trans h1⟩
set_option maxRecDepth 100000 in
set_option maxHeartbeats 16000000 in
theorem rbread_any (s : List UInt8) (w : World) (hs : s.length ≤ 140737488351232) {n q : Nat} {L : List Sp} {r : Int} (H : Hid (readB s = (n, q, L, r))) :
    Calls Try.prog 17 #[.string (bs s)] w fun e w' => (∃ v, e = .returned (.tuple #[.agg #[.int .i64 n, .int .i64 q, v], .int .i64 r]) ∧ SPB w' w.heap.size v L) ∧ Below w.heap.size w w' := by
  have H0 := H.out
  clear H
  obtain ⟨l, e, ho⟩ : ∃ l e, opM mkB s = (l, e) := ⟨_, _, rfl⟩
  have hll := opM_len ho
  rw [readB, ho] at H0
  simp only at H0
  obtain ⟨n', a1, e1, h1⟩ : ∃ x y z, nmP l 7 0 0 = (x, y, z) := ⟨_, _, _, rfl⟩
  obtain ⟨q', a2, e2, h2⟩ : ∃ x y z, nmP l 1099511627776 a1 e1 = (x, y, z) := ⟨_, _, _, rfl⟩
  obtain ⟨m, a3, e3, h3⟩ : ∃ x y z, nmP l 16 a2 e2 = (x, y, z) := ⟨_, _, _, rfl⟩
  have b1 := nmP_in h1 (by omega)
  have b2 := nmP_in h2 b1
  have b3 := nmP_in h3 b2
  obtain ⟨f1, f2, f3⟩ := fr_link mkB_len ho h1 h2
  by_cases he : e = 0
  rotate_left
  · rw [if_pos he] at H0
    simp only [Prod.mk.injEq] at H0
    obtain ⟨rfl, rfl, rfl, rfl⟩ := H0
    have hfr := fun w' => front_any mkB s 1 kind_one w' hs (hid (f1 he))
    have HFR := hid hfr
    have hb : (e != 0) = true := by simpa using he
    clear he f1 f2 f3 h1 h2 h3 ho hfr
    go_enter Try.func17, Try.ntmps17
    go_upto_region 1 with (fail)
    have t0 := RW.new w
    generalize w.alloc (.cells #[.int .i64 0, .int .i64 0, .slice none 0 0] 45) = v0 at *
    go_wp2_with fail
    refine (HFR.out _).mono ?_
    rintro r w1 ⟨⟨vf, rfl, hf⟩, hb1⟩
    have t1 := t0.up hb1
    clear hb1 t0
    obtain ⟨r0, r1, r2, z0, z1, z2⟩ := RW.cells t1
    go_wp2_with fail
    have t9 := RW.fill t1 (.int .i64 0) (.int .i64 0) (.slice none 0 0)
    clear r0 r1 r2 z0 z1 z2
    generalize (((w1.setCell ⟨w.heap.size, 0, none⟩ (.int .i64 0)).setCell ⟨w.heap.size, 1, none⟩ (.int .i64 0)).setCell ⟨w.heap.size, 2, none⟩ (.slice none 0 0)) = v9 at *
    obtain ⟨r0, r1, r2, z0, z1, z2⟩ := t9.cells
    (try simp only [Exit.inBlock, Exit.then])
    refine bodyPost_ret (v := .tuple #[.agg #[(.int .i64 0), (.int .i64 0), (.slice none 0 0)], .int .i64 e]) (by simp [results, Try.results17, go_sem, r0, r1, r2]; try rfl) rfl ?_
    exact ⟨⟨_, rfl, SPB.nil _ _⟩, t9.bel⟩
  rw [if_neg (by simpa using he)] at H0
  by_cases h20 : e2 = 0
  rotate_left
  · have h3' := h3
    rw [nmP_err h20] at h3'
    simp only [Prod.mk.injEq] at h3'
    obtain ⟨-, -, rfl⟩ := h3'
    rw [rdB_err h1 h2 h3 h20] at H0
    simp only [Prod.mk.injEq] at H0
    obtain ⟨rfl, rfl, rfl, rfl⟩ := H0
    have hfr := fun w' => front_any mkB s 1 kind_one w' hs (hid (f2 he h20))
    have HFR := hid hfr
    have hb : (e2 != 0) = true := by simpa using h20
    clear he f1 f2 f3 h1 h2 h3 ho hfr h20
    go_enter Try.func17, Try.ntmps17
    go_upto_region 1 with (fail)
    have t0 := RW.new w
    generalize w.alloc (.cells #[.int .i64 0, .int .i64 0, .slice none 0 0] 45) = v0 at *
    go_wp2_with fail
    refine (HFR.out _).mono ?_
    rintro r w1 ⟨⟨vf, rfl, hf⟩, hb1⟩
    have t1 := t0.up hb1
    clear hb1 t0
    obtain ⟨r0, r1, r2, z0, z1, z2⟩ := RW.cells t1
    go_wp2_with fail
    have t9 := RW.fill t1 (.int .i64 0) (.int .i64 0) (.slice none 0 0)
    clear r0 r1 r2 z0 z1 z2
    generalize (((w1.setCell ⟨w.heap.size, 0, none⟩ (.int .i64 0)).setCell ⟨w.heap.size, 1, none⟩ (.int .i64 0)).setCell ⟨w.heap.size, 2, none⟩ (.slice none 0 0)) = v9 at *
    obtain ⟨r0, r1, r2, z0, z1, z2⟩ := t9.cells
    (try simp only [Exit.inBlock, Exit.then])
    refine bodyPost_ret (v := .tuple #[.agg #[(.int .i64 0), (.int .i64 0), (.slice none 0 0)], .int .i64 e2]) (by simp [results, Try.results17, go_sem, r0, r1, r2]; try rfl) rfl ?_
    exact ⟨⟨_, rfl, SPB.nil _ _⟩, t9.bel⟩
  have hfr := fun w' => front_any mkB s 1 kind_one w' hs (hid (f3 he h20))
  have HFR := hid hfr
  have htl2 : (mkB ++ l).length ≤ s.length := by
    have hb := (opM_back (m := mkB) (s := s) (l := l) (by rw [he] at ho; exact ho)).1
    have hb2 := congrArg List.length hb
    rw [sealS_length] at hb2
    omega
  subst h20
  clear f1 f2 f3 hfr ho
  obtain ⟨g3, g4⟩ := num_link mkB l b2.1 h3
  have htl : (mkB ++ l).length = 3 + l.length := by rw [List.length_append, mkB_len]
  rw [mkB_len] at g3 g4
  by_cases h30 : e3 = 0
  rotate_left
  · rw [rdB_err h1 h2 h3 h30] at H0
    simp only [Prod.mk.injEq] at H0
    obtain ⟨rfl, rfl, rfl, rfl⟩ := H0
    have hnn := fun w' => rnumber_any (mkB ++ l) (3 + a2) 16 w' (by omega) (by omega) (by omega) (hid (g4 h30))
    have HNN := hid hnn
    have hb : (e3 != 0) = true := by simpa using h30
    clear g3 g4 hnn h30 h1 h2 h3
    generalize mkB ++ l = t at *
    go_enter Try.func17, Try.ntmps17
    go_upto_region 1 with (fail)
    have t0 := RW.new w
    generalize w.alloc (.cells #[.int .i64 0, .int .i64 0, .slice none 0 0] 45) = v0 at *
    go_wp2_with fail
    refine (HFR.out _).mono ?_
    rintro r w1 ⟨⟨vf, rfl, hf⟩, hb1⟩
    have t1 := t0.up hb1
    clear hb1 t0
    go_wp2_with fail
    refine (HNN.out _).mono ?_
    rintro r w2 ⟨rfl, rfl⟩
    obtain ⟨r0, r1, r2, z0, z1, z2⟩ := RW.cells t1
    go_wp2_with fail
    have t9 := RW.fill t1 (.int .i64 0) (.int .i64 0) (.slice none 0 0)
    clear r0 r1 r2 z0 z1 z2
    generalize (((w1.setCell ⟨w.heap.size, 0, none⟩ (.int .i64 0)).setCell ⟨w.heap.size, 1, none⟩ (.int .i64 0)).setCell ⟨w.heap.size, 2, none⟩ (.slice none 0 0)) = v9 at *
    obtain ⟨r0, r1, r2, z0, z1, z2⟩ := t9.cells
    (try simp only [Exit.inBlock, Exit.then])
    refine bodyPost_ret (v := .tuple #[.agg #[(.int .i64 0), (.int .i64 0), (.slice none 0 0)], .int .i64 e3]) (by simp [results, Try.results17, go_sem, r0, r1, r2]; try rfl) rfl ?_
    exact ⟨⟨_, rfl, SPB.nil _ _⟩, t9.bel⟩
  subst h30
  obtain ⟨g5, g6, g7, hm16⟩ := g3 rfl
  have hnn := fun w' => rnumber_any (mkB ++ l) (3 + a2) 16 w' (by omega) (by omega) (by omega) (hid g5)
  have HNN := hid hnn
  obtain ⟨k3, rfl⟩ := Int.eq_ofNat_of_zero_le g6
  obtain ⟨L0, c0, x0, hrs⟩ : ∃ L0 c0 x0, rsS (l.drop k3) m 0 = (L0, c0, x0) := ⟨_, _, _, rfl⟩
  have hsh := rsS_sh (mkB ++ l.take k3) (l.drop k3) m 0 (Int.le_refl 0)
  rw [List.append_assoc, List.take_append_drop, hrs] at hsh
  have hpl : (((mkB ++ l.take k3).length : Nat) : Int) = 3 + k3 := by rw [List.length_append, mkB_len, List.length_take]; omega
  rw [hpl, show (3 : Int) + (k3 : Int) + 0 = 3 + k3 by omega] at hsh
  simp only at hsh
  have hrange : x0 = 0 → 0 ≤ c0 ∧ c0 ≤ (l.drop k3).length := fun hx => by
    subst hx
    obtain ⟨_, p1, p2, _⟩ := rs_back m 0 c0 L0 (by omega) (by omega) hrs
    exact ⟨p1, p2⟩
  rw [List.length_drop] at hrange
  obtain ⟨cc, hcc⟩ : ∃ cc, (if x0 = 0 then (3 : Int) + k3 + c0 else 0) = cc := ⟨_, rfl⟩
  rw [hcc] at hsh
  have hsp : spsS (l.drop k3) m = if x0 ≠ 0 then ([], x0) else if c0 < (l.drop k3).length then ([], 3) else if m = 0 then ([], 9) else (L0, 0) := by rw [spsS, hrs]
  obtain ⟨L', yy, hly⟩ : ∃ L' y, spsS (l.drop k3) m = (L', y) := ⟨_, _, rfl⟩
  rw [rdB_spans (L := L') (e := yy) h1 h2 h3 (by rw [Int.toNat_natCast]; exact hly)] at H0
  rw [hly, List.length_drop] at hsp
  have HSH := hid hsh
  have HH := hid H0
  have HSP := hid hsp
  have HCC := hid hcc
  have HRG := hid hrange
  clear g3 g4 g5 hnn h1 h2 h3 hrs hsh hpl hly H0 hsp hcc hrange
  generalize mkB ++ l = t at *
  go_enter Try.func17, Try.ntmps17
  go_upto_region 1 with (fail)
  have t0 := RW.new w
  generalize w.alloc (.cells #[.int .i64 0, .int .i64 0, .slice none 0 0] 45) = v0 at *
  go_wp2_with fail
  refine (HFR.out _).mono ?_
  rintro r w1 ⟨⟨vf, rfl, hf⟩, hb1⟩
  have t1 := t0.up hb1
  clear hb1 t0
  go_wp2_with fail
  refine (HNN.out _).mono ?_
  rintro r w2 ⟨rfl, rfl⟩
  obtain ⟨gf, cf, rfl, hgf1, hgf2, hcell⟩ := hf.form (by simp)
  have x0' : w1.cell? ⟨gf, 0, none⟩ = some (.int .i64 (n' : Int)) := hcell 0 (by simp)
  have x1' : w1.cell? ⟨gf, 1, none⟩ = some (.int .i64 (q' : Int)) := hcell 1 (by simp)
  clear hcell hf HFR HNN
  simp only [List.length_cons, List.length_nil]
  go_wp2_with fail
  go_region_held3 (fun w' => w'.cell? ⟨gf, 0, none⟩ = some (.int .i64 (n' : Int)) ∧ w'.cell? ⟨gf, 1, none⟩ = some (.int .i64 (q' : Int))) (first | (with_reducible exact keep2 x0' x1') | (with_reducible exact keep2a x0' x1' _)) (fail)
  have hlp : LP w w1.heap.size (w1.heap.size + 1) n' q' (w1.alloc (.cells #[.int .i64 (n' : Int), .int .i64 (q' : Int), .slice none 0 0] 45)).drew (.slice none 0 0) [] := by
    have hb := (sbelow_new w1 (.cells #[.int .i64 (n' : Int), .int .i64 (q' : Int), .slice none 0 0] 45)).drew
    have hu := t1.up hb
    refine ⟨hu, Blk.drew (Blk.new _ _ _), SPB.nil _ _, by simp [World.drew], Blk.lt t1.res, by omega⟩
  have HLP := hid hlp
  clear hlp x0' x1' t1
  generalize (w1.alloc (.cells #[.int .i64 (n' : Int), .int .i64 (q' : Int), .slice none 0 0] 45)).drew = v2 at *
  go_wp2_with fail
  go_loopw [6, 10] (fun at' i wr => ∃ (j : Nat) (p : Int) (acc : List Sp) (f : Value), j ≤ m ∧ 0 ≤ p ∧ p ≤ t.length ∧ Hid (acc.length = j ∧ cmr acc (rsS t (m - j) p) = (L0, cc, x0) ∧ LP w w1.heap.size (w1.heap.size + 1) n' q' wr f acc) ∧ at' = .int .i64 p ∧ i = .int .i64 j) (fun _ i _ => m - (intOf i).toNat)
  case atStart => exact ⟨0, 3 + k3, [], .slice none 0 0, by omega, by omega, by omega, hid ⟨rfl, by rw [Nat.sub_zero, cmr_nil]; exact HSH.out, HLP.out⟩, rfl, rfl⟩
  case round =>
    obtain ⟨j, p, acc, f, hj, hp0, hp1, HW, rfl, rfl⟩ := hrel
    by_cases hlt : j < m
    · obtain ⟨s2, b2', y2, hrd⟩ : ∃ s q r, readS t p = (s, q, r) := ⟨_, _, _, rfl⟩
      obtain ⟨a, b, c, d, nm, st, sq, kd, sh, x, y⟩ := s2
      have HRD := hid hrd
      have hsr := fun w' => rspread_at t p w' (by omega) (by omega) HRD
      have HSR := hid hsr
      have hji : decide ((j : Int) < (m : Int)) = true := by simp; omega
      clear hsr
      by_cases hr0 : y2 = 0
      · subst hr0
        have hbk := readS_back hrd
        have HSTEP := hid (cmr_step (k := m - (j + 1)) acc hrd)
        have hq0 : 0 ≤ b2' := by omega
        have hq1 : b2' ≤ t.length := hbk.2.2.1
        clear hbk hrd
        go_wp2_with fail
        refine (HSR.out _).mono ?_
        rintro e' w3 ⟨rfl, hb3⟩
        have hlA := (HW.out.2.2.up hb3).up (sbelow_new w3 (.cells #[.int .u64 (a : Int), .int .u64 (b : Int), .int .u64 (c : Int), .int .u64 (d : Int), .string (bs nm), .int .i64 st, .int .i64 sq, .int .i64 kd, .bool sh, .int .i64 x, .int .i64 y] 37))
        have hsA := SB.new w3 a b c d nm st sq kd sh x y
        clear hb3
        go_upto_region 12 with (fail)
        generalize w3.alloc (.cells #[.int .u64 (a : Int), .int .u64 (b : Int), .int .u64 (c : Int), .int .u64 (d : Int), .string (bs nm), .int .i64 st, .int .i64 sq, .int .i64 kd, .bool sh, .int .i64 x, .int .i64 y] 37) = v3 at *
        obtain ⟨c0, c1, c2, c3, c4, c5, c6, c7, c8, c9, c10⟩ := hsA.cells
        obtain ⟨k0, k1, k2, kf⟩ := hlA.cells
        have hlt1 : w1.heap.size < v3.heap.size := lt_of_cell k0
        have hbB := sbelow_new v3 (.cells #[.int .u64 (a : Int), .int .u64 (b : Int), .int .u64 (c : Int), .int .u64 (d : Int), .string (bs nm), .int .i64 st, .int .i64 sq, .int .i64 kd, .bool sh, .int .i64 x, .int .i64 y] 37)
        have hoB := hlA.row.below hbB
        have hcB : ∀ i, i < 11 → (v3.alloc (.cells #[.int .u64 (a : Int), .int .u64 (b : Int), .int .u64 (c : Int), .int .u64 (d : Int), .string (bs nm), .int .i64 st, .int .i64 sq, .int .i64 kd, .bool sh, .int .i64 x, .int .i64 y] 37)).cell? ⟨v3.heap.size, i, none⟩ = (spA ⟨a, b, c, d, nm, st, sq, kd, sh, x, y⟩).toList[i]? := fun i _ => by rw [Array.getElem?_toList]; exact Blk.cell (SB.new v3 a b c d nm st sq kd sh x y) i
        have hB3 : Below (w1.heap.size + 1) v3 (v3.alloc (.cells #[.int .u64 (a : Int), .int .u64 (b : Int), .int .u64 (c : Int), .int .u64 (d : Int), .string (bs nm), .int .i64 st, .int .i64 sq, .int .i64 kd, .bool sh, .int .i64 x, .int .i64 y] 37)) := hbB.mono hlA.size
        have HBB := hid (And.intro hB3 (And.intro hoB hcB))
        have HLA := hid hlA
        clear hbB hoB hcB hsA hB3 hlA
        go_wp2_with (at_builtin; refine wpList_append_sp rfl _ _ rfl (w1.heap.size + 1) f acc ⟨a, b, c, d, nm, st, sq, kd, sh, x, y⟩ v3.heap.size rfl HBB.out.2.1 rfl HBB.out.2.2 (by have := HW.out.1; omega) HBB.out.1 HLA.out.size ?_)
        intro v' w4 hown hb4 _
        have hc4 : w4.cell? ⟨w1.heap.size, 2, none⟩ = some f := (hb4.cell (p := ⟨w1.heap.size, 2, none⟩) (Nat.lt_succ_self _)).trans k2
        have hf4 : w4.frozen? ⟨w1.heap.size, 2, none⟩ = false := (hb4.frozen (p := ⟨w1.heap.size, 2, none⟩) (Nat.lt_succ_self _)).trans kf
        obtain ⟨AA, ca, hva⟩ : ∃ AA ca, v' = .slice AA (acc.length + 1) ca := by obtain ⟨A, c, e, _⟩ := SPB.form hown; rw [List.length_append] at e; exact ⟨A, c, e⟩
        subst hva
        have H2 := hid (HLA.out.put hb4 hown)
        clear hown hb4 c0 c1 c2 c3 c4 c5 c6 c7 c8 c9 c10 k0 k1 k2 kf
        go_wp2_with fail
        go_roundw
        case rel =>
          refine ⟨j + 1, b2', acc ++ [⟨a, b, c, d, nm, st, sq, kd, sh, x, y⟩], _, by omega, hq0, hq1, hid ⟨by rw [List.length_append, HW.out.1]; rfl, ?_, H2.out⟩, rfl, by go_num⟩
          rw [← HSTEP.out, show m - (j + 1) + 1 = m - j by omega]
          exact HW.out.2.1
        case measure => simp [intOf]; omega
      · have hst := rsS_err (k := m - (j + 1)) hrd hr0
        have hc := HW.out.2.1
        rw [show m - j = m - (j + 1) + 1 by omega, hst, cmr, if_pos hr0] at hc
        simp only [Prod.mk.injEq] at hc
        obtain ⟨-, -, rfl⟩ := hc
        have h0 := HSP.out
        rw [if_pos hr0] at h0
        simp only [Prod.mk.injEq] at h0
        obtain ⟨rfl, hyy⟩ := h0
        subst hyy
        have h1 := HH.out
        rw [if_pos hr0] at h1
        simp only [Prod.mk.injEq] at h1
        obtain ⟨rfl, rfl, rfl, rfl⟩ := h1
        have hb : (yy != 0) = true := by simpa using hr0
        clear hr0 hst hrd
        go_wp2_with fail
        refine (HSR.out _).mono ?_
        rintro e' w3 ⟨rfl, hb3⟩
        have hlA := (HW.out.2.2.up hb3).up (sbelow_new w3 (.cells #[.int .u64 (a : Int), .int .u64 (b : Int), .int .u64 (c : Int), .int .u64 (d : Int), .string (bs nm), .int .i64 st, .int .i64 sq, .int .i64 kd, .bool sh, .int .i64 x, .int .i64 y] 37))
        have t3 := hlA.res
        clear hb3 hlA
        go_upto_region 12 with (fail)
        generalize w3.alloc (.cells #[.int .u64 (a : Int), .int .u64 (b : Int), .int .u64 (c : Int), .int .u64 (d : Int), .string (bs nm), .int .i64 st, .int .i64 sq, .int .i64 kd, .bool sh, .int .i64 x, .int .i64 y] 37) = v3 at *
        obtain ⟨r0, r1, r2, z0, z1, z2⟩ := RW.cells t3
        go_wp2_with fail
        have t9 := RW.fill t3 (.int .i64 0) (.int .i64 0) (.slice none 0 0)
        clear r0 r1 r2 z0 z1 z2
        generalize (((v3.setCell ⟨w.heap.size, 0, none⟩ (.int .i64 0)).setCell ⟨w.heap.size, 1, none⟩ (.int .i64 0)).setCell ⟨w.heap.size, 2, none⟩ (.slice none 0 0)) = v9 at *
        obtain ⟨r0, r1, r2, z0, z1, z2⟩ := t9.cells
        (try simp only [Exit.inBlock, Exit.then])
        refine bodyPost_ret (v := .tuple #[.agg #[(.int .i64 0), (.int .i64 0), (.slice none 0 0)], .int .i64 yy]) (by simp [results, Try.results17, go_sem, r0, r1, r2]; try rfl) rfl ?_
        exact ⟨⟨_, rfl, SPB.nil _ _⟩, t9.bel⟩
    · obtain rfl : j = m := by omega
      have hc := HW.out.2.1
      rw [Nat.sub_self, rsS, cmr, if_neg (by simp)] at hc
      simp only [Prod.mk.injEq, List.append_nil] at hc
      obtain ⟨rfl, hpc, hx0⟩ := hc
      have h0 := HSP.out
      rw [← hx0, if_neg (by simp)] at h0
      have hcc := HCC.out
      rw [← hx0, if_pos rfl] at hcc
      have hrg := HRG.out hx0.symm
      have hji : decide ((j : Int) < (j : Int)) = false := by simp
      have t3 := HW.out.2.2.res
      by_cases hshort : c0 < ((l.length - k3 : Nat) : Int)
      · rw [if_pos hshort] at h0
        simp only [Prod.mk.injEq] at h0
        obtain ⟨rfl, rfl⟩ := h0
        have h1 := HH.out
        rw [if_pos (by simp)] at h1
        simp only [Prod.mk.injEq] at h1
        obtain ⟨rfl, rfl, rfl, rfl⟩ := h1
        have hne : (p != ((t.length : Nat) : Int)) = true := by simp; omega
        clear hcc hrg hpc hx0
        obtain ⟨r0, r1, r2, z0, z1, z2⟩ := RW.cells t3
        go_wp2_with fail
        have t9 := RW.fill t3 (.int .i64 0) (.int .i64 0) (.slice none 0 0)
        clear r0 r1 r2 z0 z1 z2
        generalize (((wr.setCell ⟨w.heap.size, 0, none⟩ (.int .i64 0)).setCell ⟨w.heap.size, 1, none⟩ (.int .i64 0)).setCell ⟨w.heap.size, 2, none⟩ (.slice none 0 0)) = v9 at *
        obtain ⟨r0, r1, r2, z0, z1, z2⟩ := t9.cells
        (try simp only [Exit.inBlock, Exit.then])
        refine bodyPost_ret (v := .tuple #[.agg #[(.int .i64 0), (.int .i64 0), (.slice none 0 0)], .int .i64 3]) (by simp [results, Try.results17, go_sem, r0, r1, r2]; try rfl) rfl ?_
        exact ⟨⟨_, rfl, SPB.nil _ _⟩, t9.bel⟩
      · rw [if_neg hshort] at h0
        have hne : (p != ((t.length : Nat) : Int)) = false := by simp; omega
        by_cases hz : j = 0
        · rw [if_pos hz] at h0
          simp only [Prod.mk.injEq] at h0
          obtain ⟨rfl, rfl⟩ := h0
          have h1 := HH.out
          rw [if_pos (by simp)] at h1
          simp only [Prod.mk.injEq] at h1
          obtain ⟨rfl, rfl, rfl, rfl⟩ := h1
          have hbz : ((j : Int) == 0) = true := by simp [hz]
          have HZ := hid hz
          clear hz hcc hrg hpc hx0
          obtain ⟨r0, r1, r2, z0, z1, z2⟩ := RW.cells t3
          go_wp2_with fail
          have t9 := RW.fill t3 (.int .i64 0) (.int .i64 0) (.slice none 0 0)
          clear r0 r1 r2 z0 z1 z2
          generalize (((wr.setCell ⟨w.heap.size, 0, none⟩ (.int .i64 0)).setCell ⟨w.heap.size, 1, none⟩ (.int .i64 0)).setCell ⟨w.heap.size, 2, none⟩ (.slice none 0 0)) = v9 at *
          obtain ⟨r0, r1, r2, z0, z1, z2⟩ := t9.cells
          (try simp only [Exit.inBlock, Exit.then])
          refine bodyPost_ret (v := .tuple #[.agg #[(.int .i64 0), (.int .i64 0), (.slice none 0 0)], .int .i64 9]) (by simp [results, Try.results17, go_sem, r0, r1, r2]; try rfl) rfl ?_
          exact ⟨⟨_, rfl, SPB.nil _ _⟩, t9.bel⟩
        · rw [if_neg hz] at h0
          simp only [Prod.mk.injEq] at h0
          obtain ⟨rfl, rfl⟩ := h0
          have h1 := HH.out
          rw [if_neg (by simp)] at h1
          simp only [Prod.mk.injEq] at h1
          obtain ⟨rfl, rfl, rfl, rfl⟩ := h1
          have hbz : ((j : Int) == 0) = false := by simp; omega
          clear hz hcc hrg hpc hx0
          obtain ⟨k0, k1, k2, kf⟩ := HW.out.2.2.cells
          have hneg : w.heap.size ≠ w1.heap.size := Nat.ne_of_lt HW.out.2.2.ltw
          obtain ⟨AA, ca, hva⟩ : ∃ AA ca, f = .slice AA L'.length ca := by obtain ⟨A, c, e, _⟩ := SPB.form HW.out.2.2.row; exact ⟨A, c, e⟩
          subst hva
          have hrow := HW.out.2.2.row
          have hlw := HW.out.2.2.ltw
          have hown := SPB.more (((hrow.far (g := w.heap.size) (by omega) (i := 0) (.int .i64 (n' : Int))).far (g := w.heap.size) (by omega) (i := 1) (.int .i64 (q' : Int))).far (g := w.heap.size) (by omega) (i := 2) (.slice AA L'.length ca)) (base' := w.heap.size) (by omega)
          clear hrow
          obtain ⟨r0, r1, r2, z0, z1, z2⟩ := RW.cells t3
          go_wp2_with fail
          have t9 := RW.fill t3 (.int .i64 (n' : Int)) (.int .i64 (q' : Int)) (.slice AA L'.length ca)
          clear r0 r1 r2 z0 z1 z2
          generalize (((wr.setCell ⟨w.heap.size, 0, none⟩ (.int .i64 (n' : Int))).setCell ⟨w.heap.size, 1, none⟩ (.int .i64 (q' : Int))).setCell ⟨w.heap.size, 2, none⟩ (.slice AA L'.length ca)) = v9 at *
          obtain ⟨r0, r1, r2, z0, z1, z2⟩ := t9.cells
          (try simp only [Exit.inBlock, Exit.then])
          refine bodyPost_ret (v := .tuple #[.agg #[(.int .i64 (n' : Int)), (.int .i64 (q' : Int)), (.slice AA L'.length ca)], .int .i64 0]) (by simp [results, Try.results17, go_sem, r0, r1, r2]; try rfl) rfl ?_
          exact ⟨⟨_, rfl, hown⟩, t9.bel⟩
set_option maxRecDepth 100000 in
set_option maxHeartbeats 4000000 in
theorem ssame_any (A1 A2 : Option Addr) (p1 p2 : Nat) (L : List Sp) (w : World) (h1 : SR w (· < w.heap.size) A1 L) (h2 : SR w (· < w.heap.size) A2 L) (hl : L.length ≤ 10000000) :
    Calls Try.prog 21 #[.slice A1 L.length p1, .slice A2 L.length p2] w fun e w' => e = .returned (.bool true) ∧ Below w.heap.size w w' := by
  have G1 := hid h1
  have G2 := hid h2
  have hg := sp_guard
  clear h1 h2
  go_enter Try.func21, Try.ntmps21
  go_wp2_with fail
  go_loopw [5] (fun i wr => ∃ k : Nat, k ≤ L.length ∧ i = .int .i64 k ∧ Hid (Below w.heap.size w wr)) (fun i _ => L.length - (intOf i).toNat)
  case atStart => exact ⟨0, by omega, rfl, hid (Below.refl _ _)⟩
  case round =>
    obtain ⟨k, hk, rfl, HW⟩ := hrel
    by_cases hlt : k < L.length
    · obtain ⟨b1, o1, rfl, hB1, c0, c1, c2, c3, c4, c5, c6, c7, c8, c9, c10⟩ := (G1.out.below HW.out) k hlt
      obtain ⟨b2, o2, rfl, hB2, d0, d1, d2, d3, d4, d5, d6, d7, d8, d9, d10⟩ := (G2.out.below HW.out) k hlt
      generalize L[k] = s at *
      obtain ⟨a, b, c, d, nm, st, sq, kd, sh, x, y⟩ := s
      simp only at c0 c1 c2 c3 c4 c5 c6 c7 c8 c9 c10 d0 d1 d2 d3 d4 d5 d6 d7 d8 d9 d10
      have hki : decide ((k : Int) < ((L.length : Nat) : Int)) = true := by simp; omega
      have hne : ∀ w : World, (binOp .neq 37 (.agg #[.int .u64 (a : Int), .int .u64 (b : Int), .int .u64 (c : Int), .int .u64 (d : Int), .string (bs nm), .int .i64 st, .int .i64 sq, .int .i64 kd, .bool sh, .int .i64 x, .int .i64 y]) (.agg #[.int .u64 (a : Int), .int .u64 (b : Int), .int .u64 (c : Int), .int .u64 (d : Int), .string (bs nm), .int .i64 st, .int .i64 sq, .int .i64 kd, .bool sh, .int .i64 x, .int .i64 y])).run Try.prog w = .ok (.bool false) w := fun w => sp_neq w a b c d nm st sq kd sh x y
      go_wp2_with fail
      go_quiet (fail)
      go_wp2_with fail
      go_roundw
      case rel => exact ⟨k + 1, by omega, by go_num, hid (below_drewN HW.out _)⟩
      case measure => simp [intOf]; omega
    · obtain rfl : k = L.length := by omega
      go_wp2_with fail
      go_returns
      exact ⟨rfl, HW.out⟩
end Go.Proofs.Ytpfhmpblcmednaa
