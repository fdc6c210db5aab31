import Derived.Test.YtgpioafkahoahaaSi
import Derived.BigRegion
import Derived.Deep.Cut
namespace Go.Proofs.Ytgpioafkahoahaa
set_option linter.unusedVariables false
set_option linter.unusedSimpArgs false
open Go.RowKit Go.Joins

theorem srvtake_at (l : List UInt8) (a m : Int) (w : World) (hs : l.length ≤ 140737488351232) (ha : a ≤ 9223372036854775807) (hm : m ≤ 9223372036854775807) {n : List UInt8} {b e : Int} (H : Hid (takeS l a m = (n, b, e))) :
    Calls Try.prog 47 #[.string (bs l), .int .i64 a, .int .i64 m] w fun r w' => r = .returned (.tuple #[.string (bs n), .int .i64 b, .int .i64 e]) ∧ w = w' :=
  (rvtake_any l a m w hs ha hm).mono fun r w' ⟨h1, h2⟩ => ⟨by rw [H.out] at h1; exact h1, h2⟩
theorem RB.up' {w v v' : World} {cs : Array Value} (h : RB w v cs) (hb : v = v') : RB w v' cs := hb ▸ h
theorem octP_eq {l : List UInt8} {a : Int} {n : Nat} {e : Int} (h : getS l a 8 = (n, e)) : octP l 8 a 0 = if e = 0 then (n, a + 8, 0) else (n, a, e) := by rw [octP, if_neg (by simp), h]
/-- The four numbers, as the definition reads them. -/
theorem fx_chain {l : List UInt8} {a a1 a2 a3 a4 e1 e2 e3 e4 : Int} {hi lo id up : Nat} (h1 : octP l 8 a 0 = (hi, a1, e1)) (h2 : octP l 8 a1 e1 = (lo, a2, e2)) (h3 : octP l 8 a2 e2 = (id, a3, e3)) (h4 : octP l 8 a3 e3 = (up, a4, e4)) :
    (e4 = 0 → fxS l 4 a = ([hi, lo, id, up], 0) ∧ a4 = a + 32) ∧ (e4 ≠ 0 → fxS l 4 a = ([], e4)) := by
  obtain ⟨g1, b1⟩ := oct_get h1
  by_cases c1 : e1 = 0
  · subst c1
    obtain rfl := b1 rfl
    obtain ⟨g2, b2⟩ := oct_get h2
    by_cases c2 : e2 = 0
    · subst c2
      obtain rfl := b2 rfl
      obtain ⟨g3, b3⟩ := oct_get h3
      by_cases c3 : e3 = 0
      · subst c3
        obtain rfl := b3 rfl
        obtain ⟨g4, b4⟩ := oct_get h4
        by_cases c4 : e4 = 0
        · subst c4
          obtain rfl := b4 rfl
          exact ⟨fun _ => ⟨by simp [fxS, g1, g2, g3, g4], by omega⟩, fun h => absurd rfl h⟩
        · exact ⟨fun h => absurd h c4, fun _ => by simp [fxS, g1, g2, g3, g4, c4]⟩
      · rw [octP_err c3] at h4
        simp only [Prod.mk.injEq] at h4
        obtain ⟨_, _, rfl⟩ := h4
        exact ⟨fun h => absurd h c3, fun _ => by simp [fxS, g1, g2, g3, c3]⟩
    · rw [octP_err c2] at h3
      simp only [Prod.mk.injEq] at h3
      obtain ⟨_, _, rfl⟩ := h3
      rw [octP_err c2] at h4
      simp only [Prod.mk.injEq] at h4
      obtain ⟨_, _, rfl⟩ := h4
      exact ⟨fun h => absurd h c2, fun _ => by simp [fxS, g1, g2, c2]⟩
  · rw [octP_err c1] at h2
    simp only [Prod.mk.injEq] at h2
    obtain ⟨_, _, rfl⟩ := h2
    rw [octP_err c1] at h3
    simp only [Prod.mk.injEq] at h3
    obtain ⟨_, _, rfl⟩ := h3
    rw [octP_err c1] at h4
    simp only [Prod.mk.injEq] at h4
    obtain ⟨_, _, rfl⟩ := h4
    exact ⟨fun h => absurd h c1, fun _ => by simp [fxS, g1, c1]⟩
theorem nam_take {l : List UInt8} {a b e : Int} {n : List UInt8} (h : namP l a 0 = (n, b, e)) : ∃ m c, takeS l a 32 = (m, c, e) ∧ (e = 0 → m = n ∧ c = b) := by
  rw [namP, if_neg (by simp)] at h
  obtain ⟨N, B, E, hv⟩ : ∃ N B E, takeS l a 32 = (N, B, E) := ⟨_, _, _, rfl⟩
  rw [hv] at h ⊢
  simp only at h
  split at h
  · rename_i h0
    simp only [Prod.mk.injEq] at h
    obtain ⟨h1, h2, h3⟩ := h
    exact ⟨N, B, by rw [h3], fun he => absurd (h3.trans he) h0⟩
  · rename_i h0
    simp only [Prod.mk.injEq] at h
    obtain ⟨h1, h2, h3⟩ := h
    refine ⟨N, B, ?_, fun _ => ⟨h1, h2⟩⟩
    rw [← h3]
    simp only [ne_eq, Decidable.not_not] at h0
    rw [h0]
theorem sm_one {l : List UInt8} {a b e : Int} {n : Nat} {k : Nat} (h : numP l a 0 = (n, b, e)) : (e ≠ 0 → smS l (k + 1) a = ([], 0, e)) ∧ (e = 0 → numM l a 1099511627776 = (n, b, 0)) := by
  obtain ⟨g1, g2⟩ := num_numM h
  exact ⟨fun he => smS_err (g2 he) he, g1⟩
theorem smS_cons {l : List UInt8} {a b : Int} {n k : Nat} (h : numM l a 1099511627776 = (n, b, 0)) : smS l (k + 1) a = if (smS l k b).2.2 ≠ 0 then ([], 0, (smS l k b).2.2) else (n :: (smS l k b).1, (smS l k b).2.1, 0) := by
  rw [smS, h]; simp only [ne_eq, not_true_eq_false, if_false]
theorem sm2_chain {l : List UInt8} {a a1 a2 e1 e2 : Int} {n m : Nat} (h1 : numP l a 0 = (n, a1, e1)) (h2 : numP l a1 e1 = (m, a2, e2)) : (e2 = 0 → smS l 2 a = ([n, m], a2, 0)) ∧ (e2 ≠ 0 → smS l 2 a = ([], 0, e2)) := by
  by_cases c1 : e1 = 0
  · subst c1
    have g1 := (sm_one (k := 0) h1).2 rfl
    by_cases c2 : e2 = 0
    · subst c2
      have g2 := (sm_one (k := 0) h2).2 rfl
      exact ⟨fun _ => by rw [smS_cons g1, smS_cons g2]; simp [smS], fun h => absurd rfl h⟩
    · have g2 := (sm_one (k := 0) h2).1 c2
      exact ⟨fun h => absurd h c2, fun _ => by rw [smS_cons g1, g2]; simp [c2]⟩
  · rw [numP_err c1] at h2
    simp only [Prod.mk.injEq] at h2
    obtain ⟨_, _, rfl⟩ := h2
    exact ⟨fun h => absurd h c1, fun _ => (sm_one h1).1 c1⟩
theorem sm3_chain {l : List UInt8} {a a1 a2 a3 e1 e2 e3 : Int} {n m q : Nat} (h1 : numP l a 0 = (n, a1, e1)) (h2 : numP l a1 e1 = (m, a2, e2)) (h3 : numP l a2 e2 = (q, a3, e3)) : (e3 = 0 → smS l 3 a = ([n, m, q], a3, 0)) ∧ (e3 ≠ 0 → smS l 3 a = ([], 0, e3)) := by
  by_cases c1 : e1 = 0
  · subst c1
    have g1 := (sm_one (k := 0) h1).2 rfl
    obtain ⟨p1, p2⟩ := sm2_chain h2 h3
    by_cases c3 : e3 = 0
    · exact ⟨fun _ => by rw [smS_cons g1, p1 c3]; simp, fun h => absurd c3 h⟩
    · exact ⟨fun h => absurd h c3, fun _ => by rw [smS_cons g1, p2 c3]; simp [c3]⟩
  · rw [numP_err c1] at h2
    simp only [Prod.mk.injEq] at h2
    obtain ⟨_, _, rfl⟩ := h2
    rw [numP_err c1] at h3
    simp only [Prod.mk.injEq] at h3
    obtain ⟨_, _, rfl⟩ := h3
    exact ⟨fun h => absurd h c1, fun _ => (sm_one h1).1 c1⟩
theorem sha_get {l : List UInt8} {a b e : Int} {z : Bool} (h : shaP l a 0 = (z, b, e)) (h0 : 0 ≤ a) (hl : a ≤ l.length) : (a = l.length → e = 5) ∧ (∀ hlt : a.toNat < l.length, (1 < l[a.toNat].toNat → e = 3) ∧ (¬ 1 < l[a.toNat].toNat → e = 0 ∧ b = a + 1 ∧ z = decide (l[a.toNat].toNat = 1))) := by
  refine ⟨fun hE => ?_, fun hlt => ?_⟩
  · have ho : octP l 1 a 0 = (0, a, 5) := by rw [octP, if_neg (by simp), getS_short (by omega) (by omega), if_neg (by simp)]
    rw [shaP, ho, if_neg (by simp)] at h
    simp only [Prod.mk.injEq] at h
    exact h.2.2.symm
  · have hd : (l.drop a.toNat).take (1 : Int).toNat = [l[a.toNat]] := by rw [List.drop_eq_getElem_cons hlt]; rfl
    have hg : getS l a 1 = (l[a.toNat].toNat, 0) := by
      rw [getS_ok (by omega) (by omega), hd]
      simp [val]
    have ho : octP l 1 a 0 = (l[a.toNat].toNat, a + 1, 0) := by rw [octP, if_neg (by simp), hg, if_pos rfl]
    rw [shaP, ho] at h
    simp only at h
    refine ⟨fun h1 => ?_, fun h1 => ?_⟩
    · rw [if_pos h1] at h; simp only [Prod.mk.injEq] at h; exact h.2.2.symm
    · rw [if_neg h1] at h
      simp only [Prod.mk.injEq] at h
      exact ⟨h.2.2.symm, h.2.1.symm, h.1.symm⟩
theorem numP_in {l : List UInt8} {a b e : Int} {n : Nat} (h : numP l a e = (n, b, e)) (h0 : 0 ≤ a ∧ a ≤ l.length) : 0 ≤ b ∧ b ≤ l.length := by
  obtain ⟨N, B, E, hv⟩ : ∃ N B E, vgetS l a = (N, B, E) := ⟨_, _, _, rfl⟩
  have hp := vgetS_pos hv
  unfold numP at h
  rw [hv] at h
  simp only at h
  split at h
  · simp only [Prod.mk.injEq] at h; omega
  · split at h
    · simp only [Prod.mk.injEq] at h; omega
    · split at h
      · simp only [Prod.mk.injEq] at h; omega
      · simp only [Prod.mk.injEq] at h; omega
theorem keep9 {v : World} {gf gg gh : Nat} {q0 q1 q2 q3 q4 q5 q6 q7 q8 : Value} (h0 : v.cell? ⟨gf, 0, none⟩ = some q0) (h1 : v.cell? ⟨gf, 1, none⟩ = some q1) (h2 : v.cell? ⟨gf, 2, none⟩ = some q2) (h3 : v.cell? ⟨gf, 3, none⟩ = some q3) (h4 : v.cell? ⟨gg, 0, none⟩ = some q4) (h5 : v.cell? ⟨gg, 1, none⟩ = some q5) (h6 : v.cell? ⟨gg, 2, none⟩ = some q6) (h7 : v.cell? ⟨gh, 0, none⟩ = some q7) (h8 : v.cell? ⟨gh, 1, none⟩ = some q8) : v.drew.cell? ⟨gf, 0, none⟩ = some q0 ∧ v.drew.cell? ⟨gf, 1, none⟩ = some q1 ∧ v.drew.cell? ⟨gf, 2, none⟩ = some q2 ∧ v.drew.cell? ⟨gf, 3, none⟩ = some q3 ∧ v.drew.cell? ⟨gg, 0, none⟩ = some q4 ∧ v.drew.cell? ⟨gg, 1, none⟩ = some q5 ∧ v.drew.cell? ⟨gg, 2, none⟩ = some q6 ∧ v.drew.cell? ⟨gh, 0, none⟩ = some q7 ∧ v.drew.cell? ⟨gh, 1, none⟩ = some q8 := ⟨h0, h1, h2, h3, h4, h5, h6, h7, h8⟩
theorem keep9a {v : World} {gf gg gh : Nat} {q0 q1 q2 q3 q4 q5 q6 q7 q8 : Value} (h0 : v.cell? ⟨gf, 0, none⟩ = some q0) (h1 : v.cell? ⟨gf, 1, none⟩ = some q1) (h2 : v.cell? ⟨gf, 2, none⟩ = some q2) (h3 : v.cell? ⟨gf, 3, none⟩ = some q3) (h4 : v.cell? ⟨gg, 0, none⟩ = some q4) (h5 : v.cell? ⟨gg, 1, none⟩ = some q5) (h6 : v.cell? ⟨gg, 2, none⟩ = some q6) (h7 : v.cell? ⟨gh, 0, none⟩ = some q7) (h8 : v.cell? ⟨gh, 1, none⟩ = some q8) (o : Obj) : (v.alloc o).drew.cell? ⟨gf, 0, none⟩ = some q0 ∧ (v.alloc o).drew.cell? ⟨gf, 1, none⟩ = some q1 ∧ (v.alloc o).drew.cell? ⟨gf, 2, none⟩ = some q2 ∧ (v.alloc o).drew.cell? ⟨gf, 3, none⟩ = some q3 ∧ (v.alloc o).drew.cell? ⟨gg, 0, none⟩ = some q4 ∧ (v.alloc o).drew.cell? ⟨gg, 1, none⟩ = some q5 ∧ (v.alloc o).drew.cell? ⟨gg, 2, none⟩ = some q6 ∧ (v.alloc o).drew.cell? ⟨gh, 0, none⟩ = some q7 ∧ (v.alloc o).drew.cell? ⟨gh, 1, none⟩ = some q8 :=
  ⟨((sbelow_new v o).cell (p := ⟨gf, 0, none⟩) (lt_of_cell h0)).trans h0, ((sbelow_new v o).cell (p := ⟨gf, 1, none⟩) (lt_of_cell h1)).trans h1, ((sbelow_new v o).cell (p := ⟨gf, 2, none⟩) (lt_of_cell h2)).trans h2, ((sbelow_new v o).cell (p := ⟨gf, 3, none⟩) (lt_of_cell h3)).trans h3, ((sbelow_new v o).cell (p := ⟨gg, 0, none⟩) (lt_of_cell h4)).trans h4, ((sbelow_new v o).cell (p := ⟨gg, 1, none⟩) (lt_of_cell h5)).trans h5, ((sbelow_new v o).cell (p := ⟨gg, 2, none⟩) (lt_of_cell h6)).trans h6, ((sbelow_new v o).cell (p := ⟨gh, 0, none⟩) (lt_of_cell h7)).trans h7, ((sbelow_new v o).cell (p := ⟨gh, 1, none⟩) (lt_of_cell h8)).trans h8⟩
theorem readS_e4 {l : List UInt8} {a a1 a2 a3 a4 e1 e2 e3 e4 : Int} {hi : Nat} {lo : Nat} {id : Nat} {up : Nat} (h1 : octP l 8 a 0 = (hi, a1, e1)) (h2 : octP l 8 a1 e1 = (lo, a2, e2)) (h3 : octP l 8 a2 e2 = (id, a3, e3)) (h4 : octP l 8 a3 e3 = (up, a4, e4)) (he : e4 ≠ 0) : readS l a = (sp0, 0, e4) := by
  exact readS_err (runS_eq h1 h2 h3 h4 (namP_err he) (numP_err he) (numP_err he) (numP_err he) (shaP_err he) (numP_err he) (numP_err he)) he
theorem readS_e5 {l : List UInt8} {a a1 a2 a3 a4 a5 e1 e2 e3 e4 e5 : Int} {hi : Nat} {lo : Nat} {id : Nat} {up : Nat} {nm : List UInt8} (h1 : octP l 8 a 0 = (hi, a1, e1)) (h2 : octP l 8 a1 e1 = (lo, a2, e2)) (h3 : octP l 8 a2 e2 = (id, a3, e3)) (h4 : octP l 8 a3 e3 = (up, a4, e4)) (h5 : namP l a4 e4 = (nm, a5, e5)) (he : e5 ≠ 0) : readS l a = (sp0, 0, e5) := by
  exact readS_err (runS_eq h1 h2 h3 h4 h5 (numP_err he) (numP_err he) (numP_err he) (shaP_err he) (numP_err he) (numP_err he)) he
theorem readS_e8 {l : List UInt8} {a a1 a2 a3 a4 a5 a6 a7 a8 e1 e2 e3 e4 e5 e6 e7 e8 : Int} {hi : Nat} {lo : Nat} {id : Nat} {up : Nat} {nm : List UInt8} {st : Nat} {sq : Nat} {kd : Nat} (h1 : octP l 8 a 0 = (hi, a1, e1)) (h2 : octP l 8 a1 e1 = (lo, a2, e2)) (h3 : octP l 8 a2 e2 = (id, a3, e3)) (h4 : octP l 8 a3 e3 = (up, a4, e4)) (h5 : namP l a4 e4 = (nm, a5, e5)) (h6 : numP l a5 e5 = (st, a6, e6)) (h7 : numP l a6 e6 = (sq, a7, e7)) (h8 : numP l a7 e7 = (kd, a8, e8)) (he : e8 ≠ 0) : readS l a = (sp0, 0, e8) := by
  exact readS_err (runS_eq h1 h2 h3 h4 h5 h6 h7 h8 (shaP_err he) (numP_err he) (numP_err he)) he
theorem readS_e9 {l : List UInt8} {a a1 a2 a3 a4 a5 a6 a7 a8 a9 e1 e2 e3 e4 e5 e6 e7 e8 e9 : Int} {hi : Nat} {lo : Nat} {id : Nat} {up : Nat} {nm : List UInt8} {st : Nat} {sq : Nat} {kd : Nat} {sh : Bool} (h1 : octP l 8 a 0 = (hi, a1, e1)) (h2 : octP l 8 a1 e1 = (lo, a2, e2)) (h3 : octP l 8 a2 e2 = (id, a3, e3)) (h4 : octP l 8 a3 e3 = (up, a4, e4)) (h5 : namP l a4 e4 = (nm, a5, e5)) (h6 : numP l a5 e5 = (st, a6, e6)) (h7 : numP l a6 e6 = (sq, a7, e7)) (h8 : numP l a7 e7 = (kd, a8, e8)) (h9 : shaP l a8 e8 = (sh, a9, e9)) (he : e9 ≠ 0) : readS l a = (sp0, 0, e9) := by
  exact readS_err (runS_eq h1 h2 h3 h4 h5 h6 h7 h8 h9 (numP_err he) (numP_err he)) he
theorem readS_e11 {l : List UInt8} {a a1 a2 a3 a4 a5 a6 a7 a8 a9 a10 a11 e1 e2 e3 e4 e5 e6 e7 e8 e9 e10 e11 : Int} {hi : Nat} {lo : Nat} {id : Nat} {up : Nat} {nm : List UInt8} {st : Nat} {sq : Nat} {kd : Nat} {sh : Bool} {s0 : Nat} {s1 : Nat} (h1 : octP l 8 a 0 = (hi, a1, e1)) (h2 : octP l 8 a1 e1 = (lo, a2, e2)) (h3 : octP l 8 a2 e2 = (id, a3, e3)) (h4 : octP l 8 a3 e3 = (up, a4, e4)) (h5 : namP l a4 e4 = (nm, a5, e5)) (h6 : numP l a5 e5 = (st, a6, e6)) (h7 : numP l a6 e6 = (sq, a7, e7)) (h8 : numP l a7 e7 = (kd, a8, e8)) (h9 : shaP l a8 e8 = (sh, a9, e9)) (h10 : numP l a9 e9 = (s0, a10, e10)) (h11 : numP l a10 e10 = (s1, a11, e11)) (he : e11 ≠ 0) : readS l a = (sp0, 0, e11) := by
  exact readS_err (runS_eq h1 h2 h3 h4 h5 h6 h7 h8 h9 h10 h11 ) he
set_option maxRecDepth 100000 in
set_option maxHeartbeats 16000000 in
theorem rspread_any (l : List UInt8) (a : Int) (w : World) (hs : l.length ≤ 140737488351232) (ha : -9223372036854775808 ≤ a ∧ a ≤ 9223372036854775807) {s : Sp} {b e : Int} (H : Hid (readS l a = (s, b, e))) :
    Calls Try.prog 16 #[.string (bs l), .int .i64 a] w fun r w' => r = .returned (.tuple #[.agg (spA s), .int .i64 b, .int .i64 e]) ∧ Below w.heap.size w w' := by
  obtain ⟨ha1, ha2⟩ := ha
  have H0 := H.out
  clear H
  by_cases hneg : a < 0
  · have h1 := oct_neg (l := l) hneg
    rw [readS_err (runS_eq h1 (octP_err (by omega)) (octP_err (by omega)) (octP_err (by omega)) (namP_err (by omega)) (numP_err (by omega)) (numP_err (by omega)) (numP_err (by omega)) (shaP_err (by omega)) (numP_err (by omega)) (numP_err (by omega))) (by omega)] at H0
    simp only [Prod.mk.injEq] at H0
    obtain ⟨rfl, rfl, rfl⟩ := H0
    clear h1
    go_enter Try.func16, Try.ntmps16
    go_upto_region 1 with (fail)
    have eZ : (.cells #[.int .u64 0, .int .u64 0, .int .u64 0, .int .u64 0, .string (ByteArray.mk #[]), .int .i64 0, .int .i64 0, .int .i64 0, .bool false, .int .i64 0, .int .i64 0] 26 : Obj) = .cells zs 26 := rfl
    rw [eZ]
    clear eZ
    have t1 := RB.new w
    generalize w.alloc (.cells zs 26) = v0 at *
    have r0 : v0.cell? ⟨w.heap.size, 0, none⟩ = some (.int .u64 0) := (t1.cell 0).1
    have z0 : v0.frozen? ⟨w.heap.size, 0, none⟩ = false := (t1.cell 0).2
    have r1 : v0.cell? ⟨w.heap.size, 1, none⟩ = some (.int .u64 0) := (t1.cell 1).1
    have z1 : v0.frozen? ⟨w.heap.size, 1, none⟩ = false := (t1.cell 1).2
    have r2 : v0.cell? ⟨w.heap.size, 2, none⟩ = some (.int .u64 0) := (t1.cell 2).1
    have z2 : v0.frozen? ⟨w.heap.size, 2, none⟩ = false := (t1.cell 2).2
    have r3 : v0.cell? ⟨w.heap.size, 3, none⟩ = some (.int .u64 0) := (t1.cell 3).1
    have z3 : v0.frozen? ⟨w.heap.size, 3, none⟩ = false := (t1.cell 3).2
    have r4 : v0.cell? ⟨w.heap.size, 4, none⟩ = some (.string (bs [])) := (t1.cell 4).1
    have z4 : v0.frozen? ⟨w.heap.size, 4, none⟩ = false := (t1.cell 4).2
    have r5 : v0.cell? ⟨w.heap.size, 5, none⟩ = some (.int .i64 0) := (t1.cell 5).1
    have z5 : v0.frozen? ⟨w.heap.size, 5, none⟩ = false := (t1.cell 5).2
    have r6 : v0.cell? ⟨w.heap.size, 6, none⟩ = some (.int .i64 0) := (t1.cell 6).1
    have z6 : v0.frozen? ⟨w.heap.size, 6, none⟩ = false := (t1.cell 6).2
    have r7 : v0.cell? ⟨w.heap.size, 7, none⟩ = some (.int .i64 0) := (t1.cell 7).1
    have z7 : v0.frozen? ⟨w.heap.size, 7, none⟩ = false := (t1.cell 7).2
    have r8 : v0.cell? ⟨w.heap.size, 8, none⟩ = some (.bool false) := (t1.cell 8).1
    have z8 : v0.frozen? ⟨w.heap.size, 8, none⟩ = false := (t1.cell 8).2
    have r9 : v0.cell? ⟨w.heap.size, 9, none⟩ = some (.int .i64 0) := (t1.cell 9).1
    have z9 : v0.frozen? ⟨w.heap.size, 9, none⟩ = false := (t1.cell 9).2
    have r10 : v0.cell? ⟨w.heap.size, 10, none⟩ = some (.int .i64 0) := (t1.cell 10).1
    have z10 : v0.frozen? ⟨w.heap.size, 10, none⟩ = false := (t1.cell 10).2
    go_wp2_with fail
    have t9 := RB.fill t1 (.int .u64 0) (.int .u64 0) (.int .u64 0) (.int .u64 0) (.string (ByteArray.mk #[])) (.int .i64 0) (.int .i64 0) (.int .i64 0) (.bool false) (.int .i64 0) (.int .i64 0)
    clear r0 z0 r1 z1 r2 z2 r3 z3 r4 z4 r5 z5 r6 z6 r7 z7 r8 z8 r9 z9 r10 z10
    generalize (((((((((((v0.setCell ⟨w.heap.size, 0, none⟩ (.int .u64 0)).setCell ⟨w.heap.size, 1, none⟩ (.int .u64 0)).setCell ⟨w.heap.size, 2, none⟩ (.int .u64 0)).setCell ⟨w.heap.size, 3, none⟩ (.int .u64 0)).setCell ⟨w.heap.size, 4, none⟩ (.string (ByteArray.mk #[]))).setCell ⟨w.heap.size, 5, none⟩ (.int .i64 0)).setCell ⟨w.heap.size, 6, none⟩ (.int .i64 0)).setCell ⟨w.heap.size, 7, none⟩ (.int .i64 0)).setCell ⟨w.heap.size, 8, none⟩ (.bool false)).setCell ⟨w.heap.size, 9, none⟩ (.int .i64 0)).setCell ⟨w.heap.size, 10, none⟩ (.int .i64 0)) = v9 at *
    have r0 : v9.cell? ⟨w.heap.size, 0, none⟩ = some (.int .u64 0) := (t9.cell 0).1
    have r1 : v9.cell? ⟨w.heap.size, 1, none⟩ = some (.int .u64 0) := (t9.cell 1).1
    have r2 : v9.cell? ⟨w.heap.size, 2, none⟩ = some (.int .u64 0) := (t9.cell 2).1
    have r3 : v9.cell? ⟨w.heap.size, 3, none⟩ = some (.int .u64 0) := (t9.cell 3).1
    have r4 : v9.cell? ⟨w.heap.size, 4, none⟩ = some (.string (ByteArray.mk #[])) := (t9.cell 4).1
    have r5 : v9.cell? ⟨w.heap.size, 5, none⟩ = some (.int .i64 0) := (t9.cell 5).1
    have r6 : v9.cell? ⟨w.heap.size, 6, none⟩ = some (.int .i64 0) := (t9.cell 6).1
    have r7 : v9.cell? ⟨w.heap.size, 7, none⟩ = some (.int .i64 0) := (t9.cell 7).1
    have r8 : v9.cell? ⟨w.heap.size, 8, none⟩ = some (.bool false) := (t9.cell 8).1
    have r9 : v9.cell? ⟨w.heap.size, 9, none⟩ = some (.int .i64 0) := (t9.cell 9).1
    have r10 : v9.cell? ⟨w.heap.size, 10, none⟩ = some (.int .i64 0) := (t9.cell 10).1
    (try simp only [Exit.inBlock, Exit.then])
    refine bodyPost_ret (v := .tuple #[.agg #[.int .u64 0, .int .u64 0, .int .u64 0, .int .u64 0, .string (ByteArray.mk #[]), .int .i64 0, .int .i64 0, .int .i64 0, .bool false, .int .i64 0, .int .i64 0], .int .i64 0, .int .i64 2]) (by simp [results, Try.results16, go_sem, r0, r1, r2, r3, r4, r5, r6, r7, r8, r9, r10]; try rfl) rfl ?_
    exact ⟨rfl, t9.bel⟩
  obtain ⟨a, rfl⟩ := Int.eq_ofNat_of_zero_le (show 0 ≤ a by omega)
  by_cases hfar : l.length < a
  · have h1 : octP l 8 (a : Int) 0 = (0, (a : Int), 5) := by rw [octP, if_neg (by simp), getS_short (by omega) (by omega), if_neg (by simp)]
    rw [readS_err (runS_eq h1 (octP_err (by omega)) (octP_err (by omega)) (octP_err (by omega)) (namP_err (by omega)) (numP_err (by omega)) (numP_err (by omega)) (numP_err (by omega)) (shaP_err (by omega)) (numP_err (by omega)) (numP_err (by omega))) (by omega)] at H0
    simp only [Prod.mk.injEq] at H0
    obtain ⟨rfl, rfl, rfl⟩ := H0
    clear h1
    have hgt : (l.length : Int) < (a : Int) := by omega
    go_enter Try.func16, Try.ntmps16
    go_upto_region 1 with (fail)
    have eZ : (.cells #[.int .u64 0, .int .u64 0, .int .u64 0, .int .u64 0, .string (ByteArray.mk #[]), .int .i64 0, .int .i64 0, .int .i64 0, .bool false, .int .i64 0, .int .i64 0] 26 : Obj) = .cells zs 26 := rfl
    rw [eZ]
    clear eZ
    have t1 := RB.new w
    generalize w.alloc (.cells zs 26) = v0 at *
    have r0 : v0.cell? ⟨w.heap.size, 0, none⟩ = some (.int .u64 0) := (t1.cell 0).1
    have z0 : v0.frozen? ⟨w.heap.size, 0, none⟩ = false := (t1.cell 0).2
    have r1 : v0.cell? ⟨w.heap.size, 1, none⟩ = some (.int .u64 0) := (t1.cell 1).1
    have z1 : v0.frozen? ⟨w.heap.size, 1, none⟩ = false := (t1.cell 1).2
    have r2 : v0.cell? ⟨w.heap.size, 2, none⟩ = some (.int .u64 0) := (t1.cell 2).1
    have z2 : v0.frozen? ⟨w.heap.size, 2, none⟩ = false := (t1.cell 2).2
    have r3 : v0.cell? ⟨w.heap.size, 3, none⟩ = some (.int .u64 0) := (t1.cell 3).1
    have z3 : v0.frozen? ⟨w.heap.size, 3, none⟩ = false := (t1.cell 3).2
    have r4 : v0.cell? ⟨w.heap.size, 4, none⟩ = some (.string (bs [])) := (t1.cell 4).1
    have z4 : v0.frozen? ⟨w.heap.size, 4, none⟩ = false := (t1.cell 4).2
    have r5 : v0.cell? ⟨w.heap.size, 5, none⟩ = some (.int .i64 0) := (t1.cell 5).1
    have z5 : v0.frozen? ⟨w.heap.size, 5, none⟩ = false := (t1.cell 5).2
    have r6 : v0.cell? ⟨w.heap.size, 6, none⟩ = some (.int .i64 0) := (t1.cell 6).1
    have z6 : v0.frozen? ⟨w.heap.size, 6, none⟩ = false := (t1.cell 6).2
    have r7 : v0.cell? ⟨w.heap.size, 7, none⟩ = some (.int .i64 0) := (t1.cell 7).1
    have z7 : v0.frozen? ⟨w.heap.size, 7, none⟩ = false := (t1.cell 7).2
    have r8 : v0.cell? ⟨w.heap.size, 8, none⟩ = some (.bool false) := (t1.cell 8).1
    have z8 : v0.frozen? ⟨w.heap.size, 8, none⟩ = false := (t1.cell 8).2
    have r9 : v0.cell? ⟨w.heap.size, 9, none⟩ = some (.int .i64 0) := (t1.cell 9).1
    have z9 : v0.frozen? ⟨w.heap.size, 9, none⟩ = false := (t1.cell 9).2
    have r10 : v0.cell? ⟨w.heap.size, 10, none⟩ = some (.int .i64 0) := (t1.cell 10).1
    have z10 : v0.frozen? ⟨w.heap.size, 10, none⟩ = false := (t1.cell 10).2
    go_wp2_with fail
    have t9 := RB.fill t1 (.int .u64 0) (.int .u64 0) (.int .u64 0) (.int .u64 0) (.string (ByteArray.mk #[])) (.int .i64 0) (.int .i64 0) (.int .i64 0) (.bool false) (.int .i64 0) (.int .i64 0)
    clear r0 z0 r1 z1 r2 z2 r3 z3 r4 z4 r5 z5 r6 z6 r7 z7 r8 z8 r9 z9 r10 z10
    generalize (((((((((((v0.setCell ⟨w.heap.size, 0, none⟩ (.int .u64 0)).setCell ⟨w.heap.size, 1, none⟩ (.int .u64 0)).setCell ⟨w.heap.size, 2, none⟩ (.int .u64 0)).setCell ⟨w.heap.size, 3, none⟩ (.int .u64 0)).setCell ⟨w.heap.size, 4, none⟩ (.string (ByteArray.mk #[]))).setCell ⟨w.heap.size, 5, none⟩ (.int .i64 0)).setCell ⟨w.heap.size, 6, none⟩ (.int .i64 0)).setCell ⟨w.heap.size, 7, none⟩ (.int .i64 0)).setCell ⟨w.heap.size, 8, none⟩ (.bool false)).setCell ⟨w.heap.size, 9, none⟩ (.int .i64 0)).setCell ⟨w.heap.size, 10, none⟩ (.int .i64 0)) = v9 at *
    have r0 : v9.cell? ⟨w.heap.size, 0, none⟩ = some (.int .u64 0) := (t9.cell 0).1
    have r1 : v9.cell? ⟨w.heap.size, 1, none⟩ = some (.int .u64 0) := (t9.cell 1).1
    have r2 : v9.cell? ⟨w.heap.size, 2, none⟩ = some (.int .u64 0) := (t9.cell 2).1
    have r3 : v9.cell? ⟨w.heap.size, 3, none⟩ = some (.int .u64 0) := (t9.cell 3).1
    have r4 : v9.cell? ⟨w.heap.size, 4, none⟩ = some (.string (ByteArray.mk #[])) := (t9.cell 4).1
    have r5 : v9.cell? ⟨w.heap.size, 5, none⟩ = some (.int .i64 0) := (t9.cell 5).1
    have r6 : v9.cell? ⟨w.heap.size, 6, none⟩ = some (.int .i64 0) := (t9.cell 6).1
    have r7 : v9.cell? ⟨w.heap.size, 7, none⟩ = some (.int .i64 0) := (t9.cell 7).1
    have r8 : v9.cell? ⟨w.heap.size, 8, none⟩ = some (.bool false) := (t9.cell 8).1
    have r9 : v9.cell? ⟨w.heap.size, 9, none⟩ = some (.int .i64 0) := (t9.cell 9).1
    have r10 : v9.cell? ⟨w.heap.size, 10, none⟩ = some (.int .i64 0) := (t9.cell 10).1
    (try simp only [Exit.inBlock, Exit.then])
    refine bodyPost_ret (v := .tuple #[.agg #[.int .u64 0, .int .u64 0, .int .u64 0, .int .u64 0, .string (ByteArray.mk #[]), .int .i64 0, .int .i64 0, .int .i64 0, .bool false, .int .i64 0, .int .i64 0], .int .i64 0, .int .i64 5]) (by simp [results, Try.results16, go_sem, r0, r1, r2, r3, r4, r5, r6, r7, r8, r9, r10]; try rfl) rfl ?_
    exact ⟨rfl, t9.bel⟩
  have hal : a ≤ l.length := by omega
  obtain ⟨hi, a1, e1, h1⟩ : ∃ p q r, octP l 8 (a : Int) 0 = (p, q, r) := ⟨_, _, _, rfl⟩
  obtain ⟨lo, a2, e2, h2⟩ : ∃ p q r, octP l 8 a1 e1 = (p, q, r) := ⟨_, _, _, rfl⟩
  obtain ⟨id, a3, e3, h3⟩ : ∃ p q r, octP l 8 a2 e2 = (p, q, r) := ⟨_, _, _, rfl⟩
  obtain ⟨up, a4, e4, h4⟩ : ∃ p q r, octP l 8 a3 e3 = (p, q, r) := ⟨_, _, _, rfl⟩
  obtain ⟨nm, a5, e5, h5⟩ : ∃ p q r, namP l a4 e4 = (p, q, r) := ⟨_, _, _, rfl⟩
  obtain ⟨st, a6, e6, h6⟩ : ∃ p q r, numP l a5 e5 = (p, q, r) := ⟨_, _, _, rfl⟩
  obtain ⟨sq, a7, e7, h7⟩ : ∃ p q r, numP l a6 e6 = (p, q, r) := ⟨_, _, _, rfl⟩
  obtain ⟨kd, a8, e8, h8⟩ : ∃ p q r, numP l a7 e7 = (p, q, r) := ⟨_, _, _, rfl⟩
  obtain ⟨sh, a9, e9, h9⟩ : ∃ p q r, shaP l a8 e8 = (p, q, r) := ⟨_, _, _, rfl⟩
  obtain ⟨s0, a10, e10, h10⟩ : ∃ p q r, numP l a9 e9 = (p, q, r) := ⟨_, _, _, rfl⟩
  obtain ⟨s1, a11, e11, h11⟩ : ∃ p q r, numP l a10 e10 = (p, q, r) := ⟨_, _, _, rfl⟩
  obtain ⟨x0, x1⟩ := fx_chain h1 h2 h3 h4
  by_cases c4 : e4 = 0
  rotate_left
  · rw [readS_e4 h1 h2 h3 h4 c4] at H0
    simp only [Prod.mk.injEq] at H0
    obtain ⟨rfl, rfl, rfl⟩ := H0
    have HF := hid (x1 c4)
    have hb : (e4 != 0) = true := by simpa using c4
    clear h1 h2 h3 h4 h5 h6 h7 h8 h9 h10 h11 x0 x1 c4
    go_enter Try.func16, Try.ntmps16
    go_upto_region 1 with (fail)
    have eZ : (.cells #[.int .u64 0, .int .u64 0, .int .u64 0, .int .u64 0, .string (ByteArray.mk #[]), .int .i64 0, .int .i64 0, .int .i64 0, .bool false, .int .i64 0, .int .i64 0] 26 : Obj) = .cells zs 26 := rfl
    rw [eZ]
    clear eZ
    have t1 := RB.new w
    generalize w.alloc (.cells zs 26) = v0 at *
    go_upto_region 5 with (fail)
    go_wp2_with fail
    refine (fixed_any l a _ hs hal HF).mono ?_
    rintro r w1 ⟨⟨vf, rfl, hf⟩, hb1⟩
    have T1 := hid (t1.up hb1)
    have F1 := hid (NU.more hf t1.bel.size)
    clear hf hb1 t1
    have r0 : w1.cell? ⟨w.heap.size, 0, none⟩ = some (.int .u64 0) := (T1.out.cell 0).1
    have z0 : w1.frozen? ⟨w.heap.size, 0, none⟩ = false := (T1.out.cell 0).2
    have r1 : w1.cell? ⟨w.heap.size, 1, none⟩ = some (.int .u64 0) := (T1.out.cell 1).1
    have z1 : w1.frozen? ⟨w.heap.size, 1, none⟩ = false := (T1.out.cell 1).2
    have r2 : w1.cell? ⟨w.heap.size, 2, none⟩ = some (.int .u64 0) := (T1.out.cell 2).1
    have z2 : w1.frozen? ⟨w.heap.size, 2, none⟩ = false := (T1.out.cell 2).2
    have r3 : w1.cell? ⟨w.heap.size, 3, none⟩ = some (.int .u64 0) := (T1.out.cell 3).1
    have z3 : w1.frozen? ⟨w.heap.size, 3, none⟩ = false := (T1.out.cell 3).2
    have r4 : w1.cell? ⟨w.heap.size, 4, none⟩ = some (.string (bs [])) := (T1.out.cell 4).1
    have z4 : w1.frozen? ⟨w.heap.size, 4, none⟩ = false := (T1.out.cell 4).2
    have r5 : w1.cell? ⟨w.heap.size, 5, none⟩ = some (.int .i64 0) := (T1.out.cell 5).1
    have z5 : w1.frozen? ⟨w.heap.size, 5, none⟩ = false := (T1.out.cell 5).2
    have r6 : w1.cell? ⟨w.heap.size, 6, none⟩ = some (.int .i64 0) := (T1.out.cell 6).1
    have z6 : w1.frozen? ⟨w.heap.size, 6, none⟩ = false := (T1.out.cell 6).2
    have r7 : w1.cell? ⟨w.heap.size, 7, none⟩ = some (.int .i64 0) := (T1.out.cell 7).1
    have z7 : w1.frozen? ⟨w.heap.size, 7, none⟩ = false := (T1.out.cell 7).2
    have r8 : w1.cell? ⟨w.heap.size, 8, none⟩ = some (.bool false) := (T1.out.cell 8).1
    have z8 : w1.frozen? ⟨w.heap.size, 8, none⟩ = false := (T1.out.cell 8).2
    have r9 : w1.cell? ⟨w.heap.size, 9, none⟩ = some (.int .i64 0) := (T1.out.cell 9).1
    have z9 : w1.frozen? ⟨w.heap.size, 9, none⟩ = false := (T1.out.cell 9).2
    have r10 : w1.cell? ⟨w.heap.size, 10, none⟩ = some (.int .i64 0) := (T1.out.cell 10).1
    have z10 : w1.frozen? ⟨w.heap.size, 10, none⟩ = false := (T1.out.cell 10).2
    go_wp2_with fail
    have t9 := RB.fill T1.out (.int .u64 0) (.int .u64 0) (.int .u64 0) (.int .u64 0) (.string (ByteArray.mk #[])) (.int .i64 0) (.int .i64 0) (.int .i64 0) (.bool false) (.int .i64 0) (.int .i64 0)
    clear r0 z0 r1 z1 r2 z2 r3 z3 r4 z4 r5 z5 r6 z6 r7 z7 r8 z8 r9 z9 r10 z10
    generalize (((((((((((w1.setCell ⟨w.heap.size, 0, none⟩ (.int .u64 0)).setCell ⟨w.heap.size, 1, none⟩ (.int .u64 0)).setCell ⟨w.heap.size, 2, none⟩ (.int .u64 0)).setCell ⟨w.heap.size, 3, none⟩ (.int .u64 0)).setCell ⟨w.heap.size, 4, none⟩ (.string (ByteArray.mk #[]))).setCell ⟨w.heap.size, 5, none⟩ (.int .i64 0)).setCell ⟨w.heap.size, 6, none⟩ (.int .i64 0)).setCell ⟨w.heap.size, 7, none⟩ (.int .i64 0)).setCell ⟨w.heap.size, 8, none⟩ (.bool false)).setCell ⟨w.heap.size, 9, none⟩ (.int .i64 0)).setCell ⟨w.heap.size, 10, none⟩ (.int .i64 0)) = v9 at *
    have r0 : v9.cell? ⟨w.heap.size, 0, none⟩ = some (.int .u64 0) := (t9.cell 0).1
    have r1 : v9.cell? ⟨w.heap.size, 1, none⟩ = some (.int .u64 0) := (t9.cell 1).1
    have r2 : v9.cell? ⟨w.heap.size, 2, none⟩ = some (.int .u64 0) := (t9.cell 2).1
    have r3 : v9.cell? ⟨w.heap.size, 3, none⟩ = some (.int .u64 0) := (t9.cell 3).1
    have r4 : v9.cell? ⟨w.heap.size, 4, none⟩ = some (.string (ByteArray.mk #[])) := (t9.cell 4).1
    have r5 : v9.cell? ⟨w.heap.size, 5, none⟩ = some (.int .i64 0) := (t9.cell 5).1
    have r6 : v9.cell? ⟨w.heap.size, 6, none⟩ = some (.int .i64 0) := (t9.cell 6).1
    have r7 : v9.cell? ⟨w.heap.size, 7, none⟩ = some (.int .i64 0) := (t9.cell 7).1
    have r8 : v9.cell? ⟨w.heap.size, 8, none⟩ = some (.bool false) := (t9.cell 8).1
    have r9 : v9.cell? ⟨w.heap.size, 9, none⟩ = some (.int .i64 0) := (t9.cell 9).1
    have r10 : v9.cell? ⟨w.heap.size, 10, none⟩ = some (.int .i64 0) := (t9.cell 10).1
    (try simp only [Exit.inBlock, Exit.then])
    refine bodyPost_ret (v := .tuple #[.agg #[.int .u64 0, .int .u64 0, .int .u64 0, .int .u64 0, .string (ByteArray.mk #[]), .int .i64 0, .int .i64 0, .int .i64 0, .bool false, .int .i64 0, .int .i64 0], .int .i64 0, .int .i64 e4]) (by simp [results, Try.results16, go_sem, r0, r1, r2, r3, r4, r5, r6, r7, r8, r9, r10]; try rfl) rfl ?_
    exact ⟨rfl, t9.bel⟩
  subst c4
  obtain ⟨x2, rfl⟩ := x0 rfl
  have HF := hid x2
  clear x0 x1 x2
  obtain ⟨nm', b5, x3, x4⟩ := nam_take h5
  have HT := hid x3
  have hw32 : IntKind.i64.wrap ((a : Int) + 32) = (a : Int) + 32 := IntWalk.i64_in _ (by omega)
  by_cases c5 : e5 = 0
  rotate_left
  · rw [readS_e5 h1 h2 h3 h4 h5 c5] at H0
    simp only [Prod.mk.injEq] at H0
    obtain ⟨rfl, rfl, rfl⟩ := H0
    have hb : (e5 != 0) = true := by simpa using c5
    clear h1 h2 h3 h4 h5 h6 h7 h8 h9 h10 h11 x3 x4 c5
    go_enter Try.func16, Try.ntmps16
    go_upto_region 1 with (fail)
    have eZ : (.cells #[.int .u64 0, .int .u64 0, .int .u64 0, .int .u64 0, .string (ByteArray.mk #[]), .int .i64 0, .int .i64 0, .int .i64 0, .bool false, .int .i64 0, .int .i64 0] 26 : Obj) = .cells zs 26 := rfl
    rw [eZ]
    clear eZ
    have t1 := RB.new w
    generalize w.alloc (.cells zs 26) = v0 at *
    go_upto_region 5 with (fail)
    go_wp2_with fail
    refine (fixed_any l a _ hs hal HF).mono ?_
    rintro r w1 ⟨⟨vf, rfl, hf⟩, hb1⟩
    have T1 := hid (t1.up hb1)
    have F1 := hid (NU.more hf t1.bel.size)
    clear hf hb1 t1
    go_upto_region 8 with (fail)
    go_wp2_with fail
    refine (srvtake_at l _ 32 _ hs (by omega) (by omega) HT).mono ?_
    rintro r u1 ⟨rfl, rfl⟩
    have r0 : w1.cell? ⟨w.heap.size, 0, none⟩ = some (.int .u64 0) := (T1.out.cell 0).1
    have z0 : w1.frozen? ⟨w.heap.size, 0, none⟩ = false := (T1.out.cell 0).2
    have r1 : w1.cell? ⟨w.heap.size, 1, none⟩ = some (.int .u64 0) := (T1.out.cell 1).1
    have z1 : w1.frozen? ⟨w.heap.size, 1, none⟩ = false := (T1.out.cell 1).2
    have r2 : w1.cell? ⟨w.heap.size, 2, none⟩ = some (.int .u64 0) := (T1.out.cell 2).1
    have z2 : w1.frozen? ⟨w.heap.size, 2, none⟩ = false := (T1.out.cell 2).2
    have r3 : w1.cell? ⟨w.heap.size, 3, none⟩ = some (.int .u64 0) := (T1.out.cell 3).1
    have z3 : w1.frozen? ⟨w.heap.size, 3, none⟩ = false := (T1.out.cell 3).2
    have r4 : w1.cell? ⟨w.heap.size, 4, none⟩ = some (.string (bs [])) := (T1.out.cell 4).1
    have z4 : w1.frozen? ⟨w.heap.size, 4, none⟩ = false := (T1.out.cell 4).2
    have r5 : w1.cell? ⟨w.heap.size, 5, none⟩ = some (.int .i64 0) := (T1.out.cell 5).1
    have z5 : w1.frozen? ⟨w.heap.size, 5, none⟩ = false := (T1.out.cell 5).2
    have r6 : w1.cell? ⟨w.heap.size, 6, none⟩ = some (.int .i64 0) := (T1.out.cell 6).1
    have z6 : w1.frozen? ⟨w.heap.size, 6, none⟩ = false := (T1.out.cell 6).2
    have r7 : w1.cell? ⟨w.heap.size, 7, none⟩ = some (.int .i64 0) := (T1.out.cell 7).1
    have z7 : w1.frozen? ⟨w.heap.size, 7, none⟩ = false := (T1.out.cell 7).2
    have r8 : w1.cell? ⟨w.heap.size, 8, none⟩ = some (.bool false) := (T1.out.cell 8).1
    have z8 : w1.frozen? ⟨w.heap.size, 8, none⟩ = false := (T1.out.cell 8).2
    have r9 : w1.cell? ⟨w.heap.size, 9, none⟩ = some (.int .i64 0) := (T1.out.cell 9).1
    have z9 : w1.frozen? ⟨w.heap.size, 9, none⟩ = false := (T1.out.cell 9).2
    have r10 : w1.cell? ⟨w.heap.size, 10, none⟩ = some (.int .i64 0) := (T1.out.cell 10).1
    have z10 : w1.frozen? ⟨w.heap.size, 10, none⟩ = false := (T1.out.cell 10).2
    go_wp2_with fail
    have t9 := RB.fill T1.out (.int .u64 0) (.int .u64 0) (.int .u64 0) (.int .u64 0) (.string (ByteArray.mk #[])) (.int .i64 0) (.int .i64 0) (.int .i64 0) (.bool false) (.int .i64 0) (.int .i64 0)
    clear r0 z0 r1 z1 r2 z2 r3 z3 r4 z4 r5 z5 r6 z6 r7 z7 r8 z8 r9 z9 r10 z10
    generalize (((((((((((w1.setCell ⟨w.heap.size, 0, none⟩ (.int .u64 0)).setCell ⟨w.heap.size, 1, none⟩ (.int .u64 0)).setCell ⟨w.heap.size, 2, none⟩ (.int .u64 0)).setCell ⟨w.heap.size, 3, none⟩ (.int .u64 0)).setCell ⟨w.heap.size, 4, none⟩ (.string (ByteArray.mk #[]))).setCell ⟨w.heap.size, 5, none⟩ (.int .i64 0)).setCell ⟨w.heap.size, 6, none⟩ (.int .i64 0)).setCell ⟨w.heap.size, 7, none⟩ (.int .i64 0)).setCell ⟨w.heap.size, 8, none⟩ (.bool false)).setCell ⟨w.heap.size, 9, none⟩ (.int .i64 0)).setCell ⟨w.heap.size, 10, none⟩ (.int .i64 0)) = v9 at *
    have r0 : v9.cell? ⟨w.heap.size, 0, none⟩ = some (.int .u64 0) := (t9.cell 0).1
    have r1 : v9.cell? ⟨w.heap.size, 1, none⟩ = some (.int .u64 0) := (t9.cell 1).1
    have r2 : v9.cell? ⟨w.heap.size, 2, none⟩ = some (.int .u64 0) := (t9.cell 2).1
    have r3 : v9.cell? ⟨w.heap.size, 3, none⟩ = some (.int .u64 0) := (t9.cell 3).1
    have r4 : v9.cell? ⟨w.heap.size, 4, none⟩ = some (.string (ByteArray.mk #[])) := (t9.cell 4).1
    have r5 : v9.cell? ⟨w.heap.size, 5, none⟩ = some (.int .i64 0) := (t9.cell 5).1
    have r6 : v9.cell? ⟨w.heap.size, 6, none⟩ = some (.int .i64 0) := (t9.cell 6).1
    have r7 : v9.cell? ⟨w.heap.size, 7, none⟩ = some (.int .i64 0) := (t9.cell 7).1
    have r8 : v9.cell? ⟨w.heap.size, 8, none⟩ = some (.bool false) := (t9.cell 8).1
    have r9 : v9.cell? ⟨w.heap.size, 9, none⟩ = some (.int .i64 0) := (t9.cell 9).1
    have r10 : v9.cell? ⟨w.heap.size, 10, none⟩ = some (.int .i64 0) := (t9.cell 10).1
    (try simp only [Exit.inBlock, Exit.then])
    refine bodyPost_ret (v := .tuple #[.agg #[.int .u64 0, .int .u64 0, .int .u64 0, .int .u64 0, .string (ByteArray.mk #[]), .int .i64 0, .int .i64 0, .int .i64 0, .bool false, .int .i64 0, .int .i64 0], .int .i64 0, .int .i64 e5]) (by simp [results, Try.results16, go_sem, r0, r1, r2, r3, r4, r5, r6, r7, r8, r9, r10]; try rfl) rfl ?_
    exact ⟨rfl, t9.bel⟩
  subst c5
  obtain ⟨q1, q2⟩ := x4 rfl
  rw [q1, q2] at x3 HT
  clear q1 q2 x3 x4 nm' b5
  have hn5 := nam_back h5
  obtain ⟨y0, y1⟩ := sm3_chain h6 h7 h8
  by_cases c8 : e8 = 0
  rotate_left
  · rw [readS_e8 h1 h2 h3 h4 h5 h6 h7 h8 c8] at H0
    simp only [Prod.mk.injEq] at H0
    obtain ⟨rfl, rfl, rfl⟩ := H0
    have hsm3 : ∀ w, _ := fun w => small_any l a5 3 w hs (by omega) (by omega) (hid (y1 c8))
    have hb : (e8 != 0) = true := by simpa using c8
    clear h1 h2 h3 h4 h5 h6 h7 h8 h9 h10 h11 y0 y1 c8
    go_enter Try.func16, Try.ntmps16
    go_upto_region 1 with (fail)
    have eZ : (.cells #[.int .u64 0, .int .u64 0, .int .u64 0, .int .u64 0, .string (ByteArray.mk #[]), .int .i64 0, .int .i64 0, .int .i64 0, .bool false, .int .i64 0, .int .i64 0] 26 : Obj) = .cells zs 26 := rfl
    rw [eZ]
    clear eZ
    have t1 := RB.new w
    generalize w.alloc (.cells zs 26) = v0 at *
    go_upto_region 5 with (fail)
    go_wp2_with fail
    refine (fixed_any l a _ hs hal HF).mono ?_
    rintro r w1 ⟨⟨vf, rfl, hf⟩, hb1⟩
    have T1 := hid (t1.up hb1)
    have F1 := hid (NU.more hf t1.bel.size)
    clear hf hb1 t1
    go_upto_region 8 with (fail)
    go_wp2_with fail
    refine (srvtake_at l _ 32 _ hs (by omega) (by omega) HT).mono ?_
    rintro r u1 ⟨rfl, rfl⟩
    go_upto_region 11 with (fail)
    go_wp2_with fail
    refine (hsm3 _).mono ?_
    rintro r w2 ⟨⟨vg, rfl, hg⟩, hb2⟩
    have T2 := hid (T1.out.up hb2)
    have F2 := hid (F1.out.below hb2)
    have G2 := hid (NI.more hg T1.out.bel.size)
    clear hg hb2 T1 F1
    have r0 : w2.cell? ⟨w.heap.size, 0, none⟩ = some (.int .u64 0) := (T2.out.cell 0).1
    have z0 : w2.frozen? ⟨w.heap.size, 0, none⟩ = false := (T2.out.cell 0).2
    have r1 : w2.cell? ⟨w.heap.size, 1, none⟩ = some (.int .u64 0) := (T2.out.cell 1).1
    have z1 : w2.frozen? ⟨w.heap.size, 1, none⟩ = false := (T2.out.cell 1).2
    have r2 : w2.cell? ⟨w.heap.size, 2, none⟩ = some (.int .u64 0) := (T2.out.cell 2).1
    have z2 : w2.frozen? ⟨w.heap.size, 2, none⟩ = false := (T2.out.cell 2).2
    have r3 : w2.cell? ⟨w.heap.size, 3, none⟩ = some (.int .u64 0) := (T2.out.cell 3).1
    have z3 : w2.frozen? ⟨w.heap.size, 3, none⟩ = false := (T2.out.cell 3).2
    have r4 : w2.cell? ⟨w.heap.size, 4, none⟩ = some (.string (bs [])) := (T2.out.cell 4).1
    have z4 : w2.frozen? ⟨w.heap.size, 4, none⟩ = false := (T2.out.cell 4).2
    have r5 : w2.cell? ⟨w.heap.size, 5, none⟩ = some (.int .i64 0) := (T2.out.cell 5).1
    have z5 : w2.frozen? ⟨w.heap.size, 5, none⟩ = false := (T2.out.cell 5).2
    have r6 : w2.cell? ⟨w.heap.size, 6, none⟩ = some (.int .i64 0) := (T2.out.cell 6).1
    have z6 : w2.frozen? ⟨w.heap.size, 6, none⟩ = false := (T2.out.cell 6).2
    have r7 : w2.cell? ⟨w.heap.size, 7, none⟩ = some (.int .i64 0) := (T2.out.cell 7).1
    have z7 : w2.frozen? ⟨w.heap.size, 7, none⟩ = false := (T2.out.cell 7).2
    have r8 : w2.cell? ⟨w.heap.size, 8, none⟩ = some (.bool false) := (T2.out.cell 8).1
    have z8 : w2.frozen? ⟨w.heap.size, 8, none⟩ = false := (T2.out.cell 8).2
    have r9 : w2.cell? ⟨w.heap.size, 9, none⟩ = some (.int .i64 0) := (T2.out.cell 9).1
    have z9 : w2.frozen? ⟨w.heap.size, 9, none⟩ = false := (T2.out.cell 9).2
    have r10 : w2.cell? ⟨w.heap.size, 10, none⟩ = some (.int .i64 0) := (T2.out.cell 10).1
    have z10 : w2.frozen? ⟨w.heap.size, 10, none⟩ = false := (T2.out.cell 10).2
    go_wp2_with fail
    have t9 := RB.fill T2.out (.int .u64 0) (.int .u64 0) (.int .u64 0) (.int .u64 0) (.string (ByteArray.mk #[])) (.int .i64 0) (.int .i64 0) (.int .i64 0) (.bool false) (.int .i64 0) (.int .i64 0)
    clear r0 z0 r1 z1 r2 z2 r3 z3 r4 z4 r5 z5 r6 z6 r7 z7 r8 z8 r9 z9 r10 z10
    generalize (((((((((((w2.setCell ⟨w.heap.size, 0, none⟩ (.int .u64 0)).setCell ⟨w.heap.size, 1, none⟩ (.int .u64 0)).setCell ⟨w.heap.size, 2, none⟩ (.int .u64 0)).setCell ⟨w.heap.size, 3, none⟩ (.int .u64 0)).setCell ⟨w.heap.size, 4, none⟩ (.string (ByteArray.mk #[]))).setCell ⟨w.heap.size, 5, none⟩ (.int .i64 0)).setCell ⟨w.heap.size, 6, none⟩ (.int .i64 0)).setCell ⟨w.heap.size, 7, none⟩ (.int .i64 0)).setCell ⟨w.heap.size, 8, none⟩ (.bool false)).setCell ⟨w.heap.size, 9, none⟩ (.int .i64 0)).setCell ⟨w.heap.size, 10, none⟩ (.int .i64 0)) = v9 at *
    have r0 : v9.cell? ⟨w.heap.size, 0, none⟩ = some (.int .u64 0) := (t9.cell 0).1
    have r1 : v9.cell? ⟨w.heap.size, 1, none⟩ = some (.int .u64 0) := (t9.cell 1).1
    have r2 : v9.cell? ⟨w.heap.size, 2, none⟩ = some (.int .u64 0) := (t9.cell 2).1
    have r3 : v9.cell? ⟨w.heap.size, 3, none⟩ = some (.int .u64 0) := (t9.cell 3).1
    have r4 : v9.cell? ⟨w.heap.size, 4, none⟩ = some (.string (ByteArray.mk #[])) := (t9.cell 4).1
    have r5 : v9.cell? ⟨w.heap.size, 5, none⟩ = some (.int .i64 0) := (t9.cell 5).1
    have r6 : v9.cell? ⟨w.heap.size, 6, none⟩ = some (.int .i64 0) := (t9.cell 6).1
    have r7 : v9.cell? ⟨w.heap.size, 7, none⟩ = some (.int .i64 0) := (t9.cell 7).1
    have r8 : v9.cell? ⟨w.heap.size, 8, none⟩ = some (.bool false) := (t9.cell 8).1
    have r9 : v9.cell? ⟨w.heap.size, 9, none⟩ = some (.int .i64 0) := (t9.cell 9).1
    have r10 : v9.cell? ⟨w.heap.size, 10, none⟩ = some (.int .i64 0) := (t9.cell 10).1
    (try simp only [Exit.inBlock, Exit.then])
    refine bodyPost_ret (v := .tuple #[.agg #[.int .u64 0, .int .u64 0, .int .u64 0, .int .u64 0, .string (ByteArray.mk #[]), .int .i64 0, .int .i64 0, .int .i64 0, .bool false, .int .i64 0, .int .i64 0], .int .i64 0, .int .i64 e8]) (by simp [results, Try.results16, go_sem, r0, r1, r2, r3, r4, r5, r6, r7, r8, r9, r10]; try rfl) rfl ?_
    exact ⟨rfl, t9.bel⟩
  subst c8
  have HS3 := hid (y0 rfl)
  have hsm3 : ∀ w, _ := fun w => small_any l a5 3 w hs (by omega) (by omega) HS3
  clear y0 y1
  obtain rfl := numE h8
  obtain rfl := numE h7
  obtain ⟨z1, z2, z3, _⟩ := num_back h6
  obtain ⟨z4, z5, z6, _⟩ := num_back h7
  obtain ⟨z7, z8, z9, _⟩ := num_back h8
  obtain ⟨p8, rfl⟩ := Int.eq_ofNat_of_zero_le (show 0 ≤ a8 by omega)
  obtain ⟨y5, y6⟩ := sha_get h9 (by omega) z8
  by_cases hend : p8 = l.length
  · have he9 : e9 = 5 := y5 (by omega)
    subst he9
    rw [readS_e9 h1 h2 h3 h4 h5 h6 h7 h8 h9 (by omega)] at H0
    simp only [Prod.mk.injEq] at H0
    obtain ⟨rfl, rfl, rfl⟩ := H0
    have hge : decide ((l.length : Int) ≤ (p8 : Int)) = true := by simp; omega
    clear h1 h2 h3 h4 h5 h6 h7 h8 h9 h10 h11 y5 y6
    go_enter Try.func16, Try.ntmps16
    go_upto_region 1 with (fail)
    have eZ : (.cells #[.int .u64 0, .int .u64 0, .int .u64 0, .int .u64 0, .string (ByteArray.mk #[]), .int .i64 0, .int .i64 0, .int .i64 0, .bool false, .int .i64 0, .int .i64 0] 26 : Obj) = .cells zs 26 := rfl
    rw [eZ]
    clear eZ
    have t1 := RB.new w
    generalize w.alloc (.cells zs 26) = v0 at *
    go_upto_region 5 with (fail)
    go_wp2_with fail
    refine (fixed_any l a _ hs hal HF).mono ?_
    rintro r w1 ⟨⟨vf, rfl, hf⟩, hb1⟩
    have T1 := hid (t1.up hb1)
    have F1 := hid (NU.more hf t1.bel.size)
    clear hf hb1 t1
    go_upto_region 8 with (fail)
    go_wp2_with fail
    refine (srvtake_at l _ 32 _ hs (by omega) (by omega) HT).mono ?_
    rintro r u1 ⟨rfl, rfl⟩
    go_upto_region 11 with (fail)
    go_wp2_with fail
    refine (hsm3 _).mono ?_
    rintro r w2 ⟨⟨vg, rfl, hg⟩, hb2⟩
    have T2 := hid (T1.out.up hb2)
    have F2 := hid (F1.out.below hb2)
    have G2 := hid (NI.more hg T1.out.bel.size)
    clear hg hb2 T1 F1
    have r0 : w2.cell? ⟨w.heap.size, 0, none⟩ = some (.int .u64 0) := (T2.out.cell 0).1
    have z0 : w2.frozen? ⟨w.heap.size, 0, none⟩ = false := (T2.out.cell 0).2
    have r1 : w2.cell? ⟨w.heap.size, 1, none⟩ = some (.int .u64 0) := (T2.out.cell 1).1
    have z1 : w2.frozen? ⟨w.heap.size, 1, none⟩ = false := (T2.out.cell 1).2
    have r2 : w2.cell? ⟨w.heap.size, 2, none⟩ = some (.int .u64 0) := (T2.out.cell 2).1
    have z2 : w2.frozen? ⟨w.heap.size, 2, none⟩ = false := (T2.out.cell 2).2
    have r3 : w2.cell? ⟨w.heap.size, 3, none⟩ = some (.int .u64 0) := (T2.out.cell 3).1
    have z3 : w2.frozen? ⟨w.heap.size, 3, none⟩ = false := (T2.out.cell 3).2
    have r4 : w2.cell? ⟨w.heap.size, 4, none⟩ = some (.string (bs [])) := (T2.out.cell 4).1
    have z4 : w2.frozen? ⟨w.heap.size, 4, none⟩ = false := (T2.out.cell 4).2
    have r5 : w2.cell? ⟨w.heap.size, 5, none⟩ = some (.int .i64 0) := (T2.out.cell 5).1
    have z5 : w2.frozen? ⟨w.heap.size, 5, none⟩ = false := (T2.out.cell 5).2
    have r6 : w2.cell? ⟨w.heap.size, 6, none⟩ = some (.int .i64 0) := (T2.out.cell 6).1
    have z6 : w2.frozen? ⟨w.heap.size, 6, none⟩ = false := (T2.out.cell 6).2
    have r7 : w2.cell? ⟨w.heap.size, 7, none⟩ = some (.int .i64 0) := (T2.out.cell 7).1
    have z7 : w2.frozen? ⟨w.heap.size, 7, none⟩ = false := (T2.out.cell 7).2
    have r8 : w2.cell? ⟨w.heap.size, 8, none⟩ = some (.bool false) := (T2.out.cell 8).1
    have z8 : w2.frozen? ⟨w.heap.size, 8, none⟩ = false := (T2.out.cell 8).2
    have r9 : w2.cell? ⟨w.heap.size, 9, none⟩ = some (.int .i64 0) := (T2.out.cell 9).1
    have z9 : w2.frozen? ⟨w.heap.size, 9, none⟩ = false := (T2.out.cell 9).2
    have r10 : w2.cell? ⟨w.heap.size, 10, none⟩ = some (.int .i64 0) := (T2.out.cell 10).1
    have z10 : w2.frozen? ⟨w.heap.size, 10, none⟩ = false := (T2.out.cell 10).2
    go_wp2_with fail
    have t9 := RB.fill T2.out (.int .u64 0) (.int .u64 0) (.int .u64 0) (.int .u64 0) (.string (ByteArray.mk #[])) (.int .i64 0) (.int .i64 0) (.int .i64 0) (.bool false) (.int .i64 0) (.int .i64 0)
    clear r0 z0 r1 z1 r2 z2 r3 z3 r4 z4 r5 z5 r6 z6 r7 z7 r8 z8 r9 z9 r10 z10
    generalize (((((((((((w2.setCell ⟨w.heap.size, 0, none⟩ (.int .u64 0)).setCell ⟨w.heap.size, 1, none⟩ (.int .u64 0)).setCell ⟨w.heap.size, 2, none⟩ (.int .u64 0)).setCell ⟨w.heap.size, 3, none⟩ (.int .u64 0)).setCell ⟨w.heap.size, 4, none⟩ (.string (ByteArray.mk #[]))).setCell ⟨w.heap.size, 5, none⟩ (.int .i64 0)).setCell ⟨w.heap.size, 6, none⟩ (.int .i64 0)).setCell ⟨w.heap.size, 7, none⟩ (.int .i64 0)).setCell ⟨w.heap.size, 8, none⟩ (.bool false)).setCell ⟨w.heap.size, 9, none⟩ (.int .i64 0)).setCell ⟨w.heap.size, 10, none⟩ (.int .i64 0)) = v9 at *
    have r0 : v9.cell? ⟨w.heap.size, 0, none⟩ = some (.int .u64 0) := (t9.cell 0).1
    have r1 : v9.cell? ⟨w.heap.size, 1, none⟩ = some (.int .u64 0) := (t9.cell 1).1
    have r2 : v9.cell? ⟨w.heap.size, 2, none⟩ = some (.int .u64 0) := (t9.cell 2).1
    have r3 : v9.cell? ⟨w.heap.size, 3, none⟩ = some (.int .u64 0) := (t9.cell 3).1
    have r4 : v9.cell? ⟨w.heap.size, 4, none⟩ = some (.string (ByteArray.mk #[])) := (t9.cell 4).1
    have r5 : v9.cell? ⟨w.heap.size, 5, none⟩ = some (.int .i64 0) := (t9.cell 5).1
    have r6 : v9.cell? ⟨w.heap.size, 6, none⟩ = some (.int .i64 0) := (t9.cell 6).1
    have r7 : v9.cell? ⟨w.heap.size, 7, none⟩ = some (.int .i64 0) := (t9.cell 7).1
    have r8 : v9.cell? ⟨w.heap.size, 8, none⟩ = some (.bool false) := (t9.cell 8).1
    have r9 : v9.cell? ⟨w.heap.size, 9, none⟩ = some (.int .i64 0) := (t9.cell 9).1
    have r10 : v9.cell? ⟨w.heap.size, 10, none⟩ = some (.int .i64 0) := (t9.cell 10).1
    (try simp only [Exit.inBlock, Exit.then])
    refine bodyPost_ret (v := .tuple #[.agg #[.int .u64 0, .int .u64 0, .int .u64 0, .int .u64 0, .string (ByteArray.mk #[]), .int .i64 0, .int .i64 0, .int .i64 0, .bool false, .int .i64 0, .int .i64 0], .int .i64 0, .int .i64 5]) (by simp [results, Try.results16, go_sem, r0, r1, r2, r3, r4, r5, r6, r7, r8, r9, r10]; try rfl) rfl ?_
    exact ⟨rfl, t9.bel⟩
  have hp8 : p8 < l.length := by omega
  have hge : decide ((l.length : Int) ≤ (p8 : Int)) = false := by simp; omega
  obtain ⟨y7, y8⟩ := y6 hp8
  clear y5 y6
  simp only [Int.toNat_natCast] at y7 y8
  by_cases hbig : 1 < l[p8].toNat
  · have he9 := y7 hbig
    subst he9
    rw [readS_e9 h1 h2 h3 h4 h5 h6 h7 h8 h9 (by omega)] at H0
    simp only [Prod.mk.injEq] at H0
    obtain ⟨rfl, rfl, rfl⟩ := H0
    have hgt : decide ((1 : Int) < (l[p8].toNat : Int)) = true := by simp; omega
    clear h1 h2 h3 h4 h5 h6 h7 h8 h9 h10 h11 y7 y8
    go_enter Try.func16, Try.ntmps16
    go_upto_region 1 with (fail)
    have eZ : (.cells #[.int .u64 0, .int .u64 0, .int .u64 0, .int .u64 0, .string (ByteArray.mk #[]), .int .i64 0, .int .i64 0, .int .i64 0, .bool false, .int .i64 0, .int .i64 0] 26 : Obj) = .cells zs 26 := rfl
    rw [eZ]
    clear eZ
    have t1 := RB.new w
    generalize w.alloc (.cells zs 26) = v0 at *
    go_upto_region 5 with (fail)
    go_wp2_with fail
    refine (fixed_any l a _ hs hal HF).mono ?_
    rintro r w1 ⟨⟨vf, rfl, hf⟩, hb1⟩
    have T1 := hid (t1.up hb1)
    have F1 := hid (NU.more hf t1.bel.size)
    clear hf hb1 t1
    go_upto_region 8 with (fail)
    go_wp2_with fail
    refine (srvtake_at l _ 32 _ hs (by omega) (by omega) HT).mono ?_
    rintro r u1 ⟨rfl, rfl⟩
    go_upto_region 11 with (fail)
    go_wp2_with fail
    refine (hsm3 _).mono ?_
    rintro r w2 ⟨⟨vg, rfl, hg⟩, hb2⟩
    have T2 := hid (T1.out.up hb2)
    have F2 := hid (F1.out.below hb2)
    have G2 := hid (NI.more hg T1.out.bel.size)
    clear hg hb2 T1 F1
    have r0 : w2.cell? ⟨w.heap.size, 0, none⟩ = some (.int .u64 0) := (T2.out.cell 0).1
    have z0 : w2.frozen? ⟨w.heap.size, 0, none⟩ = false := (T2.out.cell 0).2
    have r1 : w2.cell? ⟨w.heap.size, 1, none⟩ = some (.int .u64 0) := (T2.out.cell 1).1
    have z1 : w2.frozen? ⟨w.heap.size, 1, none⟩ = false := (T2.out.cell 1).2
    have r2 : w2.cell? ⟨w.heap.size, 2, none⟩ = some (.int .u64 0) := (T2.out.cell 2).1
    have z2 : w2.frozen? ⟨w.heap.size, 2, none⟩ = false := (T2.out.cell 2).2
    have r3 : w2.cell? ⟨w.heap.size, 3, none⟩ = some (.int .u64 0) := (T2.out.cell 3).1
    have z3 : w2.frozen? ⟨w.heap.size, 3, none⟩ = false := (T2.out.cell 3).2
    have r4 : w2.cell? ⟨w.heap.size, 4, none⟩ = some (.string (bs [])) := (T2.out.cell 4).1
    have z4 : w2.frozen? ⟨w.heap.size, 4, none⟩ = false := (T2.out.cell 4).2
    have r5 : w2.cell? ⟨w.heap.size, 5, none⟩ = some (.int .i64 0) := (T2.out.cell 5).1
    have z5 : w2.frozen? ⟨w.heap.size, 5, none⟩ = false := (T2.out.cell 5).2
    have r6 : w2.cell? ⟨w.heap.size, 6, none⟩ = some (.int .i64 0) := (T2.out.cell 6).1
    have z6 : w2.frozen? ⟨w.heap.size, 6, none⟩ = false := (T2.out.cell 6).2
    have r7 : w2.cell? ⟨w.heap.size, 7, none⟩ = some (.int .i64 0) := (T2.out.cell 7).1
    have z7 : w2.frozen? ⟨w.heap.size, 7, none⟩ = false := (T2.out.cell 7).2
    have r8 : w2.cell? ⟨w.heap.size, 8, none⟩ = some (.bool false) := (T2.out.cell 8).1
    have z8 : w2.frozen? ⟨w.heap.size, 8, none⟩ = false := (T2.out.cell 8).2
    have r9 : w2.cell? ⟨w.heap.size, 9, none⟩ = some (.int .i64 0) := (T2.out.cell 9).1
    have z9 : w2.frozen? ⟨w.heap.size, 9, none⟩ = false := (T2.out.cell 9).2
    have r10 : w2.cell? ⟨w.heap.size, 10, none⟩ = some (.int .i64 0) := (T2.out.cell 10).1
    have z10 : w2.frozen? ⟨w.heap.size, 10, none⟩ = false := (T2.out.cell 10).2
    go_wp2_with fail
    have t9 := RB.fill T2.out (.int .u64 0) (.int .u64 0) (.int .u64 0) (.int .u64 0) (.string (ByteArray.mk #[])) (.int .i64 0) (.int .i64 0) (.int .i64 0) (.bool false) (.int .i64 0) (.int .i64 0)
    clear r0 z0 r1 z1 r2 z2 r3 z3 r4 z4 r5 z5 r6 z6 r7 z7 r8 z8 r9 z9 r10 z10
    generalize (((((((((((w2.setCell ⟨w.heap.size, 0, none⟩ (.int .u64 0)).setCell ⟨w.heap.size, 1, none⟩ (.int .u64 0)).setCell ⟨w.heap.size, 2, none⟩ (.int .u64 0)).setCell ⟨w.heap.size, 3, none⟩ (.int .u64 0)).setCell ⟨w.heap.size, 4, none⟩ (.string (ByteArray.mk #[]))).setCell ⟨w.heap.size, 5, none⟩ (.int .i64 0)).setCell ⟨w.heap.size, 6, none⟩ (.int .i64 0)).setCell ⟨w.heap.size, 7, none⟩ (.int .i64 0)).setCell ⟨w.heap.size, 8, none⟩ (.bool false)).setCell ⟨w.heap.size, 9, none⟩ (.int .i64 0)).setCell ⟨w.heap.size, 10, none⟩ (.int .i64 0)) = v9 at *
    have r0 : v9.cell? ⟨w.heap.size, 0, none⟩ = some (.int .u64 0) := (t9.cell 0).1
    have r1 : v9.cell? ⟨w.heap.size, 1, none⟩ = some (.int .u64 0) := (t9.cell 1).1
    have r2 : v9.cell? ⟨w.heap.size, 2, none⟩ = some (.int .u64 0) := (t9.cell 2).1
    have r3 : v9.cell? ⟨w.heap.size, 3, none⟩ = some (.int .u64 0) := (t9.cell 3).1
    have r4 : v9.cell? ⟨w.heap.size, 4, none⟩ = some (.string (ByteArray.mk #[])) := (t9.cell 4).1
    have r5 : v9.cell? ⟨w.heap.size, 5, none⟩ = some (.int .i64 0) := (t9.cell 5).1
    have r6 : v9.cell? ⟨w.heap.size, 6, none⟩ = some (.int .i64 0) := (t9.cell 6).1
    have r7 : v9.cell? ⟨w.heap.size, 7, none⟩ = some (.int .i64 0) := (t9.cell 7).1
    have r8 : v9.cell? ⟨w.heap.size, 8, none⟩ = some (.bool false) := (t9.cell 8).1
    have r9 : v9.cell? ⟨w.heap.size, 9, none⟩ = some (.int .i64 0) := (t9.cell 9).1
    have r10 : v9.cell? ⟨w.heap.size, 10, none⟩ = some (.int .i64 0) := (t9.cell 10).1
    (try simp only [Exit.inBlock, Exit.then])
    refine bodyPost_ret (v := .tuple #[.agg #[.int .u64 0, .int .u64 0, .int .u64 0, .int .u64 0, .string (ByteArray.mk #[]), .int .i64 0, .int .i64 0, .int .i64 0, .bool false, .int .i64 0, .int .i64 0], .int .i64 0, .int .i64 3]) (by simp [results, Try.results16, go_sem, r0, r1, r2, r3, r4, r5, r6, r7, r8, r9, r10]; try rfl) rfl ?_
    exact ⟨rfl, t9.bel⟩
  have hgt : decide ((1 : Int) < (l[p8].toNat : Int)) = false := by simp; omega
  obtain ⟨rfl, rfl, hsh⟩ := y8 hbig
  clear y7 y8
  have hsh2 : ((l[p8].toNat : Int) == 1) = sh := by rw [hsh, Bool.eq_iff_iff]; simp; omega
  have hw1 : IntKind.i64.wrap ((p8 : Int) + 1) = (p8 : Int) + 1 := IntWalk.i64_in _ (by omega)
  obtain ⟨y0, y1⟩ := sm2_chain h10 h11
  by_cases c11 : e11 = 0
  rotate_left
  · rw [readS_e11 h1 h2 h3 h4 h5 h6 h7 h8 h9 h10 h11 c11] at H0
    simp only [Prod.mk.injEq] at H0
    obtain ⟨rfl, rfl, rfl⟩ := H0
    have hsm2 : ∀ w, _ := fun w => small_any l ((p8 : Int) + 1) 2 w hs (by omega) (by omega) (hid (y1 c11))
    have hb : (e11 != 0) = true := by simpa using c11
    clear h1 h2 h3 h4 h5 h6 h7 h8 h9 h10 h11 y0 y1 c11
    go_enter Try.func16, Try.ntmps16
    go_upto_region 1 with (fail)
    have eZ : (.cells #[.int .u64 0, .int .u64 0, .int .u64 0, .int .u64 0, .string (ByteArray.mk #[]), .int .i64 0, .int .i64 0, .int .i64 0, .bool false, .int .i64 0, .int .i64 0] 26 : Obj) = .cells zs 26 := rfl
    rw [eZ]
    clear eZ
    have t1 := RB.new w
    generalize w.alloc (.cells zs 26) = v0 at *
    go_upto_region 5 with (fail)
    go_wp2_with fail
    refine (fixed_any l a _ hs hal HF).mono ?_
    rintro r w1 ⟨⟨vf, rfl, hf⟩, hb1⟩
    have T1 := hid (t1.up hb1)
    have F1 := hid (NU.more hf t1.bel.size)
    clear hf hb1 t1
    go_upto_region 8 with (fail)
    go_wp2_with fail
    refine (srvtake_at l _ 32 _ hs (by omega) (by omega) HT).mono ?_
    rintro r u1 ⟨rfl, rfl⟩
    go_upto_region 11 with (fail)
    go_wp2_with fail
    refine (hsm3 _).mono ?_
    rintro r w2 ⟨⟨vg, rfl, hg⟩, hb2⟩
    have T2 := hid (T1.out.up hb2)
    have F2 := hid (F1.out.below hb2)
    have G2 := hid (NI.more hg T1.out.bel.size)
    clear hg hb2 T1 F1
    go_upto_region 14 with (fail)
    go_upto_region 19 with (fail)
    go_wp2_with fail
    refine (hsm2 _).mono ?_
    rintro r w3 ⟨⟨vh, rfl, hh⟩, hb3⟩
    have T3 := hid (T2.out.up hb3)
    have F3 := hid (F2.out.below hb3)
    have G3 := hid (G2.out.below hb3)
    have K3 := hid (NI.more hh T2.out.bel.size)
    clear hh hb3 T2 F2 G2
    have r0 : w3.cell? ⟨w.heap.size, 0, none⟩ = some (.int .u64 0) := (T3.out.cell 0).1
    have z0 : w3.frozen? ⟨w.heap.size, 0, none⟩ = false := (T3.out.cell 0).2
    have r1 : w3.cell? ⟨w.heap.size, 1, none⟩ = some (.int .u64 0) := (T3.out.cell 1).1
    have z1 : w3.frozen? ⟨w.heap.size, 1, none⟩ = false := (T3.out.cell 1).2
    have r2 : w3.cell? ⟨w.heap.size, 2, none⟩ = some (.int .u64 0) := (T3.out.cell 2).1
    have z2 : w3.frozen? ⟨w.heap.size, 2, none⟩ = false := (T3.out.cell 2).2
    have r3 : w3.cell? ⟨w.heap.size, 3, none⟩ = some (.int .u64 0) := (T3.out.cell 3).1
    have z3 : w3.frozen? ⟨w.heap.size, 3, none⟩ = false := (T3.out.cell 3).2
    have r4 : w3.cell? ⟨w.heap.size, 4, none⟩ = some (.string (bs [])) := (T3.out.cell 4).1
    have z4 : w3.frozen? ⟨w.heap.size, 4, none⟩ = false := (T3.out.cell 4).2
    have r5 : w3.cell? ⟨w.heap.size, 5, none⟩ = some (.int .i64 0) := (T3.out.cell 5).1
    have z5 : w3.frozen? ⟨w.heap.size, 5, none⟩ = false := (T3.out.cell 5).2
    have r6 : w3.cell? ⟨w.heap.size, 6, none⟩ = some (.int .i64 0) := (T3.out.cell 6).1
    have z6 : w3.frozen? ⟨w.heap.size, 6, none⟩ = false := (T3.out.cell 6).2
    have r7 : w3.cell? ⟨w.heap.size, 7, none⟩ = some (.int .i64 0) := (T3.out.cell 7).1
    have z7 : w3.frozen? ⟨w.heap.size, 7, none⟩ = false := (T3.out.cell 7).2
    have r8 : w3.cell? ⟨w.heap.size, 8, none⟩ = some (.bool false) := (T3.out.cell 8).1
    have z8 : w3.frozen? ⟨w.heap.size, 8, none⟩ = false := (T3.out.cell 8).2
    have r9 : w3.cell? ⟨w.heap.size, 9, none⟩ = some (.int .i64 0) := (T3.out.cell 9).1
    have z9 : w3.frozen? ⟨w.heap.size, 9, none⟩ = false := (T3.out.cell 9).2
    have r10 : w3.cell? ⟨w.heap.size, 10, none⟩ = some (.int .i64 0) := (T3.out.cell 10).1
    have z10 : w3.frozen? ⟨w.heap.size, 10, none⟩ = false := (T3.out.cell 10).2
    go_wp2_with fail
    have t9 := RB.fill T3.out (.int .u64 0) (.int .u64 0) (.int .u64 0) (.int .u64 0) (.string (ByteArray.mk #[])) (.int .i64 0) (.int .i64 0) (.int .i64 0) (.bool false) (.int .i64 0) (.int .i64 0)
    clear r0 z0 r1 z1 r2 z2 r3 z3 r4 z4 r5 z5 r6 z6 r7 z7 r8 z8 r9 z9 r10 z10
    generalize (((((((((((w3.setCell ⟨w.heap.size, 0, none⟩ (.int .u64 0)).setCell ⟨w.heap.size, 1, none⟩ (.int .u64 0)).setCell ⟨w.heap.size, 2, none⟩ (.int .u64 0)).setCell ⟨w.heap.size, 3, none⟩ (.int .u64 0)).setCell ⟨w.heap.size, 4, none⟩ (.string (ByteArray.mk #[]))).setCell ⟨w.heap.size, 5, none⟩ (.int .i64 0)).setCell ⟨w.heap.size, 6, none⟩ (.int .i64 0)).setCell ⟨w.heap.size, 7, none⟩ (.int .i64 0)).setCell ⟨w.heap.size, 8, none⟩ (.bool false)).setCell ⟨w.heap.size, 9, none⟩ (.int .i64 0)).setCell ⟨w.heap.size, 10, none⟩ (.int .i64 0)) = v9 at *
    have r0 : v9.cell? ⟨w.heap.size, 0, none⟩ = some (.int .u64 0) := (t9.cell 0).1
    have r1 : v9.cell? ⟨w.heap.size, 1, none⟩ = some (.int .u64 0) := (t9.cell 1).1
    have r2 : v9.cell? ⟨w.heap.size, 2, none⟩ = some (.int .u64 0) := (t9.cell 2).1
    have r3 : v9.cell? ⟨w.heap.size, 3, none⟩ = some (.int .u64 0) := (t9.cell 3).1
    have r4 : v9.cell? ⟨w.heap.size, 4, none⟩ = some (.string (ByteArray.mk #[])) := (t9.cell 4).1
    have r5 : v9.cell? ⟨w.heap.size, 5, none⟩ = some (.int .i64 0) := (t9.cell 5).1
    have r6 : v9.cell? ⟨w.heap.size, 6, none⟩ = some (.int .i64 0) := (t9.cell 6).1
    have r7 : v9.cell? ⟨w.heap.size, 7, none⟩ = some (.int .i64 0) := (t9.cell 7).1
    have r8 : v9.cell? ⟨w.heap.size, 8, none⟩ = some (.bool false) := (t9.cell 8).1
    have r9 : v9.cell? ⟨w.heap.size, 9, none⟩ = some (.int .i64 0) := (t9.cell 9).1
    have r10 : v9.cell? ⟨w.heap.size, 10, none⟩ = some (.int .i64 0) := (t9.cell 10).1
    (try simp only [Exit.inBlock, Exit.then])
    refine bodyPost_ret (v := .tuple #[.agg #[.int .u64 0, .int .u64 0, .int .u64 0, .int .u64 0, .string (ByteArray.mk #[]), .int .i64 0, .int .i64 0, .int .i64 0, .bool false, .int .i64 0, .int .i64 0], .int .i64 0, .int .i64 e11]) (by simp [results, Try.results16, go_sem, r0, r1, r2, r3, r4, r5, r6, r7, r8, r9, r10]; try rfl) rfl ?_
    exact ⟨rfl, t9.bel⟩
  subst c11
  have HS2 := hid (y0 rfl)
  have hsm2 : ∀ w, _ := fun w => small_any l ((p8 : Int) + 1) 2 w hs (by omega) (by omega) HS2
  clear y0 y1
  have n10 := numP_le l ((p8 : Int) + 1) 0
  have n11 := numP_le l a10 e10
  rw [h10] at n10
  rw [h11] at n11
  simp only at n10 n11
  have hru := runS_eq h1 h2 h3 h4 h5 h6 h7 h8 h9 h10 h11
  have hnl := hn5.2.2.1
  clear h1 h2 h3 h4 h5 h6 h7 h8 h9 h10 h11
  go_enter Try.func16, Try.ntmps16
  go_upto_region 1 with (fail)
  have eZ : (.cells #[.int .u64 0, .int .u64 0, .int .u64 0, .int .u64 0, .string (ByteArray.mk #[]), .int .i64 0, .int .i64 0, .int .i64 0, .bool false, .int .i64 0, .int .i64 0] 26 : Obj) = .cells zs 26 := rfl
  rw [eZ]
  clear eZ
  have t1 := RB.new w
  generalize w.alloc (.cells zs 26) = v0 at *
  go_upto_region 5 with (fail)
  go_wp2_with fail
  refine (fixed_any l a _ hs hal HF).mono ?_
  rintro r w1 ⟨⟨vf, rfl, hf⟩, hb1⟩
  have T1 := hid (t1.up hb1)
  have F1 := hid (NU.more hf t1.bel.size)
  clear hf hb1 t1
  go_upto_region 8 with (fail)
  go_wp2_with fail
  refine (srvtake_at l _ 32 _ hs (by omega) (by omega) HT).mono ?_
  rintro r u1 ⟨rfl, rfl⟩
  go_upto_region 11 with (fail)
  go_wp2_with fail
  refine (hsm3 _).mono ?_
  rintro r w2 ⟨⟨vg, rfl, hg⟩, hb2⟩
  have T2 := hid (T1.out.up hb2)
  have F2 := hid (F1.out.below hb2)
  have G2 := hid (NI.more hg T1.out.bel.size)
  clear hg hb2 T1 F1
  go_upto_region 14 with (fail)
  go_upto_region 19 with (fail)
  go_wp2_with fail
  refine (hsm2 _).mono ?_
  rintro r w3 ⟨⟨vh, rfl, hh⟩, hb3⟩
  have T3 := hid (T2.out.up hb3)
  have F3 := hid (F2.out.below hb3)
  have G3 := hid (G2.out.below hb3)
  have K3 := hid (NI.more hh T2.out.bel.size)
  clear hh hb3 T2 F2 G2
  obtain ⟨gf, cf, rfl, hgf, lf, kf⟩ := F3.out.form (by simp)
  obtain ⟨gg, cg, rfl, hgg, lg, kg⟩ := G3.out.form (by simp)
  obtain ⟨gh, ch, rfl, hgh, lh, kh⟩ := K3.out.form (by simp)
  have f0 : w3.cell? ⟨gf, 0, none⟩ = some (.int .u64 (hi : Int)) := kf 0 (by simp)
  have f1 : w3.cell? ⟨gf, 1, none⟩ = some (.int .u64 (lo : Int)) := kf 1 (by simp)
  have f2 : w3.cell? ⟨gf, 2, none⟩ = some (.int .u64 (id : Int)) := kf 2 (by simp)
  have f3 : w3.cell? ⟨gf, 3, none⟩ = some (.int .u64 (up : Int)) := kf 3 (by simp)
  have f4 : w3.cell? ⟨gg, 0, none⟩ = some (.int .i64 (st : Int)) := kg 0 (by simp)
  have f5 : w3.cell? ⟨gg, 1, none⟩ = some (.int .i64 (sq : Int)) := kg 1 (by simp)
  have f6 : w3.cell? ⟨gg, 2, none⟩ = some (.int .i64 (kd : Int)) := kg 2 (by simp)
  have f7 : w3.cell? ⟨gh, 0, none⟩ = some (.int .i64 (s0 : Int)) := kh 0 (by simp)
  have f8 : w3.cell? ⟨gh, 1, none⟩ = some (.int .i64 (s1 : Int)) := kh 1 (by simp)
  have hsum : IntKind.i64.wrap ((s0 : Int) + (s1 : Int)) = (s0 : Int) + s1 := IntWalk.i64_in _ (by omega)
  clear kf kg kh F3 G3 K3
  simp only [List.length_cons, List.length_nil]
  go_wp2_with fail
  go_region_held3 (fun w' => w'.cell? ⟨gf, 0, none⟩ = some (.int .u64 (hi : Int)) ∧ w'.cell? ⟨gf, 1, none⟩ = some (.int .u64 (lo : Int)) ∧ w'.cell? ⟨gf, 2, none⟩ = some (.int .u64 (id : Int)) ∧ w'.cell? ⟨gf, 3, none⟩ = some (.int .u64 (up : Int)) ∧ w'.cell? ⟨gg, 0, none⟩ = some (.int .i64 (st : Int)) ∧ w'.cell? ⟨gg, 1, none⟩ = some (.int .i64 (sq : Int)) ∧ w'.cell? ⟨gg, 2, none⟩ = some (.int .i64 (kd : Int)) ∧ w'.cell? ⟨gh, 0, none⟩ = some (.int .i64 (s0 : Int)) ∧ w'.cell? ⟨gh, 1, none⟩ = some (.int .i64 (s1 : Int))) (first | (with_reducible exact keep9 f0 f1 f2 f3 f4 f5 f6 f7 f8) | (with_reducible exact keep9a f0 f1 f2 f3 f4 f5 f6 f7 f8 _)) (fail)
  subst hsh
  obtain ⟨sx, hsx⟩ : ∃ sx, (s0 : Int) + (s1 : Int) = sx := ⟨_, rfl⟩
  rw [hsx] at hru
  simp only [hsx]
  generalize decide (l[p8].toNat = 1) = zz at *
  have T4 := RB.drew (T3.out.up (sbelow_new w3 (.cells #[.int .u64 (hi : Int), .int .u64 (lo : Int), .int .u64 (id : Int), .int .u64 (up : Int), .string (bs nm), .int .i64 (st : Int), .int .i64 (sq : Int), .int .i64 (kd : Int), .bool zz, .int .i64 (s0 : Int), .int .i64 sx] 26)))
  have S4 : SB (w3.alloc (.cells #[.int .u64 (hi : Int), .int .u64 (lo : Int), .int .u64 (id : Int), .int .u64 (up : Int), .string (bs nm), .int .i64 (st : Int), .int .i64 (sq : Int), .int .i64 (kd : Int), .bool zz, .int .i64 (s0 : Int), .int .i64 sx] 26)).drew w3.heap.size hi lo id up nm st sq kd zz s0 sx := Blk.drew (SB.new w3 hi lo id up nm st sq kd zz s0 sx)
  clear f0 f1 f2 f3 f4 f5 f6 f7 f8 T3 hsx hsum
  generalize (w3.alloc (.cells #[.int .u64 (hi : Int), .int .u64 (lo : Int), .int .u64 (id : Int), .int .u64 (up : Int), .string (bs nm), .int .i64 (st : Int), .int .i64 (sq : Int), .int .i64 (kd : Int), .bool zz, .int .i64 (s0 : Int), .int .i64 sx] 26)).drew = w4 at *
  obtain ⟨c0, c1, c2, c3, c4, c5, c6, c7, c8, c9, c10⟩ := S4.cells
  obtain ⟨c, hc⟩ : ∃ c, chkS ⟨hi, lo, id, up, nm, st, sq, kd, zz, s0, sx⟩ = c := ⟨_, rfl⟩
  have HC := hid hc
  have hck := fun w' => rspcheck_at hi lo id up nm st sq kd zz s0 sx w' (by omega) HC
  go_wp2_with fail
  refine (hck _).mono ?_
  rintro r w5 ⟨rfl, hb5⟩
  have T5 := T4.up hb5
  have S5 := S4.up hb5
  clear c0 c1 c2 c3 c4 c5 c6 c7 c8 c9 c10 T4 S4 hb5
  obtain ⟨c0, c1, c2, c3, c4, c5, c6, c7, c8, c9, c10⟩ := S5.cells
  by_cases hc0 : c = 0
  rotate_left
  · have hb : (c != 0) = true := by simpa using hc0
    rw [readS_chk hru (by rw [hc]; exact hc0), hc] at H0
    simp only [Prod.mk.injEq] at H0
    obtain ⟨rfl, rfl, rfl⟩ := H0
    clear hc hru
    go_wp2_with fail
    refine (hck _).mono ?_
    rintro r w6 ⟨rfl, hb6⟩
    have T6 := T5.up hb6
    clear c0 c1 c2 c3 c4 c5 c6 c7 c8 c9 c10 T5 S5 hb6
    have r0 : w6.cell? ⟨w.heap.size, 0, none⟩ = some (.int .u64 0) := (T6.cell 0).1
    have z0 : w6.frozen? ⟨w.heap.size, 0, none⟩ = false := (T6.cell 0).2
    have r1 : w6.cell? ⟨w.heap.size, 1, none⟩ = some (.int .u64 0) := (T6.cell 1).1
    have z1 : w6.frozen? ⟨w.heap.size, 1, none⟩ = false := (T6.cell 1).2
    have r2 : w6.cell? ⟨w.heap.size, 2, none⟩ = some (.int .u64 0) := (T6.cell 2).1
    have z2 : w6.frozen? ⟨w.heap.size, 2, none⟩ = false := (T6.cell 2).2
    have r3 : w6.cell? ⟨w.heap.size, 3, none⟩ = some (.int .u64 0) := (T6.cell 3).1
    have z3 : w6.frozen? ⟨w.heap.size, 3, none⟩ = false := (T6.cell 3).2
    have r4 : w6.cell? ⟨w.heap.size, 4, none⟩ = some (.string (bs [])) := (T6.cell 4).1
    have z4 : w6.frozen? ⟨w.heap.size, 4, none⟩ = false := (T6.cell 4).2
    have r5 : w6.cell? ⟨w.heap.size, 5, none⟩ = some (.int .i64 0) := (T6.cell 5).1
    have z5 : w6.frozen? ⟨w.heap.size, 5, none⟩ = false := (T6.cell 5).2
    have r6 : w6.cell? ⟨w.heap.size, 6, none⟩ = some (.int .i64 0) := (T6.cell 6).1
    have z6 : w6.frozen? ⟨w.heap.size, 6, none⟩ = false := (T6.cell 6).2
    have r7 : w6.cell? ⟨w.heap.size, 7, none⟩ = some (.int .i64 0) := (T6.cell 7).1
    have z7 : w6.frozen? ⟨w.heap.size, 7, none⟩ = false := (T6.cell 7).2
    have r8 : w6.cell? ⟨w.heap.size, 8, none⟩ = some (.bool false) := (T6.cell 8).1
    have z8 : w6.frozen? ⟨w.heap.size, 8, none⟩ = false := (T6.cell 8).2
    have r9 : w6.cell? ⟨w.heap.size, 9, none⟩ = some (.int .i64 0) := (T6.cell 9).1
    have z9 : w6.frozen? ⟨w.heap.size, 9, none⟩ = false := (T6.cell 9).2
    have r10 : w6.cell? ⟨w.heap.size, 10, none⟩ = some (.int .i64 0) := (T6.cell 10).1
    have z10 : w6.frozen? ⟨w.heap.size, 10, none⟩ = false := (T6.cell 10).2
    go_wp2_with fail
    have t9 := RB.fill T6 (.int .u64 0) (.int .u64 0) (.int .u64 0) (.int .u64 0) (.string (ByteArray.mk #[])) (.int .i64 0) (.int .i64 0) (.int .i64 0) (.bool false) (.int .i64 0) (.int .i64 0)
    clear r0 z0 r1 z1 r2 z2 r3 z3 r4 z4 r5 z5 r6 z6 r7 z7 r8 z8 r9 z9 r10 z10
    generalize (((((((((((w6.setCell ⟨w.heap.size, 0, none⟩ (.int .u64 0)).setCell ⟨w.heap.size, 1, none⟩ (.int .u64 0)).setCell ⟨w.heap.size, 2, none⟩ (.int .u64 0)).setCell ⟨w.heap.size, 3, none⟩ (.int .u64 0)).setCell ⟨w.heap.size, 4, none⟩ (.string (ByteArray.mk #[]))).setCell ⟨w.heap.size, 5, none⟩ (.int .i64 0)).setCell ⟨w.heap.size, 6, none⟩ (.int .i64 0)).setCell ⟨w.heap.size, 7, none⟩ (.int .i64 0)).setCell ⟨w.heap.size, 8, none⟩ (.bool false)).setCell ⟨w.heap.size, 9, none⟩ (.int .i64 0)).setCell ⟨w.heap.size, 10, none⟩ (.int .i64 0)) = v9 at *
    have r0 : v9.cell? ⟨w.heap.size, 0, none⟩ = some (.int .u64 0) := (t9.cell 0).1
    have r1 : v9.cell? ⟨w.heap.size, 1, none⟩ = some (.int .u64 0) := (t9.cell 1).1
    have r2 : v9.cell? ⟨w.heap.size, 2, none⟩ = some (.int .u64 0) := (t9.cell 2).1
    have r3 : v9.cell? ⟨w.heap.size, 3, none⟩ = some (.int .u64 0) := (t9.cell 3).1
    have r4 : v9.cell? ⟨w.heap.size, 4, none⟩ = some (.string (ByteArray.mk #[])) := (t9.cell 4).1
    have r5 : v9.cell? ⟨w.heap.size, 5, none⟩ = some (.int .i64 0) := (t9.cell 5).1
    have r6 : v9.cell? ⟨w.heap.size, 6, none⟩ = some (.int .i64 0) := (t9.cell 6).1
    have r7 : v9.cell? ⟨w.heap.size, 7, none⟩ = some (.int .i64 0) := (t9.cell 7).1
    have r8 : v9.cell? ⟨w.heap.size, 8, none⟩ = some (.bool false) := (t9.cell 8).1
    have r9 : v9.cell? ⟨w.heap.size, 9, none⟩ = some (.int .i64 0) := (t9.cell 9).1
    have r10 : v9.cell? ⟨w.heap.size, 10, none⟩ = some (.int .i64 0) := (t9.cell 10).1
    (try simp only [Exit.inBlock, Exit.then])
    refine bodyPost_ret (v := .tuple #[.agg #[.int .u64 0, .int .u64 0, .int .u64 0, .int .u64 0, .string (ByteArray.mk #[]), .int .i64 0, .int .i64 0, .int .i64 0, .bool false, .int .i64 0, .int .i64 0], .int .i64 0, .int .i64 c]) (by simp [results, Try.results16, go_sem, r0, r1, r2, r3, r4, r5, r6, r7, r8, r9, r10]; try rfl) rfl ?_
    exact ⟨rfl, t9.bel⟩
  subst hc0
  rw [readS_ok hru hc] at H0
  simp only [Prod.mk.injEq] at H0
  obtain ⟨rfl, rfl, rfl⟩ := H0
  clear hc hru
  have r0 : w5.cell? ⟨w.heap.size, 0, none⟩ = some (.int .u64 0) := (T5.cell 0).1
  have z0 : w5.frozen? ⟨w.heap.size, 0, none⟩ = false := (T5.cell 0).2
  have r1 : w5.cell? ⟨w.heap.size, 1, none⟩ = some (.int .u64 0) := (T5.cell 1).1
  have z1 : w5.frozen? ⟨w.heap.size, 1, none⟩ = false := (T5.cell 1).2
  have r2 : w5.cell? ⟨w.heap.size, 2, none⟩ = some (.int .u64 0) := (T5.cell 2).1
  have z2 : w5.frozen? ⟨w.heap.size, 2, none⟩ = false := (T5.cell 2).2
  have r3 : w5.cell? ⟨w.heap.size, 3, none⟩ = some (.int .u64 0) := (T5.cell 3).1
  have z3 : w5.frozen? ⟨w.heap.size, 3, none⟩ = false := (T5.cell 3).2
  have r4 : w5.cell? ⟨w.heap.size, 4, none⟩ = some (.string (bs [])) := (T5.cell 4).1
  have z4 : w5.frozen? ⟨w.heap.size, 4, none⟩ = false := (T5.cell 4).2
  have r5 : w5.cell? ⟨w.heap.size, 5, none⟩ = some (.int .i64 0) := (T5.cell 5).1
  have z5 : w5.frozen? ⟨w.heap.size, 5, none⟩ = false := (T5.cell 5).2
  have r6 : w5.cell? ⟨w.heap.size, 6, none⟩ = some (.int .i64 0) := (T5.cell 6).1
  have z6 : w5.frozen? ⟨w.heap.size, 6, none⟩ = false := (T5.cell 6).2
  have r7 : w5.cell? ⟨w.heap.size, 7, none⟩ = some (.int .i64 0) := (T5.cell 7).1
  have z7 : w5.frozen? ⟨w.heap.size, 7, none⟩ = false := (T5.cell 7).2
  have r8 : w5.cell? ⟨w.heap.size, 8, none⟩ = some (.bool false) := (T5.cell 8).1
  have z8 : w5.frozen? ⟨w.heap.size, 8, none⟩ = false := (T5.cell 8).2
  have r9 : w5.cell? ⟨w.heap.size, 9, none⟩ = some (.int .i64 0) := (T5.cell 9).1
  have z9 : w5.frozen? ⟨w.heap.size, 9, none⟩ = false := (T5.cell 9).2
  have r10 : w5.cell? ⟨w.heap.size, 10, none⟩ = some (.int .i64 0) := (T5.cell 10).1
  have z10 : w5.frozen? ⟨w.heap.size, 10, none⟩ = false := (T5.cell 10).2
  have hne : w.heap.size ≠ w3.heap.size := by have := T5.bel.size; omega
  go_wp2_with fail
  have t9 := RB.fill T5 (.int .u64 (hi : Int)) (.int .u64 (lo : Int)) (.int .u64 (id : Int)) (.int .u64 (up : Int)) (.string (bs nm)) (.int .i64 (st : Int)) (.int .i64 (sq : Int)) (.int .i64 (kd : Int)) (.bool zz) (.int .i64 (s0 : Int)) (.int .i64 sx)
  clear r0 z0 r1 z1 r2 z2 r3 z3 r4 z4 r5 z5 r6 z6 r7 z7 r8 z8 r9 z9 r10 z10
  generalize (((((((((((w5.setCell ⟨w.heap.size, 0, none⟩ (.int .u64 (hi : Int))).setCell ⟨w.heap.size, 1, none⟩ (.int .u64 (lo : Int))).setCell ⟨w.heap.size, 2, none⟩ (.int .u64 (id : Int))).setCell ⟨w.heap.size, 3, none⟩ (.int .u64 (up : Int))).setCell ⟨w.heap.size, 4, none⟩ (.string (bs nm))).setCell ⟨w.heap.size, 5, none⟩ (.int .i64 (st : Int))).setCell ⟨w.heap.size, 6, none⟩ (.int .i64 (sq : Int))).setCell ⟨w.heap.size, 7, none⟩ (.int .i64 (kd : Int))).setCell ⟨w.heap.size, 8, none⟩ (.bool zz)).setCell ⟨w.heap.size, 9, none⟩ (.int .i64 (s0 : Int))).setCell ⟨w.heap.size, 10, none⟩ (.int .i64 sx)) = v9 at *
  have r0 : v9.cell? ⟨w.heap.size, 0, none⟩ = some (.int .u64 (hi : Int)) := (t9.cell 0).1
  have r1 : v9.cell? ⟨w.heap.size, 1, none⟩ = some (.int .u64 (lo : Int)) := (t9.cell 1).1
  have r2 : v9.cell? ⟨w.heap.size, 2, none⟩ = some (.int .u64 (id : Int)) := (t9.cell 2).1
  have r3 : v9.cell? ⟨w.heap.size, 3, none⟩ = some (.int .u64 (up : Int)) := (t9.cell 3).1
  have r4 : v9.cell? ⟨w.heap.size, 4, none⟩ = some (.string (bs nm)) := (t9.cell 4).1
  have r5 : v9.cell? ⟨w.heap.size, 5, none⟩ = some (.int .i64 (st : Int)) := (t9.cell 5).1
  have r6 : v9.cell? ⟨w.heap.size, 6, none⟩ = some (.int .i64 (sq : Int)) := (t9.cell 6).1
  have r7 : v9.cell? ⟨w.heap.size, 7, none⟩ = some (.int .i64 (kd : Int)) := (t9.cell 7).1
  have r8 : v9.cell? ⟨w.heap.size, 8, none⟩ = some (.bool zz) := (t9.cell 8).1
  have r9 : v9.cell? ⟨w.heap.size, 9, none⟩ = some (.int .i64 (s0 : Int)) := (t9.cell 9).1
  have r10 : v9.cell? ⟨w.heap.size, 10, none⟩ = some (.int .i64 sx) := (t9.cell 10).1
  (try simp only [Exit.inBlock, Exit.then])
  refine bodyPost_ret (v := .tuple #[.agg #[.int .u64 (hi : Int), .int .u64 (lo : Int), .int .u64 (id : Int), .int .u64 (up : Int), .string (bs nm), .int .i64 (st : Int), .int .i64 (sq : Int), .int .i64 (kd : Int), .bool zz, .int .i64 (s0 : Int), .int .i64 sx], .int .i64 a11, .int .i64 0]) (by simp [results, Try.results16, go_sem, r0, r1, r2, r3, r4, r5, r6, r7, r8, r9, r10]; try rfl) rfl ?_
  exact ⟨rfl, t9.bel⟩
end Go.Proofs.Ytgpioafkahoahaa
