import Derived.Test.YtgpioafkahoahaaBd
import Derived.Deep.Cut
namespace Go.Proofs.Ytgpioafkahoahaa
set_option linter.unusedVariables false
set_option linter.unusedSimpArgs false
open Go.RowKit Go.Joins

theorem infoSP : (Try.prog.info? 26).map (fun i => (i.zero, i.size, i.bytes)) = some (some (.agg #[.int .u64 0, .int .u64 0, .int .u64 0, .int .u64 0, .string ByteArray.empty, .int .i64 0, .int .i64 0, .int .i64 0, .bool false, .int .i64 0, .int .i64 0]), 11, 96) := by kernel_rfl
def svals (L : List Sp) : List Value := (L.map fun s => (spA s).toList).flatten
theorem spA_len (s : Sp) : (spA s).toList.length = 11 := rfl
theorem svals_len : ∀ L : List Sp, (svals L).length = L.length * 11
  | [] => rfl
  | s :: r => by
    have : svals (s :: r) = (spA s).toList ++ svals r := by simp [svals]
    rw [this, List.length_append, svals_len r, spA_len, List.length_cons]; omega
theorem svals_snoc (L : List Sp) (s : Sp) : svals L ++ (spA s).toList = svals (L ++ [s]) := by simp [svals]
theorem svals_at : ∀ (L : List Sp) (k i : Nat) (hk : k < L.length), i < 11 → (svals L)[k * 11 + i]? = (spA L[k]).toList[i]?
  | s :: r, 0, i, hk, hi => by
    have : svals (s :: r) = (spA s).toList ++ svals r := by simp [svals]
    rw [this, List.getElem?_append_left (by rw [spA_len]; omega)]; simp
  | s :: r, k + 1, i, hk, hi => by
    have : svals (s :: r) = (spA s).toList ++ svals r := by simp [svals]
    rw [this, List.getElem?_append_right (by rw [spA_len]; omega), spA_len, show (k + 1) * 11 + i - 11 = k * 11 + i by omega, svals_at r k i (by simpa using hk) hi]
    simp
/-- A slice of spans that the call itself has made, holding L. -/
def SPB (w : World) (base : Nat) (v : Value) (L : List Sp) : Prop := w.ownsRow base 26 11 v L.length (svals L)
theorem SPB.nil (w : World) (base : Nat) : SPB w base (.slice none 0 0) [] := ⟨rfl, Or.inl ⟨rfl, rfl⟩⟩
theorem SPB.below {w w' : World} {base : Nat} {v : Value} {L : List Sp} (h : SPB w base v L) (hb : Below w.heap.size w w') : SPB w' base v L := by
  unfold SPB at *
  refine World.ownsRow.kept (row := none) h ⟨hb.os, hb.tape, hb.output, hb.size, fun k hk _ => hb.block k hk⟩ ?_
  by_cases e : v.ownBlock = none
  · exact Or.inl e
  · exact Or.inr e
theorem SPB.more {w : World} {base base' : Nat} {v : Value} {L : List Sp} (h : SPB w base v L) (hb : base' ≤ base) : SPB w base' v L := by
  refine ⟨h.1, ?_⟩
  rcases h.2 with h2 | ⟨g, cap', cur, e1, e2, e3⟩
  · exact Or.inl h2
  · exact Or.inr ⟨g, cap', cur, e1, Nat.le_trans hb e2, e3⟩
theorem SPB.far {w : World} {base g i : Nat} {v : Value} {L : List Sp} (h : SPB w base v L) (hg : g < base) (u : Value) : SPB (w.setCell ⟨g, i, none⟩ u) base v L := ownsRow_setCell_below h hg u
theorem SPB.form {w : World} {base : Nat} {v : Value} {L : List Sp} (h : SPB w base v L) : ∃ A cap, v = .slice A L.length cap ∧ SR w (fun b => base ≤ b ∧ b < w.heap.size) A L := by
  rcases ownsRow_forms h with ⟨rfl, h0⟩ | ⟨g, cap, rfl⟩
  · exact ⟨none, 0, by rw [h0], fun k hk => absurd hk (by omega)⟩
  · refine ⟨some ⟨g, 0, none⟩, cap, rfl, fun k hk => ⟨g, 0, rfl, World.ownsRow.lt h g rfl, ?_⟩⟩
    have hat : ∀ i, i < 11 → w.cell? ⟨g, k * 11 + i, none⟩ = (spA L[k]).toList[i]? := fun i hi => by
      rw [World.ownsRow.cellAt h (k * 11 + i) (by omega)]; exact svals_at L k i hk hi
    refine ⟨?_, ?_, ?_, ?_, ?_, ?_, ?_, ?_, ?_, ?_, ?_⟩
    · rw [Nat.zero_add]; exact hat 0 (by omega)
    · rw [Nat.zero_add]; exact hat 1 (by omega)
    · rw [Nat.zero_add]; exact hat 2 (by omega)
    · rw [Nat.zero_add]; exact hat 3 (by omega)
    · rw [Nat.zero_add]; exact hat 4 (by omega)
    · rw [Nat.zero_add]; exact hat 5 (by omega)
    · rw [Nat.zero_add]; exact hat 6 (by omega)
    · rw [Nat.zero_add]; exact hat 7 (by omega)
    · rw [Nat.zero_add]; exact hat 8 (by omega)
    · rw [Nat.zero_add]; exact hat 9 (by omega)
    · rw [Nat.zero_add]; exact hat 10 (by omega)
theorem SPB.sr {w : World} {base : Nat} {v : Value} {L : List Sp} (h : SPB w base v L) : ∃ A cap, v = .slice A L.length cap ∧ SR w (· < w.heap.size) A L := by
  obtain ⟨A, cap, e, hr⟩ := h.form
  exact ⟨A, cap, e, hr.imp fun b hb => hb.2⟩
theorem wpList_append_sp {ops : Array Oper} {rest : List Oper} {o : Oper} {a : Act} {Q : Exit → Act → World → Prop} {w W0 : World} (hgd : o.guard = none) (s x : Operand)
    (ho : o.op = .call { callee := .builtin .append, args := #[s, x], argTypes := #[37, 37] }) (base : Nat) (v : Value) (L : List Sp) (h : Sp) (g : Nat)
    (hs : a.eval s = v) (hown : SPB w base v L) (hx : a.eval x = .slice (some ⟨g, 0, none⟩) 1 1) (hc : ∀ i, i < 11 → w.cell? ⟨g, i, none⟩ = (spA h).toList[i]?)
    (hl : L.length ≤ 10000000) (hW : Below base W0 w) (hbase : base ≤ W0.heap.size) (K : ∀ v' w', SPB w' base v' (L ++ [h]) → Below base W0 w' → w.grownBy w' v.ownBlock → wpList Try.prog ops Q rest (a.put o.dst v') w') : wpList Try.prog ops Q (o :: rest) a w := by
  obtain ⟨i0, hi, hz0, hz1, hz2⟩ := info_parts infoSP
  have hbw : base ≤ w.heap.size := Nat.le_trans hbase hW.size
  refine wpList_append_own _ hgd s x 37 ho base 26 i0 (.agg #[.int .u64 0, .int .u64 0, .int .u64 0, .int .u64 0, .string ByteArray.empty, .int .i64 0, .int .i64 0, .int .i64 0, .bool false, .int .i64 0, .int .i64 0]) 11 96 Try.underlying37 hi hz0 hz1 hz2 rfl (by decide) v L.length (svals L) hs hown ⟨g, 0, none⟩ 1 1
    (spA h).toList hx rfl ?_ ?_ (by unfold maxLen; omega) (by omega) hbw ?_
  · intro j u hj
    have hlt : j < 11 := by
      by_cases hlt : j < 11
      · exact hlt
      · rw [List.getElem?_eq_none (by rw [spA_len]; omega)] at hj; cases hj
    rw [Addr.add_lit, Nat.zero_add, hc j hlt]
    exact hj
  · intro u hu
    simp [spA] at hu
    rcases hu with rfl | rfl | rfl | rfl | rfl | rfl | rfl | rfl | rfl | rfl | rfl <;> rfl
  · intro v' w' h1 h2 _
    refine K v' w' ?_ (hW.grown h2 hbw (fun k hk => (World.ownsRow.lt hown k hk).1)) h2
    unfold SPB
    rw [List.length_append, ← svals_snoc]
    exact h1
/-- The definition's front of a batch or an answer. -/
def frS (m s : List UInt8) : List UInt8 × List Nat × Int × Int :=
  if (openS s).2 ≠ 0 then ([], [], 0, (openS s).2) else if hasP m (openS s).1 = false then ([], [], 0, 3) else
  if (numM (openS s).1 3 7).2.2 ≠ 0 then ([], [], 0, (numM (openS s).1 3 7).2.2) else
  if (numM (openS s).1 (numM (openS s).1 3 7).2.1 1099511627776).2.2 ≠ 0 then ([], [], 0, (numM (openS s).1 (numM (openS s).1 3 7).2.1 1099511627776).2.2) else
  ((openS s).1, [(numM (openS s).1 3 7).1, (numM (openS s).1 (numM (openS s).1 3 7).2.1 1099511627776).1], (numM (openS s).1 (numM (openS s).1 3 7).2.1 1099511627776).2.1, 0)
theorem kind_one (t : List UInt8) : kindB t = 1 ↔ hasP mkB t = true := by
  unfold kindB
  cases hasP mkB t
  · simp; split <;> omega
  · simp
theorem hasP_excl {t : List UInt8} (h : hasP mkB t = true) : hasP mkA t = false := by
  rw [hasP_split h]; exact hasP_ne _
theorem kind_two (t : List UInt8) : kindB t = 2 ↔ hasP mkA t = true := by
  unfold kindB
  cases h : hasP mkB t
  · cases hasP mkA t <;> simp
  · rw [hasP_excl h]; simp
theorem fr_link {m s l : List UInt8} {e : Int} (hm : m.length = 3) (ho : opM m s = (l, e)) {n q : Nat} {a b e1 e2 : Int} (h1 : nmP l 7 0 0 = (n, a, e1)) (h2 : nmP l 1099511627776 a e1 = (q, b, e2)) :
    (e ≠ 0 → frS m s = ([], [], 0, e)) ∧ (e = 0 → e2 ≠ 0 → frS m s = ([], [], 0, e2)) ∧ (e = 0 → e2 = 0 → frS m s = (m ++ l, [n, q], 3 + b, 0)) := by
  obtain ⟨t, x, hx⟩ : ∃ t x, openS s = (t, x) := ⟨_, _, rfl⟩
  have ho' := ho
  rw [opM, hx] at ho
  simp only at ho
  by_cases hx0 : x = 0
  · subst hx0
    rw [if_neg (by simp)] at ho
    cases hp : hasP m t
    · rw [hp, if_neg (by simp)] at ho
      simp only [Prod.mk.injEq] at ho
      obtain ⟨rfl, rfl⟩ := ho
      exact ⟨fun _ => by rw [frS, hx]; simp [hp], fun h => absurd h (by omega), fun h => absurd h (by omega)⟩
    · rw [hp, if_pos rfl] at ho
      simp only [Prod.mk.injEq] at ho
      obtain ⟨hl, rfl⟩ := ho
      have ht : t = m ++ l := by rw [← hl]; exact hasP_split hp
      obtain ⟨p1, p2⟩ := num_link m l (Int.le_refl 0) h1
      rw [hm] at p1 p2
      have e30 : ((3 : Nat) : Int) + 0 = 3 := rfl
      rw [e30, ← ht] at p1 p2
      refine ⟨fun h => absurd rfl h, fun _ h20 => ?_, fun _ h20 => ?_⟩
      · by_cases h10 : e1 = 0
        · subst h10
          obtain ⟨g1, g2, g3, _⟩ := p1 rfl
          obtain ⟨_, q2⟩ := num_link m l g2 h2
          rw [hm, ← ht] at q2
          have g4 := q2 h20
          rw [frS, hx]
          simp only
          rw [if_neg (by simp), if_neg (by rw [hp]; simp), g1]
          simp only
          rw [if_neg (by simp), show ((3 : Nat) : Int) = 3 from rfl] at *
          rw [g4, if_pos h20]
        · have g1 := p2 h10
          rw [nmP_err h10] at h2
          simp only [Prod.mk.injEq] at h2
          obtain ⟨_, _, rfl⟩ := h2
          rw [frS, hx]
          simp only
          rw [if_neg (by simp), if_neg (by rw [hp]; simp), g1, if_pos h10]
      · subst h20
        obtain rfl := nmE h2
        obtain ⟨g1, g2, g3, _⟩ := p1 rfl
        obtain ⟨q1, _⟩ := num_link m l g2 h2
        rw [hm, ← ht] at q1
        obtain ⟨g4, _⟩ := q1 rfl
        rw [frS, hx]
        simp only
        rw [if_neg (by simp), if_neg (by rw [hp]; simp), g1]
        simp only
        rw [if_neg (by simp), g4]
        simp only
        rw [if_neg (by simp), ← ht]
        rfl
  · rw [if_pos hx0] at ho
    simp only [Prod.mk.injEq] at ho
    obtain ⟨rfl, rfl⟩ := ho
    exact ⟨fun _ => by rw [frS, hx]; simp [hx0], fun h => absurd h hx0, fun h => absurd h hx0⟩
set_option maxHeartbeats 1600000 in
theorem front_any (m s : List UInt8) (kind : Int) (hk : ∀ t, kindB t = kind ↔ hasP m t = true) (w : World) (hs : s.length ≤ 140737488351232) {t : List UInt8} {L : List Nat} {a e : Int} (H : Hid (frS m s = (t, L, a, e))) :
    Calls Try.prog 57 #[.string (bs s), .int .i64 kind] w fun r w' => (∃ v, r = .returned (.tuple #[.string (bs t), v, .int .i64 a, .int .i64 e]) ∧ NI w' w.heap.size v L) ∧ Below w.heap.size w w' := by
  obtain ⟨u, x, ho⟩ : ∃ u x, openS s = (u, x) := ⟨_, _, rfl⟩
  have hul : u.length ≤ s.length := by have := openS_len s; rw [ho] at this; exact this
  have H0 := H.out
  rw [frS, ho] at H0
  simp only at H0
  have HO := hid ho
  clear ho H
  by_cases hx : x = 0
  rotate_left
  · rw [if_pos hx] at H0
    simp only [Prod.mk.injEq] at H0
    obtain ⟨rfl, rfl, rfl, rfl⟩ := H0
    have hb : (x != 0) = true := by simpa using hx
    clear hx
    go_enter Try.func57, Try.ntmps57
    go_wp2_with fail
    refine (sropen_at s _ hs HO).mono ?_
    rintro r w1 ⟨rfl, hb1⟩
    go_wp2_with fail
    go_returns
    exact ⟨⟨_, rfl, NI.nil _ _⟩, hb1⟩
  subst hx
  rw [if_neg (by simp)] at H0
  obtain ⟨kk, hkk⟩ : ∃ kk, kindB u = kk := ⟨_, rfl⟩
  have hrk := fun w' => rkind_any u w' (by omega) (hid hkk)
  have hkb : (kk != kind) = !hasP m u := by
    rw [← hkk]
    cases hp : hasP m u
    · have : ¬ kindB u = kind := fun h => by rw [(hk u).1 h] at hp; cases hp
      simpa using this
    · have := (hk u).2 hp
      simpa using this
  have HRK := hid hrk
  clear hrk hkk hk
  cases hp : hasP m u
  · rw [hp, if_pos rfl] at H0
    simp only [Prod.mk.injEq] at H0
    obtain ⟨rfl, rfl, rfl, rfl⟩ := H0
    rw [hp] at hkb
    simp only [Bool.not_false] at hkb
    clear hp
    go_enter Try.func57, Try.ntmps57
    go_wp2_with fail
    refine (sropen_at s _ hs HO).mono ?_
    rintro r w1 ⟨rfl, hb1⟩
    go_wp2_with fail
    refine (HRK.out _).mono ?_
    rintro r w2 ⟨rfl, rfl⟩
    go_wp2_with fail
    go_returns
    exact ⟨⟨_, rfl, NI.nil _ _⟩, hb1⟩
  rw [hp, if_neg (by simp)] at H0
  rw [hp] at hkb
  simp only [Bool.not_true] at hkb
  clear hp
  obtain ⟨n, a1, e1, h1⟩ : ∃ x y z, numM u 3 7 = (x, y, z) := ⟨_, _, _, rfl⟩
  have hp1 := numM_pos h1
  rw [h1] at H0
  simp only at H0
  have hn1 := fun w' => rnumber_any u 3 7 w' (by omega) (by omega) (by omega) (hid h1)
  have HN1 := hid hn1
  have hl1 := numM_le h1
  clear hn1 h1
  by_cases h10 : e1 = 0
  rotate_left
  · rw [if_pos h10] at H0
    simp only [Prod.mk.injEq] at H0
    obtain ⟨rfl, rfl, rfl, rfl⟩ := H0
    have hb : (e1 != 0) = true := by simpa using h10
    clear h10
    go_enter Try.func57, Try.ntmps57
    go_wp2_with fail
    refine (sropen_at s _ hs HO).mono ?_
    rintro r w1 ⟨rfl, hb1⟩
    go_wp2_with fail
    refine (HRK.out _).mono ?_
    rintro r w2 ⟨rfl, rfl⟩
    go_wp2_with fail
    refine (HN1.out _).mono ?_
    rintro r w2 ⟨rfl, rfl⟩
    go_wp2_with fail
    go_returns
    exact ⟨⟨_, rfl, NI.nil _ _⟩, hb1⟩
  subst h10
  rw [if_neg (by simp)] at H0
  obtain ⟨q, a2, e2, h2⟩ : ∃ x y z, numM u a1 1099511627776 = (x, y, z) := ⟨_, _, _, rfl⟩
  have hp2 := numM_pos h2
  rw [h2] at H0
  simp only at H0
  have hn2 := fun w' => rnumber_any u a1 1099511627776 w' (by omega) (by omega) (by omega) (hid h2)
  have HN2 := hid hn2
  clear hn2 h2
  by_cases h20 : e2 = 0
  rotate_left
  · rw [if_pos h20] at H0
    simp only [Prod.mk.injEq] at H0
    obtain ⟨rfl, rfl, rfl, rfl⟩ := H0
    have hb : (e2 != 0) = true := by simpa using h20
    clear h20
    go_enter Try.func57, Try.ntmps57
    go_wp2_with fail
    refine (sropen_at s _ hs HO).mono ?_
    rintro r w1 ⟨rfl, hb1⟩
    go_wp2_with fail
    refine (HRK.out _).mono ?_
    rintro r w2 ⟨rfl, rfl⟩
    go_wp2_with fail
    refine (HN1.out _).mono ?_
    rintro r w2 ⟨rfl, rfl⟩
    go_wp2_with fail
    refine (HN2.out _).mono ?_
    rintro r w2 ⟨rfl, rfl⟩
    go_wp2_with fail
    go_returns
    exact ⟨⟨_, rfl, NI.nil _ _⟩, hb1⟩
  subst h20
  rw [if_neg (by simp)] at H0
  simp only [Prod.mk.injEq] at H0
  obtain ⟨rfl, rfl, rfl, rfl⟩ := H0
  go_enter Try.func57, Try.ntmps57
  go_wp2_with fail
  refine (sropen_at s _ hs HO).mono ?_
  rintro r w1 ⟨rfl, hb1⟩
  go_wp2_with fail
  refine (HRK.out _).mono ?_
  rintro r w2 ⟨rfl, rfl⟩
  go_wp2_with fail
  refine (HN1.out _).mono ?_
  rintro r w2 ⟨rfl, rfl⟩
  go_wp2_with fail
  refine (HN2.out _).mono ?_
  rintro r w2 ⟨rfl, rfl⟩
  have hown : NI (w1.alloc (.cells #[.int .i64 (n : Int), .int .i64 (q : Int)] 3)) w.heap.size (.slice (some ⟨w1.heap.size, 0, none⟩) 2 2) [n, q] := World.ownsRow_lit w1 #[.int .i64 (n : Int), .int .i64 (q : Int)] 2 hb1.size (by decide) rfl
  have hb3 := sbelow_step hb1 (sbelow_new w1 (.cells #[.int .i64 (n : Int), .int .i64 (q : Int)] 3))
  have H3 := hid (And.intro hown hb3)
  clear hown hb3
  go_wp2_with fail
  go_returns
  exact ⟨⟨_, rfl, H3.out.1⟩, H3.out.2⟩
set_option maxHeartbeats 1600000 in
theorem rbreadack_any (s : List UInt8) (w : World) (hs : s.length ≤ 140737488351232) {n q : Nat} {r : Int} (H : Hid (readA s = (n, q, r))) :
    Calls Try.prog 28 #[.string (bs s)] w fun e w' => e = .returned (.tuple #[.int .i64 n, .int .i64 q, .int .i64 r]) ∧ Below w.heap.size w w' := by
  have H0 := H.out
  clear H
  obtain ⟨l, e, ho⟩ : ∃ l e, opM mkA s = (l, e) := ⟨_, _, rfl⟩
  have hll := opM_len ho
  rw [readA, ho] at H0
  simp only at H0
  obtain ⟨n', a1, e1, h1⟩ : ∃ x y z, nmP l 7 0 0 = (x, y, z) := ⟨_, _, _, rfl⟩
  obtain ⟨q', a2, e2, h2⟩ : ∃ x y z, nmP l 1099511627776 a1 e1 = (x, y, z) := ⟨_, _, _, rfl⟩
  have b1 := nmP_in h1 (by omega)
  have b2 := nmP_in h2 b1
  obtain ⟨k2, rfl⟩ := Int.eq_ofNat_of_zero_le b2.1
  obtain ⟨f1, f2, f3⟩ := fr_link mkA_len ho h1 h2
  by_cases he : e = 0
  rotate_left
  · rw [if_pos he] at H0
    simp only [Prod.mk.injEq] at H0
    obtain ⟨rfl, rfl, rfl⟩ := H0
    have hfr := fun w' => front_any mkA s 2 kind_two w' hs (hid (f1 he))
    have hb : (e != 0) = true := by simpa using he
    clear he f1 f2 f3
    go_enter Try.func28, Try.ntmps28
    go_wp2_with fail
    refine (hfr _).mono ?_
    rintro r w1 ⟨⟨v, rfl, hv⟩, hb1⟩
    go_wp2_with fail
    go_returns
    exact ⟨rfl, hb1⟩
  rw [if_neg (by simpa using he)] at H0
  by_cases h20 : e2 = 0
  rotate_left
  · rw [rdA_err h1 h2 h20] at H0
    simp only [Prod.mk.injEq] at H0
    obtain ⟨rfl, rfl, rfl⟩ := H0
    have hfr := fun w' => front_any mkA s 2 kind_two w' hs (hid (f2 he h20))
    have hb : (e2 != 0) = true := by simpa using h20
    clear he f1 f2 f3 h20
    go_enter Try.func28, Try.ntmps28
    go_wp2_with fail
    refine (hfr _).mono ?_
    rintro r w1 ⟨⟨v, rfl, hv⟩, hb1⟩
    go_wp2_with fail
    go_returns
    exact ⟨rfl, hb1⟩
  have hfr := fun w' => front_any mkA s 2 kind_two w' hs (hid (f3 he h20))
  subst h20
  rw [rdA_end h1 h2, Int.toNat_natCast] at H0
  have htl : (mkA ++ l).length = 3 + l.length := by rw [List.length_append, mkA_len]
  have HFR := hid hfr
  clear hfr f1 f2 f3 h1 h2 ho
  generalize mkA ++ l = t at *
  by_cases hd : k2 = l.length
  · rw [if_pos (by rw [hd, List.drop_length])] at H0
    simp only [Prod.mk.injEq] at H0
    obtain ⟨rfl, rfl, rfl⟩ := H0
    have hne : ((3 : Int) + (k2 : Int) != ((t.length : Nat) : Int)) = false := by simp; omega
    go_enter Try.func28, Try.ntmps28
    go_wp2_with fail
    refine (HFR.out _).mono ?_
    rintro r w1 ⟨⟨v, rfl, hv⟩, hb1⟩
    obtain ⟨g, cg, rfl, hg1, hg2, hcell⟩ := hv.form (by simp)
    have c0 : w1.cell? ⟨g, 0, none⟩ = some (.int .i64 (n' : Int)) := hcell 0 (by simp)
    have c1 : w1.cell? ⟨g, 1, none⟩ = some (.int .i64 (q' : Int)) := hcell 1 (by simp)
    clear hcell hv
    simp only [List.length_cons, List.length_nil]
    go_wp2_with fail
    go_quiet (fail)
    go_wp2_with fail
    go_returns
    exact ⟨rfl, below_drewN hb1 _⟩
  · rw [if_neg (fun h => hd (by have := congrArg List.length h; rw [List.length_drop] at this; simp at this; omega))] at H0
    simp only [Prod.mk.injEq] at H0
    obtain ⟨rfl, rfl, rfl⟩ := H0
    have hne : ((3 : Int) + (k2 : Int) != ((t.length : Nat) : Int)) = true := by simp; omega
    go_enter Try.func28, Try.ntmps28
    go_wp2_with fail
    refine (HFR.out _).mono ?_
    rintro r w1 ⟨⟨v, rfl, hv⟩, hb1⟩
    go_wp2_with fail
    go_returns
    exact ⟨rfl, hb1⟩
end Go.Proofs.Ytgpioafkahoahaa
