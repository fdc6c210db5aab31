import Derived.Test.YtgpioafkahoahaaSa
import Derived.Test.YtgpioafkahoahaaVq
import Derived.Test.YtgpioafkahoahaaHe
import Derived.Handy
namespace Go.Proofs.Ytgpioafkahoahaa
set_option linter.unusedVariables false
set_option linter.unusedSimpArgs false
open Go.RowKit Go.Joins

theorem infoNU : (Try.prog.info? 22).map (fun i => (i.zero, i.size, i.bytes)) = some (some (.int .u64 0), 1, 8) := by kernel_rfl
def valsNU (L : List Nat) : List Value := L.map fun (n : Nat) => Value.int .u64 (n : Int)
theorem valsNU_snoc (L : List Nat) (n : Nat) : valsNU L ++ [.int .u64 (n : Int)] = valsNU (L ++ [n]) := by simp [valsNU]
/-- A slice that the call itself has made, holding these numbers. -/
def NU (w : World) (base : Nat) (v : Value) (L : List Nat) : Prop := w.ownsRow base 22 1 v L.length (valsNU L)
theorem NU.nil (w : World) (base : Nat) : NU w base (.slice none 0 0) [] := ⟨rfl, Or.inl ⟨rfl, rfl⟩⟩
theorem NU.below {w w' : World} {base : Nat} {v : Value} {L : List Nat} (h : NU w base v L) (hb : Below w.heap.size w w') : NU w' base v L := by
  unfold NU at *
  refine World.ownsRow.kept (row := none) h ⟨hb.os, hb.tape, hb.output, hb.size, fun k hk _ => hb.block k hk⟩ ?_
  by_cases e : v.ownBlock = none
  · exact Or.inl e
  · exact Or.inr e
theorem NU.more {w : World} {base base' : Nat} {v : Value} {L : List Nat} (h : NU w base v L) (hb : base' ≤ base) : NU w base' v L := by
  refine ⟨h.1, ?_⟩
  rcases h.2 with h2 | ⟨g, cap', cur, e1, e2, e3⟩
  · exact Or.inl h2
  · exact Or.inr ⟨g, cap', cur, e1, Nat.le_trans hb e2, e3⟩
theorem NU.form {w : World} {base : Nat} {v : Value} {L : List Nat} (h : NU w base v L) (hl : 0 < L.length) : ∃ g cap, v = .slice (some ⟨g, 0, none⟩) L.length cap ∧ base ≤ g ∧ g < w.heap.size ∧ ∀ j (hj : j < L.length), w.cell? ⟨g, j, none⟩ = some (.int .u64 (L[j] : Int)) := by
  rcases ownsRow_forms h with ⟨rfl, h0⟩ | ⟨g, cap, rfl⟩
  · omega
  · have hlt := World.ownsRow.lt h g rfl
    refine ⟨g, cap, rfl, hlt.1, hlt.2, fun j hj => ?_⟩
    rw [World.ownsRow.cellAt h j (by omega)]
    simp [valsNU, hj]
theorem wpList_append_NU {ops : Array Oper} {rest : List Oper} {o : Oper} {a : Act} {Q : Exit → Act → World → Prop} {w W0 : World} (hgd : o.guard = none) (s x : Operand)
    (ho : o.op = .call { callee := .builtin .append, args := #[s, x], argTypes := #[64, 64] }) (base : Nat) (v : Value) (L : List Nat) (n : Nat) (g : Nat)
    (hs : a.eval s = v) (hown : NU w base v L) (hx : a.eval x = .slice (some ⟨g, 0, none⟩) 1 1) (hc : w.cell? ⟨g, 0, none⟩ = some (.int .u64 (n : Int)))
    (hl : L.length ≤ 1000000) (hW : Below base W0 w) (hbase : base ≤ W0.heap.size) (K : ∀ v' w', NU w' base v' (L ++ [n]) → Below base W0 w' → wpList Try.prog ops Q rest (a.put o.dst v') w') : wpList Try.prog ops Q (o :: rest) a w := by
  obtain ⟨i0, hi, hz0, hz1, hz2⟩ := info_parts infoNU
  have hbw : base ≤ w.heap.size := Nat.le_trans hbase hW.size
  refine wpList_append_own _ hgd s x 64 ho base 22 i0 (.int .u64 0) 1 8 Try.underlying64 hi hz0 hz1 hz2 rfl (by decide) v L.length (valsNU L) hs hown ⟨g, 0, none⟩ 1 1
    [.int .u64 (n : Int)] hx rfl ?_ (fun u hu => by simp at hu; subst hu; rfl) (by unfold maxLen; omega) (by omega) hbw ?_
  · intro j u hj
    match j, hj with
    | 0, hj => simp at hj; subst hj; simpa [Addr.add] using hc
    | j + 1, hj => simp at hj
  · intro v' w' h1 h2 _
    refine K v' w' ?_ (hW.grown h2 hbw (fun k hk => (World.ownsRow.lt hown k hk).1))
    unfold NU
    rw [List.length_append, ← valsNU_snoc]
    exact h1
theorem infoNI : (Try.prog.info? 3).map (fun i => (i.zero, i.size, i.bytes)) = some (some (.int .i64 0), 1, 8) := by kernel_rfl
def valsNI (L : List Nat) : List Value := L.map fun (n : Nat) => Value.int .i64 (n : Int)
theorem valsNI_snoc (L : List Nat) (n : Nat) : valsNI L ++ [.int .i64 (n : Int)] = valsNI (L ++ [n]) := by simp [valsNI]
/-- A slice that the call itself has made, holding these numbers. -/
def NI (w : World) (base : Nat) (v : Value) (L : List Nat) : Prop := w.ownsRow base 3 1 v L.length (valsNI L)
theorem NI.nil (w : World) (base : Nat) : NI w base (.slice none 0 0) [] := ⟨rfl, Or.inl ⟨rfl, rfl⟩⟩
theorem NI.below {w w' : World} {base : Nat} {v : Value} {L : List Nat} (h : NI w base v L) (hb : Below w.heap.size w w') : NI w' base v L := by
  unfold NI at *
  refine World.ownsRow.kept (row := none) h ⟨hb.os, hb.tape, hb.output, hb.size, fun k hk _ => hb.block k hk⟩ ?_
  by_cases e : v.ownBlock = none
  · exact Or.inl e
  · exact Or.inr e
theorem NI.more {w : World} {base base' : Nat} {v : Value} {L : List Nat} (h : NI w base v L) (hb : base' ≤ base) : NI w base' v L := by
  refine ⟨h.1, ?_⟩
  rcases h.2 with h2 | ⟨g, cap', cur, e1, e2, e3⟩
  · exact Or.inl h2
  · exact Or.inr ⟨g, cap', cur, e1, Nat.le_trans hb e2, e3⟩
theorem NI.form {w : World} {base : Nat} {v : Value} {L : List Nat} (h : NI w base v L) (hl : 0 < L.length) : ∃ g cap, v = .slice (some ⟨g, 0, none⟩) L.length cap ∧ base ≤ g ∧ g < w.heap.size ∧ ∀ j (hj : j < L.length), w.cell? ⟨g, j, none⟩ = some (.int .i64 (L[j] : Int)) := by
  rcases ownsRow_forms h with ⟨rfl, h0⟩ | ⟨g, cap, rfl⟩
  · omega
  · have hlt := World.ownsRow.lt h g rfl
    refine ⟨g, cap, rfl, hlt.1, hlt.2, fun j hj => ?_⟩
    rw [World.ownsRow.cellAt h j (by omega)]
    simp [valsNI, hj]
theorem wpList_append_NI {ops : Array Oper} {rest : List Oper} {o : Oper} {a : Act} {Q : Exit → Act → World → Prop} {w W0 : World} (hgd : o.guard = none) (s x : Operand)
    (ho : o.op = .call { callee := .builtin .append, args := #[s, x], argTypes := #[69, 69] }) (base : Nat) (v : Value) (L : List Nat) (n : Nat) (g : Nat)
    (hs : a.eval s = v) (hown : NI w base v L) (hx : a.eval x = .slice (some ⟨g, 0, none⟩) 1 1) (hc : w.cell? ⟨g, 0, none⟩ = some (.int .i64 (n : Int)))
    (hl : L.length ≤ 1000000) (hW : Below base W0 w) (hbase : base ≤ W0.heap.size) (K : ∀ v' w', NI w' base v' (L ++ [n]) → Below base W0 w' → wpList Try.prog ops Q rest (a.put o.dst v') w') : wpList Try.prog ops Q (o :: rest) a w := by
  obtain ⟨i0, hi, hz0, hz1, hz2⟩ := info_parts infoNI
  have hbw : base ≤ w.heap.size := Nat.le_trans hbase hW.size
  refine wpList_append_own _ hgd s x 69 ho base 3 i0 (.int .i64 0) 1 8 Try.underlying69 hi hz0 hz1 hz2 rfl (by decide) v L.length (valsNI L) hs hown ⟨g, 0, none⟩ 1 1
    [.int .i64 (n : Int)] hx rfl ?_ (fun u hu => by simp at hu; subst hu; rfl) (by unfold maxLen; omega) (by omega) hbw ?_
  · intro j u hj
    match j, hj with
    | 0, hj => simp at hj; subst hj; simpa [Addr.add] using hc
    | j + 1, hj => simp at hj
  · intro v' w' h1 h2 _
    refine K v' w' ?_ (hW.grown h2 hbw (fun k hk => (World.ownsRow.lt hown k hk).1))
    unfold NI
    rw [List.length_append, ← valsNI_snoc]
    exact h1
/-- A number that is not too great. -/
def numM (l : List UInt8) (a : Int) (m : Nat) : Nat × Int × Int := if (vgetS l a).2.2 ≠ 0 then (0, 0, (vgetS l a).2.2) else if m < (vgetS l a).1 then (0, 0, 12) else ((vgetS l a).1, (vgetS l a).2.1, 0)
/-- k numbers, one behind the other. -/
def smS (l : List UInt8) : Nat → Int → List Nat × Int × Int
  | 0, a => ([], a, 0)
  | k + 1, a => if (numM l a 1099511627776).2.2 ≠ 0 then ([], 0, (numM l a 1099511627776).2.2) else if (smS l k (numM l a 1099511627776).2.1).2.2 ≠ 0 then ([], 0, (smS l k (numM l a 1099511627776).2.1).2.2) else ((numM l a 1099511627776).1 :: (smS l k (numM l a 1099511627776).2.1).1, (smS l k (numM l a 1099511627776).2.1).2.1, 0)
def cmb (acc : List Nat) (r : List Nat × Int × Int) : List Nat × Int × Int := if r.2.2 ≠ 0 then ([], 0, r.2.2) else (acc ++ r.1, r.2.1, 0)
theorem cmb_nil (l : List UInt8) (k : Nat) (a : Int) : cmb [] (smS l k a) = smS l k a := by
  cases k with
  | zero => rfl
  | succ k =>
    by_cases h : (numM l a 1099511627776).2.2 = 0
    · by_cases h2 : (smS l k (numM l a 1099511627776).2.1).2.2 = 0
      · simp [cmb, smS, h, h2]
      · simp [cmb, smS, h, h2]
    · simp [cmb, smS, h]
theorem smS_err {l : List UInt8} {k : Nat} {a : Int} {n : Nat} {b e : Int} (h : numM l a 1099511627776 = (n, b, e)) (he : e ≠ 0) : smS l (k + 1) a = ([], 0, e) := by rw [smS, h, if_pos he]
theorem cmb_step {l : List UInt8} {k : Nat} {a : Int} {n : Nat} {b : Int} (acc : List Nat) (h : numM l a 1099511627776 = (n, b, 0)) : cmb acc (smS l (k + 1) a) = cmb (acc ++ [n]) (smS l k b) := by
  rw [smS, h]
  simp only [ne_eq, not_true_eq_false, if_false]
  unfold cmb
  by_cases h2 : (smS l k b).2.2 = 0
  · simp [h2]
  · simp [h2]
theorem numM_pos {l : List UInt8} {a : Int} {m n : Nat} {b e : Int} (h : numM l a m = (n, b, e)) : 0 ≤ b ∧ b ≤ l.length := by
  have hp := vgetS_cases l a
  unfold numM at h
  obtain ⟨N, B, E, hv⟩ : ∃ N B E, vgetS l a = (N, B, E) := ⟨_, _, _, rfl⟩
  rw [hv] at h hp
  simp only at h
  simp only [Prod.mk.injEq] at hp
  split at h
  · simp only [Prod.mk.injEq] at h; omega
  · split at h
    · simp only [Prod.mk.injEq] at h; omega
    · simp only [Prod.mk.injEq] at h; omega
theorem numM_le {l : List UInt8} {a : Int} {m n : Nat} {b e : Int} (h : numM l a m = (n, b, e)) : n ≤ m := by
  unfold numM at h
  split at h
  · simp only [Prod.mk.injEq] at h; omega
  · split at h
    · simp only [Prod.mk.injEq] at h; omega
    · simp only [Prod.mk.injEq] at h; omega
theorem srvget_at (l : List UInt8) (a : Int) (w : World) (hs : l.length ≤ 140737488351232) (ha : a ≤ 9223372036854775807) {n : Nat} {b e : Int} (H : Hid (vgetS l a = (n, b, e))) :
    Calls Try.prog 73 #[.string (bs l), .int .i64 a] w fun r w' => r = .returned (.tuple #[.int .u64 n, .int .i64 b, .int .i64 e]) ∧ w = w' :=
  (rvget_any l a w (by omega) ha).mono fun r w' ⟨h1, h2⟩ => ⟨by rw [H.out] at h1; exact h1, h2⟩
set_option maxHeartbeats 800000 in
theorem rnumber_any (l : List UInt8) (a : Int) (m : Nat) (w : World) (hs : l.length ≤ 140737488351232) (ha : a ≤ 9223372036854775807) (hm : m ≤ 1099511627776) {n : Nat} {b e : Int} (H : Hid (numM l a m = (n, b, e))) :
    Calls Try.prog 58 #[.string (bs l), .int .i64 a, .int .u64 m] w fun r w' => r = .returned (.tuple #[.int .i64 n, .int .i64 b, .int .i64 e]) ∧ w = w' := by
  obtain ⟨N, B, E, hv⟩ : ∃ N B E, vgetS l a = (N, B, E) := ⟨_, _, _, rfl⟩
  have HV := hid hv
  have H0 := H.out
  rw [numM, hv] at H0
  simp only at H0
  clear hv H
  by_cases hE : E = 0
  · subst hE
    rw [if_neg (by simp)] at H0
    by_cases hgt : m < N
    · rw [if_pos hgt] at H0
      simp only [Prod.mk.injEq] at H0
      obtain ⟨rfl, rfl, rfl⟩ := H0
      have hd : decide ((m : Int) < (N : Int)) = true := by simp; omega
      go_enter Try.func58, Try.ntmps58
      go_wp2_with fail
      refine (srvget_at l a _ hs ha HV).mono ?_
      rintro r w1 ⟨rfl, rfl⟩
      go_wp2_with fail
      go_returns
      exact ⟨rfl, rfl⟩
    · rw [if_neg hgt] at H0
      simp only [Prod.mk.injEq] at H0
      obtain ⟨rfl, rfl, rfl⟩ := H0
      have hd : decide ((m : Int) < (N : Int)) = false := by simp; omega
      have hwr : IntKind.i64.wrap (N : Int) = N := IntWalk.i64_in _ (by omega)
      go_enter Try.func58, Try.ntmps58
      go_wp2_with fail
      refine (srvget_at l a _ hs ha HV).mono ?_
      rintro r w1 ⟨rfl, rfl⟩
      go_wp2_with fail
      go_returns
      exact ⟨rfl, rfl⟩
  · rw [if_pos hE] at H0
    simp only [Prod.mk.injEq] at H0
    obtain ⟨rfl, rfl, rfl⟩ := H0
    have hb : (E != 0) = true := by simpa using hE
    clear hE
    go_enter Try.func58, Try.ntmps58
    go_wp2_with fail
    refine (srvget_at l a _ hs ha HV).mono ?_
    rintro r w1 ⟨rfl, rfl⟩
    go_wp2_with fail
    go_returns
    exact ⟨rfl, rfl⟩
set_option maxHeartbeats 1600000 in
theorem small_any (l : List UInt8) (a : Int) (m : Nat) (w : World) (hs : l.length ≤ 140737488351232) (ha : a ≤ 9223372036854775807) (hm : m ≤ 3) {L : List Nat} {b e : Int} (H : Hid (smS l m a = (L, b, e))) :
    Calls Try.prog 48 #[.string (bs l), .int .i64 a, .int .i64 m] w fun r w' => (∃ v, r = .returned (.tuple #[v, .int .i64 b, .int .i64 e]) ∧ NI w' w.heap.size v L) ∧ Below w.heap.size w w' := by
  go_enter Try.func48, Try.ntmps48
  go_wp2_with fail
  go_loopw [1, 9, 10] (fun at' f i wr => ∃ (k : Nat) (p : Int) (acc : List Nat), k ≤ m ∧ p ≤ 9223372036854775807 ∧ Hid (acc.length = k ∧ cmb acc (smS l (m - k) p) = (L, b, e) ∧ NI wr w.heap.size f acc ∧ Below w.heap.size w wr) ∧ at' = .int .i64 p ∧ i = .int .i64 k) (fun _ _ i _ => m - (intOf i).toNat)
  case atStart => exact ⟨0, a, [], by omega, ha, hid ⟨rfl, by rw [Nat.sub_zero, cmb_nil]; exact H.out, NI.nil _ _, Below.refl _ _⟩, rfl, rfl⟩
  case round =>
    obtain ⟨k, p, acc, hk, hp, HW, rfl, rfl⟩ := hrel
    by_cases hlt : k < m
    · obtain ⟨n, q, er, hn⟩ : ∃ n q er, numM l p 1099511627776 = (n, q, er) := ⟨_, _, _, rfl⟩
      have HN := hid hn
      have hq := numM_pos hn
      have hki : decide ((k : Int) < (m : Int)) = true := by simp; omega
      by_cases he : er = 0
      · subst he
        have HS := hid (cmb_step (k := m - (k + 1)) acc hn)
        clear hn
        have hsz : ∀ o, Below w.heap.size w (wr.alloc o) := fun o => HW.out.2.2.2.alloc HW.out.2.2.2.size _
        have HZ := hid hsz
        clear hsz
        have hra := fun w' => rnumber_any l p 1099511627776 w' hs hp (Nat.le_refl _) HN
        go_wp2_with fail
        refine (hra _).mono ?_
        rintro r w1 ⟨rfl, rfl⟩
        go_wp2_with (at_builtin; refine wpList_append_NI rfl _ _ rfl w.heap.size _ acc n wr.heap.size rfl (HW.out.2.2.1.below (sbelow_new _ _)) rfl (by simp) (by have := HW.out.1; omega) (HZ.out _) (Nat.le_refl _) ?_)
        intro v' w2 hown hb2
        have H2 := hid (And.intro hown hb2)
        clear hown hb2
        go_wp2_with fail
        go_roundw
        case rel =>
          refine ⟨k + 1, q, acc ++ [n], by omega, by omega, hid ⟨by rw [List.length_append, HW.out.1]; rfl, ?_, H2.out.1, H2.out.2⟩, rfl, by go_num⟩
          rw [← HS.out, show m - (k + 1) + 1 = m - k by omega]
          exact HW.out.2.1
        case measure => simp [intOf]; omega
      · have HS := hid (smS_err (k := m - (k + 1)) hn he)
        have hb : (er != 0) = true := by simpa using he
        have H0 := HW.out.2.1
        rw [show m - k = m - (k + 1) + 1 by omega, HS.out, cmb, if_pos he] at H0
        simp only [Prod.mk.injEq] at H0
        obtain ⟨rfl, rfl, rfl⟩ := H0
        clear hn he
        have hra := fun w' => rnumber_any l p 1099511627776 w' hs hp (Nat.le_refl _) HN
        go_wp2_with fail
        refine (hra _).mono ?_
        rintro r w1 ⟨rfl, rfl⟩
        go_wp2_with fail
        go_returns
        exact ⟨⟨_, rfl, NI.nil _ _⟩, HW.out.2.2.2⟩
    · obtain rfl : k = m := by omega
      have H0 := HW.out.2.1
      rw [Nat.sub_self, smS, cmb, if_neg (by simp)] at H0
      simp only [Prod.mk.injEq, List.append_nil] at H0
      obtain ⟨rfl, rfl, rfl⟩ := H0
      go_wp2_with fail
      go_returns
      exact ⟨⟨_, rfl, HW.out.2.2.1⟩, HW.out.2.2.2⟩
end Go.Proofs.Ytgpioafkahoahaa
