/- Texts put together: Sg Bp. -/
import Derived.Test.YtpfhmpblcmednaaE31
import Derived.Test.YtpfhmpblcmednaaE02
import Derived.Test.YtpfhmpblcmednaaE11
import Derived.Handy
import Derived.Test.YtpfhmpblcmednaaE01
namespace Go.Proofs.Ytpfhmpblcmednaa
set_option linter.unusedVariables false
set_option linter.unusedSimpArgs false
open Go.RowKit Go.Joins

theorem infoNU : (Try.prog.info? 33).map (fun i => (i.zero, i.size, i.bytes)) = some (some (.int .u64 0), 1, 8) := by kernel_rfl
def valsNU (L : List Nat) : List Value := L.map fun (n : Nat) => Value.int .u64 (n : Int)
theorem valsNU_snoc (L : List Nat) (n : Nat) : valsNU L ++ [.int .u64 (n : Int)] = valsNU (L ++ [n]) := by simp [valsNU]
/-- A slice that the call itself has made, holding these numbers. -/
def NU (w : World) (base : Nat) (v : Value) (L : List Nat) : Prop := w.ownsRow base 33 1 v L.length (valsNU L)
theorem NU.nil (w : World) (base : Nat) : NU w base (.slice none 0 0) [] := ⟨rfl, Or.inl ⟨rfl, rfl⟩⟩
theorem NU.below {w w' : World} {base : Nat} {v : Value} {L : List Nat} (h : NU w base v L) (hb : Below w.heap.size w w') : NU w' base v L := by
  unfold NU at *
  refine World.ownsRow.kept (row := none) h ⟨hb.os, hb.tape, hb.output, hb.size, fun k hk _ => hb.block k hk⟩ ?_
  by_cases e : v.ownBlock = none
  · exact Or.inl e
  · exact Or.inr e
theorem NU.more {w : World} {base base' : Nat} {v : Value} {L : List Nat} (h : NU w base v L) (hb : base' ≤ base) : NU w base' v L := by
  refine ⟨h.1, ?_⟩
  rcases h.2 with h2 | ⟨g, cap', cur, e1, e2, e3⟩
  · exact Or.inl h2
  · exact Or.inr ⟨g, cap', cur, e1, Nat.le_trans hb e2, e3⟩
theorem NU.form {w : World} {base : Nat} {v : Value} {L : List Nat} (h : NU w base v L) (hl : 0 < L.length) : ∃ g cap, v = .slice (some ⟨g, 0, none⟩) L.length cap ∧ base ≤ g ∧ g < w.heap.size ∧ ∀ j (hj : j < L.length), w.cell? ⟨g, j, none⟩ = some (.int .u64 (L[j] : Int)) := by
  rcases ownsRow_forms h with ⟨rfl, h0⟩ | ⟨g, cap, rfl⟩
  · omega
  · have hlt := World.ownsRow.lt h g rfl
    refine ⟨g, cap, rfl, hlt.1, hlt.2, fun j hj => ?_⟩
    rw [World.ownsRow.cellAt h j (by omega)]
    simp [valsNU, hj]
theorem wpList_append_NU {ops : Array Oper} {rest : List Oper} {o : Oper} {a : Act} {Q : Exit → Act → World → Prop} {w W0 : World} (hgd : o.guard = none) (s x : Operand)
    (ho : o.op = .call { callee := .builtin .append, args := #[s, x], argTypes := #[22, 22] }) (base : Nat) (v : Value) (L : List Nat) (n : Nat) (g : Nat)
    (hs : a.eval s = v) (hown : NU w base v L) (hx : a.eval x = .slice (some ⟨g, 0, none⟩) 1 1) (hc : w.cell? ⟨g, 0, none⟩ = some (.int .u64 (n : Int)))
    (hl : L.length ≤ 1000000) (hW : Below base W0 w) (hbase : base ≤ W0.heap.size) (K : ∀ v' w', NU w' base v' (L ++ [n]) → Below base W0 w' → wpList Try.prog ops Q rest (a.put o.dst v') w') : wpList Try.prog ops Q (o :: rest) a w := by
  obtain ⟨i0, hi, hz0, hz1, hz2⟩ := info_parts infoNU
  have hbw : base ≤ w.heap.size := Nat.le_trans hbase hW.size
  refine wpList_append_own _ hgd s x 22 ho base 33 i0 (.int .u64 0) 1 8 Try.underlying22 hi hz0 hz1 hz2 rfl (by decide) v L.length (valsNU L) hs hown ⟨g, 0, none⟩ 1 1
    [.int .u64 (n : Int)] hx rfl ?_ (fun u hu => by simp at hu; subst hu; rfl) (by unfold maxLen; omega) (by omega) hbw ?_
  · intro j u hj
    match j, hj with
    | 0, hj => simp at hj; subst hj; simpa [Addr.add] using hc
    | j + 1, hj => simp at hj
  · intro v' w' h1 h2 _
    refine K v' w' ?_ (hW.grown h2 hbw (fun k hk => (World.ownsRow.lt hown k hk).1))
    unfold NU
    rw [List.length_append, ← valsNU_snoc]
    exact h1
theorem infoNI : (Try.prog.info? 3).map (fun i => (i.zero, i.size, i.bytes)) = some (some (.int .i64 0), 1, 8) := by kernel_rfl
def valsNI (L : List Nat) : List Value := L.map fun (n : Nat) => Value.int .i64 (n : Int)
theorem valsNI_snoc (L : List Nat) (n : Nat) : valsNI L ++ [.int .i64 (n : Int)] = valsNI (L ++ [n]) := by simp [valsNI]
/-- A slice that the call itself has made, holding these numbers. -/
def NI (w : World) (base : Nat) (v : Value) (L : List Nat) : Prop := w.ownsRow base 3 1 v L.length (valsNI L)
theorem NI.nil (w : World) (base : Nat) : NI w base (.slice none 0 0) [] := ⟨rfl, Or.inl ⟨rfl, rfl⟩⟩
theorem NI.below {w w' : World} {base : Nat} {v : Value} {L : List Nat} (h : NI w base v L) (hb : Below w.heap.size w w') : NI w' base v L := by
  unfold NI at *
  refine World.ownsRow.kept (row := none) h ⟨hb.os, hb.tape, hb.output, hb.size, fun k hk _ => hb.block k hk⟩ ?_
  by_cases e : v.ownBlock = none
  · exact Or.inl e
  · exact Or.inr e
theorem NI.more {w : World} {base base' : Nat} {v : Value} {L : List Nat} (h : NI w base v L) (hb : base' ≤ base) : NI w base' v L := by
  refine ⟨h.1, ?_⟩
  rcases h.2 with h2 | ⟨g, cap', cur, e1, e2, e3⟩
  · exact Or.inl h2
  · exact Or.inr ⟨g, cap', cur, e1, Nat.le_trans hb e2, e3⟩
theorem NI.form {w : World} {base : Nat} {v : Value} {L : List Nat} (h : NI w base v L) (hl : 0 < L.length) : ∃ g cap, v = .slice (some ⟨g, 0, none⟩) L.length cap ∧ base ≤ g ∧ g < w.heap.size ∧ ∀ j (hj : j < L.length), w.cell? ⟨g, j, none⟩ = some (.int .i64 (L[j] : Int)) := by
  rcases ownsRow_forms h with ⟨rfl, h0⟩ | ⟨g, cap, rfl⟩
  · omega
  · have hlt := World.ownsRow.lt h g rfl
    refine ⟨g, cap, rfl, hlt.1, hlt.2, fun j hj => ?_⟩
    rw [World.ownsRow.cellAt h j (by omega)]
    simp [valsNI, hj]
theorem wpList_append_NI {ops : Array Oper} {rest : List Oper} {o : Oper} {a : Act} {Q : Exit → Act → World → Prop} {w W0 : World} (hgd : o.guard = none) (s x : Operand)
    (ho : o.op = .call { callee := .builtin .append, args := #[s, x], argTypes := #[32, 32] }) (base : Nat) (v : Value) (L : List Nat) (n : Nat) (g : Nat)
    (hs : a.eval s = v) (hown : NI w base v L) (hx : a.eval x = .slice (some ⟨g, 0, none⟩) 1 1) (hc : w.cell? ⟨g, 0, none⟩ = some (.int .i64 (n : Int)))
    (hl : L.length ≤ 1000000) (hW : Below base W0 w) (hbase : base ≤ W0.heap.size) (K : ∀ v' w', NI w' base v' (L ++ [n]) → Below base W0 w' → wpList Try.prog ops Q rest (a.put o.dst v') w') : wpList Try.prog ops Q (o :: rest) a w := by
  obtain ⟨i0, hi, hz0, hz1, hz2⟩ := info_parts infoNI
  have hbw : base ≤ w.heap.size := Nat.le_trans hbase hW.size
  refine wpList_append_own _ hgd s x 32 ho base 3 i0 (.int .i64 0) 1 8 Try.underlying32 hi hz0 hz1 hz2 rfl (by decide) v L.length (valsNI L) hs hown ⟨g, 0, none⟩ 1 1
    [.int .i64 (n : Int)] hx rfl ?_ (fun u hu => by simp at hu; subst hu; rfl) (by unfold maxLen; omega) (by omega) hbw ?_
  · intro j u hj
    match j, hj with
    | 0, hj => simp at hj; subst hj; simpa [Addr.add] using hc
    | j + 1, hj => simp at hj
  · intro v' w' h1 h2 _
    refine K v' w' ?_ (hW.grown h2 hbw (fun k hk => (World.ownsRow.lt hown k hk).1))
    unfold NI
    rw [List.length_append, ← valsNI_snoc]
    exact h1
/-- A number that is not too great. -/
def numM (l : List UInt8) (a : Int) (m : Nat) : Nat × Int × Int := if (vgetS l a).2.2 ≠ 0 then (0, 0, (vgetS l a).2.2) else if m < (vgetS l a).1 then (0, 0, 12) else ((vgetS l a).1, (vgetS l a).2.1, 0)
/-- k numbers, one behind the other. -/
def smS (l : List UInt8) : Nat → Int → List Nat × Int × Int
  | 0, a => ([], a, 0)
  | k + 1, a => if (numM l a 1099511627776).2.2 ≠ 0 then ([], 0, (numM l a 1099511627776).2.2) else if (smS l k (numM l a 1099511627776).2.1).2.2 ≠ 0 then ([], 0, (smS l k (numM l a 1099511627776).2.1).2.2) else ((numM l a 1099511627776).1 :: (smS l k (numM l a 1099511627776).2.1).1, (smS l k (numM l a 1099511627776).2.1).2.1, 0)
def cmb (acc : List Nat) (r : List Nat × Int × Int) : List Nat × Int × Int := if r.2.2 ≠ 0 then ([], 0, r.2.2) else (acc ++ r.1, r.2.1, 0)
theorem cmb_nil (l : List UInt8) (k : Nat) (a : Int) : cmb [] (smS l k a) = smS l k a := by
  cases k with
  | zero => rfl
  | succ k =>
    by_cases h : (numM l a 1099511627776).2.2 = 0
    · by_cases h2 : (smS l k (numM l a 1099511627776).2.1).2.2 = 0
      · simp [cmb, smS, h, h2]
      · simp [cmb, smS, h, h2]
    · simp [cmb, smS, h]
theorem smS_err {l : List UInt8} {k : Nat} {a : Int} {n : Nat} {b e : Int} (h : numM l a 1099511627776 = (n, b, e)) (he : e ≠ 0) : smS l (k + 1) a = ([], 0, e) := by rw [smS, h, if_pos he]
theorem cmb_step {l : List UInt8} {k : Nat} {a : Int} {n : Nat} {b : Int} (acc : List Nat) (h : numM l a 1099511627776 = (n, b, 0)) : cmb acc (smS l (k + 1) a) = cmb (acc ++ [n]) (smS l k b) := by
  rw [smS, h]
  simp only [ne_eq, not_true_eq_false, if_false]
  unfold cmb
  by_cases h2 : (smS l k b).2.2 = 0
  · simp [h2]
  · simp [h2]
theorem numM_pos {l : List UInt8} {a : Int} {m n : Nat} {b e : Int} (h : numM l a m = (n, b, e)) : 0 ≤ b ∧ b ≤ l.length := by
  have hp := vgetS_cases l a
  unfold numM at h
  obtain ⟨N, B, E, hv⟩ : ∃ N B E, vgetS l a = (N, B, E) := ⟨_, _, _, rfl⟩
  rw [hv] at h hp
  simp only at h
  simp only [Prod.mk.injEq] at hp
  split at h
  · simp only [Prod.mk.injEq] at h; omega
  · split at h
    · simp only [Prod.mk.injEq] at h; omega
    · simp only [Prod.mk.injEq] at h; omega
theorem numM_le {l : List UInt8} {a : Int} {m n : Nat} {b e : Int} (h : numM l a m = (n, b, e)) : n ≤ m := by
  unfold numM at h
  split at h
  · simp only [Prod.mk.injEq] at h; omega
  · split at h
    · simp only [Prod.mk.injEq] at h; omega
    · simp only [Prod.mk.injEq] at h; omega
theorem srvget_at (l : List UInt8) (a : Int) (w : World) (hs : l.length ≤ 140737488351232) (ha : a ≤ 9223372036854775807) {n : Nat} {b e : Int} (H : Hid (vgetS l a = (n, b, e))) :
    Calls Try.prog 92 #[.string (bs l), .int .i64 a] w fun r w' => r = .returned (.tuple #[.int .u64 n, .int .i64 b, .int .i64 e]) ∧ w = w' :=
  (rvget_any l a w (by omega) ha).mono fun r w' ⟨h1, h2⟩ => ⟨by rw [H.out] at h1; exact h1, h2⟩
set_option maxHeartbeats 800000 in
theorem rnumber_any (l : List UInt8) (a : Int) (m : Nat) (w : World) (hs : l.length ≤ 140737488351232) (ha : a ≤ 9223372036854775807) (hm : m ≤ 1099511627776) {n : Nat} {b e : Int} (H : Hid (numM l a m = (n, b, e))) :
    Calls Try.prog 54 #[.string (bs l), .int .i64 a, .int .u64 m] w fun r w' => r = .returned (.tuple #[.int .i64 n, .int .i64 b, .int .i64 e]) ∧ w = w' := by
  obtain ⟨N, B, E, hv⟩ : ∃ N B E, vgetS l a = (N, B, E) := ⟨_, _, _, rfl⟩
  have HV := hid hv
  have H0 := H.out
  rw [numM, hv] at H0
  simp only at H0
  clear hv H
  by_cases hE : E = 0
  · subst hE
    rw [if_neg (by simp)] at H0
    by_cases hgt : m < N
    · rw [if_pos hgt] at H0
      simp only [Prod.mk.injEq] at H0
      obtain ⟨rfl, rfl, rfl⟩ := H0
      have hd : decide ((m : Int) < (N : Int)) = true := by simp; omega
      go_enter Try.func54, Try.ntmps54
      go_wp2_with fail
      refine (srvget_at l a _ hs ha HV).mono ?_
      rintro r w1 ⟨rfl, rfl⟩
      go_wp2_with fail
      go_returns
      exact ⟨rfl, rfl⟩
    · rw [if_neg hgt] at H0
      simp only [Prod.mk.injEq] at H0
      obtain ⟨rfl, rfl, rfl⟩ := H0
      have hd : decide ((m : Int) < (N : Int)) = false := by simp; omega
      have hwr : IntKind.i64.wrap (N : Int) = N := IntWalk.i64_in _ (by omega)
      go_enter Try.func54, Try.ntmps54
      go_wp2_with fail
      refine (srvget_at l a _ hs ha HV).mono ?_
      rintro r w1 ⟨rfl, rfl⟩
      go_wp2_with fail
      go_returns
      exact ⟨rfl, rfl⟩
  · rw [if_pos hE] at H0
    simp only [Prod.mk.injEq] at H0
    obtain ⟨rfl, rfl, rfl⟩ := H0
    have hb : (E != 0) = true := by simpa using hE
    clear hE
    go_enter Try.func54, Try.ntmps54
    go_wp2_with fail
    refine (srvget_at l a _ hs ha HV).mono ?_
    rintro r w1 ⟨rfl, rfl⟩
    go_wp2_with fail
    go_returns
    exact ⟨rfl, rfl⟩
set_option maxHeartbeats 1600000 in
theorem small_any (l : List UInt8) (a : Int) (m : Nat) (w : World) (hs : l.length ≤ 140737488351232) (ha : a ≤ 9223372036854775807) (hm : m ≤ 3) {L : List Nat} {b e : Int} (H : Hid (smS l m a = (L, b, e))) :
    Calls Try.prog 95 #[.string (bs l), .int .i64 a, .int .i64 m] w fun r w' => (∃ v, r = .returned (.tuple #[v, .int .i64 b, .int .i64 e]) ∧ NI w' w.heap.size v L) ∧ Below w.heap.size w w' := by
  go_enter Try.func95, Try.ntmps95
  go_wp2_with fail
  go_loopw [1, 9, 10] (fun at' f i wr => ∃ (k : Nat) (p : Int) (acc : List Nat), k ≤ m ∧ p ≤ 9223372036854775807 ∧ Hid (acc.length = k ∧ cmb acc (smS l (m - k) p) = (L, b, e) ∧ NI wr w.heap.size f acc ∧ Below w.heap.size w wr) ∧ at' = .int .i64 p ∧ i = .int .i64 k) (fun _ _ i _ => m - (intOf i).toNat)
  case atStart => exact ⟨0, a, [], by omega, ha, hid ⟨rfl, by rw [Nat.sub_zero, cmb_nil]; exact H.out, NI.nil _ _, Below.refl _ _⟩, rfl, rfl⟩
  case round =>
    obtain ⟨k, p, acc, hk, hp, HW, rfl, rfl⟩ := hrel
    by_cases hlt : k < m
    · obtain ⟨n, q, er, hn⟩ : ∃ n q er, numM l p 1099511627776 = (n, q, er) := ⟨_, _, _, rfl⟩
      have HN := hid hn
      have hq := numM_pos hn
      have hki : decide ((k : Int) < (m : Int)) = true := by simp; omega
      by_cases he : er = 0
      · subst he
        have HS := hid (cmb_step (k := m - (k + 1)) acc hn)
        clear hn
        have hsz : ∀ o, Below w.heap.size w (wr.alloc o) := fun o => HW.out.2.2.2.alloc HW.out.2.2.2.size _
        have HZ := hid hsz
        clear hsz
        have hra := fun w' => rnumber_any l p 1099511627776 w' hs hp (Nat.le_refl _) HN
        go_wp2_with fail
        refine (hra _).mono ?_
        rintro r w1 ⟨rfl, rfl⟩
        go_wp2_with (at_builtin; refine wpList_append_NI rfl _ _ rfl w.heap.size _ acc n wr.heap.size rfl (HW.out.2.2.1.below (sbelow_new _ _)) rfl (by simp) (by have := HW.out.1; omega) (HZ.out _) (Nat.le_refl _) ?_)
        intro v' w2 hown hb2
        have H2 := hid (And.intro hown hb2)
        clear hown hb2
        go_wp2_with fail
        go_roundw
        case rel =>
          refine ⟨k + 1, q, acc ++ [n], by omega, by omega, hid ⟨by rw [List.length_append, HW.out.1]; rfl, ?_, H2.out.1, H2.out.2⟩, rfl, by go_num⟩
          rw [← HS.out, show m - (k + 1) + 1 = m - k by omega]
          exact HW.out.2.1
        case measure => simp [intOf]; omega
      · have HS := hid (smS_err (k := m - (k + 1)) hn he)
        have hb : (er != 0) = true := by simpa using he
        have H0 := HW.out.2.1
        rw [show m - k = m - (k + 1) + 1 by omega, HS.out, cmb, if_pos he] at H0
        simp only [Prod.mk.injEq] at H0
        obtain ⟨rfl, rfl, rfl⟩ := H0
        clear hn he
        have hra := fun w' => rnumber_any l p 1099511627776 w' hs hp (Nat.le_refl _) HN
        go_wp2_with fail
        refine (hra _).mono ?_
        rintro r w1 ⟨rfl, rfl⟩
        go_wp2_with fail
        go_returns
        exact ⟨⟨_, rfl, NI.nil _ _⟩, HW.out.2.2.2⟩
    · obtain rfl : k = m := by omega
      have H0 := HW.out.2.1
      rw [Nat.sub_self, smS, cmb, if_neg (by simp)] at H0
      simp only [Prod.mk.injEq, List.append_nil] at H0
      obtain ⟨rfl, rfl, rfl⟩ := H0
      go_wp2_with fail
      go_returns
      exact ⟨⟨_, rfl, HW.out.2.2.1⟩, HW.out.2.2.2⟩
end Go.Proofs.Ytpfhmpblcmednaa
namespace Go.Proofs.Ytpfhmpblcmednaa
set_option linter.unusedVariables false

def mkB : List UInt8 := [80, 66, 1]
def mkA : List UInt8 := [80, 65, 1]
def inR (n q : Int) : Bool := decide (0 ≤ n ∧ n ≤ 7 ∧ 0 ≤ q ∧ q ≤ 1099511627776)
def fltB : List Sp → Int
  | [] => 0
  | s :: r => if chkS s ≠ 0 then chkS s else fltB r
def chkB (n q : Int) (L : List Sp) : Int := if inR n q = false then 12 else if L.length = 0 then 9 else if 16 < L.length then 8 else fltB L
def flatB (L : List Sp) : List UInt8 := (L.map bytesS).flatten
def bodyB (n q : Int) (L : List Sp) : List UInt8 := mkB ++ (vput n.toNat ++ (vput q.toNat ++ (vput L.length ++ flatB L)))
def writeB (n q : Int) (L : List Sp) : List UInt8 × Int := if chkB n q L = 0 then (sealS (bodyB n q L), 0) else ([], chkB n q L)
def ackB (n q : Int) : List UInt8 × Int := if inR n q = true then (sealS (mkA ++ (vput n.toNat ++ vput q.toNat)), 0) else ([], 12)
def hasP (p s : List UInt8) : Bool := decide (p.length ≤ s.length) && s.take p.length == p
def kindB (s : List UInt8) : Int := if hasP mkB s = true then 1 else if hasP mkA s = true then 2 else 0
def opM (m s : List UInt8) : List UInt8 × Int := if (openS s).2 ≠ 0 then ([], (openS s).2) else if hasP m (openS s).1 = true then ((openS s).1.drop m.length, 0) else ([], 3)
/-- A number that is at most m, where there was no error yet. -/
def nmP (l : List UInt8) (m : Nat) (a e : Int) : Nat × Int × Int := if e ≠ 0 then (0, a, e) else if m < (vgetS l a).1 then ((vgetS l a).1, (vgetS l a).2.1, 12) else vgetS l a
def rsS (l : List UInt8) : Nat → Int → List Sp × Int × Int
  | 0, a => ([], a, 0)
  | k + 1, a => if (readS l a).2.2 ≠ 0 then ([], 0, (readS l a).2.2) else if (rsS l k (readS l a).2.1).2.2 ≠ 0 then ([], 0, (rsS l k (readS l a).2.1).2.2) else ((readS l a).1 :: (rsS l k (readS l a).2.1).1, (rsS l k (readS l a).2.1).2.1, 0)
def cmr (acc : List Sp) (r : List Sp × Int × Int) : List Sp × Int × Int := if r.2.2 ≠ 0 then ([], 0, r.2.2) else (acc ++ r.1, r.2.1, 0)
theorem cmr_nil (l : List UInt8) (k : Nat) (a : Int) : cmr [] (rsS l k a) = rsS l k a := by
  cases k with
  | zero => rfl
  | succ k =>
    by_cases h : (readS l a).2.2 = 0
    · by_cases h2 : (rsS l k (readS l a).2.1).2.2 = 0
      · simp [cmr, rsS, h, h2]
      · simp [cmr, rsS, h, h2]
    · simp [cmr, rsS, h]
theorem rsS_err {l : List UInt8} {k : Nat} {a : Int} {s : Sp} {b e : Int} (h : readS l a = (s, b, e)) (he : e ≠ 0) : rsS l (k + 1) a = ([], 0, e) := by rw [rsS, h, if_pos he]
theorem cmr_step {l : List UInt8} {k : Nat} {a : Int} {s : Sp} {b : Int} (acc : List Sp) (h : readS l a = (s, b, 0)) : cmr acc (rsS l (k + 1) a) = cmr (acc ++ [s]) (rsS l k b) := by
  rw [rsS, h]
  simp only [ne_eq, not_true_eq_false, if_false]
  unfold cmr
  by_cases h2 : (rsS l k b).2.2 = 0
  · simp [h2]
  · simp [h2]
/-- So many spans, of which l is all the bytes. -/
def spsS (l : List UInt8) (k : Nat) : List Sp × Int := if (rsS l k 0).2.2 ≠ 0 then ([], (rsS l k 0).2.2) else if (rsS l k 0).2.1 < l.length then ([], 3) else if k = 0 then ([], 9) else ((rsS l k 0).1, 0)
def rdB (l : List UInt8) : Nat × Nat × List Sp × Int :=
  let p1 := nmP l 7 0 0
  let p2 := nmP l 1099511627776 p1.2.1 p1.2.2
  let p3 := nmP l 16 p2.2.1 p2.2.2
  if p3.2.2 ≠ 0 then (0, 0, [], p3.2.2) else
  let r := spsS (l.drop p3.2.1.toNat) p3.1
  if r.2 ≠ 0 then (0, 0, [], r.2) else (p1.1, p2.1, r.1, 0)
def readB (s : List UInt8) : Nat × Nat × List Sp × Int := if (opM mkB s).2 ≠ 0 then (0, 0, [], (opM mkB s).2) else rdB (opM mkB s).1
def rdA (l : List UInt8) : Nat × Nat × Int :=
  let p1 := nmP l 7 0 0
  let p2 := nmP l 1099511627776 p1.2.1 p1.2.2
  if p2.2.2 ≠ 0 then (0, 0, p2.2.2) else if l.drop p2.2.1.toNat = [] then (p1.1, p2.1, 0) else (0, 0, 3)
def readA (s : List UInt8) : Nat × Nat × Int := if (opM mkA s).2 ≠ 0 then (0, 0, (opM mkA s).2) else rdA (opM mkA s).1
theorem nmP_err {l : List UInt8} {m : Nat} {a e : Int} (h : e ≠ 0) : nmP l m a e = (0, a, e) := by rw [nmP, if_pos h]
theorem rdB_err {l : List UInt8} {n q k : Nat} {a b c e1 e2 e3 : Int} (h1 : nmP l 7 0 0 = (n, a, e1)) (h2 : nmP l 1099511627776 a e1 = (q, b, e2)) (h3 : nmP l 16 b e2 = (k, c, e3)) (he : e3 ≠ 0) : rdB l = (0, 0, [], e3) := by
  simp only [rdB, h1, h2, h3]; rw [if_pos he]
theorem rdB_spans {l : List UInt8} {n q k : Nat} {a b c e1 e2 : Int} (h1 : nmP l 7 0 0 = (n, a, e1)) (h2 : nmP l 1099511627776 a e1 = (q, b, e2)) (h3 : nmP l 16 b e2 = (k, c, 0)) {L : List Sp} {e : Int} (h4 : spsS (l.drop c.toNat) k = (L, e)) : rdB l = if e ≠ 0 then (0, 0, [], e) else (n, q, L, 0) := by
  simp only [rdB, h1, h2, h3, h4]
  rw [if_neg (by simp)]
theorem rdA_err {l : List UInt8} {n q : Nat} {a b e1 e2 : Int} (h1 : nmP l 7 0 0 = (n, a, e1)) (h2 : nmP l 1099511627776 a e1 = (q, b, e2)) (he : e2 ≠ 0) : rdA l = (0, 0, e2) := by
  simp only [rdA, h1, h2]; rw [if_pos he]
theorem rdA_end {l : List UInt8} {n q : Nat} {a b e1 : Int} (h1 : nmP l 7 0 0 = (n, a, e1)) (h2 : nmP l 1099511627776 a e1 = (q, b, 0)) : rdA l = if l.drop b.toNat = [] then (n, q, 0) else (0, 0, 3) := by
  simp only [rdA, h1, h2]; rw [if_neg (by simp)]
/-- What stands behind more bytes is read as it is. -/
theorem drop_sh (m l : List UInt8) {a : Int} (h : 0 ≤ a) : (m ++ l).drop ((m.length : Int) + a).toNat = l.drop a.toNat := by
  rw [show ((m.length : Int) + a).toNat = m.length + a.toNat by omega, ← List.drop_drop, List.drop_left]
theorem getS_sh (m l : List UInt8) {a wd : Int} (h : 0 ≤ a) : getS (m ++ l) (m.length + a) wd = getS l a wd := by
  unfold getS
  rw [drop_sh m l h]
  have e1 : (wd < 1 ∨ 8 < wd ∨ (m.length : Int) + a < 0) ↔ (wd < 1 ∨ 8 < wd ∨ a < 0) := by omega
  have e2 : (((m ++ l).length : Int) - (m.length + a) < wd) ↔ ((l.length : Int) - a < wd) := by rw [List.length_append]; omega
  simp only [e1, e2]
theorem vgetS_sh (m l : List UInt8) {a : Int} (h : 0 ≤ a) {n : Nat} {b e : Int} (hv : vgetS l a = (n, b, e)) : vgetS (m ++ l) (m.length + a) = if e = 0 then (n, m.length + b, 0) else (0, 0, e) := by
  unfold vgetS at hv ⊢
  rw [drop_sh m l h, if_neg (by omega)]
  rw [if_neg (by omega)] at hv
  by_cases hl : (l.length : Int) < a
  · rw [if_pos hl] at hv
    rw [if_pos (by rw [List.length_append]; omega)]
    simp only [Prod.mk.injEq] at hv
    obtain ⟨rfl, rfl, rfl⟩ := hv
    rfl
  · rw [if_neg hl] at hv
    rw [if_neg (by rw [List.length_append]; omega)]
    obtain ⟨N, S, E, hg⟩ : ∃ N S E, vg 0 0 (l.drop a.toNat) = (N, S, E) := ⟨_, _, _, rfl⟩
    rw [hg] at hv ⊢
    simp only at hv ⊢
    by_cases hE : E = 0
    · rw [if_pos hE] at hv ⊢
      simp only [Prod.mk.injEq] at hv
      obtain ⟨rfl, rfl, rfl⟩ := hv
      rw [if_pos rfl]
      refine Prod.ext rfl (Prod.ext ?_ rfl)
      simp only []; omega
    · rw [if_neg hE] at hv ⊢
      simp only [Prod.mk.injEq] at hv
      obtain ⟨rfl, rfl, rfl⟩ := hv
      rw [if_neg hE]
theorem octP_sh (m l : List UInt8) {a wd e : Int} (h : 0 ≤ a) (hw : 0 ≤ wd) {n : Nat} {b x : Int} (hv : octP l wd a e = (n, b, x)) : octP (m ++ l) wd (m.length + a) e = (n, m.length + b, x) ∧ 0 ≤ b := by
  unfold octP at hv ⊢
  rw [getS_sh m l h]
  split at hv
  · rename_i he
    simp only [Prod.mk.injEq] at hv
    obtain ⟨rfl, rfl, rfl⟩ := hv
    exact ⟨by rw [if_pos he], h⟩
  · rename_i he
    rw [if_neg he]
    split at hv
    · rename_i h0
      rw [if_pos h0]
      simp only [Prod.mk.injEq] at hv
      obtain ⟨rfl, rfl, rfl⟩ := hv
      exact ⟨by rw [Int.add_assoc], by omega⟩
    · rename_i h0
      rw [if_neg h0]
      simp only [Prod.mk.injEq] at hv
      obtain ⟨rfl, rfl, rfl⟩ := hv
      exact ⟨rfl, h⟩
theorem numP_sh (m l : List UInt8) {a e : Int} (h : 0 ≤ a) {n : Nat} {b x : Int} (hv : numP l a e = (n, b, x)) : numP (m ++ l) (m.length + a) e = (n, m.length + b, x) ∧ 0 ≤ b := by
  obtain ⟨N, B, E, hg⟩ : ∃ N B E, vgetS l a = (N, B, E) := ⟨_, _, _, rfl⟩
  have hs := vgetS_sh m l h hg
  have hc := vgetS_cases l a
  rw [hg] at hc
  simp only [Prod.mk.injEq] at hc
  unfold numP at hv ⊢
  rw [hg] at hv
  rw [hs]
  simp only at hv
  by_cases he : e = 0
  · subst he
    simp only [ne_eq, not_true_eq_false, if_false] at hv ⊢
    by_cases hE : E = 0
    · subst hE
      simp only [not_true_eq_false, if_false, if_true] at hv ⊢
      by_cases hg : 1099511627776 < N
      · rw [if_pos hg] at hv ⊢
        simp only [Prod.mk.injEq] at hv
        obtain ⟨rfl, rfl, rfl⟩ := hv
        exact ⟨rfl, h⟩
      · rw [if_neg hg] at hv ⊢
        simp only [Prod.mk.injEq] at hv
        obtain ⟨rfl, rfl, rfl⟩ := hv
        exact ⟨rfl, by omega⟩
    · simp only [hE, not_false_eq_true, if_true, if_false] at hv ⊢
      simp only [Prod.mk.injEq] at hv
      obtain ⟨rfl, rfl, rfl⟩ := hv
      exact ⟨rfl, h⟩
  · rw [if_pos he] at hv ⊢
    simp only [Prod.mk.injEq] at hv
    obtain ⟨rfl, rfl, rfl⟩ := hv
    exact ⟨rfl, h⟩
theorem takeS_sh (m l : List UInt8) {a k : Int} (h : 0 ≤ a) {n : List UInt8} {b x : Int} (hv : takeS l a k = (n, b, x)) : takeS (m ++ l) (m.length + a) k = if x = 0 then (n, m.length + b, 0) else ([], 0, x) := by
  obtain ⟨N, B, E, hg⟩ : ∃ N B E, vgetS l a = (N, B, E) := ⟨_, _, _, rfl⟩
  have hs := vgetS_sh m l h hg
  have hc := vgetS_cases l a
  rw [hg] at hc
  simp only [Prod.mk.injEq] at hc
  unfold takeS at hv ⊢
  rw [hg] at hv
  rw [hs]
  simp only at hv
  by_cases hE : E = 0
  · subst hE
    simp only [ne_eq, not_true_eq_false, if_false, if_true] at hv ⊢
    by_cases h1 : k < 0 ∨ k < (N : Int)
    · rw [if_pos h1] at hv ⊢
      simp only [Prod.mk.injEq] at hv
      obtain ⟨rfl, rfl, rfl⟩ := hv
      rfl
    · rw [if_neg h1] at hv ⊢
      by_cases h2 : (l.length : Int) - B < N
      · rw [if_pos h2] at hv
        rw [if_pos (by rw [List.length_append]; omega)]
        simp only [Prod.mk.injEq] at hv
        obtain ⟨rfl, rfl, rfl⟩ := hv
        rfl
      · rw [if_neg h2] at hv
        rw [if_neg (by rw [List.length_append]; omega), drop_sh m l (by omega)]
        simp only [Prod.mk.injEq] at hv
        obtain ⟨rfl, rfl, rfl⟩ := hv
        rw [if_pos rfl, Int.add_assoc]
  · simp only [hE, ne_eq, not_false_eq_true, if_true, if_false] at hv ⊢
    simp only [Prod.mk.injEq] at hv
    obtain ⟨rfl, rfl, rfl⟩ := hv
    rw [if_neg hE]
theorem takeS_shape {l : List UInt8} {a k : Int} {n : List UInt8} {b x : Int} (hv : takeS l a k = (n, b, x)) : (x = 0 → 0 ≤ b) ∧ (x ≠ 0 → n = []) := by
  obtain ⟨N, B, E, hg⟩ : ∃ N B E, vgetS l a = (N, B, E) := ⟨_, _, _, rfl⟩
  have hc := vgetS_cases l a
  rw [hg] at hc
  simp only [Prod.mk.injEq] at hc
  unfold takeS at hv
  rw [hg] at hv
  simp only at hv
  split at hv
  · rename_i h1
    simp only [Prod.mk.injEq] at hv
    obtain ⟨rfl, rfl, rfl⟩ := hv
    exact ⟨fun h => absurd h h1, fun _ => rfl⟩
  · split at hv
    · simp only [Prod.mk.injEq] at hv
      obtain ⟨rfl, rfl, rfl⟩ := hv
      exact ⟨fun h => absurd h (by omega), fun _ => rfl⟩
    · split at hv
      · simp only [Prod.mk.injEq] at hv
        obtain ⟨rfl, rfl, rfl⟩ := hv
        exact ⟨fun h => absurd h (by omega), fun _ => rfl⟩
      · simp only [Prod.mk.injEq] at hv
        obtain ⟨rfl, rfl, rfl⟩ := hv
        exact ⟨fun _ => by omega, fun h => absurd rfl h⟩
theorem namP_sh (m l : List UInt8) {a e : Int} (h : 0 ≤ a) {n : List UInt8} {b x : Int} (hv : namP l a e = (n, b, x)) : namP (m ++ l) (m.length + a) e = (n, m.length + b, x) ∧ 0 ≤ b := by
  obtain ⟨N, B, E, hg⟩ : ∃ N B E, takeS l a 32 = (N, B, E) := ⟨_, _, _, rfl⟩
  have hs := takeS_sh m l h hg
  obtain ⟨c1, c2⟩ := takeS_shape hg
  unfold namP at hv ⊢
  rw [hg] at hv
  rw [hs]
  simp only at hv
  by_cases he : e = 0
  · subst he
    simp only [ne_eq, not_true_eq_false, if_false] at hv ⊢
    by_cases hE : E = 0
    · subst hE
      simp only [not_true_eq_false, if_false, if_true] at hv ⊢
      simp only [Prod.mk.injEq] at hv
      obtain ⟨rfl, rfl, rfl⟩ := hv
      exact ⟨rfl, c1 rfl⟩
    · simp only [hE, not_false_eq_true, if_true, if_false] at hv ⊢
      simp only [Prod.mk.injEq] at hv
      obtain ⟨rfl, rfl, rfl⟩ := hv
      rw [c2 hE]
      exact ⟨rfl, h⟩
  · rw [if_pos he] at hv ⊢
    simp only [Prod.mk.injEq] at hv
    obtain ⟨rfl, rfl, rfl⟩ := hv
    exact ⟨rfl, h⟩
theorem shaP_sh (m l : List UInt8) {a e : Int} (h : 0 ≤ a) {n : Bool} {b x : Int} (hv : shaP l a e = (n, b, x)) : shaP (m ++ l) (m.length + a) e = (n, m.length + b, x) ∧ 0 ≤ b := by
  obtain ⟨N, B, E, hg⟩ : ∃ N B E, octP l 1 a e = (N, B, E) := ⟨_, _, _, rfl⟩
  obtain ⟨hs, hb⟩ := octP_sh m l h (by omega) hg
  unfold shaP at hv ⊢
  rw [hg] at hv
  rw [hs]
  simp only at hv ⊢
  split at hv
  · rename_i h1
    rw [if_pos h1]
    simp only [Prod.mk.injEq] at hv
    obtain ⟨rfl, rfl, rfl⟩ := hv
    exact ⟨rfl, hb⟩
  · rename_i h1
    rw [if_neg h1]
    simp only [Prod.mk.injEq] at hv
    obtain ⟨rfl, rfl, rfl⟩ := hv
    exact ⟨rfl, hb⟩
theorem runS_sh (m l : List UInt8) {a : Int} (h : 0 ≤ a) {s : Sp} {b x : Int} (hv : runS l a = (s, b, x)) : runS (m ++ l) (m.length + a) = (s, m.length + b, x) ∧ 0 ≤ b := by
  obtain ⟨hi, a1, e1, h1⟩ : ∃ x y z, octP l 8 a 0 = (x, y, z) := ⟨_, _, _, rfl⟩
  obtain ⟨lo, a2, e2, h2⟩ : ∃ x y z, octP l 8 a1 e1 = (x, y, z) := ⟨_, _, _, rfl⟩
  obtain ⟨id, a3, e3, h3⟩ : ∃ x y z, octP l 8 a2 e2 = (x, y, z) := ⟨_, _, _, rfl⟩
  obtain ⟨up, a4, e4, h4⟩ : ∃ x y z, octP l 8 a3 e3 = (x, y, z) := ⟨_, _, _, rfl⟩
  obtain ⟨nm, a5, e5, h5⟩ : ∃ x y z, namP l a4 e4 = (x, y, z) := ⟨_, _, _, rfl⟩
  obtain ⟨st, a6, e6, h6⟩ : ∃ x y z, numP l a5 e5 = (x, y, z) := ⟨_, _, _, rfl⟩
  obtain ⟨sq, a7, e7, h7⟩ : ∃ x y z, numP l a6 e6 = (x, y, z) := ⟨_, _, _, rfl⟩
  obtain ⟨kd, a8, e8, h8⟩ : ∃ x y z, numP l a7 e7 = (x, y, z) := ⟨_, _, _, rfl⟩
  obtain ⟨sh, a9, e9, h9⟩ : ∃ x y z, shaP l a8 e8 = (x, y, z) := ⟨_, _, _, rfl⟩
  obtain ⟨s0, a10, e10, h10⟩ : ∃ x y z, numP l a9 e9 = (x, y, z) := ⟨_, _, _, rfl⟩
  obtain ⟨s1, a11, e11, h11⟩ : ∃ x y z, numP l a10 e10 = (x, y, z) := ⟨_, _, _, rfl⟩
  rw [runS_eq h1 h2 h3 h4 h5 h6 h7 h8 h9 h10 h11] at hv
  simp only [Prod.mk.injEq] at hv
  obtain ⟨rfl, rfl, rfl⟩ := hv
  obtain ⟨g1, p1⟩ := octP_sh m l h (by omega) h1
  obtain ⟨g2, p2⟩ := octP_sh m l p1 (by omega) h2
  obtain ⟨g3, p3⟩ := octP_sh m l p2 (by omega) h3
  obtain ⟨g4, p4⟩ := octP_sh m l p3 (by omega) h4
  obtain ⟨g5, p5⟩ := namP_sh m l p4 h5
  obtain ⟨g6, p6⟩ := numP_sh m l p5 h6
  obtain ⟨g7, p7⟩ := numP_sh m l p6 h7
  obtain ⟨g8, p8⟩ := numP_sh m l p7 h8
  obtain ⟨g9, p9⟩ := shaP_sh m l p8 h9
  obtain ⟨g10, p10⟩ := numP_sh m l p9 h10
  obtain ⟨g11, p11⟩ := numP_sh m l p10 h11
  exact ⟨runS_eq g1 g2 g3 g4 g5 g6 g7 g8 g9 g10 g11, p11⟩
theorem readS_sh (m l : List UInt8) {a : Int} (h : 0 ≤ a) {s : Sp} {b x : Int} (hv : readS l a = (s, b, x)) : readS (m ++ l) (m.length + a) = (s, if x = 0 then m.length + b else 0, x) ∧ 0 ≤ b := by
  obtain ⟨t, c, e, hr⟩ : ∃ t c e, runS l a = (t, c, e) := ⟨_, _, _, rfl⟩
  obtain ⟨hs, hc⟩ := runS_sh m l h hr
  by_cases he : e = 0
  · subst he
    by_cases hk : chkS t = 0
    · rw [readS_ok hr hk] at hv
      simp only [Prod.mk.injEq] at hv
      obtain ⟨rfl, rfl, rfl⟩ := hv
      exact ⟨by rw [readS_ok hs hk, if_pos rfl], hc⟩
    · rw [readS_chk hr hk] at hv
      simp only [Prod.mk.injEq] at hv
      obtain ⟨rfl, rfl, rfl⟩ := hv
      exact ⟨by rw [readS_chk hs hk, if_neg hk], by omega⟩
  · rw [readS_err hr he] at hv
    simp only [Prod.mk.injEq] at hv
    obtain ⟨rfl, rfl, rfl⟩ := hv
    exact ⟨by rw [readS_err hs he, if_neg he], by omega⟩
theorem rsS_sh (m l : List UInt8) : ∀ (k : Nat) (a : Int), 0 ≤ a → rsS (m ++ l) k (m.length + a) = ((rsS l k a).1, if (rsS l k a).2.2 = 0 then m.length + (rsS l k a).2.1 else 0, (rsS l k a).2.2)
  | 0, a, _ => by simp [rsS]
  | k + 1, a, h => by
    obtain ⟨s, b, x, hr⟩ : ∃ s b x, readS l a = (s, b, x) := ⟨_, _, _, rfl⟩
    obtain ⟨hs, hb⟩ := readS_sh m l h hr
    by_cases hx : x = 0
    · subst hx
      rw [if_pos rfl] at hs
      have ih := rsS_sh m l k b hb
      simp only [rsS, hr, hs, ih]
      by_cases h2 : (rsS l k b).2.2 = 0
      · simp [h2]
      · simp [h2]
    · rw [if_neg hx] at hs
      rw [rsS_err hr hx, rsS_err hs hx]
      simp [hx]
/-- A number, as the definition reads it behind a mark. -/
theorem num_link (m l : List UInt8) {a : Int} {k n : Nat} {b x : Int} (ha : 0 ≤ a) (h : nmP l k a 0 = (n, b, x)) : (x = 0 → numM (m ++ l) (m.length + a) k = (n, m.length + b, 0) ∧ 0 ≤ b ∧ b ≤ l.length ∧ n ≤ k) ∧ (x ≠ 0 → numM (m ++ l) (m.length + a) k = (0, 0, x)) := by
  obtain ⟨N, B, E, hg⟩ : ∃ N B E, vgetS l a = (N, B, E) := ⟨_, _, _, rfl⟩
  have hs := vgetS_sh m l ha hg
  have hc := vgetS_cases l a
  rw [hg] at hc
  simp only [Prod.mk.injEq] at hc
  unfold nmP at h
  rw [if_neg (by simp), hg] at h
  simp only at h
  unfold numM
  rw [hs]
  by_cases hE : E = 0
  · subst hE
    simp only [if_true, ne_eq, not_true_eq_false, if_false]
    by_cases hk : k < N
    · rw [if_pos hk] at h
      simp only [Prod.mk.injEq] at h
      obtain ⟨rfl, rfl, rfl⟩ := h
      exact ⟨fun h => absurd h (by omega), fun _ => by rw [if_pos hk]⟩
    · rw [if_neg hk] at h
      simp only [Prod.mk.injEq] at h
      obtain ⟨rfl, rfl, rfl⟩ := h
      exact ⟨fun _ => ⟨by rw [if_neg hk], by omega, by omega, by omega⟩, fun h => absurd rfl h⟩
  · simp only [hE, if_false, ne_eq, not_false_eq_true, if_true]
    have hN : N = 0 := by omega
    subst hN
    rw [if_neg (by omega)] at h
    simp only [Prod.mk.injEq] at h
    obtain ⟨rfl, rfl, rfl⟩ := h
    exact ⟨fun h => absurd h hE, fun _ => rfl⟩
theorem nmE {l : List UInt8} {k n : Nat} {a e b : Int} (h : nmP l k a e = (n, b, 0)) : e = 0 := by
  by_cases he : e = 0
  · exact he
  · rw [nmP_err he] at h; simp only [Prod.mk.injEq] at h; exact h.2.2
theorem nmP_in {l : List UInt8} {k n : Nat} {a e b x : Int} (h : nmP l k a e = (n, b, x)) (ha : 0 ≤ a ∧ a ≤ l.length) : 0 ≤ b ∧ b ≤ l.length := by
  have hc := vgetS_cases l a
  obtain ⟨N, B, E, hg⟩ : ∃ N B E, vgetS l a = (N, B, E) := ⟨_, _, _, rfl⟩
  rw [hg] at hc
  simp only [Prod.mk.injEq] at hc
  unfold nmP at h
  rw [hg] at h
  simp only at h
  split at h
  · simp only [Prod.mk.injEq] at h; omega
  · split at h
    · simp only [Prod.mk.injEq] at h; omega
    · simp only [Prod.mk.injEq] at h; omega
/-- What was written is read as it was. -/
theorem nm_at {l : List UInt8} {a : Int} {n k : Nat} {x : List UInt8} (h : At l a (vput n ++ x)) (hn : n ≤ k) (hk : k ≤ 1099511627776) : nmP l k a 0 = (n, a + (vput n).length, 0) := by
  obtain ⟨e1, e2⟩ := h.split
  have hg := vgetS_vput n (l.take a.toNat) x (by omega)
  rw [← e1, ← e2] at hg
  have e3 : (((l.take a.toNat).length + (vput n).length : Nat) : Int) = a + (vput n).length := by omega
  rw [e3] at hg
  rw [nmP, hg, if_neg (by simp), if_neg (by simp only []; omega)]
theorem rs_at {l : List UInt8} : ∀ (L : List Sp) (a : Int) (x : List UInt8), At l a (flatB L ++ x) → (∀ s ∈ L, chkS s = 0 ∧ wideS s) → rsS l L.length a = (L, a + (flatB L).length, 0)
  | [], a, x, _, _ => by simp [rsS, flatB]
  | s :: r, a, x, h, hs => by
    obtain ⟨hc, hw⟩ := hs s (by simp)
    have hf : flatB (s :: r) = bytesS s ++ flatB r := by simp [flatB]
    rw [hf, List.append_assoc] at h
    have hr := readS_ok (runS_at h hc hw) hc
    have ih := rs_at r _ x h.step fun y hy => hs y (by simp [hy])
    rw [List.length_cons, rsS, hr]
    simp only [ne_eq, not_true_eq_false, if_false]
    rw [ih]
    simp only [not_true_eq_false, if_false]
    refine Prod.ext rfl (Prod.ext ?_ rfl)
    simp only []
    rw [hf, List.length_append]; omega
theorem hasP_self (m l : List UInt8) : hasP m (m ++ l) = true := by simp [hasP]
theorem opM_seal (m l : List UInt8) : opM m (sealS (m ++ l)) = (l, 0) := by
  rw [opM, openS_sealS, if_neg (by simp), if_pos (hasP_self m l), List.drop_left]
theorem fltB_zero {L : List Sp} : fltB L = 0 ↔ ∀ s ∈ L, chkS s = 0 := by
  induction L with
  | nil => simp [fltB]
  | cons s r ih =>
    rw [fltB]
    by_cases h : chkS s = 0
    · rw [if_neg (by simpa using h), ih]; simp [h]
    · rw [if_pos h]; simp [h]
theorem chkB_ok {n q : Int} {L : List Sp} (h : chkB n q L = 0) : inR n q = true ∧ 1 ≤ L.length ∧ L.length ≤ 16 ∧ ∀ s ∈ L, chkS s = 0 := by
  unfold chkB at h
  split at h
  · omega
  · split at h
    · omega
    · split at h
      · omega
      · rename_i h1 h2 h3; exact ⟨by simpa using h1, by omega, by omega, fltB_zero.1 h⟩
theorem readB_writeB {n q : Int} {L : List Sp} (h : chkB n q L = 0) (hw : ∀ s ∈ L, wideS s) : readB (sealS (bodyB n q L)) = (n.toNat, q.toNat, L, 0) := by
  obtain ⟨h1, h2, h3, h4⟩ := chkB_ok h
  rw [inR, decide_eq_true_eq] at h1
  rw [readB, bodyB, opM_seal]
  simp only [ne_eq, not_true_eq_false, if_false]
  have a0 : At (vput n.toNat ++ (vput q.toNat ++ (vput L.length ++ flatB L))) 0 (vput n.toNat ++ (vput q.toNat ++ (vput L.length ++ flatB L))) := ⟨by omega, by omega, rfl⟩
  have g1 := nm_at (k := 7) a0 (by omega) (by omega)
  have a1 := a0.step
  have g2 := nm_at (k := 1099511627776) a1 (by omega) (by omega)
  have a2 := a1.step
  have g3 := nm_at (k := 16) a2 h3 (by omega)
  have a3 := a2.step
  have e4 : (vput n.toNat ++ (vput q.toNat ++ (vput L.length ++ flatB L))).drop (0 + ((vput n.toNat).length : Int) + (vput q.toNat).length + (vput L.length).length).toNat = flatB L := a3.2.2
  have ar : At (flatB L) 0 (flatB L ++ []) := ⟨by omega, by omega, by simp⟩
  have g4 := rs_at L 0 [] ar fun s hs => ⟨h4 s hs, hw s hs⟩
  have g5 : spsS ((vput n.toNat ++ (vput q.toNat ++ (vput L.length ++ flatB L))).drop (0 + ((vput n.toNat).length : Int) + (vput q.toNat).length + (vput L.length).length).toNat) L.length = (L, 0) := by
    rw [e4, spsS, g4, if_neg (by simp), if_neg (by simp), if_neg (by omega)]
  rw [rdB_spans g1 g2 g3 g5, if_neg (by simp)]
theorem hasP_ne (l : List UInt8) : hasP mkA (mkB ++ l) = false := by simp [hasP, mkA, mkB]
theorem readA_writeB {n q : Int} {L : List Sp} : readA (sealS (bodyB n q L)) = (0, 0, 3) := by
  have : opM mkA (sealS (bodyB n q L)) = ([], 3) := by
    rw [opM, openS_sealS, if_neg (by simp)]
    simp only
    rw [bodyB, hasP_ne]; rfl
  rw [readA, this, if_pos (by simp)]
theorem readA_ackB {n q : Int} (h : inR n q = true) : readA (sealS (mkA ++ (vput n.toNat ++ vput q.toNat))) = (n.toNat, q.toNat, 0) := by
  rw [inR, decide_eq_true_eq] at h
  rw [readA, opM_seal]
  simp only [ne_eq, not_true_eq_false, if_false]
  have a0 : At (vput n.toNat ++ (vput q.toNat ++ [])) 0 (vput n.toNat ++ (vput q.toNat ++ [])) := ⟨by omega, by omega, rfl⟩
  have g1 := nm_at (k := 7) a0 (by omega) (by omega)
  have a1 := a0.step
  have g2 := nm_at (k := 1099511627776) a1 (by omega) (by omega)
  have a2 := a1.step
  simp only [List.append_nil] at g1 g2
  have e4 : (vput n.toNat ++ (vput q.toNat ++ [])).drop (0 + ((vput n.toNat).length : Int) + (vput q.toNat).length).toNat = [] := a2.2.2
  simp only [List.append_nil] at e4
  rw [rdA_end g1 g2, if_pos e4]
theorem hasP_seal {m l x : List UInt8} (h : m.length ≤ l.length) : hasP m (l ++ x) = hasP m l := by
  simp only [hasP, List.length_append]
  rw [List.take_append_of_le_length h]
  simp [h]; omega
theorem kind_writeB (n q : Int) (L : List Sp) : kindB (sealS (bodyB n q L)) = 1 := by
  rw [kindB, sealS, bodyB, List.append_assoc, hasP_self, if_pos rfl]
theorem kind_ackB (x : List UInt8) : kindB (sealS (mkA ++ x)) = 2 := by
  have : hasP mkB (mkA ++ (x ++ be 4 (crcS (mkA ++ x)))) = false := by simp [hasP, mkA, mkB]
  rw [kindB, sealS, List.append_assoc, this, hasP_self]; rfl
/-- What is read may be, and its bytes are just those. -/
theorem nm_back {l : List UInt8} {a b : Int} {k n : Nat} (h : nmP l k a 0 = (n, b, 0)) : 0 ≤ a ∧ a ≤ b ∧ b ≤ l.length ∧ n ≤ k ∧ vput n = seg l a b := by
  obtain ⟨N, B, E, hg⟩ : ∃ N B E, vgetS l a = (N, B, E) := ⟨_, _, _, rfl⟩
  unfold nmP at h
  rw [if_neg (by simp), hg] at h
  simp only at h
  split at h
  · simp at h
  · simp only [Prod.mk.injEq] at h
    obtain ⟨rfl, rfl, rfl⟩ := h
    obtain ⟨g1, g2, g3, g4, g5⟩ := vget_back hg
    exact ⟨g1, by omega, g3, by omega, g5⟩
theorem rs_back {l : List UInt8} : ∀ (k : Nat) (a b : Int) (L : List Sp), 0 ≤ a → a ≤ l.length → rsS l k a = (L, b, 0) → L.length = k ∧ a ≤ b ∧ b ≤ l.length ∧ (∀ s ∈ L, chkS s = 0 ∧ wideS s) ∧ flatB L = seg l a b
  | 0, a, b, L, h0, h1, h => by
    simp only [rsS, Prod.mk.injEq] at h
    obtain ⟨rfl, rfl, _⟩ := h
    exact ⟨rfl, by omega, h1, by simp, by simp [flatB, seg]⟩
  | k + 1, a, b, L, h0, h1, h => by
    obtain ⟨s, c, x, hr⟩ : ∃ s c x, readS l a = (s, c, x) := ⟨_, _, _, rfl⟩
    rw [rsS, hr] at h
    simp only at h
    split at h
    · rename_i hx; simp only [Prod.mk.injEq] at h; exact absurd h.2.2 hx
    · rename_i hx
      split at h
      · rename_i h2; simp only [Prod.mk.injEq] at h; exact absurd h.2.2 h2
      · rename_i h2
        simp only [Prod.mk.injEq] at h
        obtain ⟨rfl, rfl, _⟩ := h
        have : x = 0 := by simpa using hx
        subst this
        obtain ⟨g0, g1, g2, g3, g4, g5⟩ := readS_back hr
        obtain ⟨L', b', e', hl⟩ : ∃ L' b' e', rsS l k c = (L', b', e') := ⟨_, _, _, rfl⟩
        rw [hl] at h2 ⊢
        have : e' = 0 := by simpa using h2
        subst this
        obtain ⟨q1, q2, q3, q4, q5⟩ := rs_back k c b' L' (by omega) g2 hl
        refine ⟨by simp [q1], by simp only []; omega, q3, fun y hy => ?_, ?_⟩
        · rcases List.mem_cons.1 hy with rfl | hy
          · exact ⟨g4, g3⟩
          · exact q4 y hy
        · have : flatB (s :: L') = bytesS s ++ flatB L' := by simp [flatB]
          rw [this, g5, q5, seg_append h0 g1 q2]
theorem hasP_split {m l : List UInt8} (h : hasP m l = true) : l = m ++ l.drop m.length := by
  simp only [hasP, Bool.and_eq_true, beq_iff_eq] at h
  have := List.take_append_drop m.length l
  rw [h.2] at this
  exact this.symm
theorem opM_back {m s l : List UInt8} (h : opM m s = (l, 0)) : s = sealS (m ++ l) ∧ (openS s).1 = m ++ l := by
  unfold opM at h
  split at h
  · rename_i h1; simp only [Prod.mk.injEq] at h; exact absurd h.2 h1
  · rename_i h1
    split at h
    · rename_i h2
      simp only [Prod.mk.injEq] at h
      obtain ⟨rfl, _⟩ := h
      have h1' : (openS s).2 = 0 := by simpa using h1
      rw [← hasP_split h2]
      refine ⟨?_, rfl⟩
      by_cases hl : s.length < 4
      · rw [openS_short hl] at h1'; simp at h1'
      · by_cases hv : val (s.drop (s.length - 4)) = crcS (s.take (s.length - 4))
        · rw [openS_ok hl hv]; exact ((seal_take_iff s hl).2 hv).symm
        · rw [openS_bad hl hv] at h1'; simp at h1'
    · simp at h
theorem readB_back {s : List UInt8} {n q : Nat} {L : List Sp} (h : readB s = (n, q, L, 0)) : chkB n q L = 0 ∧ s = sealS (bodyB n q L) ∧ ∀ x ∈ L, chkS x = 0 ∧ wideS x := by
  obtain ⟨l, e, ho⟩ : ∃ l e, opM mkB s = (l, e) := ⟨_, _, rfl⟩
  rw [readB, ho] at h
  simp only at h
  split at h
  · rename_i he; simp only [Prod.mk.injEq] at h; exact absurd h.2.2.2 he
  · rename_i he
    have : e = 0 := by simpa using he
    subst this
    obtain ⟨hs, _⟩ := opM_back ho
    obtain ⟨n', a1, e1, h1⟩ : ∃ x y z, nmP l 7 0 0 = (x, y, z) := ⟨_, _, _, rfl⟩
    obtain ⟨q', a2, e2, h2⟩ : ∃ x y z, nmP l 1099511627776 a1 e1 = (x, y, z) := ⟨_, _, _, rfl⟩
    obtain ⟨k, a3, e3, h3⟩ : ∃ x y z, nmP l 16 a2 e2 = (x, y, z) := ⟨_, _, _, rfl⟩
    by_cases h30 : e3 = 0
    · subst h30
      obtain ⟨L', x, h4⟩ : ∃ L' x, spsS (l.drop a3.toNat) k = (L', x) := ⟨_, _, rfl⟩
      rw [rdB_spans h1 h2 h3 h4] at h
      split at h
      · rename_i hx; simp only [Prod.mk.injEq] at h; exact absurd h.2.2.2 hx
      · rename_i hx
        have : x = 0 := by simpa using hx
        subst this
        simp only [Prod.mk.injEq] at h
        obtain ⟨rfl, rfl, rfl, _⟩ := h
        obtain rfl := nmE h3
        obtain rfl := nmE h2
        obtain ⟨p1, p2, p3, p4, p5⟩ := nm_back h1
        obtain ⟨q1, q2, q3, q4, q5⟩ := nm_back h2
        obtain ⟨r1, r2, r3, r4, r5⟩ := nm_back h3
        obtain ⟨M, b, z, hrs⟩ : ∃ M b z, rsS (l.drop a3.toNat) k 0 = (M, b, z) := ⟨_, _, _, rfl⟩
        rw [spsS, hrs] at h4
        simp only at h4
        split at h4
        · rename_i hz; simp only [Prod.mk.injEq] at h4; exact absurd h4.2 hz
        · rename_i hz
          split at h4
          · simp at h4
          · rename_i hb
            split at h4
            · simp at h4
            · rename_i hk
              simp only [Prod.mk.injEq] at h4
              obtain ⟨rfl, _⟩ := h4
              have : z = 0 := by simpa using hz
              subst this
              obtain ⟨w1, w2, w3, w4, w5⟩ := rs_back k 0 b M (by omega) (by omega) hrs
              have hbe : b = ((l.drop a3.toNat).length : Int) := by omega
              have hseg : seg (l.drop a3.toNat) 0 b = l.drop a3.toNat := by
                unfold seg
                rw [hbe]
                simp
                exact List.take_of_length_le (by simp)
              have hall : vput n' ++ (vput q' ++ (vput M.length ++ flatB M)) = l := by
                rw [w1, w5, hseg, r5, q5, p5, ← List.append_assoc, ← List.append_assoc]
                rw [show seg l 0 a1 ++ seg l a1 a2 = seg l 0 a2 from seg_append (by omega) p2 q2, show seg l 0 a2 ++ seg l a2 a3 = seg l 0 a3 from seg_append (by omega) (by omega) r2]
                unfold seg
                simp
              refine ⟨?_, ?_, w4⟩
              · rw [chkB, inR, decide_eq_true (show (0 : Int) ≤ n' ∧ (n' : Int) ≤ 7 ∧ (0 : Int) ≤ q' ∧ (q' : Int) ≤ 1099511627776 by omega), if_neg (by simp), if_neg (by omega), if_neg (by omega)]
                exact fltB_zero.2 fun y hy => (w4 y hy).1
              · rw [bodyB, Int.toNat_natCast, Int.toNat_natCast, hall]; exact hs
    · rw [rdB_err h1 h2 h3 h30] at h
      simp only [Prod.mk.injEq] at h
      exact absurd h.2.2.2 h30
theorem readA_back {s : List UInt8} {n q : Nat} (h : readA s = (n, q, 0)) : inR n q = true ∧ s = sealS (mkA ++ (vput n ++ vput q)) := by
  obtain ⟨l, e, ho⟩ : ∃ l e, opM mkA s = (l, e) := ⟨_, _, rfl⟩
  rw [readA, ho] at h
  simp only at h
  split at h
  · rename_i he; simp only [Prod.mk.injEq] at h; exact absurd h.2.2 he
  · rename_i he
    have : e = 0 := by simpa using he
    subst this
    obtain ⟨hs, _⟩ := opM_back ho
    obtain ⟨n', a1, e1, h1⟩ : ∃ x y z, nmP l 7 0 0 = (x, y, z) := ⟨_, _, _, rfl⟩
    obtain ⟨q', a2, e2, h2⟩ : ∃ x y z, nmP l 1099511627776 a1 e1 = (x, y, z) := ⟨_, _, _, rfl⟩
    by_cases h20 : e2 = 0
    · subst h20
      rw [rdA_end h1 h2] at h
      split at h
      · rename_i hd
        simp only [Prod.mk.injEq] at h
        obtain ⟨rfl, rfl, _⟩ := h
        obtain rfl := nmE h2
        obtain ⟨p1, p2, p3, p4, p5⟩ := nm_back h1
        obtain ⟨q1, q2, q3, q4, q5⟩ := nm_back h2
        have hall : vput n' ++ vput q' = l := by
          rw [p5, q5, seg_append (by omega) p2 q2]
          have := List.take_append_drop a2.toNat l
          rw [hd, List.append_nil] at this
          unfold seg
          simpa using this
        refine ⟨by rw [inR, decide_eq_true_eq]; omega, by rw [hall]; exact hs⟩
      · simp at h
    · rw [rdA_err h1 h2 h20] at h
      simp only [Prod.mk.injEq] at h
      exact absurd h.2.2 h20
theorem readB_not_A {s : List UInt8} {n q : Nat} {L : List Sp} (h : readB s = (n, q, L, 0)) : readA s = (0, 0, 3) := by
  obtain ⟨_, hs, _⟩ := readB_back h
  rw [hs]
  exact readA_writeB
theorem flatB_len : ∀ (L : List Sp), (∀ s ∈ L, chkS s = 0) → (flatB L).length ≤ 150 * L.length
  | [], _ => by simp [flatB]
  | s :: r, h => by
    have h1 := (bytesS_len s (h s (by simp))).1
    have h2 := flatB_len r fun x hx => h x (by simp [hx])
    have : flatB (s :: r) = bytesS s ++ flatB r := by simp [flatB]
    rw [this, List.length_append, List.length_cons]; omega
theorem bodyB_len {n q : Int} {L : List Sp} (h : chkB n q L = 0) : (bodyB n q L).length ≤ 2500 := by
  obtain ⟨_, h2, h3, h4⟩ := chkB_ok h
  have h5 := flatB_len L h4
  simp only [bodyB, List.length_append]
  have := (vput_length_le n.toNat).2
  have := (vput_length_le q.toNat).2
  have := (vput_length_le L.length).2
  have : mkB.length = 3 := rfl
  omega
theorem readB_told {n q : Int} {L : List Sp} {i : Nat} {c : UInt8} (hi : i < (sealS (bodyB n q L)).length) (hc : (sealS (bodyB n q L))[i] ≠ c) : readB ((sealS (bodyB n q L)).set i c) = (0, 0, [], 4) := by
  have ho := openS_told _ i c hi hc
  have : opM mkB ((sealS (bodyB n q L)).set i c) = ([], 4) := by rw [opM, ho, if_pos (by simp)]
  rw [readB, this, if_pos (by simp)]
end Go.Proofs.Ytpfhmpblcmednaa
