/- Texts put together: Oa Ob Or Ok. -/
import Derived.Test.YtnbkpannhcamjaaDoorRows
import Derived.Test.YtnbkpannhcamjaaDoorG01
import Derived.Lib.SmallJoins
import Derived.WalkLawsBesides
namespace Go.Proofs.YtnbkpannhcamjaaDoor
set_option linter.unusedVariables false
open Go.RowKit

set_option maxHeartbeats 400000 in
theorem fits_any (n b : Int) (w : World) (h0 : 0 ≤ b) (h1 : b ≤ 64) :
    Calls Tryd.prog 35 #[.int .u64 n, .int .i64 b] w fun e w' => e = .returned (.bool (n / 2 ^ b.toNat == 0)) ∧ w = w' := by
  go_enter Tryd.func35, Tryd.ntmps35
  go_wp2
  go_ret
  exact ⟨rfl, rfl⟩

theorem conv_bytes (w : World) (b : Nat) (l : List UInt8) (n c : Nat) (hn : l.length = n) (h : ∀ j (hj : j < l.length), w.cell? ⟨b, j, none⟩ = some (.int .u8 (l[j].toNat : Int))) :
    (convert 73 9 (.slice (some ⟨b, 0, none⟩) n c)).run Tryd.prog w = .ok (.string (bs l)) w := by
  subst hn
  exact run_convert_bytes_back (P := Tryd.prog) w 73 9 5 ⟨b, 0, none⟩ c l Tryd.underlying73 Tryd.underlying5 Tryd.underlying9 (fun j hj => by rw [Addr.add_lit, Nat.zero_add]; exact h j hj)

theorem conv_new (w : World) (l : List UInt8) (n c : Nat) (hn : l.length = n) :
    (convert 73 9 (.slice (some ⟨w.heap.size, 0, none⟩) n c)).run Tryd.prog (w.alloc (.cells (cellsOf l) 5)) = .ok (.string (bs l)) (w.alloc (.cells (cellsOf l) 5)) :=
  conv_bytes _ _ l n c hn fun j hj => by simp [cellsOf_at l j hj]

theorem conv1 (w : World) (x : Int) : (convert 73 9 (.slice (some ⟨w.heap.size, 0, none⟩) 1 1)).run Tryd.prog (w.alloc (.cells #[.int .u8 x] 5)) = .ok (.string (bs [UInt8.ofNat x.toNat])) (w.alloc (.cells #[.int .u8 x] 5)) := by
  rw [run_convert_bytes_arg (P := Tryd.prog) _ 73 5 Tryd.underlying73 Tryd.underlying5 _ 0 1 1 [x] rfl _ 9 Tryd.underlying9]
  · rfl
  · intro i hi
    obtain rfl : i = 0 := by omega
    simp

theorem info5 : (Tryd.prog.info? 5).map (fun i => (i.zero, i.size, i.bytes)) = some (some (.int .u8 0), 1, 1) := by kernel_rfl
theorem madeCells_u8 (n : Nat) : madeCells (Value.cells (.int .u8 0)) (n * 1) = cellsOf (filled n []) := by
  apply Array.ext
  · simp [madeCells, cellsOf, filled]
  · intro i h1 h2
    simp [madeCells, cellsOf, filled, Value.cells, Nat.mod_one]
theorem make_bytes (w : World) (n : Nat) (h : n ≤ 1000) :
    (Instr.makeSlice 73 (.int .i64 (n : Int)) (.int .i64 (n : Int))).run Tryd.prog w = .ok (.slice (some ⟨w.heap.size, 0, none⟩) n n) (w.alloc (.cells (cellsOf (filled n [])) 5)) := by
  obtain ⟨i, hi, hz, hs, hb⟩ := info_parts info5
  have := run_make (P := Tryd.prog) w 73 5 i _ Tryd.underlying73 hi hz .i64 .i64 n n (by omega) (by omega) (by rw [hb]; omega) (by omega)
  rw [this, hs, Int.toNat_natCast, madeCells_u8]


theorem digit_none (c : UInt8) (w : World) (h : hexv c = none) :
    Calls Tryd.prog 63 #[.int .u8 c.toNat] w fun e w' => e = .returned (.tuple #[.int .u64 0, .bool false]) ∧ w = w' := by
  have hc := c.toNat_lt
  generalize hn : c.toNat = m at *
  have h' : ¬ (48 ≤ m ∧ m ≤ 57) ∧ ¬ (97 ≤ m ∧ m ≤ 102) := by
    unfold hexv at h; rw [hn] at h; split at h
    · simp at h
    · split at h
      · simp at h
      · exact ⟨‹_›, ‹_›⟩
  clear h hn
  go_enter Tryd.func63, Tryd.ntmps63
  go_wp2
  all_goals (go_ret2; exact ⟨rfl, rfl⟩)
theorem digit_some (c : UInt8) (d : Nat) (w : World) (h : hexv c = some d) :
    Calls Tryd.prog 63 #[.int .u8 c.toNat] w fun e w' => e = .returned (.tuple #[.int .u64 d, .bool true]) ∧ w = w' := by
  have hc := c.toNat_lt
  generalize hn : c.toNat = m at *
  have h' : (48 ≤ m ∧ m ≤ 57 ∧ m = d + 48) ∨ (97 ≤ m ∧ m ≤ 102 ∧ m = d + 87) := by
    unfold hexv at h; rw [hn] at h; split at h
    · simp at h; omega
    · split at h
      · simp at h; omega
      · simp at h
  clear h hn
  rcases h' with ⟨h1, h2, h3⟩ | ⟨h1, h2, h3⟩
  all_goals
    have H3 := hid h3
    clear h3
    go_enter Tryd.func63, Tryd.ntmps63
    go_wp2
    go_ret2
    have := H3.out
    refine ⟨?_, rfl⟩
    first | (show Ending.returned (.tuple #[.int .u64 ((m : Int) - 48), .bool true]) = _; rw [show (m : Int) - 48 = (d : Int) from by omega]) | (show Ending.returned (.tuple #[.int .u64 ((m : Int) - 97 + 10), .bool true]) = _; rw [show (m : Int) - 97 + 10 = (d : Int) from by omega])

end Go.Proofs.YtnbkpannhcamjaaDoor
namespace Go.Proofs.YtnbkpannhcamjaaDoor
set_option linter.unusedVariables false
open Go.RowKit
set_option maxHeartbeats 400000 in
theorem ohex_any (n wd : Int) (w : World) (h0 : 0 ≤ n) :
    Calls Tryd.prog 22 #[.int .u64 n, .int .i64 wd] w fun e w' => e = .returned (.tuple #[.string (bs (hexS n.toNat wd).1), .int .i64 (hexS n.toNat wd).2]) ∧ Below w.heap.size w w' := by
  obtain ⟨n, rfl⟩ := Int.eq_ofNat_of_zero_le h0
  rw [Int.toNat_natCast]
  by_cases hw : wd < 1 ∨ 16 < wd
  · rw [hexS, putX_arg hw]
    go_enter Tryd.func22, Tryd.ntmps22
    go_wp2_with fail
    all_goals (go_ret2; exact ⟨rfl, Below.refl _ _⟩)
  obtain ⟨hw1, hw2⟩ : 1 ≤ wd ∧ wd ≤ 16 := by omega
  obtain ⟨wd, rfl⟩ := Int.eq_ofNat_of_zero_le (show 0 ≤ wd by omega)
  clear hw
  by_cases hf : n / 16 ^ wd = 0
  · rw [hexS, putX_ok (by omega) (by omega) hf, Int.toNat_natCast]
    show Calls _ _ _ _ fun e w' => e = .returned (.tuple #[.string (bs (hx wd n)), .int .i64 0]) ∧ Below w.heap.size w w'
    have Hf := hid hf
    clear hf
    have hmk : ∀ w, (Instr.makeSlice 73 (.int .i64 (wd : Int)) (.int .i64 (wd : Int))).run Tryd.prog w = .ok (.slice (some ⟨w.heap.size, 0, none⟩) wd wd) (w.alloc (.cells (cellsOf (filled wd [])) 5)) := fun w => make_bytes w wd (by omega)
    go_enter Tryd.func22, Tryd.ntmps22
    go_wp2_with fail
    refine (fits_any _ _ _ (by omega) (by omega)).mono ?_
    rintro e w' ⟨rfl, rfl⟩
    rw [fits_true (c := 4) (b := 4 * (wd : Int)) rfl Hf.out]
    go_wp2_with fail
    go_loopw [0, 22] (fun n0 i wr => ∃ k m : Nat, k ≤ wd ∧ Hid (m = n / 16 ^ k) ∧ i = .int .i64 k ∧ n0 = .int .u64 m ∧ wr = w.alloc (.cells (cellsOf (filled wd (hx k n))) 5)) (fun _ i _ => wd - (intOf i).toNat)
    case atStart => exact ⟨0, n, Nat.zero_le _, hid (by simp), rfl, rfl, rfl⟩
    case round =>
      obtain ⟨k, m, hk, Hm, rfl, rfl, rfl⟩ := hrel
      have hlen : (filled wd (hx k n)).length = wd := filled_length (by rw [hx_length]; exact hk)
      have Hlen := hid hlen
      clear hlen
      by_cases hlt : k < wd
      · have hcell : ∃ v, (cellsOf (filled wd (hx k n)))[wd - 1 - k]? = some v := ⟨_, cellsOf_at _ _ (by rw [Hlen.out]; omega)⟩
        obtain ⟨v, hcell⟩ := hcell
        go_wp2
        go_roundw
        case rel => exact ⟨k + 1, m / 16, by omega, hid (by rw [Hm.out, div_step]), by go_num, by go_num, by rw [hexlit_at _ (by omega), cellsOf_set, hx_set wd k n m hlt Hm.out]⟩
        case measure => simp [intOf]; omega
      · have hcv := conv_new w (filled wd (hx k n)) wd wd Hlen.out
        go_wp2
        go_ret2
        obtain rfl : k = wd := by omega
        refine ⟨?_, (Below.refl _ _).alloc (Nat.le_refl _) _⟩
        simp [filled, hx_length]
  · rw [hexS, putX_range (by omega) (by omega) hf]
    have Hf := hid hf
    clear hf
    go_enter Tryd.func22, Tryd.ntmps22
    go_wp2_with fail
    refine (fits_any _ _ _ (by omega) (by omega)).mono ?_
    rintro e w' ⟨rfl, rfl⟩
    rw [fits_false (c := 4) (b := 4 * (wd : Int)) rfl Hf.out]
    go_wp2_with fail
    go_ret2
    exact ⟨rfl, Below.refl _ _⟩


theorem unhexS_bad {l : List UInt8} (h : l.length < 1 ∨ 16 < l.length) : unhexS l = (0, 3) := by rw [unhexS, if_pos h]
theorem unhexS_none {l : List UInt8} (h : ¬ (l.length < 1 ∨ 16 < l.length)) (h2 : uh 0 l = none) : unhexS l = (0, 3) := by rw [unhexS, if_neg h, h2]
theorem unhexS_some {l : List UInt8} {n : Nat} (h : ¬ (l.length < 1 ∨ 16 < l.length)) (h2 : uh 0 l = some n) : unhexS l = (n, 0) := by rw [unhexS, if_neg h, h2]
set_option maxHeartbeats 400000 in
theorem ounhex_any (s : ByteArray) (w : World) (hs : s.size ≤ maxLen) :
    Calls Tryd.prog 45 #[.string s] w fun e w' => e = .returned (.tuple #[.int .u64 (unhexS s.data.toList).1, .int .i64 (unhexS s.data.toList).2]) ∧ w = w' := by
  obtain ⟨l, rfl⟩ : ∃ l, s = bs l := ⟨_, bs_of s⟩
  rw [bs_data]
  rw [bs_size] at hs
  unfold maxLen at hs
  by_cases h1 : l.length < 1 ∨ 16 < l.length
  · rw [unhexS_bad h1]
    go_enter Tryd.func45, Tryd.ntmps45
    go_wp2_with fail
    all_goals (go_ret2; exact ⟨rfl, rfl⟩)
  obtain ⟨h2, h3⟩ : 1 ≤ l.length ∧ l.length ≤ 16 := by omega
  have H1 := hid h1
  clear h1
  go_enter Tryd.func45, Tryd.ntmps45
  go_wp2_with fail
  go_loop [4, 18] (fun n0 i => ∃ k m : Nat, k ≤ l.length ∧ Hid (m < 16 ^ k ∧ uh m (l.drop k) = uh 0 l) ∧ i = .int .i64 k ∧ n0 = .int .u64 m) (fun _ i => l.length - (intOf i).toNat)
  case atStart => exact ⟨0, 0, Nat.zero_le _, hid ⟨by omega, by simp⟩, rfl, rfl⟩
  case round =>
    obtain ⟨k, m, hk, Hm, rfl, rfl⟩ := hrel
    by_cases hlt : k < l.length
    · cases hd : hexv l[k] with
      | none =>
        have Hd := hid hd
        clear hd
        go_wp2_with fail
        refine (digit_none _ _ Hd.out).mono ?_
        rintro e w' ⟨rfl, rfl⟩
        go_wp2_with fail
        go_ret2
        rw [unhexS_none H1.out (by rw [← Hm.out.2, uh_drop _ _ _ hlt, Hd.out])]
        exact ⟨rfl, rfl⟩
      | some d =>
        have Hd := hid hd
        clear hd
        go_wp2_with fail
        refine (digit_some _ d _ Hd.out).mono ?_
        rintro e w' ⟨rfl, rfl⟩
        go_wp2_with fail
        go_round
        case rel =>
          have h16 := hexv_lt Hd.out
          have hm16 : m < 16 ^ 15 := Nat.lt_of_lt_of_le Hm.out.1 (Nat.pow_le_pow_right (by omega) (by omega))
          exact ⟨k + 1, m * 16 + d, by omega, hid ⟨by rw [Nat.pow_succ]; have := Hm.out.1; omega, by rw [← Hm.out.2, uh_drop _ _ _ hlt, Hd.out, Nat.mul_comm]⟩, by go_num, by rw [shlor4 _ _ (by omega) h16]⟩
        case measure => simp [intOf]; omega
    · go_wp2
      go_ret2
      obtain rfl : k = l.length := by omega
      have hu : uh 0 l = some m := by rw [← Hm.out.2]; simp [uh]
      rw [unhexS_some H1.out hu]
      exact ⟨rfl, rfl⟩
end Go.Proofs.YtnbkpannhcamjaaDoor
namespace Go.Proofs.YtnbkpannhcamjaaDoor
set_option linter.unusedVariables false
open Go.RowKit

theorem nat_div_zero (a b : Nat) (h : b = 0) : a / b = 0 := by subst h; simp
end Go.Proofs.YtnbkpannhcamjaaDoor
namespace Go.Proofs.YtnbkpannhcamjaaDoor
set_option linter.unusedVariables false
open Go.RowKit

theorem hexv_cases {c : UInt8} {d : Nat} (h : hexv c = some d) : (48 ≤ c.toNat ∧ c.toNat ≤ 57 ∧ c.toNat = d + 48) ∨ (97 ≤ c.toNat ∧ c.toNat ≤ 102 ∧ c.toNat = d + 87) := by
  unfold hexv at h; split at h
  · simp at h; omega
  · split at h
    · simp at h; omega
    · simp at h
theorem hexv_none {c : UInt8} (h : hexv c = none) : ¬ (48 ≤ c.toNat ∧ c.toNat ≤ 57) ∧ ¬ (97 ≤ c.toNat ∧ c.toNat ≤ 102) := by
  unfold hexv at h; split at h
  · simp at h
  · split at h
    · simp at h
    · exact ⟨‹_›, ‹_›⟩
end Go.Proofs.YtnbkpannhcamjaaDoor
