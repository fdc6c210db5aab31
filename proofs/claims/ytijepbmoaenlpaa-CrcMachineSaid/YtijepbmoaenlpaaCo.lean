import Derived.Test.YtijepbmoaenlpaaCn
import Derived.Test.YtijepbmoaenlpaaSh
import Derived.WalkSmall
namespace Go.Proofs.Ytijepbmoaenlpaa
set_option linter.unusedVariables false
open Go.RowKit

theorem notB (x : Bool) (w : World) : (Op.unary .not (.bool x)).run Try.prog w = .ok (.bool (!x)) w := rfl
set_option maxRecDepth 100000 in
set_option maxHeartbeats 1600000 in
theorem slow_any (g : Nat) (n : Int) (w : World) (h : Mc w g 0 0 0 n 0) :
    Calls Try.prog 60 #[.pointer (some ⟨g, 0, none⟩), .func (.func 45) #[.pointer (some ⟨g, 0, none⟩)] #[]] w fun e w' => e = .returned (.tuple #[]) ∧ Mc w' g 1 0 1 n 256 ∧ Only g w w' := by
  have c1 := h.c1
  have z1 := h.free 1
  have h1 := h.set1 1
  have b1 : Only g w (w.setCell ⟨g, 1, none⟩ (.int .i32 1)) := (Only.refl _ _).set _ _
  have H1 := hid (And.intro h1 b1)
  clear h h1 b1
  have hnot := notB
  go_enter_defers Try.func60, Try.ntmps60
  go_wp2_with fail
  refine (lock_free ⟨g, 1, none⟩ _ c1 z1).mono ?_
  rintro e w' ⟨rfl, rfl⟩
  clear c1 z1
  generalize w.setCell ⟨g, 1, none⟩ (.int .i32 1) = w1 at *
  go_wp2_with fail
  refine (bload_any ⟨g, 0, none⟩ 0 _ H1.out.1.c0).mono ?_
  rintro e w' ⟨rfl, rfl⟩
  go_wp2_with fail
  refine (fill_any g 0 1 n _ H1.out.1).mono ?_
  rintro e w2 ⟨rfl, h2, b2⟩
  have H2 := hid (And.intro h2 (H1.out.2.trans b2))
  clear h2 b2
  go_wp2
  refine leaves_cons (f := 69) (args := #[.pointer (some ⟨g, 0, none⟩), .bool true]) (by simp) (by simp [go_sem]) ?_
  refine (store_deferred ⟨g, 0, none⟩ (.int .u32 0) .returning _ H2.out.1.c0 (H2.out.1.free 0)).mono ?_
  rintro e u' w'' ⟨rfl, rfl, rfl⟩
  have h3 := H2.out.1.drew.set0 1
  refine leaves_cons (f := 68) (args := #[.pointer (some ⟨g, 1, none⟩)]) (by simp [settle]) (by simp [go_sem]) ?_
  refine (unlock_deferred ⟨g, 1, none⟩ _ _ h3.c1 (h3.free 1)).mono ?_
  rintro e u' w'' ⟨rfl, rfl, rfl⟩
  have h4 := h3.set1 0
  have hb := (H2.out.2.drew.set 0 (.int .u32 1)).set 1 (.int .i32 0)
  simp [Leaves, settle, results, Try.results60]
  exact ⟨h4, hb⟩
set_option maxRecDepth 100000 in
set_option maxHeartbeats 1600000 in
theorem do_first (g : Nat) (n : Int) (w : World) (h : Mc w g 0 0 0 n 0) :
    Calls Try.prog 44 #[.pointer (some ⟨g, 0, none⟩), .func (.func 45) #[.pointer (some ⟨g, 0, none⟩)] #[]] w fun e w' => e = .returned (.tuple #[]) ∧ Mc w' g 1 0 1 n 256 ∧ Only g w w' := by
  have H := hid h
  clear h
  have hnot := notB
  go_enter Try.func44, Try.ntmps44
  go_wp2_with fail
  refine (bload_any ⟨g, 0, none⟩ 0 _ H.out.c0).mono ?_
  rintro e w' ⟨rfl, rfl⟩
  go_wp2_with fail
  refine (slow_any g n _ H.out).mono ?_
  rintro e w2 ⟨rfl, h2, b2⟩
  have H2 := hid (And.intro h2 b2)
  clear h2 b2
  go_wp2
  go_end0
  exact ⟨rfl, H2.out⟩
set_option maxHeartbeats 400000 in
theorem do_done (g : Nat) (fv : Value) (w : World) (h : w.cell? ⟨g, 0, none⟩ = some (.int .u32 1)) :
    Calls Try.prog 44 #[.pointer (some ⟨g, 0, none⟩), fv] w fun e w' => e = .returned (.tuple #[]) ∧ w = w' := by
  have hnot := notB
  go_enter Try.func44, Try.ntmps44
  go_wp2_with fail
  refine (bload_any ⟨g, 0, none⟩ 1 _ h).mono ?_
  rintro e w' ⟨rfl, rfl⟩
  go_wp2
  go_end0
  exact ⟨rfl, rfl⟩
theorem made_nil (w : World) :
    Calls Try.prog 18 #[.pointer none] w fun e w' => e = .returned (.int .i64 0) ∧ w = w' := by
  go_enter Try.func18, Try.ntmps18
  go_wp2
  go_ret
  exact ⟨rfl, rfl⟩
theorem bytes_nil (w : World) :
    Calls Try.prog 19 #[.pointer none] w fun e w' => e = .returned (.int .i64 0) ∧ w = w' := by
  go_enter Try.func19, Try.ntmps19
  go_wp2
  go_ret
  exact ⟨rfl, rfl⟩
theorem mof_nil (v : Value) (w : World) :
    Calls Try.prog 17 #[.pointer none, v] w fun e w' => e = .returned (.int .u32 0) ∧ w = w' := by
  go_enter Try.func17, Try.ntmps17
  go_wp2
  go_ret
  exact ⟨rfl, rfl⟩
theorem made_any (g : Nat) (x : Int) (w : World) (h : w.cell? ⟨g, 259, none⟩ = some (.int .i64 x)) (h1 : -9223372036854775808 ≤ x) (h2 : x ≤ 9223372036854775807) :
    Calls Try.prog 18 #[.pointer (some ⟨g, 0, none⟩)] w fun e w' => e = .returned (.int .i64 x) ∧ w = w' := by
  have H := hid h
  clear h
  go_enter Try.func18, Try.ntmps18
  go_wp2_with fail
  refine (iload_any _ x _ H.out).mono ?_
  rintro e w' ⟨rfl, rfl⟩
  go_wp2
  go_ret
  exact ⟨rfl, rfl⟩
theorem cn_any (a : Addr) (x : Int) (w : World) (h : w.cell? a = some (.int .i64 x)) (h1 : -9223372036854775808 ≤ x) (h2 : x ≤ 9223372036854775807) :
    Calls Try.prog 48 #[.pointer (some a)] w fun e w' => e = .returned (.int .i64 x) ∧ w = w' := by
  have H := hid h
  clear h
  go_enter Try.func48, Try.ntmps48
  go_wp2_with fail
  refine (iload_any _ x _ H.out).mono ?_
  rintro e w' ⟨rfl, rfl⟩
  go_wp2
  go_ret
  exact ⟨rfl, rfl⟩
theorem bytes_any (g : Nat) (x : Int) (w : World) (h : w.cell? ⟨g, 260, none⟩ = some (.int .i64 x)) (h1 : -9223372036854775808 ≤ x) (h2 : x ≤ 9223372036854775807) :
    Calls Try.prog 19 #[.pointer (some ⟨g, 0, none⟩)] w fun e w' => e = .returned (.int .i64 x) ∧ w = w' := by
  have H := hid h
  clear h
  go_enter Try.func19, Try.ntmps19
  go_wp2_with fail
  refine (cn_any _ x _ H.out h1 h2).mono ?_
  rintro e w' ⟨rfl, rfl⟩
  go_wp2
  go_ret
  exact ⟨rfl, rfl⟩
/-- '(*count.Count).Add', the sum at most MaxCount. -/
theorem cadd_any (a : Addr) (x n : Nat) (w : World) (h : w.cell? a = some (.int .i64 (x : Int))) (hz : w.frozen? a = false) (hx : x + n ≤ 1099511627776) :
    Calls Try.prog 46 #[.pointer (some a), .int .i64 (n : Int)] w fun e w' => e = .returned (.tuple #[]) ∧ w' = w.setCell a (.int .i64 ((x + n : Nat) : Int)) := by
  have H := hid (And.intro h hz)
  clear h hz
  go_enter Try.func46, Try.ntmps46
  go_wp2_with fail
  refine (iadd_any a x n w H.out.1 H.out.2 (by omega) (by omega)).mono ?_
  rintro e w' ⟨rfl, rfl⟩
  go_wp2_with fail
  go_end0
  exact ⟨rfl, rfl⟩
/-- The texts of a slice of strings. -/
def tvals (L : List (List UInt8)) : List Value := L.map fun l => Value.string (bs l)
def joinL (L : List (List UInt8)) : List UInt8 := L.flatten
theorem joinL_snoc (L : List (List UInt8)) (l : List UInt8) : joinL (L ++ [l]) = joinL L ++ l := by simp [joinL]
theorem joinL_take (L : List (List UInt8)) (k : Nat) (h : k < L.length) : joinL (L.take (k + 1)) = joinL (L.take k) ++ L[k] := by rw [List.take_succ_eq_append_getElem h, joinL_snoc]
theorem joinL_take_le (L : List (List UInt8)) (k : Nat) : (joinL (L.take k)).length ≤ (joinL L).length := by
  have := congrArg (fun z => (joinL z).length) (List.take_append_drop k L)
  simp only [joinL, List.flatten_append, List.length_append] at this ⊢
  omega
theorem STexts.only {w w' : World} {g : Nat} {A : Option Addr} {L : List (List UInt8)} (h : STexts w (· ≠ g) A L) (ho : Only g w w') : STexts w' (· ≠ g) A L := by
  intro k hk
  obtain ⟨ad, e, h1, h2⟩ := h k hk
  exact ⟨ad, e, h1, ho.cell h2 (by rw [add_block]; exact h1)⟩
set_option maxRecDepth 100000 in
set_option maxHeartbeats 1600000 in
theorem mof_loop (g : Nat) (d0 made0 : Int) (k0 n : Nat) (A : Option Addr) (cap : Nat) (L : List (List UInt8)) (w : World)
    (hM : (d0 = 0 ∧ made0 = 0 ∧ k0 = 0) ∨ (d0 = 1 ∧ made0 = 1 ∧ k0 = 256)) (h : Mc w g d0 0 made0 n k0) (hS : STexts w (· ≠ g) A L) (hl : L.length ≤ 1000000) (hn : n + (joinL L).length ≤ 1000000000) :
    Calls Try.prog 17 #[.pointer (some ⟨g, 0, none⟩), .slice A L.length cap] w fun e w' => e = .returned (.int .u32 (crcS (joinL L) : Nat)) ∧ Mc w' g 1 0 1 ((n + (joinL L).length : Nat) : Int) 256 ∧ Only g w w' := by
  have hdo : ∀ fv, fv = .func (.func 45) #[.pointer (some ⟨g, 0, none⟩)] #[] → Calls Try.prog 44 #[.pointer (some ⟨g, 0, none⟩), fv] w fun e w' => e = .returned (.tuple #[]) ∧ Mc w' g 1 0 1 n 256 ∧ Only g w w' := by
    rintro fv rfl
    rcases hM with ⟨rfl, rfl, rfl⟩ | ⟨rfl, rfl, rfl⟩
    · exact do_first g n w h
    · exact (do_done g _ w h.c0).mono fun e w' ⟨a, b⟩ => by subst b; exact ⟨a, h, Only.refl _ _⟩
  have HD := hid hdo
  have HS := hid hS
  have HN := hid hn
  clear hdo hM h hS hn
  have hmf : ∀ (fn : Fn) (first cap : Array Value) (w : World), (Instr.makeFunc fn first cap).run Try.prog w = .ok (.func fn first cap) w := fun _ _ _ _ => rfl
  go_enter Try.func17, Try.ntmps17
  go_wp2_with fail
  refine (HD.out _ rfl).mono ?_
  rintro e w1 ⟨rfl, h1, hb1⟩
  have H1 := hid (And.intro h1 hb1)
  clear h1 hb1
  go_wp2_with fail
  go_loopw [5, 19] (fun r i wr => ∃ k m : Nat, k ≤ L.length ∧ m < 4294967296 ∧ Hid (m = regC 4294967295 (joinL (L.take k))) ∧ i = .int .i64 k ∧ r = .int .u32 m ∧ Hid (Mc wr g 1 0 1 ((n + (joinL (L.take k)).length : Nat) : Int) 256 ∧ Only g w wr)) (fun _ i _ => L.length - (intOf i).toNat)
  case atStart => exact ⟨0, 4294967295, by omega, by omega, hid (by simp [regC, joinL]), rfl, rfl, hid (by simpa [joinL] using H1.out)⟩
  case round =>
    obtain ⟨k, m, hk, hm, Hm, rfl, rfl, HW⟩ := hrel
    by_cases hlt : k < L.length
    · obtain ⟨ad, rfl, hB, hcell⟩ := (STexts.only HS.out HW.out.2) k hlt
      have Hlen : Hid ((joinL (L.take (k + 1))).length = (joinL (L.take k)).length + (L[k]).length) := hid (by rw [joinL_take _ _ hlt, List.length_append])
      have hle := joinL_take_le L (k + 1)
      have hsz : (L[k]).length ≤ 1000000000 := by have := HN.out; have := Hlen.out; omega
      have HQ : Hid (∀ j (h : j < (L[k]).length), regC m ((L[k]).take (j + 1)) = stepC (regC m ((L[k]).take j)) ((L[k])[j]).toNat) := hid fun j h => by rw [take_snoc _ _ h, regC_snoc]
      go_wp2_with fail
      go_loopw [5, 25] (fun r i wr2 => ∃ j q : Nat, j ≤ (L[k]).length ∧ q < 4294967296 ∧ Hid (q = regC m ((L[k]).take j)) ∧ i = .int .i64 j ∧ r = .int .u32 q ∧ Hid (Mc wr2 g 1 0 1 ((n + (joinL (L.take k)).length : Nat) : Int) 256 ∧ Only g w wr2)) (fun _ i _ => (L[k]).length - (intOf i).toNat)
      case atStart => exact ⟨0, m, by omega, hm, hid (by simp [regC]), rfl, rfl, HW⟩
      case round =>
        obtain ⟨j, q, hj, hq, Hq, rfl, rfl, HW2⟩ := hrel
        by_cases hjl : j < (L[k]).length
        · have hcb := UInt8.toNat_lt (L[k])[j]
          obtain ⟨c, hcd⟩ : ∃ c : Nat, c = ((L[k])[j]).toNat := ⟨_, rfl⟩
          obtain ⟨p, hp⟩ : ∃ p : Nat, p = q % 256 := ⟨_, rfl⟩
          obtain ⟨x, hx⟩ : ∃ x : Nat, x = p ^^^ c := ⟨_, rfl⟩
          obtain ⟨t, ht⟩ : ∃ t : Nat, t = tab x := ⟨_, rfl⟩
          have hp8 : p < 256 := by omega
          have hxb : x < 256 := by rw [hx]; exact Nat.xor_lt_two_pow (n := 8) hp8 (by omega)
          have htb : t < 4294967296 := by rw [ht]; exact tab_lt hxb
          have HST : Hid (stepC q c = (q / 256) ^^^ t) := hid (by rw [ht, hx, hp]; exact stepC_eq _ _ (by omega))
          have hcell2 : wr.cell? ⟨g, 3 + x, none⟩ = some (.int .u32 (t : Int)) := by rw [HW2.out.1.ct hxb, if_pos hxb, ht]
          have hw8 : IntKind.u8.wrap (q : Int) = (p : Int) := by rw [IntKind.wrap_u8', hp]; rfl
          have hx8 : bits .xor .u8 (p : Int) (((L[k])[j]).toNat : Int) = (x : Int) := by rw [hx, hcd]; exact u8_xor_nat _ _ hp8 hcb
          have hx9 : bits .xor .u8 ((q : Int) % 256) (((L[k])[j]).toNat : Int) = (x : Int) := by rw [← hx8, hp]; rfl
          have HC := hid hcd
          clear hcd hp hx ht hcb
          go_wp2_with fail
          go_quiet (fail)
          go_wp2_with fail
          go_roundw
          case rel =>
            refine ⟨j + 1, q / 256 ^^^ t, by omega, Nat.xor_lt_two_pow (n := 32) (by omega) (by omega), hid ?_, by go_num, ?_, hid ⟨HW2.out.1.drewN _, ?_⟩⟩
            · rw [HQ.out j hjl, ← Hq.out, ← HC.out, HST.out]
            · rw [← u32xor (q / 256) t (by omega) htb]; rfl
            · exact HW2.out.2.drewN _
          case measure => simp [intOf]; omega
        · obtain rfl : j = (L[k]).length := by omega
          have hM := HW2.out.1
          have hc := hM.cn
          have hz := hM.free 260
          have HCZ := hid (And.intro hc hz)
          clear hc hz hM
          go_wp2_with fail
          refine (cadd_any _ _ _ _ HCZ.out.1 HCZ.out.2 (by have := HN.out; have := Hlen.out; omega)).mono ?_
          rintro e w3 ⟨rfl, rfl⟩
          go_wp2_with fail
          go_roundw
          case rel =>
            refine ⟨k + 1, q, by omega, hq, hid ?_, by go_num, rfl, hid ⟨?_, ?_⟩⟩
            · rw [joinL_take _ _ hlt, regC_append, ← Hm.out, Hq.out, List.take_length]
            · rw [Hlen.out, ← Nat.add_assoc]; exact HW2.out.1.setn _
            · exact HW2.out.2.set _ _
          case measure => simp [intOf]; omega
    · obtain rfl : k = L.length := by omega
      go_wp2
      go_ret
      have h1 := HW.out
      rw [List.take_length] at h1
      refine ⟨?_, h1⟩
      rw [crcS, ← u32xor _ _ (regC_lt _ (by omega)) (by omega), Hm.out, List.take_length]; rfl
end Go.Proofs.Ytijepbmoaenlpaa
