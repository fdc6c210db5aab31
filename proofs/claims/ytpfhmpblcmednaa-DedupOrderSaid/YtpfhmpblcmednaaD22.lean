/- Texts put together: Ng. -/
import Derived.Test.YtpfhmpblcmednaaD19
import Derived.Test.YtpfhmpblcmednaaD21
import Derived.Test.YtpfhmpblcmednaaD01
import Derived.Deep.RegionLaw
namespace Go.Proofs.Ytpfhmpblcmednaa
set_option linter.unusedVariables false
set_option linter.unusedSimpArgs false
open Go.RowKit Go.Joins

theorem cnan_any (a : Int) (w : World) : Calls Try.prog 151 #[.int .i64 a] w fun e w' => e = .returned (.bool false) ∧ w' = w := by
  go_enter Try.func151, Try.ntmps151
  go_wp2_with fail
  go_returns
  exact ⟨by simp, rfl⟩
theorem snan_any (a : Int) (w : World) : Calls Try.prog 142 #[.int .i64 a] w fun e w' => e = .returned (.bool false) ∧ w' = w := by
  go_enter Try.func142, Try.ntmps142
  go_wp2_with fail
  go_returns
  exact ⟨by simp, rfl⟩
theorem cless_any (a b : Int) (w : World) {z : Bool} (H : Hid (decide (a < b) = z)) : Calls Try.prog 141 #[.int .i64 a, .int .i64 b] w fun e w' => e = .returned (.bool z) ∧ Below w.heap.size w w' := by
  have hc := cnan_any
  have hz := H.out
  go_enter Try.func141, Try.ntmps141
  go_wp2_with fail
  refine (hc a w).mono ?_
  rintro e w1 ⟨rfl, rfl⟩
  go_wp2_with fail
  go_returns
  exact ⟨by simp [hz], by first | exact Below.refl _ _ | exact below_drewN (Below.refl _ _) _⟩
/-- Where a number would stand in a rising list. -/
structure SrR (w : World) (L : List Int) (s : Int) (e : Ending) (w' : World) : Prop where
  ex : ∃ (i : Nat) (b : Bool), e = .returned (.tuple #[.int .i64 (i : Int), .bool b]) ∧ i ≤ L.length ∧ (∀ k (h : k < L.length), k < i → L[k] < s) ∧ (∀ k (h : k < L.length), i ≤ k → s ≤ L[k])
  bel : Below w.heap.size w w'
set_option maxRecDepth 100000 in
set_option maxHeartbeats 4000000 in
theorem bsearch_any (A : Option Addr) (c n : Nat) (L : List Int) (s : Int) (w : World) (hA : GX encWi 1 w (· < w.heap.size) A L) (hn : Hid (L.length = n)) (hl : n ≤ 1000) (hp : L.Pairwise (· < ·)) :
    Calls Try.prog 135 #[.slice A n c, .int .i64 s] w fun e w' => SrR w L s e w' := by
  have HA := hid hA
  have HP := hid (List.pairwise_iff_getElem.1 hp)
  have hsn := snan_any
  clear hA hp
  go_enter Try.func135, Try.ntmps135
  go_wp2_with fail
  go_loopg [7, 8] n (fun g1 vi vj wr => ∃ i j : Nat, vi = .int .i64 (i : Int) ∧ vj = .int .i64 (j : Int) ∧ i ≤ j ∧ j ≤ n ∧ j - i ≤ g1 ∧ Hid (Below w.heap.size w wr ∧ (∀ k (h : k < L.length), k < i → L[k] < s) ∧ (∀ k (h : k < L.length), j ≤ k → s ≤ L[k])))
  case atStart => exact ⟨0, n, rfl, rfl, by omega, by omega, by omega, hid ⟨Below.refl _ _, fun k h h2 => by omega, fun k h h2 => by have := hn.out; omega⟩⟩
  case round =>
    obtain ⟨i, j, rfl, rfl, hij, hjn, hgk, HK⟩ := hrel
    obtain ⟨wz, hwz⟩ : ∃ wz, wz = wr := ⟨_, rfl⟩
    subst hwz
    by_cases hlt : i < j
    · have hltz : (i : Int) < (j : Int) := by omega
      obtain ⟨h, hh⟩ : ∃ h, (i + j) / 2 = h := ⟨_, rfl⟩
      have hih : i ≤ h ∧ h < j := by omega
      have hhn : h < n := by omega
      have hhL : h < L.length := by have := hn.out; omega
      obtain ⟨b, o, rfl, hB1, hc0⟩ := (HA.out.up HK.out.1).wi h hhL
      obtain ⟨x, hx⟩ : ∃ x, L[h] = x := ⟨_, rfl⟩
      have HX := hid hx
      rw [hx] at hc0
      clear hx
      have hh0 : (0 : Int) ≤ (h : Int) := by omega
      have hh1 : (h : Int) < (n : Int) := by omega
      have hltd : decide ((i : Int) < (j : Int)) = true := decide_eq_true hltz
      have hhz : ((i : Int) + (j : Int)) / 2 = (h : Int) := by omega
      have hadd : IntKind.i64.wrap ((h : Int) + 1) = ((h + 1 : Nat) : Int) := by rw [IntWalk.i64_in _ (by omega)]; push_cast; rfl
      obtain ⟨z, hz⟩ : ∃ z, decide (x < s) = z := ⟨_, rfl⟩
      have HL := hid (cless_any x s wz (hid hz))
      have HZ := hid hz
      clear hz
      go_wp2_with fail
      refine HL.out.mono ?_
      rintro e w1 ⟨rfl, hb1⟩
      have HBl := hid (estep HK.out.1 hb1)
      clear hb1 HL hc0
      cases z
      · have hge : s ≤ x := by have := of_decide_eq_false HZ.out; omega
        have HN := hid (show ∀ k (hk : k < L.length), h ≤ k → s ≤ L[k] from fun k hk hhk => by
          rcases Nat.lt_or_eq_of_le hhk with hlt2 | rfl
          · have := HP.out h k hhL hk hlt2; rw [HX.out] at this; omega
          · rw [HX.out]; exact hge)
        clear hge
        go_wp2_with fail
        go_roundg (h - i)
        case measure => omega
        case rel => exact ⟨i, h, rfl, rfl, by omega, by omega, by omega, hid ⟨HBl.out, HK.out.2.1, HN.out⟩⟩
      · have hlx : x < s := of_decide_eq_true HZ.out
        have HN := hid (show ∀ k (hk : k < L.length), k < h + 1 → L[k] < s from fun k hk hhk => by
          rcases Nat.lt_or_eq_of_le (Nat.le_of_lt_succ hhk) with hlt2 | rfl
          · have := HP.out k h hk hhL hlt2; rw [HX.out] at this; omega
          · rw [HX.out]; exact hlx)
        clear hlx
        go_wp2_with fail
        go_roundg (j - (h + 1))
        case measure => omega
        case rel => exact ⟨h + 1, j, by go_num, rfl, by omega, by omega, by omega, hid ⟨HBl.out, HN.out, HK.out.2.2⟩⟩
    · obtain rfl : i = j := by omega
      have hltd : decide ((i : Int) < (i : Int)) = false := by simp
      by_cases hin : i < n
      · have hhL : i < L.length := by have := hn.out; omega
        obtain ⟨b, o, rfl, hB1, hc0⟩ := (HA.out.up HK.out.1).wi i hhL
        obtain ⟨x, hx⟩ : ∃ x, L[i] = x := ⟨_, rfl⟩
        rw [hx] at hc0
        clear hx
        have hi0 : (0 : Int) ≤ (i : Int) := by omega
        have hi1 : (i : Int) < (n : Int) := by omega
        have hi2 : decide ((i : Int) < (n : Int)) = true := decide_eq_true hi1
        obtain ⟨y, hy⟩ : ∃ y, (x == s) = y := ⟨_, rfl⟩
        cases y
        · go_wp2_with fail
          refine (hsn x wz).mono ?_
          rintro e w1 ⟨rfl, rfl⟩
          go_wp2_with fail
          go_returns
          exact ⟨⟨i, _, rfl, by have := hn.out; omega, HK.out.2.1, HK.out.2.2⟩, HK.out.1⟩
        · go_wp2_with fail
          go_returns
          exact ⟨⟨i, _, rfl, by have := hn.out; omega, HK.out.2.1, HK.out.2.2⟩, HK.out.1⟩
      · obtain rfl : i = n := by omega
        go_wp2_with fail
        go_returns
        exact ⟨⟨i, _, rfl, by have := hn.out; omega, HK.out.2.1, HK.out.2.2⟩, HK.out.1⟩
section
variable {α : Type} {enc : α → List Value} {k : Nat} {e : TypeId} {P : Program} {t : TypeId} {z : Value} {bytes : Nat}
/-- append of rows that lie anywhere, at a step of a region that draws. -/
theorem step_append_ga (T : RowT P enc k t e z bytes) {ops : Array Oper} {o : Oper} {a : Act} {K : Act → World → Prop} {Q : Exit → Act → World → Prop} {E : Prop} {w : World} (hgd : o.guard = none) (s x : Operand)
    (ho : o.op = .call { callee := .builtin .append, args := #[s, x], argTypes := #[t, t] }) (base : Nat) (v : Value) (L M : List α) (ad : Addr) (m cap : Nat)
    (hs : a.eval s = v) (hown : GB enc k e w base v L) (hx : a.eval x = .slice (some ad) m cap) (hM : M.length = m) (hR : ∀ j u, (gvals enc M)[j]? = some u → w.cell? (ad.add j) = some u)
    (hl : L.length + M.length ≤ 10000000) (hbase : base ≤ w.heap.size) (h : ∀ v' w', GB enc k e w' base v' (L ++ M) → w.grownBy w' v.ownBlock → K (a.put o.dst v') w') :
    if Region.wanted o (yielded ops a.tmps) = true then Oper.wp P o a w K Q else E := by
  subst hM
  have hw : Region.wanted o (yielded ops a.tmps) = true := by simp [Region.wanted, hgd]
  rw [if_pos hw]
  obtain ⟨i0, hi, hz0, hz1, hz2⟩ := info_parts T.inf
  have hby : (L.length + M.length) * bytes ≤ 140737488355328 := Nat.le_trans (Nat.mul_le_mul hl T.hb) (by omega)
  have fin : ∀ v' w', w'.ownsRow base e k v' (L.length + M.length) (gvals enc L ++ gvals enc M) → w.grownBy w' v.ownBlock → (v' = .slice none 0 0 ↔ v = .slice none 0 0 ∧ M.length = 0) → K (a.put o.dst v') w' := by
    intro v' w' h1 h2 _
    refine h v' w' ?_ h2
    unfold GB
    rw [List.length_append, ← gvals_append]
    exact h1
  exact wp_append_own w s x t ho base e i0 z k bytes T.ht hi hz0 hz1 hz2 T.hzs T.k0 v L.length (gvals enc L) hs hown ad M.length cap
    (gvals enc M) hx (gvals_len enc k T.hk M) hR (fun u hu => by
      simp only [gvals, List.mem_flatMap] at hu
      obtain ⟨y, _, hu⟩ := hu
      exact T.h1 y u hu) (by unfold maxLen; omega) hby hbase fin
end
end Go.Proofs.Ytpfhmpblcmednaa
