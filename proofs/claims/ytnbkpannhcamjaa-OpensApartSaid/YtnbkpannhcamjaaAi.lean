/- opens: slices.Concat of two lists; the definition's Same where both sides are the same. -/
import Derived.Test.YtnbkpannhcamjaaAh
namespace Go.Proofs.Ytnbkpannhcamjaa
set_option linter.unusedVariables false
set_option linter.unusedSimpArgs false
open Go.RowKit Go.Joins

set_option maxRecDepth 100000 in
set_option maxHeartbeats 8000000 in
theorem opcat_any (q n1 n2 c1 c2 : Nat) (A1 A2 : Option Addr) (L1 L2 : List Opn) (w : World) (hq : Bk w q 22 #[.slice A1 n1 c1, .slice A2 n2 c2]) (h1 : GX encO 12 w (· < w.heap.size) A1 L1) (e1 : A1 = none → c1 = 0) (m1 : L1.length = n1) (h2 : GX encO 12 w (· < w.heap.size) A2 L2) (e2 : A2 = none → c2 = 0) (m2 : L2.length = n2) (hl : n1 + n2 ≤ 1000000) :
    Calls Try.prog 16 #[.slice (some ⟨q, 0, none⟩) 2 2] w fun e w' => ∃ y, e = .returned y ∧ GB encO 12 44 w' w.heap.size y (L1 ++ L2) ∧ Below w.heap.size w w' := by
  have H1 := hid (And.intro h1 (And.intro e1 m1))
  have H2 := hid (And.intro h2 (And.intro e2 m2))
  have HQ := hid hq
  have q0 : w.cell? ⟨q, 0, none⟩ = some (.slice A1 n1 c1) := Bk.cell hq 0
  have q1 : w.cell? ⟨q, 1, none⟩ = some (.slice A2 n2 c2) := Bk.cell hq 1
  obtain ⟨n, hn⟩ : ∃ n : Nat, n1 + n2 = n := ⟨_, rfl⟩
  have hnz : (n1 : Int) + (n2 : Int) = (n : Int) := by omega
  have HGr := hid (fun w2 : World => grow_nil n (by omega) w2)
  clear hq h1 e1 m1 h2 e2 m2
  go_enter Try.func16, Try.ntmps16
  go_wp2_with fail
  go_loopw [3, 11] (fun s i wr => w = wr ∧ ((i = .int .i64 0 ∧ s = .int .i64 0) ∨ (i = .int .i64 1 ∧ s = .int .i64 (n1 : Int)) ∨ (i = .int .i64 2 ∧ s = .int .i64 (n : Int)))) (fun _ i _ => 2 - (intOf i).toNat)
  case atStart => exact ⟨rfl, Or.inl ⟨rfl, rfl⟩⟩
  case round =>
    obtain ⟨rfl, ⟨rfl, rfl⟩ | ⟨rfl, rfl⟩ | ⟨rfl, rfl⟩⟩ := hrel
    · have g1 : ¬ ((n1 : Int) < 0) := by omega
      go_wp2_with fail
      go_roundw
      case rel => exact ⟨by trivial, Or.inr (Or.inl ⟨by trivial, by go_num⟩)⟩
      case measure => decide
    · have g1 : ¬ ((n : Int) < 0) := by omega
      have g2 : wrap64 ((n1 : Int) + (n2 : Int)) = (n : Int) := by unfold wrap64; omega
      have g3 : IntKind.i64.wrap ((n1 : Int) + (n2 : Int)) = (n : Int) := by rw [IntKind.wrap_i64]; omega
      go_wp2_with fail
      go_roundw
      case rel => exact ⟨by trivial, Or.inr (Or.inr ⟨by trivial, by first | trivial | go_num⟩)⟩
      case measure => decide
    · clear q0 q1 hn hnz
      go_wp2_with fail
      refine (HGr.out _).mono ?_
      rintro e w1 ⟨y, rfl, hy, hb1⟩
      have HY := hid (And.intro hy hb1)
      clear hy hb1
      go_wp2_with fail
      go_loopw [6, 27] (fun s i wr => Hid (Below w.heap.size w wr) ∧ ((i = .int .i64 0 ∧ Hid (GB encO 12 44 wr w.heap.size s [])) ∨ (i = .int .i64 1 ∧ Hid (GB encO 12 44 wr w.heap.size s L1)) ∨ (i = .int .i64 2 ∧ Hid (GB encO 12 44 wr w.heap.size s (L1 ++ L2))))) (fun _ i _ => 2 - (intOf i).toNat)
      case atStart => exact ⟨hid HY.out.2, Or.inl ⟨rfl, hid HY.out.1⟩⟩
      case round =>
        obtain ⟨HBe, ⟨rfl, HG⟩ | ⟨rfl, HG⟩ | ⟨rfl, HG⟩⟩ := hrel
        · have q2 : wr.cell? ⟨q, 0, none⟩ = some (.slice A1 n1 c1) := Bk.cell (HQ.out.up HBe.out) 0
          have HX := hid (H1.out.1.up HBe.out)
          go_wp2_with (at_builtin; refine wpList_append_gx (W0 := w) rowO rfl _ _ rfl w.heap.size _ [] L1 A1 c1 (· < wr.heap.size) rfl HG.out (by rw [H1.out.2.2]; rfl) HX.out H1.out.2.1 (by have := H1.out.2.2; simp only [List.length_nil]; omega) HBe.out (Nat.le_refl _) ?_)
          intro v3 w3 hF3 hb3 hg3
          have HF3 := hid (And.intro hF3 hb3)
          clear hF3 hb3 hg3
          go_wp2_with fail
          go_roundw
          case rel => exact ⟨hid HF3.out.2, Or.inr (Or.inl ⟨by trivial, hid HF3.out.1⟩)⟩
          case measure => decide
        · have q2 : wr.cell? ⟨q, 1, none⟩ = some (.slice A2 n2 c2) := Bk.cell (HQ.out.up HBe.out) 1
          have HX := hid (H2.out.1.up HBe.out)
          go_wp2_with (at_builtin; refine wpList_append_gx (W0 := w) rowO rfl _ _ rfl w.heap.size _ L1 L2 A2 c2 (· < wr.heap.size) rfl HG.out (by rw [H2.out.2.2]; rfl) HX.out H2.out.2.1 (by have := H1.out.2.2; have := H2.out.2.2; omega) HBe.out (Nat.le_refl _) ?_)
          intro v3 w3 hF3 hb3 hg3
          have HF3 := hid (And.intro hF3 hb3)
          clear hF3 hb3 hg3
          go_wp2_with fail
          go_roundw
          case rel => exact ⟨hid HF3.out.2, Or.inr (Or.inr ⟨by trivial, hid HF3.out.1⟩)⟩
          case measure => decide
        · go_wp2_with fail
          go_returns
          exact ⟨_, rfl, HG.out, HBe.out⟩
set_option maxRecDepth 100000 in
set_option maxHeartbeats 4000000 in
/-- Same of lists that are alike. -/
theorem opsame_any (u v : Value) (L : List Opn) (w : World) (hA0 : OV w u L) (hB0 : OV w v L) (hl0 : L.length ≤ 1000000) :
    Calls Try.prog 13 #[u, v] w fun e w' => e = .returned (.bool true) ∧ Below w.heap.size w w' := by
  obtain ⟨A, ca, rfl, hA, -, -, -⟩ := hA0
  obtain ⟨B, cb, rfl, hB, -, -, -⟩ := hB0
  obtain ⟨n, hn⟩ : ∃ n, L.length = n := ⟨_, rfl⟩
  rw [hn] at hl0 ⊢
  have HA := hid hA
  have HBr := hid hB
  have HNl := hid hn
  have hg := opo_guard
  have hq := opo_neq
  clear hA hB hn
  go_enter Try.func13, Try.ntmps13
  go_wp2_with fail
  go_loopw [5] (fun i wr => ∃ k : Nat, k ≤ n ∧ i = .int .i64 k ∧ Hid (Below w.heap.size w wr)) (fun i _ => n - (intOf i).toNat)
  case atStart => exact ⟨0, by omega, rfl, hid (Below.refl _ _)⟩
  case round =>
    obtain ⟨k, hk, rfl, HK⟩ := hrel
    by_cases hlt : k < n
    · have hkL : k < L.length := by have := HNl.out; omega
      obtain ⟨b, o, rfl, -, r0, r1, r2, r3, r4, r5, r6, r7, r8, r9, r10, r11⟩ := op_cells (HA.out.up HK.out) (List.getElem?_eq_getElem hkL)
      obtain ⟨b2, o2, rfl, -, s0, s1, s2, s3, s4, s5, s6, s7, s8, s9, s10, s11⟩ := op_cells (HBr.out.up HK.out) (List.getElem?_eq_getElem hkL)
      generalize L[k] = x at *
      obtain ⟨m, s⟩ := x
      have hi0 : (0 : Int) ≤ (k : Int) := by omega
      have hi1 : (k : Int) < (n : Int) := by omega
      go_wp2_with fail
      go_quiet (fail)
      go_wp2_with fail
      go_roundw
      case rel => exact ⟨k + 1, by omega, by go_num, hid (below_drewN HK.out _)⟩
      case measure => simp [intOf]; omega
    · obtain rfl : k = n := by omega
      go_wp2_with fail
      go_ret
      exact ⟨rfl, HK.out⟩
end Go.Proofs.Ytnbkpannhcamjaa
