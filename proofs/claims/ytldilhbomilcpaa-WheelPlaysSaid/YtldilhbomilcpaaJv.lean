/- wheel: the definition's Sorted and Step. -/
import Derived.Test.YtldilhbomilcpaaJu
namespace Go.Proofs.Ytldilhbomilcpaa
set_option linter.unusedVariables false
set_option linter.unusedSimpArgs false
open Go.RowKit Go.Joins

theorem flt_take {α : Type} (p : α → Bool) (L : List α) (k : Nat) (h : k < L.length) : (L.take (k + 1)).filter p = (L.take k).filter p ++ if p L[k] = true then [L[k]] else [] := by
  rw [List.take_succ_eq_append_getElem h, List.filter_append, List.filter_cons]
  rfl
theorem whSorted_take (x : Whl) (i : Nat) : ((List.range (i + 1)).flatMap fun (i : Nat) => x.all.filter fun d => decide (d.2 = x.now + 1 + (i : Int))) = ((List.range i).flatMap fun (i : Nat) => x.all.filter fun d => decide (d.2 = x.now + 1 + (i : Int))) ++ x.all.filter fun d => decide (d.2 = x.now + 1 + (i : Int)) := range_flat _ i
set_option maxRecDepth 100000 in
set_option maxHeartbeats 8000000 in
theorem rsorted_any (x : Whl) (A : Option Addr) (cap : Nat) (w : World) (hR : GX encDu 2 w (· < w.heap.size) A x.all) (h0 : 0 ≤ x.now) (hnow : x.now ≤ 1000000) (hl : x.all.length ≤ 32) {n : Nat} (hn : x.all.length = n) :
    Calls Try.prog 29 #[.agg #[.int .i64 x.now, .slice A n cap]] w fun e w' => ∃ v, e = .returned v ∧ GB encDu 2 76 w' w.heap.size v (whSorted x) ∧ Below w.heap.size w w' := by
  have HFS := hid (whSorted_take x)
  have HSO : Hid (whSorted x = (List.range 50).flatMap fun (i : Nat) => x.all.filter fun d => decide (d.2 = x.now + 1 + (i : Int))) := hid rfl
  have HFL := hid (fun i => flat_len (fun (i : Nat) => x.all.filter fun d => decide (d.2 = x.now + 1 + (i : Int))) 32 (fun j => Nat.le_trans (List.length_filter_le _ _) hl) i)
  generalize whSorted x = SO at *
  obtain ⟨now, all⟩ := x
  simp only at hR h0 hnow hl hn HFS HSO HFL ⊢
  have hb0 := enew w (.cells #[.int .i64 now, .slice A n cap] 43)
  have KX := hid (BWh.new w now (.slice A n cap))
  have HBb := hid hb0
  have HR := hid (hR.up hb0)
  have HN := hid hn
  have hn32 : n ≤ 32 := by omega
  clear hb0 hR hn hl
  go_enter Try.func29, Try.ntmps29
  go_upto_region 1 with (fail)
  generalize w.alloc (.cells #[.int .i64 now, .slice A n cap] 43) = v0 at *
  obtain ⟨x0, x1⟩ := KX.out.cells
  go_wp2_with fail
  clear x0 x1
  go_loopg [3, 4] 50 (fun g1 v vt wr => ∃ (i : Nat) (tt : Int), vt = .int .i64 tt ∧ i ≤ 50 ∧ 50 - i ≤ g1 ∧ tt ≤ 1000051 ∧ 0 ≤ tt ∧ Hid (tt = now + 1 + (i : Int)) ∧ Hid (GB encDu 2 76 wr v0.heap.size v ((List.range i).flatMap fun (i : Nat) => all.filter fun d => decide (d.2 = now + 1 + (i : Int))) ∧ Below v0.heap.size v0 wr))
  case atStart => exact ⟨0, now + 1, rfl, by omega, by omega, by omega, by omega, hid (by simp), hid ⟨GB.nil _ _, Below.refl _ _⟩⟩
  case round =>
    obtain ⟨i, tt, rfl, hik, hgk, ht6, ht0, HTT, HI⟩ := hrel
    obtain ⟨wz, hwz⟩ : ∃ wz, wz = wr := ⟨_, rfl⟩
    subst hwz
    obtain ⟨x0, x1⟩ := (KX.out.up HI.out.2).cells
    by_cases hlt : i < 50
    · have hle : decide (tt ≤ now + 50) = true := decide_eq_true (by have := HTT.out; omega)
      have hle2 : tt ≤ now + 50 := of_decide_eq_true hle
      have HFI := hid (HFL.out i)
      have hFS := HFS.out i
      rw [← HTT.out] at hFS
      have HF2 := hid hFS
      generalize ((List.range i).flatMap fun (i : Nat) => all.filter fun d => decide (d.2 = now + 1 + (i : Int))) = P at *
      clear hFS
      go_wp2_with fail
      clear x0 x1
      go_loopg [3, 5] n (fun g2 v vj wr => ∃ j : Nat, vj = .int .i64 j ∧ j ≤ n ∧ n - j ≤ g2 ∧ Hid (GB encDu 2 76 wr v0.heap.size v (P ++ (all.take j).filter fun d => decide (d.2 = tt)) ∧ Below v0.heap.size v0 wr))
      case atStart => exact ⟨0, rfl, by omega, by omega, hid ⟨by simpa using HI.out.1, HI.out.2⟩⟩
      case round =>
        obtain ⟨j, rfl, hjm, hgj, HJ⟩ := hrel
        obtain ⟨wy, hwy⟩ : ∃ wy, wy = wr := ⟨_, rfl⟩
        subst hwy
        obtain ⟨x0, x1⟩ := (KX.out.up HJ.out.2).cells
        by_cases hlt2 : j < n
        · have hjL : j < all.length := by have := HN.out; omega
          obtain ⟨b, o, rfl, hb, hc0, hc1⟩ := (HR.out.up HJ.out.2).du j hjL
          have HTK := hid (flt_take (fun d => decide (d.2 = tt)) all j hjL)
          have HTL := hid (Nat.le_trans (List.length_filter_le (fun d => decide (d.2 = tt)) (all.take j)) (List.length_take_le j all))
          generalize all[j] = d at *
          obtain ⟨da, db⟩ := d
          simp only at hc0 hc1 HTK
          have hkz : (j : Int) < (n : Int) := by omega
          have hkd : decide ((j : Int) < (n : Int)) = true := decide_eq_true hkz
          have hj0 : (0 : Int) ≤ (j : Int) := by omega
          have hjadd : IntKind.i64.wrap ((j : Int) + 1) = (j : Int) + 1 := IntWalk.i64_in _ (by omega)
          by_cases he : db = tt
          · subst he
            have HTK2 := hid (show (all.take (j + 1)).filter (fun d => decide (d.2 = db)) = (all.take j).filter (fun d => decide (d.2 = db)) ++ [(da, db)] by rw [HTK.out]; simp)
            clear HTK
            have hq : (db == db) = true := by simp
            have hnb := enew wy (.cells #[.int .i64 da, .int .i64 db] 76)
            go_wp2_with (at_builtin; refine wpList_append_gx (W0 := v0) rowDu rfl _ _ rfl v0.heap.size _ (P ++ (all.take j).filter fun d => decide (d.2 = db)) [(da, db)] (some ⟨wy.heap.size, 0, none⟩) 1 (fun b => b = wy.heap.size) rfl (HJ.out.1.below hnb) rfl (gx_new (M := [(da, db)]) encDu_len (Bk.new wy 76 _) rfl) (fun h => by cases h) (by have := HTL.out; have := HFI.out; simp only [List.length_append, List.length_cons, List.length_nil]; omega) (estep HJ.out.2 hnb) (Nat.le_refl _) ?_)
            intro v3 w3 hF hbel hgr
            have HF : Hid (GB encDu 2 76 w3 v0.heap.size v3 (P ++ (all.take (j + 1)).filter fun d => decide (d.2 = db)) ∧ Below v0.heap.size v0 w3) := hid ⟨by rw [HTK2.out]; exact hF, hbel⟩
            clear hF hbel hgr hnb hc0 hc1 x0 x1
            go_wp2_with fail
            go_roundg (n - (j + 1))
            case measure => omega
            case rel => exact ⟨j + 1, by first | rfl | go_num | simp, by omega, by omega, HF⟩
          · have HTK2 := hid (show (all.take (j + 1)).filter (fun d => decide (d.2 = tt)) = (all.take j).filter (fun d => decide (d.2 = tt)) by rw [HTK.out]; simp [he])
            clear HTK
            have hq : (db == tt) = false := by simpa using he
            have hq2 : decide (db = tt) = false := decide_eq_false he
            have HF : Hid (GB encDu 2 76 wy v0.heap.size u3 (P ++ (all.take (j + 1)).filter fun d => decide (d.2 = tt)) ∧ Below v0.heap.size v0 wy) := hid ⟨by rw [HTK2.out]; exact HJ.out.1, HJ.out.2⟩
            clear he
            go_wp2_with fail
            go_roundg (n - (j + 1))
            case measure => omega
            case rel => exact ⟨j + 1, by first | rfl | go_num | simp, by omega, by omega, HF⟩
        · obtain rfl : j = n := by omega
          have hkz : ¬ (j : Int) < (j : Int) := by omega
          have HE : Hid (GB encDu 2 76 wy v0.heap.size u3 ((List.range (i + 1)).flatMap fun (i : Nat) => all.filter fun d => decide (d.2 = now + 1 + (i : Int))) ∧ Below v0.heap.size v0 wy) := hid ⟨by
            have h1 := HJ.out.1
            rw [show all.take j = all by rw [← HN.out]; exact List.take_length] at h1
            rw [HF2.out]; exact h1, HJ.out.2⟩
          have HT2 : Hid (tt + 1 = now + 1 + ((i + 1 : Nat) : Int)) := hid (by have := HTT.out; omega)
          have hadd : IntKind.i64.wrap (tt + 1) = tt + 1 := IntWalk.i64_in _ (by omega)
          clear HJ
          go_wp2_with fail
          go_roundg (50 - (i + 1))
          case measure => omega
          case rel => exact ⟨i + 1, tt + 1, by first | rfl | go_num | simp, by omega, by omega, by have := HTT.out; omega, by omega, HT2, HE⟩
    · obtain rfl : i = 50 := by omega
      have hle : decide (tt ≤ now + 50) = false := decide_eq_false (by have := HTT.out; omega)
      have hle2 : ¬ tt ≤ now + 50 := of_decide_eq_false hle
      have h1 := HI.out
      rw [← HSO.out] at h1
      have H1 := hid h1
      clear h1
      go_wp2_with fail
      go_returns
      exact ⟨_, rfl, GB.more H1.out.1 HBb.out.size, estep HBb.out H1.out.2⟩
end Go.Proofs.Ytldilhbomilcpaa
