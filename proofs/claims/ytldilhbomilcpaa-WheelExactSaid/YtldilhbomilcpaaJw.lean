/- wheel: the definition's Step. -/
import Derived.Test.YtldilhbomilcpaaJv
namespace Go.Proofs.Ytldilhbomilcpaa
set_option linter.unusedVariables false
set_option linter.unusedSimpArgs false
open Go.RowKit Go.Joins

/-- What the definition's Step answers. -/
def RwT (w : World) (x : Whl) (e : Ending) (w' : World) : Prop := ∃ A c A2 c2, e = .returned (.tuple #[.slice A (whDue x).length c, .agg #[.int .i64 (whStep x).now, .slice A2 (whStep x).all.length c2]]) ∧ GX encWi 1 w' (fun b => w.heap.size ≤ b ∧ b < w'.heap.size) A (whDue x) ∧ GX encDu 2 w' (fun b => w.heap.size ≤ b ∧ b < w'.heap.size) A2 (whStep x).all ∧ (A2 = none → c2 = 0) ∧ Below w.heap.size w w'
/-- What Step's loop knows: what is due, and the rest. -/
def StL (v0 wr : World) (vd vr : Value) (D : List Int) (R : List (Int × Int)) : Prop := GB encWi 1 3 wr v0.heap.size vd D ∧ GB encDu 2 76 wr v0.heap.size vr R ∧ Below v0.heap.size v0 wr
theorem StL.up {v0 wr w2 : World} {vd vr : Value} {D : List Int} {R : List (Int × Int)} (h : StL v0 wr vd vr D R) (hb : Below wr.heap.size wr w2) : StL v0 w2 vd vr D R := ⟨h.1.below hb, h.2.1.below hb, estep h.2.2 hb⟩
theorem ne_types : 3 ≠ 76 := by decide
set_option maxRecDepth 100000 in
set_option maxHeartbeats 8000000 in
theorem rstep_any (x : Whl) (A : Option Addr) (cap : Nat) (w : World) (hR : GX encDu 2 w (· < w.heap.size) A x.all) (h0 : 0 ≤ x.now) (hnow : x.now ≤ 1000000) {n : Nat} (hn : x.all.length = n) (hl : n ≤ 32) :
    Calls Try.prog 20 #[.agg #[.int .i64 x.now, .slice A n cap]] w fun e w' => RwT w x e w' := by
  have HDU : Hid (whDue x = (x.all.filter fun d => decide (d.2 ≤ x.now + 1)).map (·.1)) := hid rfl
  have HSN : Hid ((whStep x).now = x.now + 1) := hid rfl
  have HSA : Hid ((whStep x).all = x.all.filter fun d => !decide (d.2 ≤ x.now + 1)) := hid rfl
  unfold RwT
  generalize whDue x = DU at *
  generalize whStep x = SX at *
  obtain ⟨now, all⟩ := x
  simp only at hR h0 hnow hn HDU HSN HSA ⊢
  have hb0 := enew w (.cells #[.int .i64 now, .slice A n cap] 43)
  have hb1 := enew (w.alloc (.cells #[.int .i64 now, .slice A n cap] 43)) (.cells #[.int .i64 0, .slice none 0 0] 43)
  have kx := (BWh.new w now (.slice A n cap)).up hb1
  have kz := BWh.new (w.alloc (.cells #[.int .i64 now, .slice A n cap] 43)) 0 (.slice none 0 0)
  rw [World.size_alloc] at kz
  have HBb := hid (estep hb0 hb1)
  have KX := hid kx
  have KZ := hid kz
  have HR := hid hR
  have HN := hid hn
  clear hb0 hb1 kx kz hR hn
  go_enter Try.func20, Try.ntmps20
  go_upto_region 1 with (fail)
  generalize (w.alloc (.cells #[.int .i64 now, .slice A n cap] 43)).alloc (.cells #[.int .i64 0, .slice none 0 0] 43) = v0 at *
  obtain ⟨x0, x1⟩ := KX.out.cells
  obtain ⟨f0, f1⟩ := KX.out.froz
  have kx1 : BWh (v0.setCell ⟨w.heap.size, 0, none⟩ (.int .i64 (now + 1))) w.heap.size (now + 1) (.slice A n cap) := KX.out.set0 (now + 1)
  have kz1 : BWh (v0.setCell ⟨w.heap.size, 0, none⟩ (.int .i64 (now + 1))) (w.heap.size + 1) 0 (.slice none 0 0) := KZ.out.other (by omega) _
  have hsz : (v0.setCell ⟨w.heap.size, 0, none⟩ (.int .i64 (now + 1))).heap.size = v0.heap.size := World.size_setCell _ _ _
  have hlt0 : w.heap.size + 1 < v0.heap.size := Bk.lt KZ.out
  have hbw : Below w.heap.size w (v0.setCell ⟨w.heap.size, 0, none⟩ (.int .i64 (now + 1))) := HBb.out.setCell (Nat.le_refl _) _
  have KX1 := hid kx1
  have KZ1 := hid kz1
  have HB1 := hid hbw
  go_upto_region 2 with (fail)
  clear x0 x1 f0 f1 kx1 kz1 hbw KX KZ
  rw [← hsz] at hlt0
  clear hsz HBb
  generalize v0.setCell ⟨w.heap.size, 0, none⟩ (.int .i64 (now + 1)) = v1 at *
  have HG1 : Hid (GX encDu 2 v1 (· < v1.heap.size) A all) := hid ((HR.out.same fun b hb => HB1.out.block b hb).imp fun b hb => Nat.lt_of_lt_of_le hb HB1.out.size)
  go_wp2_with fail
  go_loopg [4, 5, 6] n (fun g1 vd vr vi wr => ∃ k : Nat, vi = .int .i64 k ∧ k ≤ n ∧ n - k ≤ g1 ∧ Hid (StL v1 wr vd vr (((all.take k).filter fun d => decide (d.2 ≤ now + 1)).map (·.1)) ((all.take k).filter fun d => !decide (d.2 ≤ now + 1))))
  case atStart => exact ⟨0, rfl, by omega, by omega, hid ⟨GB.nil _ _, GB.nil _ _, Below.refl _ _⟩⟩
  case round =>
    obtain ⟨k, rfl, hkn, hgk, HI⟩ := hrel
    obtain ⟨wy, hwy⟩ : ∃ wy, wy = wr := ⟨_, rfl⟩
    subst hwy
    obtain ⟨x0, x1⟩ := (KX1.out.up HI.out.2.2).cells
    by_cases hlt : k < n
    · have hkL : k < all.length := by have := HN.out; omega
      obtain ⟨b, o, rfl, hb, hc0, hc1⟩ := (HG1.out.up HI.out.2.2).du k hkL
      have HT1 := hid (flt_take (fun d => decide (d.2 ≤ now + 1)) all k hkL)
      have HT2 := hid (flt_take (fun d => !decide (d.2 ≤ now + 1)) all k hkL)
      have HL1 := hid (Nat.le_trans (List.length_filter_le (fun d => decide (d.2 ≤ now + 1)) (all.take k)) (List.length_take_le k all))
      have HL2 := hid (Nat.le_trans (List.length_filter_le (fun d => !decide (d.2 ≤ now + 1)) (all.take k)) (List.length_take_le k all))
      generalize all[k] = d at *
      obtain ⟨da, db⟩ := d
      simp only at hc0 hc1 HT1 HT2
      have hkz : (k : Int) < (n : Int) := by omega
      have hkd : decide ((k : Int) < (n : Int)) = true := decide_eq_true hkz
      have hk0 : (0 : Int) ≤ (k : Int) := by omega
      have hkadd : IntKind.i64.wrap ((k : Int) + 1) = (k : Int) + 1 := IntWalk.i64_in _ (by omega)
      by_cases he : db ≤ now + 1
      · have HD2 := hid (show ((all.take (k + 1)).filter fun d => decide (d.2 ≤ now + 1)).map (·.1) = ((all.take k).filter fun d => decide (d.2 ≤ now + 1)).map (·.1) ++ [da] by rw [HT1.out, List.map_append]; simp [he])
        have HR2 := hid (show (all.take (k + 1)).filter (fun d => !decide (d.2 ≤ now + 1)) = (all.take k).filter (fun d => !decide (d.2 ≤ now + 1)) by rw [HT2.out]; simp [he])
        have hq : decide (db ≤ now + 1) = true := decide_eq_true he
        clear HT1 HT2 he
        generalize ((all.take k).filter fun d => decide (d.2 ≤ now + 1)) = FD at *
        generalize ((all.take k).filter fun d => !decide (d.2 ≤ now + 1)) = FR at *
        go_wp2_with fail
        go_quiet (fail)
        have hbd : Below wy.heap.size wy (wy.drewN nq) := below_drewN (Below.refl _ _) _
        have HI2 : Hid (StL v1 (wy.drewN nq) u4 u5 (FD.map (·.1)) FR) := hid (HI.out.up hbd)
        obtain ⟨x0', x1'⟩ := (KX1.out.up HI2.out.2.2).cells
        have hc0' := (hbd.cell (lt_of_cell hc0)).trans hc0
        have hc1' := (hbd.cell (lt_of_cell hc1)).trans hc1
        clear x0 x1 hc0 hc1 hbd HI
        generalize wy.drewN nq = wq at *
        have hnb := enew wq (.cells #[.int .i64 da] 3)
        go_wp2_with (at_builtin; refine wpList_append_gx (W0 := v1) rowWi rfl _ _ rfl v1.heap.size _ (FD.map (·.1)) [da] (some ⟨wq.heap.size, 0, none⟩) 1 (fun b => b = wq.heap.size) ?hs (HI2.out.1.below hnb) rfl (gx_new (M := [da]) encWi_len (Bk.new wq 3 _) rfl) (fun h => by cases h) (by have := HL1.out; simp only [List.length_map, List.length_cons, List.length_nil]; omega) (estep HI2.out.2.2 hnb) (Nat.le_refl _) ?_; (case hs => rfl))
        intro v3 w3 hF hbel hgr
        have HF : Hid (StL v1 w3 v3 u5 (((all.take (k + 1)).filter fun d => decide (d.2 ≤ now + 1)).map (·.1)) ((all.take (k + 1)).filter fun d => !decide (d.2 ≤ now + 1))) := hid ⟨by rw [HD2.out]; exact hF, by rw [HR2.out]; exact GB.grown (HI2.out.2.1.below hnb) (HI2.out.1.below hnb) (Ne.symm ne_types) hgr, hbel⟩
        clear hF hbel hgr hnb hc0' hc1' x0' x1' HI2
        go_wp2_with fail
        go_roundg (n - (k + 1))
        case measure => omega
        case rel => exact ⟨k + 1, by first | rfl | go_num | simp, by omega, by omega, HF⟩
      · have HD2 := hid (show ((all.take (k + 1)).filter fun d => decide (d.2 ≤ now + 1)).map (·.1) = ((all.take k).filter fun d => decide (d.2 ≤ now + 1)).map (·.1) by rw [HT1.out, List.map_append]; simp [he])
        have HR2 := hid (show (all.take (k + 1)).filter (fun d => !decide (d.2 ≤ now + 1)) = (all.take k).filter (fun d => !decide (d.2 ≤ now + 1)) ++ [(da, db)] by rw [HT2.out]; simp [he])
        have hq : decide (db ≤ now + 1) = false := decide_eq_false he
        clear HT1 HT2 he
        generalize ((all.take k).filter fun d => decide (d.2 ≤ now + 1)) = FD at *
        generalize ((all.take k).filter fun d => !decide (d.2 ≤ now + 1)) = FR at *
        go_wp2_with fail
        go_quiet (fail)
        have hbd : Below wy.heap.size wy (wy.drewN nq) := below_drewN (Below.refl _ _) _
        have HI2 : Hid (StL v1 (wy.drewN nq) u4 u5 (FD.map (·.1)) FR) := hid (HI.out.up hbd)
        obtain ⟨x0', x1'⟩ := (KX1.out.up HI2.out.2.2).cells
        have hc0' := (hbd.cell (lt_of_cell hc0)).trans hc0
        have hc1' := (hbd.cell (lt_of_cell hc1)).trans hc1
        clear x0 x1 hc0 hc1 hbd HI
        generalize wy.drewN nq = wq at *
        have hnb := enew wq (.cells #[.int .i64 da, .int .i64 db] 76)
        go_wp2_with (at_builtin; refine wpList_append_gx (W0 := v1) rowDu rfl _ _ rfl v1.heap.size _ FR [(da, db)] (some ⟨wq.heap.size, 0, none⟩) 1 (fun b => b = wq.heap.size) rfl (HI2.out.2.1.below hnb) rfl (gx_new (M := [(da, db)]) encDu_len (Bk.new wq 76 _) rfl) (fun h => by cases h) (by have := HL2.out; simp only [List.length_cons, List.length_nil]; omega) (estep HI2.out.2.2 hnb) (Nat.le_refl _) ?_)
        intro v3 w3 hF hbel hgr
        have HF : Hid (StL v1 w3 u4 v3 (((all.take (k + 1)).filter fun d => decide (d.2 ≤ now + 1)).map (·.1)) ((all.take (k + 1)).filter fun d => !decide (d.2 ≤ now + 1))) := hid ⟨by rw [HD2.out]; exact GB.grown (HI2.out.1.below hnb) (HI2.out.2.1.below hnb) ne_types hgr, by rw [HR2.out]; exact hF, hbel⟩
        clear hF hbel hgr hnb hc0' hc1' x0' x1' HI2
        go_wp2_with fail
        go_roundg (n - (k + 1))
        case measure => omega
        case rel => exact ⟨k + 1, by first | rfl | go_num | simp, by omega, by omega, HF⟩
    · obtain rfl : k = n := by omega
      have hkz : ¬ (k : Int) < (k : Int) := by omega
      have h1 := HI.out
      rw [show all.take k = all by rw [← HN.out]; exact List.take_length, ← HDU.out, ← HSA.out] at h1
      obtain ⟨hd, hr, hbl⟩ := h1
      obtain ⟨A1, c1, rfl, hg1, -, -, -⟩ := GB.reads encWi_len hd
      obtain ⟨A2, c2, rfl, hg2, hn2, -, -⟩ := GB.reads encDu_len hr
      have kx2 := KX1.out.up hbl
      have kz2 := KZ1.out.up hbl
      have hsz2 := hbl.size
      obtain ⟨f0, f1⟩ := kx2.froz
      obtain ⟨nd, hnd⟩ : ∃ m, DU.length = m := ⟨_, rfl⟩
      obtain ⟨nr, hnr⟩ : ∃ m, SX.all.length = m := ⟨_, rfl⟩
      rw [hnd, hnr]
      have kx3 : BWh (wy.setCell ⟨w.heap.size, 1, none⟩ (.slice A2 nr c2)) w.heap.size (now + 1) (.slice A2 nr c2) := kx2.set1 _
      have kz3 : BWh (wy.setCell ⟨w.heap.size, 1, none⟩ (.slice A2 nr c2)) (w.heap.size + 1) 0 (.slice none 0 0) := kz2.other (by omega) _
      have hb3 : Below w.heap.size w (wy.setCell ⟨w.heap.size, 1, none⟩ (.slice A2 nr c2)) := (estep HB1.out hbl).setCell (Nat.le_refl _) _
      have hg13 : GX encWi 1 (wy.setCell ⟨w.heap.size, 1, none⟩ (.slice A2 nr c2)) (fun b => w.heap.size + 1 < b ∧ b < (wy.setCell ⟨w.heap.size, 1, none⟩ (.slice A2 nr c2)).heap.size) A1 DU :=
        (hg1.same fun b hb => Below.heap_setCell wy ⟨w.heap.size, 1, none⟩ _ b (by have := hb.1; show b ≠ w.heap.size; omega)).imp fun b hb => ⟨by have := hb.1; omega, by rw [World.size_setCell]; exact hb.2⟩
      have hg23 : GX encDu 2 (wy.setCell ⟨w.heap.size, 1, none⟩ (.slice A2 nr c2)) (fun b => w.heap.size + 1 < b ∧ b < (wy.setCell ⟨w.heap.size, 1, none⟩ (.slice A2 nr c2)).heap.size) A2 SX.all :=
        (hg2.same fun b hb => Below.heap_setCell wy ⟨w.heap.size, 1, none⟩ _ b (by have := hb.1; show b ≠ w.heap.size; omega)).imp fun b hb => ⟨by have := hb.1; omega, by rw [World.size_setCell]; exact hb.2⟩
      have HG3 := hid (And.intro hg13 (And.intro hg23 (And.intro hn2 (And.intro hb3 (And.intro hnd hnr)))))
      have KZ3 := hid kz3
      obtain ⟨y0, y1⟩ := kx3.cells
      obtain ⟨z0, z1⟩ := kz3.cells
      obtain ⟨g0, g1⟩ := kz3.froz
      clear hd hr hg1 hg2 hn2 hbl kx2 kz2 hnd hnr kx3 kz3 hsz2 HI hb3 hg13 hg23
      go_upto_region 11 with (fail)
      clear x0 x1 f0 f1
      generalize wy.setCell ⟨w.heap.size, 1, none⟩ (.slice A2 nr c2) = w3 at *
      go_region_law (fail)
      have k4 : BWh ((w3.setCell ⟨w.heap.size + 1, 0, none⟩ (.int .i64 (now + 1))).setCell ⟨w.heap.size + 1, 1, none⟩ (.slice A2 nr c2)).drew (w.heap.size + 1) (now + 1) (.slice A2 nr c2) := Bk.drew (KZ3.out.set2 (now + 1) (.slice A2 nr c2))
      have K4 := hid k4.cells
      clear k4 y0 y1 z0 z1 g0 g1
      go_wp2_with fail
      (try simp only [Exit.inBlock, Exit.then])
      refine bodyPost_ret (v := .tuple #[.slice A1 nd c1, .agg #[.int .i64 (now + 1), .slice A2 nr c2]]) (by simp [results, Try.results20, go_sem, K4.out.1, K4.out.2]) rfl ?_
      obtain ⟨hg13, hg23, hn2, hb3, hnd, hnr⟩ := HG3.out
      have hs4 : ∀ b, w.heap.size + 1 < b → (((w3.setCell ⟨w.heap.size + 1, 0, none⟩ (.int .i64 (now + 1))).setCell ⟨w.heap.size + 1, 1, none⟩ (.slice A2 nr c2)).drew).heap[b]? = w3.heap[b]? := fun b hb =>
        (Below.heap_setCell _ ⟨w.heap.size + 1, 1, none⟩ _ b (by show b ≠ w.heap.size + 1; omega)).trans (Below.heap_setCell w3 ⟨w.heap.size + 1, 0, none⟩ _ b (by show b ≠ w.heap.size + 1; omega))
      have hz4 : (((w3.setCell ⟨w.heap.size + 1, 0, none⟩ (.int .i64 (now + 1))).setCell ⟨w.heap.size + 1, 1, none⟩ (.slice A2 nr c2)).drew).heap.size = w3.heap.size := (World.size_setCell _ _ _).trans (World.size_setCell _ _ _)
      refine ⟨A1, c1, A2, c2, by rw [hnd, hnr, HSN.out], (hg13.same fun b hb => hs4 b hb.1).imp fun b hb => ⟨by have := hb.1; omega, by rw [hz4]; exact hb.2⟩, (hg23.same fun b hb => hs4 b hb.1).imp fun b hb => ⟨by have := hb.1; omega, by rw [hz4]; exact hb.2⟩, hn2, ?_⟩
      exact ((hb3.setCell (by show w.heap.size ≤ w.heap.size + 1; omega) _).setCell (by show w.heap.size ≤ w.heap.size + 1; omega) _).drew
end Go.Proofs.Ytldilhbomilcpaa
