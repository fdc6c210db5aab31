import Derived.Test.YtijepbmoaenlpaaCo
namespace Go.Proofs.Ytijepbmoaenlpaa
set_option linter.unusedVariables false
open Go.RowKit

theorem below_step {a b c : World} (h : Below a.heap.size a b) (k : Below b.heap.size b c) : Below a.heap.size a c := h.trans (k.mono h.size)
/-- Three strings in one new block. -/
theorem stexts_new (w : World) (L : List (List UInt8)) (t : TypeId) : STexts (w.alloc (.cells (tvals L).toArray t)) (· = w.heap.size) (some ⟨w.heap.size, 0, none⟩) L := by
  intro k hk
  refine ⟨_, rfl, rfl, ?_⟩
  have h0 : (⟨w.heap.size, 0, none⟩ : Addr).add k = ⟨w.heap.size, k, none⟩ := by
    unfold Addr.add; split
    · next h => subst h; rfl
    · simp
  rw [h0, Blk.cell (Blk.new w t (tvals L).toArray) k]
  simp [tvals, hk]
set_option maxRecDepth 100000 in
set_option maxHeartbeats 1600000 in
theorem known3_any (w : World) :
    Calls Try.prog 9 #[] w fun e w' => e = .returned (.bool true) ∧ Below w.heap.size w w' := by
  have E1 := hid (show crcS [49, 50, 51, 52, 53, 54, 55, 56, 57] = 3421780262 from by decide +kernel)
  have E2 := hid (openS_sealS [97, 98])
  have E3 := hid (show crcS (joinL [[49, 50, 51, 52], [], [53, 54, 55, 56, 57]]) = 3421780262 from by decide +kernel)
  go_enter Try.func9, Try.ntmps9
  go_wp2_with fail
  refine (cnew_any _).mono ?_
  rintro e w1 ⟨rfl, hM1, hb1⟩
  have H1 := hid (And.intro hM1 hb1)
  clear hM1 hb1
  generalize hg : w.heap.size = g at *
  have HG := hid hg
  clear hg
  go_wp2_with fail
  refine (made_any g 0 _ H1.out.1.cm (by omega) (by omega)).mono ?_
  rintro e w2 ⟨rfl, rfl⟩
  go_wp2_with fail
  refine (cseal_any [97, 98] _ (by simp)).mono ?_
  rintro e w2 ⟨rfl, hb2⟩
  have hg1 := H1.out.1.lt
  have H2 := hid (And.intro (H1.out.1.below hb2 hg1) (H1.out.2.trans (hb2.mono (Nat.le_of_lt hg1))))
  have hg2 : g < w2.heap.size := H2.out.1.lt
  clear hb2
  go_wp2_with fail
  refine (copen_any _ _ (by rw [sealS_length]; simp)).mono ?_
  rintro e w3 ⟨rfl, rfl⟩
  rw [E2.out]
  go_wp2_with fail
  refine (cof_any [49, 50, 51, 52, 53, 54, 55, 56, 57] _ (by simp)).mono ?_
  rintro e w3 ⟨rfl, rfl⟩
  rw [E1.out]
  go_wp2_with fail
  refine (mof_loop g 0 0 0 0 _ 3 [[49, 50, 51, 52], [], [53, 54, 55, 56, 57]] _ (Or.inl ⟨rfl, rfl, rfl⟩) (Blk.alloc H2.out.1 _) ((stexts_new _ _ _).imp (fun b hb => by omega)) (by simp) (by decide +kernel)).mono ?_
  rintro e w3 ⟨rfl, hM3, ho3⟩
  have hb3 : Below g w w3 := Only.below (H2.out.2.alloc (Nat.le_of_lt hg2) _) ho3 (Nat.le_refl _) (by simp; omega)
  have H3 := hid (And.intro hM3 hb3)
  clear hM3 ho3 hb3
  rw [E3.out]
  go_wp2_with fail
  refine (made_any g 1 _ H3.out.1.cm (by omega) (by omega)).mono ?_
  rintro e w4 ⟨rfl, rfl⟩
  go_wp2_with fail
  refine (bytes_any g 9 _ H3.out.1.cn (by omega) (by omega)).mono ?_
  rintro e w4 ⟨rfl, rfl⟩
  go_wp2_with fail
  go_ret
  exact ⟨rfl, by rw [HG.out]; exact H3.out.2⟩
end Go.Proofs.Ytijepbmoaenlpaa
