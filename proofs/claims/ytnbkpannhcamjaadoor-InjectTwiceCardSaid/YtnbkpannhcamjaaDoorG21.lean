/- Texts put together: Ap. -/
import Derived.Test.YtnbkpannhcamjaaDoorG04
import Derived.Test.YtnbkpannhcamjaaDoorG12
import Derived.Test.YtnbkpannhcamjaaDoorG13
import Derived.Test.YtnbkpannhcamjaaDoorG20
import Derived.Handy
namespace Go.Proofs.YtnbkpannhcamjaaDoor
set_option linter.unusedVariables false
set_option linter.unusedSimpArgs false
open Go.RowKit Go.Joins

/-- A list of headers, as a value that can be read; its texts are not too long. -/
def HLv (w : World) (v : Value) (L : List Hd) : Prop := HX w (· < w.heap.size) v L ∧ L.length ≤ 1000 ∧ ∀ h ∈ L, h.1.length ≤ 10000 ∧ h.2.length ≤ 10000
section
variable {w w' : World} {v u : Value} {L M : List Hd}
theorem HLv.up (h : HLv w v L) (hb : Below w.heap.size w w') : HLv w' v L := by
  obtain ⟨⟨A, c, e, h1, h2⟩, h3⟩ := h
  exact ⟨⟨A, c, e, h1.up hb, h2⟩, h3⟩
theorem HLv.of_hb {base : Nat} (h : HB w base v L) (hl : L.length ≤ 1000) (hs : ∀ h ∈ L, h.1.length ≤ 10000 ∧ h.2.length ≤ 10000) : HLv w v L := by
  obtain ⟨A, c, rfl, hr⟩ := h.reads
  refine ⟨⟨A, c, rfl, hr.imp (fun _ h => h.2), ?_, ?_, ?_, fun x hx => by have := hs x hx; omega⟩, hl, hs⟩
  · intro hA
    subst hA
    rcases h.2 with ⟨h1, h2⟩ | ⟨g, cap, cur, e1, _⟩
    · injection h1
    · injection e1 with e1; cases e1
  · rcases h.2 with ⟨h1, h2⟩ | ⟨g, cap, cur, e1, e2, e3, e4, e5, _⟩
    · omega
    · injection e1 with _ _ e1; omega
  · rcases h.2 with ⟨h1, h2⟩ | ⟨g, cap, cur, e1, e2, e3, e4, e5, _⟩
    · injection h1 with _ _ h1; rw [h1]; exact Nat.zero_le _
    · injection e1 with _ _ e1; omega
theorem HLv.nil (w : World) : HLv w (.slice none 0 0) [] := ⟨⟨none, 0, rfl, fun k hk => absurd hk (by simp), fun _ => rfl, Nat.le_refl _, Nat.zero_le _, by simp⟩, by simp, by simp⟩
theorem setH_small (L : List Hd) (n t : List UInt8) (hn : n.length ≤ 10000) (ht : t.length ≤ 10000) (hs : ∀ h ∈ L, h.1.length ≤ 10000 ∧ h.2.length ≤ 10000) : (setH L n t).length ≤ L.length + 1 ∧ ∀ h ∈ setH L n t, h.1.length ≤ 10000 ∧ h.2.length ≤ 10000 := by
  have hw : ∀ (K : List Hd) (h : Hd), h ∈ withoutH K [n] → h ∈ K := fun K h hm => (List.mem_filter.1 hm).1
  have hwl : ∀ K : List Hd, (withoutH K [n]).length ≤ K.length := fun K => List.length_filter_le _ _
  unfold setH
  split
  · rename_i hlt
    refine ⟨?_, fun h hm => ?_⟩
    · have := hwl (L.drop (L.findIdx (hasN [n]) + 1))
      simp only [addH, List.length_append, List.length_take, List.length_drop, List.length_cons, List.length_nil] at this ⊢
      omega
    · simp only [addH, List.mem_append] at hm
      rcases hm with (hm | hm) | hm
      · exact hs h (List.mem_of_mem_take hm)
      · simp at hm; subst hm; exact ⟨hn, ht⟩
      · exact hs h (List.mem_of_mem_drop (hw _ _ hm))
  · refine ⟨by simp [addH], fun h hm => ?_⟩
    simp only [addH, List.mem_append] at hm
    rcases hm with hm | hm
    · exact hs h hm
    · simp at hm; subst hm; exact ⟨hn, ht⟩
theorem stripI_small (L : List Hd) (hs : ∀ h ∈ L, h.1.length ≤ 10000 ∧ h.2.length ≤ 10000) : (stripI L).length ≤ L.length ∧ ∀ h ∈ stripI L, h.1.length ≤ 10000 ∧ h.2.length ≤ 10000 :=
  ⟨List.length_filter_le _ _, fun h hm => hs h (List.mem_filter.1 hm).1⟩
theorem getH_small (L : List Hd) (n : List UInt8) (hs : ∀ h ∈ L, h.1.length ≤ 10000 ∧ h.2.length ≤ 10000) : (getH L n).1.length ≤ 10000 := by
  unfold getH
  have hall : ∀ t ∈ allS L n, t.length ≤ 10000 := fun t ht => by
    unfold allS at ht
    obtain ⟨h, hm, rfl⟩ := List.mem_map.1 ht
    exact (hs h (List.mem_filter.1 hm).1).2
  cases hA : allS L n with
  | nil => simp
  | cons t r => rw [hA] at hall; exact hall t (by simp)
theorem iget_any (w : World) (h : HLv w v L) (n : List UInt8) {t : List UInt8} {b : Bool} (H : Hid (getH L n = (t, b))) : Calls Tryd.prog 18 #[v, .string (bs n)] w fun e w' => e = .returned (.tuple #[.string (bs t), .bool b]) ∧ Below w.heap.size w w' := by
  obtain ⟨⟨A, c, rfl, h1, _⟩, h3, _⟩ := h
  have := hget_any A c L n w h1 (by omega)
  rw [H.out] at this
  exact this
theorem riget_any (w : World) (h : HLv w v L) (n : List UInt8) {t : List UInt8} {b : Bool} (H : Hid (getH L n = (t, b))) : Calls Tryd.prog 12 #[v, .string (bs n)] w fun e w' => e = .returned (.tuple #[.string (bs t), .bool b]) ∧ Below w.heap.size w w' := by
  obtain ⟨⟨A, c, rfl, h1, _⟩, h3, _⟩ := h
  have := rget_any4 A c L n w h1 (by omega)
  rw [H.out] at this
  exact this
theorem iset_any (w : World) (h : HLv w v L) (n t : List UInt8) (hn : n.length ≤ 10000) (ht : t.length ≤ 10000) (hl : L.length < 1000) {M : List Hd} (H : Hid (setH L n t = M)) : Calls Tryd.prog 17 #[v, .string (bs n), .string (bs t)] w fun e w' => ∃ r, e = .returned r ∧ HLv w' r M ∧ Below w.heap.size w w' := by
  obtain ⟨s1, s2⟩ := setH_small L n t hn ht h.2.2
  obtain ⟨⟨A, c, rfl, h1, h2, h3, h4, _⟩, h5, h6⟩ := h
  refine (hset_any A c L n t w h1 h2 (by omega) h3 (by unfold maxLen at h4; omega)).mono fun e w' ⟨r, a, b, d⟩ => ⟨r, a, ?_, d⟩
  rw [H.out] at b s1 s2
  exact HLv.of_hb b (by omega) s2
theorem isame_any (w : World) (h : HLv w v L) (k : HLv w u M) {b : Bool} (H : Hid (decide (L = M) = b)) : Calls Tryd.prog 9 #[v, u] w fun e w' => e = .returned (.bool b) ∧ Below w.heap.size w w' := by
  obtain ⟨⟨A, c, rfl, h1, _⟩, h3, _⟩ := h
  obtain ⟨⟨B, d, rfl, k1, _⟩, k3, _⟩ := k
  have := same_any A B c d L M w h1 k1 (by omega) (by omega)
  rw [H.out] at this
  exact this
theorem ifew_any (w : World) (h : HX w (· < w.heap.size) v L) {b : Bool} (H : Hid (fewOk L = b)) : Calls Tryd.prog 5 #[v] w fun e w' => e = .returned (.bool b) ∧ Below w.heap.size w w' := by
  obtain ⟨A, c, rfl, h1, _, h2, h3, h4⟩ := h
  have := few_any A c L w h1 (by unfold maxLen at h3; omega) h4
  rw [H.out] at this
  exact this
theorem HLv.of_few (h : HX w (· < w.heap.size) v L) (hf : fewOk L = true) : HLv w v L ∧ L.length ≤ 60 := by
  simp [fewOk] at hf
  exact ⟨⟨h, by omega, fun x hx => by have := hf.2 x.1 x.2 hx; omega⟩, hf.1⟩
end
/-- The two names in a row of their own. -/
theorem two_texts (w : World) : STexts (w.alloc (.cells #[.string (bs kTP), .string (bs kTS)] 9)) (· < (w.alloc (.cells #[.string (bs kTP), .string (bs kTS)] 9)).heap.size) (some ⟨w.heap.size, 0, none⟩) [kTP, kTS] := by
  have hb := cell_of_row (w.alloc (.cells #[.string (bs kTP), .string (bs kTS)] 9)) w.heap.size
  intro k hk
  have h2 : k = 0 ∨ k = 1 := by simp at hk; omega
  rcases h2 with rfl | rfl
  · exact ⟨⟨w.heap.size, 0, none⟩, rfl, by simp, hb 0 _ _ _ (heap_alloc_new w _)⟩
  · exact ⟨⟨w.heap.size, 0, none⟩, rfl, by simp, hb 1 _ _ _ (heap_alloc_new w _)⟩
set_option maxRecDepth 100000 in
set_option maxHeartbeats 2000000 in
theorem istrip_any (v : Value) (L : List Hd) (w : World) (h : HLv w v L) {M : List Hd} (H : Hid (stripI L = M)) : Calls Tryd.prog 10 #[v] w fun e w' => ∃ r, e = .returned r ∧ HLv w' r M ∧ Below w.heap.size w w' := by
  have c1 : (ByteArray.mk #[116, 114, 97, 99, 101, 112, 97, 114, 101, 110, 116]) = bs kTP := rfl
  have c2 : (ByteArray.mk #[116, 114, 97, 99, 101, 115, 116, 97, 116, 101]) = bs kTS := rfl
  obtain ⟨s1, s2⟩ := stripI_small L h.2.2
  have hb0 := (Below.refl w.heap.size w).alloc (Nat.le_refl _) (.cells #[.string (bs kTP), .string (bs kTS)] 9)
  have h0 := h.up hb0
  have ht := two_texts w
  obtain ⟨⟨A, c, rfl, h1, h2, h3, h4, _⟩, h5, h6⟩ := h0
  have HC := hid (hwithout_any A c L (some ⟨w.heap.size, 0, none⟩) 2 [kTP, kTS] _ h1 ht (by omega) (by simp))
  have HS := hid (And.intro s1 s2)
  have HL5 := hid h5
  have HBl := hid hb0
  clear h1 h2 h3 h4 h5 h6 h ht s1 s2 hb0
  go_enter Tryd.func10, Tryd.ntmps10
  go_wp2_with fail
  refine HC.out.mono ?_
  rintro e w1 ⟨r, rfl, hr, hb1⟩
  go_wp2_with fail
  go_returns
  rw [← H.out]
  exact ⟨_, rfl, HLv.of_hb hr (Nat.le_trans HS.out.1 HL5.out) HS.out.2, HBl.out.trans (hb1.mono HBl.out.size)⟩
end Go.Proofs.YtnbkpannhcamjaaDoor
