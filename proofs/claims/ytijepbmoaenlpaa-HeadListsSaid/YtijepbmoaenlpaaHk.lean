import Derived.Test.YtijepbmoaenlpaaHj
namespace Go.Proofs.Ytijepbmoaenlpaa
set_option linter.unusedVariables false
set_option linter.unusedSimpArgs false
open Go.RowKit Go.Joins

theorem memB_take (names : List (List UInt8)) (v : List UInt8) (j : Nat) (h : j < names.length) : memB (names.take (j + 1)) v = (memB (names.take j) v || (names[j] == v)) := by
  have e : (names[j] == v) = (v == names[j]) := by rw [Bool.eq_iff_iff]; simp only [beq_iff_eq]; exact eq_comm
  rw [memB, memB, List.take_succ_eq_append_getElem h, e]
  simp only [List.contains_append, List.contains_cons, List.contains_nil, Bool.or_false]
theorem two_new (w : World) (x y : Value) (t : TypeId) : (w.alloc (.cells #[x, y] t)).cell? ⟨w.heap.size, 0, none⟩ = some x ∧ (w.alloc (.cells #[x, y] t)).cell? ⟨w.heap.size, 1, none⟩ = some y := ⟨by simp, by simp⟩
theorem withoutH_take (L : List Hd) (names : List (List UInt8)) (k : Nat) (h : k < L.length) : withoutH (L.take (k + 1)) names = withoutH (L.take k) names ++ if memB names L[k].1 = true then [] else [L[k]] := by
  rw [withoutH, withoutH, filter_take _ _ _ h]
  cases hp : memB names L[k].1 <;> simp [hasN, hp]
theorem withoutH_length (L : List Hd) (names : List (List UInt8)) : (withoutH L names).length ≤ L.length := List.length_filter_le _ _
set_option maxRecDepth 100000 in
set_option maxHeartbeats 4000000 in
theorem rwithout_any (A : Option Addr) (cap : Nat) (L : List Hd) (A2 : Option Addr) (cap2 : Nat) (names : List (List UInt8)) (w : World) (hR : HReads w (· < w.heap.size) A L) (hS : STexts w (· < w.heap.size) A2 names) (hl : L.length ≤ 1000000) (hn : names.length ≤ 1000000) :
    Calls Try.prog 39 #[.slice A L.length cap, .slice A2 names.length cap2] w fun e w' => ∃ r, e = .returned r ∧ HB w' w.heap.size r (withoutH L names) ∧ Below w.heap.size w w' := by
  have HR := hid hR
  have HS := hid hS
  clear hR hS
  have hnot := notB'
  go_enter Try.func39, Try.ntmps39
  go_wp2_with fail
  go_loopw [5, 6] (fun r i wr => ∃ k : Nat, k ≤ L.length ∧ i = .int .i64 k ∧ Hid (HB wr w.heap.size r (withoutH (L.take k) names) ∧ Below w.heap.size w wr)) (fun _ i _ => L.length - (intOf i).toNat)
  case atStart => exact ⟨0, by omega, rfl, hid ⟨HB.nil _ _, Below.refl _ _⟩⟩
  case round =>
    obtain ⟨k, hk, rfl, HK⟩ := hrel
    by_cases hlt : k < L.length
    · have hcells := (HR.out.below HK.out.2) k hlt
      have HAT := hid (withoutH_take L names k hlt)
      have HWL := hid (withoutH_length (L.take k) names)
      have HTL := hid (List.length_take_le k L)
      have hsz : w.heap.size ≤ wr.heap.size := HK.out.2.size
      generalize L[k] = h at *
      obtain ⟨h0, h1⟩ := h
      obtain ⟨b, o, rfl, hB, hc0, hc1⟩ := hcells
      have hi0 : (0 : Int) ≤ (k : Int) := by omega
      have hi1 : (k : Int) < (L.length : Int) := by omega
      have HC := hid (And.intro hc0 hc1)
      clear hc0 hc1
      go_wp2_with fail
      go_loopw [7, 8] (fun g j wi => ∃ q : Nat, q ≤ names.length ∧ j = .int .i64 q ∧ g = .bool (memB (names.take q) h0) ∧ Hid (∃ m, wi = wr.drewN m)) (fun _ j _ => names.length - (intOf j).toNat)
      case atStart => exact ⟨0, by omega, rfl, rfl, hid ⟨0, rfl⟩⟩
      case round =>
        obtain ⟨q, hq, rfl, rfl, HD⟩ := hrel
        obtain ⟨m, hm⟩ := HD.out
        subst hm
        by_cases hqq : q < names.length
        · have HMT := hid (memB_take names h0 q hqq)
          obtain ⟨ad, rfl, hB2, hd0⟩ := (HS.out.below HK.out.2) q hqq
          have hj0 : (0 : Int) ≤ (q : Int) := by omega
          have hj1 : (q : Int) < (names.length : Int) := by omega
          have hc0 := HC.out.1
          cases hg : memB (names.take q) h0
          · have HG := hid hg
            clear hg
            generalize names[q] = x at *
            go_wp2_with fail
            go_quiet (fail)
            go_wp2_with fail
            go_roundw
            case rel => exact ⟨q + 1, by omega, by go_num, by rw [HMT.out, HG.out]; rfl, hid ⟨m + nq, by simp⟩⟩
            case measure => simp [intOf]; omega
          · have HG := hid hg
            clear hg
            go_wp2_with fail
            go_quiet (fail)
            go_wp2_with fail
            go_roundw
            case rel => exact ⟨q + 1, by omega, by go_num, by rw [HMT.out, HG.out]; rfl, hid ⟨m + nq, by simp⟩⟩
            case measure => simp [intOf]; omega
        · obtain rfl : q = names.length := by omega
          have hcl := HC.out
          have HT := hid (List.take_length (l := names))
          rw [HT.out]
          have hb2 := below_drewN HK.out.2 m
          have hown2 : HB (wr.drewN m) w.heap.size _ (withoutH (L.take k) names) := HK.out.1.below (below_drewN (Below.refl _ _) m)
          have HK2 := hid (And.intro hown2 hb2)
          clear hown2 hb2
          obtain ⟨hc0, hc1⟩ := hcl
          cases hg : memB names h0
          · have HG := hid hg
            clear hg
            go_wp2_with (at_builtin; refine wpList_append_hd rfl _ _ rfl w.heap.size _ (withoutH (L.take k) names) (h0, h1) _ rfl (HK2.out.1.alloc _) rfl (two_new (wr.drewN m) _ _ _) (by have := HWL.out; have := HTL.out; omega) (HK2.out.2.alloc (by simpa using hsz) _) (Nat.le_refl _) ?_)
            intro r' w3 hown hbel
            have HN := hid (And.intro hown hbel)
            clear hown hbel
            go_wp2_with fail
            go_roundw
            case rel => exact ⟨k + 1, by omega, by go_num, hid ⟨by rw [HAT.out, if_neg (by rw [HG.out]; simp)]; exact HN.out.1, HN.out.2⟩⟩
            case measure => simp [intOf]; omega
          · have HG := hid hg
            clear hg
            go_wp2_with fail
            go_roundw
            case rel => exact ⟨k + 1, by omega, by go_num, hid ⟨by rw [HAT.out, if_pos HG.out, List.append_nil]; exact HK2.out.1, HK2.out.2⟩⟩
            case measure => simp [intOf]; omega
    · obtain rfl : k = L.length := by omega
      have h1 := HK.out
      rw [List.take_length] at h1
      have H1 := hid h1
      clear h1
      go_wp2_with fail
      go_ret
      exact ⟨_, rfl, H1.out⟩
end Go.Proofs.Ytijepbmoaenlpaa
