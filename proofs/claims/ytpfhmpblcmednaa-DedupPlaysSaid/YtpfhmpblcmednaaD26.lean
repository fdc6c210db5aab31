/- Texts put together: Nh. -/
import Derived.Test.YtpfhmpblcmednaaD22
import Derived.Test.YtpfhmpblcmednaaD25
import Derived.Deep.RegionLaw
import Derived.Deep.CutRange
import Derived.Deep.CutBlock
namespace Go.Proofs.Ytpfhmpblcmednaa
set_option linter.unusedVariables false
set_option linter.unusedSimpArgs false
open Go.RowKit Go.Joins

theorem insS_cut {L : List Int} {s : Int} {i : Nat} (hi : i ≤ L.length) (hs : s ∉ L) (h1 : ∀ k (h : k < L.length), k < i → L[k] < s) (h2 : ∀ k (h : k < L.length), i ≤ k → s ≤ L[k]) : insS L s = L.take i ++ [s] ++ L.drop i := by
  have ht : ∀ x ∈ L.take i, x < s := fun x hx => by
    obtain ⟨k, hk, rfl⟩ := List.mem_iff_getElem.1 hx
    rw [List.length_take] at hk
    rw [List.getElem_take]
    exact h1 k (by omega) (by omega)
  have hd : ∀ x ∈ L.drop i, s < x := fun x hx => by
    obtain ⟨k, hk, rfl⟩ := List.mem_iff_getElem.1 hx
    rw [List.length_drop] at hk
    rw [List.getElem_drop]
    have := h2 (i + k) (by omega) (by omega)
    have h3 : L[i + k] ≠ s := fun e => hs (e ▸ List.getElem_mem _)
    omega
  unfold insS
  conv => lhs; rw [← List.take_append_drop i L]
  simp only [List.filter_append]
  rw [List.filter_eq_self.2 fun x hx => decide_eq_true (ht x hx), List.filter_eq_nil_iff.2 (fun x hx => by simp; have := hd x hx; omega : ∀ x ∈ L.drop i, ¬ decide (x < s) = true), List.filter_eq_nil_iff.2 (fun x hx => by simp; have := ht x hx; omega : ∀ x ∈ L.take i, ¬ decide (s < x) = true), List.filter_eq_self.2 fun x hx => decide_eq_true (hd x hx)]
  simp
theorem dfull_bel {a b c : World} (h : Below a.heap.size a b) (hg : b.grownBy c none) : Below a.heap.size a c := h.grown hg h.size (fun k hk => by cases hk)
/-- What put answers. -/
def PtR (w : World) (L : List Int) (s : Int) (e : Ending) (w' : World) : Prop := ∃ v, e = .returned v ∧ GB encWi 1 3 w' w.heap.size v (insS L s) ∧ Below w.heap.size w w'
set_option maxRecDepth 100000 in
set_option maxHeartbeats 8000000 in
theorem dput_any (q n c : Nat) (L : List Int) (s : Int) (w : World) (hA : GX encWi 1 w (· < w.heap.size) (some ⟨q, 0, none⟩) L) (hn : Hid (L.length = n)) (hl : n ≤ 1000) (hc : n ≤ c ∧ c ≤ maxLen) (hp : L.Pairwise (· < ·)) (hs : s ∉ L) :
    Calls Try.prog 107 #[.slice (some ⟨q, 0, none⟩) n c, .int .i64 s] w fun e w' => PtR w L s e w' := by
  have HS := hid (bsearch_any (some ⟨q, 0, none⟩) c n L s w hA hn hl hp)
  have HA := hid hA
  have HNS := hid hs
  clear hA hp hs
  go_enter Try.func107, Try.ntmps107
  go_wp2_with fail
  refine HS.out.mono ?_
  rintro e w1 ⟨⟨i, b, rfl, hi, hlo, hhi⟩, hb⟩
  have HI := hid (insS_cut hi HNS.out hlo hhi)
  have HBl := hid hb
  rw [hn.out] at hi
  have hi0 : (0 : Int) ≤ (i : Int) := by omega
  have hi1 : (i : Int) ≤ (n : Int) := by omega
  have hi2 : (i : Int) ≤ (c : Int) := by omega
  have hn0 : (0 : Int) ≤ (n : Int) := by omega
  have hn1 : (n : Int) ≤ (c : Int) := by omega
  clear hlo hhi hb HS
  obtain ⟨m, hm⟩ : ∃ m, n - i = m := ⟨_, rfl⟩
  have hT : (L.take i).length = i := by have := hn.out; rw [List.length_take]; omega
  have hD : (L.drop i).length = m := by have := hn.out; rw [List.length_drop]; omega
  obtain ⟨ad, had, hsrc⟩ : ∃ ad : Addr, (if c = i then some (⟨q, 0, none⟩ : Addr) else some ⟨q, i, none⟩) = some ad ∧ ∀ w', Below w1.heap.size w1 w' → ∀ j u, (gvals encWi (L.drop i))[j]? = some u → w'.cell? (ad.add j) = some u := by
    by_cases hct : c = i
    · refine ⟨⟨q, 0, none⟩, if_pos hct, fun w' hw' j u hu => ?_⟩
      have h0 : L.drop i = [] := List.drop_eq_nil_of_le (by have := hn.out; omega)
      rw [h0] at hu
      simp [gvals] at hu
    · refine ⟨⟨q, i, none⟩, if_neg hct, fun w' hw' j u hu => ?_⟩
      have := ((HA.out.up HBl.out).up hw').drop i
      rw [Nat.zero_add, Nat.mul_one] at this
      exact GX.cell encWi_len this j u hu
  have HAD := hid had
  have HSRC := hid hsrc
  have HTD := hid (And.intro hT hD)
  have hx1 : GX encWi 1 (w1.alloc (.cells #[.int .i64 s] 3)) (fun b => b = w1.heap.size) (some ⟨w1.heap.size, 0, none⟩) [s] := gx_new (M := [s]) encWi_len (Bk.new w1 3 #[.int .i64 s]) rfl
  have hx2 : GX encWi 1 (w1.drew.alloc (.cells #[.int .i64 s] 3)) (fun b => b = w1.heap.size) (some ⟨w1.heap.size, 0, none⟩) [s] := gx_new (M := [s]) encWi_len (Bk.new w1.drew 3 #[.int .i64 s]) rfl
  have hb2 : Below w1.heap.size w1 (w1.alloc (.cells #[.int .i64 s] 3)) := enew w1 _
  have hb3 : Below w1.heap.size w1 (w1.drew.alloc (.cells #[.int .i64 s] 3)) := (Below.drew (Below.refl _ w1)).alloc (Nat.le_refl _) _
  have H1 := hid (And.intro hb2 (And.intro hx1 (((HA.out.up HBl.out).up hb2).take i)))
  have H2 := hid (And.intro hb3 (And.intro hx2 (((HA.out.up HBl.out).up hb3).take i)))
  clear hx1 hx2 hb2 hb3 had hsrc hT hD
  go_wp2_with fail
  go_region_law (first
    | (refine step_append_full (L := L.take i) (M := [s]) (cap := 1) rowWi rfl _ _ rfl (by rw [HTD.out.1]; rfl) rfl H1.out.2.2 rfl H1.out.2.1 (by simp) (by have := HTD.out.1; have := hn.out; simp only [List.length_cons, List.length_nil]; omega) ?_
       intro v7 w7 hF hg
       have HF := hid (And.intro hF (And.intro H1.out.1.size (dfull_bel H1.out.1 hg))))
    | (refine step_append_full (L := L.take i) (M := [s]) (cap := 1) rowWi rfl _ _ rfl (by rw [HTD.out.1]; rfl) rfl H2.out.2.2 rfl H2.out.2.1 (by simp) (by have := HTD.out.1; have := hn.out; simp only [List.length_cons, List.length_nil]; omega) ?_
       intro v7 w7 hF hg
       have HF := hid (And.intro hF (And.intro H2.out.1.size (dfull_bel H2.out.1 hg))))
    | (refine step_append_ga rowWi rfl _ _ rfl w1.heap.size v7 (L.take i ++ [s]) (L.drop i) ad m (c - i) rfl (HF.out.1.more HF.out.2.1) (congrArg (fun z => Value.slice z m (c - i)) HAD.out) HTD.out.2 (HSRC.out w7 HF.out.2.2) (by have := HTD.out; have := hn.out; simp only [List.length_append, List.length_cons, List.length_nil]; omega) HF.out.2.2.size ?_
       intro v8 w8 hF8 hg8
       have HF8 := hid (And.intro hF8 (HF.out.2.2.grown hg8 HF.out.2.2.size (fun k hk => (World.ownsRow.lt (HF.out.1.more HF.out.2.1) k hk).1)))))
  all_goals
    clear hF hg hF8 hg8
    go_wp2_with fail
    all_goals
      go_returns
      exact ⟨_, rfl, by rw [HI.out]; exact HF8.out.1.more HBl.out.size, HBl.out.trans (HF8.out.2.mono HBl.out.size)⟩
end Go.Proofs.Ytpfhmpblcmednaa
