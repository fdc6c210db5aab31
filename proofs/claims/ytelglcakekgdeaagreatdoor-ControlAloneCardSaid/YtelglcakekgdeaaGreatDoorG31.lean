/- Texts put together: Kj Kk Kl Km. -/
import Derived.Test.YtelglcakekgdeaaGreatDoorG25
import Derived.Test.YtelglcakekgdeaaGreatDoorG30
namespace Go.Proofs.YtelglcakekgdeaaGreatDoor
set_option linter.unusedVariables false
set_option linter.unusedSimpArgs false
open Go.RowKit Go.Joins

def fewC (f : List UInt8) (U : List Rs) : Bool := decide (f.length ≤ 400) && fewRu U
def namesB (l : List (List UInt8)) : Bool := (l.take 21).all (fun n => decide (n.length ≤ 400)) && decide (l.length ≤ 20)
theorem namesB_no {l : List (List UInt8)} {k : Nat} (hk : k < l.length) (h20 : k ≤ 20) (h : ¬ l[k].length ≤ 400) : namesB l = false := by
  have : (l.take 21).all (fun n => decide (n.length ≤ 400)) = false := by
    rw [List.all_eq_false]
    refine ⟨l[k], ?_, by simpa using h⟩
    have h1 : (l.take 21)[k]? = some l[k] := by rw [List.getElem?_take_of_lt (by omega), List.getElem?_eq_getElem hk]
    exact List.mem_of_getElem? h1
  rw [namesB, this]; rfl
theorem all_take_up {l : List (List UInt8)} {k : Nat} (hk : k < l.length) (h : (l.take k).all (fun n => decide (n.length ≤ 400)) = true) (hh : l[k].length ≤ 400) : (l.take (k + 1)).all (fun n => decide (n.length ≤ 400)) = true := by
  rw [List.take_succ_eq_append_getElem hk, List.all_append, h]
  simp [hh]
theorem stx_drewN {w : World} {A : Option Addr} {l : List (List UInt8)} (h : STexts w (· < w.heap.size) A l) (n : Nat) : STexts (w.drewN n) (· < (w.drewN n).heap.size) A l := stx_up h (below_drewN (Below.refl _ _) _)
end Go.Proofs.YtelglcakekgdeaaGreatDoor
namespace Go.Proofs.YtelglcakekgdeaaGreatDoor
set_option linter.unusedVariables false
set_option linter.unusedSimpArgs false
open Go.RowKit Go.Joins

def k14a : Ru := ⟨1, none, 0, 0, [], [97], 0, 0, 0, 0, 0, [], 0⟩
def k14b (g : Nat) : Ru := ⟨2, some ⟨g, 0, none⟩, 1, 1, [⟨2, [], [120]⟩], [98], 0, 0, 0, 0, 0, [], 0⟩
def k14U (g : Nat) : List Ru := [k14a, k14b g]
def k14C (g : Nat) : Array Value := #[.int .i64 1, .slice none 0 0, .string (bs [97]), .int .i64 0, .int .i64 0, .int .i64 0, .int .i64 0, .int .i64 0, .string (bs []), .int .i64 0, .int .i64 2, .slice (some ⟨g, 0, none⟩) 1 1, .string (bs [98]), .int .i64 0, .int .i64 0, .int .i64 0, .int .i64 0, .int .i64 0, .string (bs []), .int .i64 0]
theorem k14_row (g i j : Nat) (hi : i < 2) (hj : j < 10) : (k14C g)[i * 10 + j]? = (encR ((k14U g)[i]'hi))[j]? := by
  match i, hi, j, hj with
  | 0, _, 0, _ => rfl
  | 0, _, 1, _ => rfl
  | 0, _, 2, _ => rfl
  | 0, _, 3, _ => rfl
  | 0, _, 4, _ => rfl
  | 0, _, 5, _ => rfl
  | 0, _, 6, _ => rfl
  | 0, _, 7, _ => rfl
  | 0, _, 8, _ => rfl
  | 0, _, 9, _ => rfl
  | 1, _, 0, _ => rfl
  | 1, _, 1, _ => rfl
  | 1, _, 2, _ => rfl
  | 1, _, 3, _ => rfl
  | 1, _, 4, _ => rfl
  | 1, _, 5, _ => rfl
  | 1, _, 6, _ => rfl
  | 1, _, 7, _ => rfl
  | 1, _, 8, _ => rfl
  | 1, _, 9, _ => rfl
theorem k14_rv (w : World) (g gp : Nat) (h : Bk w g 72 (k14C gp)) (hp : Bk w gp 83 #[.int .i64 2, .string (bs []), .string (bs [120])]) (hg : g < w.heap.size) (hgp : gp < w.heap.size) : RV w (.slice (some ⟨g, 0, none⟩) 2 2) (k14U gp) := by
  refine ⟨some ⟨g, 0, none⟩, 2, rfl, fun i hi => ⟨g, 0, rfl, hg, fun j hj => ?_⟩, fun u hu => ?_, by simp, by simp [k14U], by simp [k14U]⟩
  · rw [Nat.zero_add, Bk.cell h]
    exact k14_row gp i j hi hj
  · simp only [k14U, List.mem_cons, List.mem_nil_iff, or_false] at hu
    rcases hu with rfl | rfl
    · exact PV.nil _ _
    · refine ⟨some ⟨gp, 0, none⟩, 1, rfl, fun k hk => ?_, by simp, by simp [k14b], by simp [k14b]⟩
      match k, hk with
      | 0, _ => exact ⟨gp, 0, rfl, hgp, Bk.cell hp 0, Bk.cell hp 1, Bk.cell hp 2⟩
theorem k14_ok (g : Nat) : ∀ u ∈ k14U g, okRs u.sem := fun u hu => by
  simp only [k14U, List.mem_cons, List.mem_nil_iff, or_false] at hu
  rcases hu with rfl | rfl <;> exact ⟨by simp [smallP, k14a, k14b, Ru.sem], by simp [k14a, k14b, Ru.sem], by simp [k14a, k14b, Ru.sem], by simp [k14a, k14b, Ru.sem]⟩
theorem k14_comp (g : Nat) : compT 7 [] ((k14U g).map Ru.sem) [[97], [98]] = (0, (7, [], [(k14b 0).sem, k14a.sem])) := by
  show compT 7 [] [k14a.sem, (k14b 0).sem] [[97], [98]] = _
  decide +kernel
theorem k14_chk (g : Nat) : chkC (chkR · [[97]]) [] ((k14U g).map Ru.sem) = 7 := by
  show chkC (chkR · [[97]]) [] [k14a.sem, (k14b 0).sem] = 7
  decide +kernel
theorem k14_whole1 : wholeB 7 [] [(k14b 0).sem, k14a.sem] [[97], [98]] = true := by decide +kernel
theorem k14_whole2 : wholeB 7 [] [(k14b 0).sem, k14a.sem] [[97]] = false := by decide +kernel
theorem tx_one (w : World) (t : TypeId) (a : List UInt8) (h : a.length ≤ 1000) : TX (w.alloc (.cells #[.string (bs a)] t)) (· < (w.alloc (.cells #[.string (bs a)] t)).heap.size) (.slice (some ⟨w.heap.size, 0, none⟩) 1 1) [a] := by
  refine ⟨some ⟨w.heap.size, 0, none⟩, 1, rfl, fun k hk => ?_, by simp [maxLen], by simp [maxLen]; omega⟩
  match k, hk with
  | 0, _ => exact ⟨_, rfl, by simp, Bk.cell (Bk.new w t #[.string (bs a)]) 0⟩
theorem tx_two (w : World) (t : TypeId) (a b : List UInt8) (h : a.length ≤ 1000 ∧ b.length ≤ 1000) : TX (w.alloc (.cells #[.string (bs a), .string (bs b)] t)) (· < (w.alloc (.cells #[.string (bs a), .string (bs b)] t)).heap.size) (.slice (some ⟨w.heap.size, 0, none⟩) 2 2) [a, b] := by
  refine ⟨some ⟨w.heap.size, 0, none⟩, 2, rfl, fun k hk => ?_, by simp [maxLen], by simp [maxLen]; omega⟩
  match k, hk with
  | 0, _ => exact ⟨_, rfl, by simp, Bk.cell (Bk.new w t #[.string (bs a), .string (bs b)]) 0⟩
  | 1, _ => exact ⟨_, rfl, by simp, Bk.cell (Bk.new w t #[.string (bs a), .string (bs b)]) 1⟩
theorem hv_none (w : World) : HV w (.slice none 0 0) [] := ⟨none, 0, rfl, fun k hk => absurd hk (by simp)⟩
theorem two_of {V : List Ru} {a b : Rs} (h : V.map Ru.sem = [a, b]) : ∃ x y, V = [x, y] ∧ x.sem = a ∧ y.sem = b := by
  match V, h with
  | [x, y], h => simp at h; exact ⟨x, y, rfl, h.1, h.2⟩
  | [], h => simp at h
  | [_], h => simp at h
  | _ :: _ :: _ :: _, h => simp at h
end Go.Proofs.YtelglcakekgdeaaGreatDoor
namespace Go.Proofs.YtelglcakekgdeaaGreatDoor
set_option linter.unusedVariables false
set_option linter.unusedSimpArgs false
open Go.RowKit Go.Joins

theorem rtsame_tv (v : Int) (f : List UInt8) (y1 y2 : Value) (U V : List Ru) (w : World) (he : U.map Ru.sem = V.map Ru.sem) (h1 : RV w y1 U) (h2 : RV w y2 V) (hl : U.length ≤ 1000000) :
    Calls Tryz.prog 10 #[.agg #[.int .i64 v, y1, .string (bs f)], .agg #[.int .i64 v, y2, .string (bs f)]] w fun e w' => e = .returned (.bool true) ∧ Below w.heap.size w w' :=
  rtsame_with v f y1 y2 true w fun w2 hb => rsame_rv y1 y2 U V w2 he (h1.up hb) (h2.up hb) hl
theorem fewC_len {f : List UInt8} {U : List Ru} (h : fewC f (U.map Ru.sem) = true) : U.length ≤ 40 := by
  rw [fewC, Bool.and_eq_true] at h
  simpa using fewRu_len h.2
theorem compT_len {v : Int} {f : List UInt8} {U : List Rs} {l : List (List UInt8)} {z : Int} {T : Tt} (h : compT v f U l = (z, T)) (hU : U.length ≤ 40) : T.2.2.length ≤ 40 := by
  by_cases hz : z = 0
  · subst hz
    rw [(compT_ok h).1]
    show (ordB rkS U).length ≤ 40
    rw [ordB_length]; exact hU
  · rw [compT_no h hz]; simp [noT]
end Go.Proofs.YtelglcakekgdeaaGreatDoor
namespace Go.Proofs.YtelglcakekgdeaaGreatDoor
set_option linter.unusedVariables false
set_option linter.unusedSimpArgs false
open Go.RowKit Go.Joins

theorem ord_ord (L : List Rs) : ordB rkS (ordB rkS L) = ordB rkS L := (ordB_of (key := rkS) (ordB_srt L) (Eqv.refl _)).symm
/-- What is looked up in what is ordered is the rule that First finds in what stood. -/
theorem lk_first (hit : Rs → Bool) {U V : List Ru} (hV : V.map Ru.sem = ordB rkS (U.map Ru.sem)) :
    (lkI (fun u => hit u.sem) V = -1 ∧ fstK (fun u => hit u.sem) U U.length = none) ∨
    ∃ (a k : Nat) (u v : Ru), lkI (fun u => hit u.sem) V = (a : Int) ∧ fstK (fun u => hit u.sem) U U.length = some k ∧ V[a]? = some v ∧ U[k]? = some u ∧ v.sem = u.sem := by
  have hE : Eqv rkS (U.map Ru.sem) (V.map Ru.sem) := by rw [hV]; exact (ordB_eqv (key := rkS) _).symm
  have hS : Srt rkS (V.map Ru.sem) := by rw [hV]; exact ordB_srt _
  by_cases h : V.findIdx (fun u => hit u.sem) < V.length
  · right
    have hh : hit (V[V.findIdx (fun u => hit u.sem)]).sem = true := List.findIdx_getElem (p := fun u : Ru => hit u.sem) (w := h)
    have hn : ∀ (j : Nat) (x : Ru), j < V.findIdx (fun u => hit u.sem) → V[j]? = some x → hit x.sem = false := fun j x hj hx => by
      obtain ⟨hj', rfl⟩ := List.getElem?_eq_some_iff.1 hx
      have := List.not_of_lt_findIdx hj
      simpa using this
    have hv : V[V.findIdx (fun u => hit u.sem)]? = some V[V.findIdx (fun u => hit u.sem)] := List.getElem?_eq_getElem h
    obtain ⟨k, u, h1, h2, h3⟩ := fst_stood (hit := hit) hE hS (f := V.findIdx (fun u => hit u.sem)) (sem_of hv) hh (fun j t hj ht => by
      rw [List.getElem?_map] at ht
      obtain ⟨x, hx, rfl⟩ := Option.map_eq_some_iff.1 ht
      exact hn j x hj hx)
    exact ⟨_, k, u, _, by rw [lkI, if_pos h], h1, hv, h2, h3.symm⟩
  · left
    refine ⟨by rw [lkI, if_neg h], fst_none (T := V.map Ru.sem) (fun s hs => hE.mem hs) fun j s hj hs => ?_⟩
    rw [List.getElem?_map] at hs
    obtain ⟨x, hx, rfl⟩ := Option.map_eq_some_iff.1 hs
    have hm := List.findIdx_eq_length.1 (Nat.le_antisymm List.findIdx_le_length (Nat.le_of_not_lt h))
    simpa using hm x (List.mem_of_getElem? hx)
theorem compT_again {f : List UInt8} {U : List Rs} {l : List (List UInt8)} {v : Int} {T : Tt} (h : compT v f U l = (0, T)) : compT v f (ordB rkS U) l = (0, (v, f, ordB rkS U)) := by
  obtain ⟨-, h1, h2⟩ := compT_ok h
  have h3 := chkC_ord h2
  rw [compT, if_neg (by rw [h1]; simp), if_neg (by rw [h3]; simp), ord_ord]
theorem whole_again {f : List UInt8} {U : List Rs} {l : List (List UInt8)} {v : Int} {T : Tt} (h : compT v f U l = (0, T)) : wholeB v f (ordB rkS U) l = true := by
  rw [wholeB, compT_again h, ord_ord]
  simp
theorem whole_no {f : List UInt8} {U : List Rs} {l : List (List UInt8)} {v z : Int} {T : Tt} (h : compT v f U l = (z, T)) (hz : z ≠ 0) : wholeB v f U l = false := by
  rw [wholeB, h, decide_eq_false hz]; rfl
end Go.Proofs.YtelglcakekgdeaaGreatDoor
