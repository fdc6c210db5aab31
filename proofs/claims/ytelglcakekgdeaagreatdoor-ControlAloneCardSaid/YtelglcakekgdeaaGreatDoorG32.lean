/- Texts put together: Ya Yz. -/
import Derived.Test.YtelglcakekgdeaaGreatDoorG27
import Derived.Test.YtelglcakekgdeaaGreatDoorG31
import Derived.Test.YtelglcakekgdeaaGreatDoorG03
namespace Go.Proofs.YtelglcakekgdeaaGreatDoor
set_option linter.unusedVariables false
set_option linter.unusedSimpArgs false
open Go.RowKit Go.Joins

def arrP (F : Nat → Value) : Array Value := Array.ofFn (n := 35) (fun i => F i.val)
theorem arrP_at (F : Nat → Value) {i : Nat} (h : i < 35) : (arrP F)[i]? = some (F i) := by simp [arrP, h]
theorem arrP_set (F G : Nat → Value) (i : Nat) (u : Value) (h : ∀ j, j < 35 → G j = if j = i then u else F j) : (arrP F).setIfInBounds i u = arrP G := by
  apply Array.ext
  · simp [arrP]
  · intro j h1 h2
    have hj : j < 35 := by simpa [arrP] using h2
    rw [Array.getElem_setIfInBounds]
    · simp only [arrP, Array.getElem_ofFn, h j hj]
      by_cases e : j = i
      · simp [e]
      · simp [e, Ne.symm e]
    · simpa [arrP] using hj
/-- A plane's cells: names, sixteen configs, how many there are, how many were refused. -/
def pF (ny : Value) (F : Nat → Value × List UInt8) (nv rf : Int) (j : Nat) : Value :=
  if j = 0 then ny else if j < 33 then (if (j - 1) % 2 = 0 then (F ((j - 1) / 2)).1 else .string (bs (F ((j - 1) / 2)).2)) else if j = 33 then .int .i64 nv else .int .i64 rf
def BPl (w : World) (g : Nat) (ny : Value) (F : Nat → Value × List UInt8) (nv rf : Int) : Prop := Bk w g 51 (arrP (pF ny F nv rf))
def updF (F : Nat → Value × List UInt8) (k : Nat) (x : Value × List UInt8) : Nat → Value × List UInt8 := fun j => if j = k then x else F j
def zeroF : Nat → Value × List UInt8 := fun _ => (.slice none 0 0, [])
section
variable {w w' : World} {g : Nat} {ny : Value} {F : Nat → Value × List UInt8} {nv rf : Int}
theorem BPl.up (h : BPl w g ny F nv rf) (hb : Below w.heap.size w w') : BPl w' g ny F nv rf := Bk.up h hb
theorem BPl.c0 (h : BPl w g ny F nv rf) : w.cell? ⟨g, 0, none⟩ = some ny := by rw [Bk.cell h, arrP_at _ (by omega)]; rfl
theorem BPl.cr (h : BPl w g ny F nv rf) {k : Nat} (hk : k < 16) : w.cell? ⟨g, 1 + k * 2, none⟩ = some (F k).1 := by
  rw [Bk.cell h, arrP_at _ (by omega)]
  unfold pF
  rw [if_neg (by omega), if_pos (by omega), if_pos (by omega), show (1 + k * 2 - 1) / 2 = k by omega]
theorem BPl.cf (h : BPl w g ny F nv rf) {k : Nat} (hk : k < 16) : w.cell? ⟨g, 1 + k * 2 + 1, none⟩ = some (.string (bs (F k).2)) := by
  rw [Bk.cell h, arrP_at _ (by omega)]
  unfold pF
  rw [if_neg (by omega), if_pos (by omega), if_neg (by omega), show (1 + k * 2 + 1 - 1) / 2 = k by omega]
theorem BPl.cv (h : BPl w g ny F nv rf) : w.cell? ⟨g, 33, none⟩ = some (.int .i64 nv) := by rw [Bk.cell h, arrP_at _ (by omega)]; rfl
theorem BPl.ce (h : BPl w g ny F nv rf) : w.cell? ⟨g, 34, none⟩ = some (.int .i64 rf) := by rw [Bk.cell h, arrP_at _ (by omega)]; rfl
theorem BPl.free (h : BPl w g ny F nv rf) (i : Nat) : w.frozen? ⟨g, i, none⟩ = false := Bk.frozen h i
theorem BPl.setv (h : BPl w g ny F nv rf) (x : Int) : BPl (w.setCell ⟨g, 33, none⟩ (.int .i64 x)) g ny F x rf := by
  have := Bk.set_ h 33 (.int .i64 x)
  rwa [arrP_set _ (pF ny F x rf) 33 _ (fun j _ => by unfold pF; (repeat' split) <;> first | rfl | omega)] at this
theorem BPl.sete (h : BPl w g ny F nv rf) (x : Int) : BPl (w.setCell ⟨g, 34, none⟩ (.int .i64 x)) g ny F nv x := by
  have := Bk.set_ h 34 (.int .i64 x)
  rwa [arrP_set _ (pF ny F nv x) 34 _ (fun j hj => by unfold pF; (repeat' split) <;> first | rfl | omega)] at this
theorem BPl.setc (h : BPl w g ny F nv rf) {k : Nat} (hk : k < 16) (y : Value) (f : List UInt8) : BPl ((w.setCell ⟨g, 1 + k * 2, none⟩ y).setCell ⟨g, 1 + k * 2 + 1, none⟩ (.string (bs f))) g ny (updF F k (y, f)) nv rf := by
  have h1 := Bk.set_ (Bk.set_ h (1 + k * 2) y) (1 + k * 2 + 1) (.string (bs f))
  rw [arrP_set (pF ny F nv rf) (fun j => if j = 1 + k * 2 then y else pF ny F nv rf j) (1 + k * 2) y (fun j _ => rfl)] at h1
  rwa [arrP_set _ (pF ny (updF F k (y, f)) nv rf) (1 + k * 2 + 1) _ (fun j _ => by
    unfold pF updF
    by_cases e1 : j = 1 + k * 2 + 1
    · subst e1
      rw [if_pos rfl, if_neg (by omega), if_pos (by omega), if_neg (by omega), if_pos (by omega)]
    · rw [if_neg e1]
      by_cases e2 : j = 1 + k * 2
      · subst e2
        rw [if_pos rfl, if_neg (by omega), if_pos (by omega), if_pos (by omega), if_pos (by omega)]
      · rw [if_neg e2]
        by_cases e3 : j = 0
        · rw [if_pos e3, if_pos e3]
        · rw [if_neg e3, if_neg e3]
          by_cases e4 : j < 33
          · have hne : ¬ (j - 1) / 2 = k := by omega
            rw [if_pos e4, if_pos e4, if_neg hne]
          · rw [if_neg e4, if_neg e4])] at h1
end
/-- What is so of each config that was published. -/
def okC (l : List (List UInt8)) (c : Cf) : Prop := chkC (chkR · l) c.1 c.2 = 0 ∧ c.1.length ≤ 140737488351232 ∧ ∀ r ∈ c.2, okRs r
/-- A plane: the configs that were published, how many texts were refused. -/
def PlH (M : Nat → Prop) (w : World) (g : Nat) (l : List (List UInt8)) (C : List Cf) (rf : Nat) : Prop := ¬ M g ∧ (∀ c ∈ C, okC l c) ∧ (C.length ≤ 16 ∧ rf ≤ 1000000) ∧ ∃ ny F, BPl w g ny F (C.length : Int) (rf : Int) ∧ TM w M ny l ∧ ∀ (k : Nat) (c : Cf), C[k]? = some c → (F k).2 = c.1 ∧ ∃ V, RM w M (F k).1 V ∧ V.map Ru.sem = c.2
section
variable {w w' : World} {M : Nat → Prop} {g g2 : Nat} {l : List (List UInt8)} {C : List Cf} {rf : Nat}
theorem PlH.up (h : PlH M w g l C rf) (hb : Below w.heap.size w w') : PlH M w' g l C rf := by
  obtain ⟨h0, h1, h2, ny, F, k0, k1, k2⟩ := h
  refine ⟨h0, h1, h2, ny, F, k0.up hb, k1.up hb, fun k c hc => ?_⟩
  obtain ⟨e, V, a, b⟩ := k2 k c hc
  exact ⟨e, V, a.up hb, b⟩
theorem PlH.only (h : PlH M w g l C rf) (ho : Onl g2 w w') (hg : ¬ M g2) (hn : g ≠ g2) : PlH M w' g l C rf := by
  obtain ⟨h0, h1, h2, ny, F, k0, k1, k2⟩ := h
  refine ⟨h0, h1, h2, ny, F, Bk.only k0 ho hn, k1.only ho hg, fun k c hc => ?_⟩
  obtain ⟨e, V, a, b⟩ := k2 k c hc
  exact ⟨e, V, a.only ho hg, b⟩
theorem PlH.lt (h : PlH M w g l C rf) : g < w.heap.size := by
  obtain ⟨h0, h1, h2, ny, F, k0, k1, k2⟩ := h
  exact Bk.lt k0
theorem PlH.imp {M2 : Nat → Prop} (h : PlH M w g l C rf) (hg : ¬ M2 g) (hm : ∀ b, b < w.heap.size → M b → M2 b) : PlH M2 w g l C rf := by
  obtain ⟨h0, h1, h2, ny, F, k0, k1, k2⟩ := h
  refine ⟨hg, h1, h2, ny, F, k0, k1.imp hm, fun k c hc => ?_⟩
  obtain ⟨e, V, a, b⟩ := k2 k c hc
  exact ⟨e, V, a.imp hm, b⟩
theorem PlH.cells (h : PlH M w g l C rf) : w.cell? ⟨g, 33, none⟩ = some (.int .i64 (C.length : Int)) ∧ w.cell? ⟨g, 34, none⟩ = some (.int .i64 (rf : Int)) ∧ ∀ i, w.frozen? ⟨g, i, none⟩ = false := by
  obtain ⟨h0, h1, h2, ny, F, k0, k1, k2⟩ := h
  exact ⟨k0.cv, k0.ce, k0.free⟩
end
set_option maxRecDepth 100000 in
set_option maxHeartbeats 4000000 in
theorem cversions_any (g : Nat) (v : Int) (w : World) (h : w.cell? ⟨g, 33, none⟩ = some (.int .i64 v)) (h1 : 0 ≤ v) (h2 : v ≤ 1099511627776) :
    Calls Tryz.prog 11 #[.pointer (some ⟨g, 0, none⟩)] w fun e w' => e = .returned (.int .i64 v) ∧ Below w.heap.size w w' := by
  have H := hid h
  clear h
  go_enter Tryz.func11, Tryz.ntmps11
  go_wp2_with fail
  refine (aload_any _ v _ H.out).mono ?_
  rintro e w' ⟨rfl, rfl⟩
  go_wp2_with fail
  go_returns
  exact ⟨rfl, Below.refl _ _⟩
set_option maxRecDepth 100000 in
set_option maxHeartbeats 4000000 in
theorem crefused_any (g : Nat) (v : Int) (w : World) (h : w.cell? ⟨g, 34, none⟩ = some (.int .i64 v)) (h1 : 0 ≤ v) (h2 : v ≤ 1099511627776) :
    Calls Tryz.prog 12 #[.pointer (some ⟨g, 0, none⟩)] w fun e w' => e = .returned (.int .i64 v) ∧ Below w.heap.size w w' := by
  have H := hid h
  clear h
  go_enter Tryz.func12, Tryz.ntmps12
  go_wp2_with fail
  refine (ncount_any _ v _ H.out (by omega) (by omega)).mono ?_
  rintro e w' ⟨rfl, rfl⟩
  go_wp2_with fail
  go_returns
  exact ⟨rfl, Below.refl _ _⟩
end Go.Proofs.YtelglcakekgdeaaGreatDoor
namespace Go.Proofs.YtelglcakekgdeaaGreatDoor
set_option linter.unusedVariables false
set_option linter.unusedSimpArgs false
open Go.RowKit Go.Joins

def cs35 (ny : Value) : Array Value := #[ny, .slice none 0 0, .string (bs []), .slice none 0 0, .string (bs []), .slice none 0 0, .string (bs []), .slice none 0 0, .string (bs []), .slice none 0 0, .string (bs []), .slice none 0 0, .string (bs []), .slice none 0 0, .string (bs []), .slice none 0 0, .string (bs []), .slice none 0 0, .string (bs []), .slice none 0 0, .string (bs []), .slice none 0 0, .string (bs []), .slice none 0 0, .string (bs []), .slice none 0 0, .string (bs []), .slice none 0 0, .string (bs []), .slice none 0 0, .string (bs []), .slice none 0 0, .string (bs []), .int .i64 0, .int .i64 0]
theorem cs35_list (ny : Value) : (List.range 35).map (pF ny zeroF 0 0) = [ny, .slice none 0 0, .string (bs []), .slice none 0 0, .string (bs []), .slice none 0 0, .string (bs []), .slice none 0 0, .string (bs []), .slice none 0 0, .string (bs []), .slice none 0 0, .string (bs []), .slice none 0 0, .string (bs []), .slice none 0 0, .string (bs []), .slice none 0 0, .string (bs []), .slice none 0 0, .string (bs []), .slice none 0 0, .string (bs []), .slice none 0 0, .string (bs []), .slice none 0 0, .string (bs []), .slice none 0 0, .string (bs []), .slice none 0 0, .string (bs []), .slice none 0 0, .string (bs []), .int .i64 0, .int .i64 0] := rfl
theorem cs35_eq (ny : Value) : cs35 ny = arrP (pF ny zeroF 0 0) := by
  have h : (arrP (pF ny zeroF 0 0)).toList = (List.range 35).map (pF ny zeroF 0 0) := by
    apply List.ext_getElem?
    intro i
    rw [Array.getElem?_toList]
    by_cases hi : i < 35
    · rw [arrP_at _ hi, List.getElem?_map, List.getElem?_range hi]
      rfl
    · have hs : (arrP (pF ny zeroF 0 0)).size = 35 := by unfold arrP; exact Array.size_ofFn
      rw [Array.getElem?_eq_none (by omega), List.getElem?_eq_none (by rw [List.length_map, List.length_range]; omega)]
  apply Array.toList_inj.1
  rw [h, cs35_list]
  rfl
set_option maxRecDepth 100000 in
set_option maxHeartbeats 4000000 in
theorem cnew_any18 (ny : Value) (l : List (List UInt8)) (w : World) (hn : TX w (· < w.heap.size) ny l) (hl : l.length ≤ 1000000) :
    Calls Tryz.prog 6 #[ny] w fun e w' => ∃ g, e = .returned (.pointer (some ⟨g, 0, none⟩)) ∧ w.heap.size ≤ g ∧ PlH (fun b => w.heap.size ≤ b ∧ b ≠ g) w' g l [] 0 ∧ Below w.heap.size w w' := by
  obtain ⟨A, c, rfl, h1, h3, h4⟩ := hn
  have c0 : (ByteArray.mk #[]) = bs [] := rfl
  have HC := hid (cloneS_any A c l w h1 hl)
  have H4 := hid h4
  clear h1 h3 h4
  go_enter Tryz.func6, Tryz.ntmps6
  go_wp2_with fail
  refine HC.out.mono ?_
  rintro e w1 ⟨v1, rfl, hown, hb⟩
  obtain ⟨A1, c1, rfl, hgx, hA, hlc, hcm⟩ := GB.reads encS1_len hown
  have H1 := hid (And.intro hgx (And.intro (Nat.le_trans hlc hcm) hb))
  have hnew : BPl (w1.alloc (.cells (cs35 (.slice A1 l.length c1)) 51)) w1.heap.size (.slice A1 l.length c1) zeroF ((([] : List Cf).length : Nat) : Int) ((0 : Nat) : Int) := by
    have h := Bk.new w1 51 (cs35 (.slice A1 l.length c1))
    unfold BPl
    rw [show ((([] : List Cf).length : Nat) : Int) = 0 from rfl, show ((0 : Nat) : Int) = 0 from rfl, ← cs35_eq]
    exact h
  have HN := hid hnew
  have hb1 := enew w1 (.cells (cs35 (.slice A1 l.length c1)) 51)
  have HB1 := hid hb1
  clear hown hgx hA hlc hcm hb hnew hb1
  unfold cs35 at HN HB1
  go_wp2_with fail
  go_returns
  obtain ⟨hgx, hcm, hb⟩ := H1.out
  refine ⟨_, rfl, hb.size, ⟨fun h => h.2 rfl, fun c hc => (by cases hc), by simp, .slice A1 l.length c1, zeroF, ?_, ?_, fun k c hc => (by simp at hc)⟩, estep hb HB1.out⟩
  · exact HN.out
  · refine TM.up (w := w1) ⟨A1, c1, rfl, (stx_of_gx hgx).imp fun b hB => ⟨hB.2, hB.1, fun e => ?_⟩, hcm, H4.out⟩ HB1.out
    have := hB.2
    omega
end Go.Proofs.YtelglcakekgdeaaGreatDoor
