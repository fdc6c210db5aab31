/- Texts put together: Ra Rb Ka Kb Ro Ru Kc Qe Ko Kd Qd Ke Kf Kg Kh Kj Ua Ub Uc Ud Da Db Dc Dd De Kk Df Dg. -/
import Derived.Test.YtgkegpdmidcmoaaG17
import Derived.Test.YtgkegpdmidcmoaaG21
import Derived.Test.YtgkegpdmidcmoaaG08
import Derived.Test.YtgkegpdmidcmoaaG18
import Derived.Test.YtgkegpdmidcmoaaG14
import Derived.Deep.RegionHeld3
import Derived.Test.YtgkegpdmidcmoaaG06
import Derived.Deep.Cut
import Derived.Laws.StructEq
import Derived.BigQuiet
namespace Go.Proofs.Ytgkegpdmidcmoaa
set_option linter.unusedVariables false
set_option linter.unusedSimpArgs false
open Go.RowKit Go.Joins

def Ru.with_ (u : Ru) (a : Option Addr) (n c : Nat) : Ru := { u with xa := a, xn := n, xc := c }
theorem Ru.with_sem (u : Ru) (a : Option Addr) (n c : Nat) : (u.with_ a n c).sem = u.sem := rfl
theorem GW.cell1 {w : World} {g : Nat} {C : List Ru} (h : GW encR 10 w g 0 C) {i : Nat} {u : Ru} (hi : C[i]? = some u) (a : Option Addr) (n c : Nat) : GW encR 10 (w.setCell ⟨g, i * 10 + 1, none⟩ (.slice a n c)) g 0 (C.set i (u.with_ a n c)) := by
  obtain ⟨hlt, rfl⟩ := List.getElem?_eq_some_iff.1 hi
  refine ⟨by rw [World.size_setCell]; exact h.1, fun t ht => ?_⟩
  rw [List.length_set] at ht
  rw [gvals_set encR 10 encR_len C i hlt _ t ht]
  have h0 := h.2 t ht
  have hfz : (w.setCell ⟨g, i * 10 + 1, none⟩ (.slice a n c)).frozen? ⟨g, 0 + t, none⟩ = w.frozen? ⟨g, 0 + t, none⟩ := by go_simp
  rw [hfz]
  refine ⟨?_, h0.2⟩
  by_cases e : t = i * 10 + 1
  · subst e
    rw [if_pos (by omega), Nat.zero_add]
    have hc : (w.cell? ⟨g, i * 10 + 1, none⟩).isSome = true := by
      rw [Nat.zero_add] at h0
      rw [h0.1, List.getElem?_eq_getElem (by rw [gvals_len encR 10 encR_len]; exact ht)]; rfl
    obtain ⟨old, hold⟩ := Option.isSome_iff_exists.1 hc
    rw [show i * 10 + 1 - i * 10 = 1 by omega]
    have := World.cell?_setCell_same w ⟨g, i * 10 + 1, none⟩ (.slice a n c) hold
    rw [this]; rfl
  · have hne : (w.setCell ⟨g, i * 10 + 1, none⟩ (.slice a n c)).cell? ⟨g, 0 + t, none⟩ = w.cell? ⟨g, 0 + t, none⟩ := World.cell?_setCell_other w ⟨g, i * 10 + 1, none⟩ ⟨g, 0 + t, none⟩ (.slice a n c) (by intro hh; injection hh with _ h2 _; omega)
    rw [hne, h0.1]
    by_cases hin : i * 10 ≤ t ∧ t < i * 10 + 10
    · rw [if_pos hin]
      obtain ⟨j, rfl⟩ : ∃ j, t = i * 10 + j := ⟨t - i * 10, by omega⟩
      rw [gvals_at encR 10 encR_len C i hlt j (by omega), show i * 10 + j - i * 10 = j by omega]
      match j, (show j < 10 by omega), (show j ≠ 1 by omega) with
      | 0, _, _ => rfl
      | 2, _, _ => rfl
      | 3, _, _ => rfl
      | 4, _, _ => rfl
      | 5, _, _ => rfl
      | 6, _, _ => rfl
      | 7, _, _ => rfl
      | 8, _, _ => rfl
      | 9, _, _ => rfl
    · rw [if_neg hin]
end Go.Proofs.Ytgkegpdmidcmoaa
namespace Go.Proofs.Ytgkegpdmidcmoaa
set_option linter.unusedVariables false
set_option linter.unusedSimpArgs false
open Go.RowKit Go.Joins

abbrev rkS (r : Rs) : Int := r.rank
theorem ordB_sem (U : List Ru) : (ordB rkR U).map Ru.sem = ordB rkS (U.map Ru.sem) := (ordB_map (key := rkS) Ru.sem U).symm
theorem mem_ordB {U : List Ru} {u : Ru} (h : u ∈ ordB rkR U) : u ∈ U := (ordB_eqv (key := rkR) U).mem h
end Go.Proofs.Ytgkegpdmidcmoaa
namespace Go.Proofs.Ytgkegpdmidcmoaa
set_option linter.unusedVariables false
set_option linter.unusedSimpArgs false
open Go.RowKit

/-- Order changes nothing of what may be, where all may be. -/
theorem chkC_ord {p : Rs → Int} {f : List UInt8} {U : List Rs} (h : chkC p f U = 0) : chkC p f (ordB rkS U) = 0 := by
  obtain ⟨h1, h2, h3⟩ := chkC_ok h
  exact chkC_zero h1 (by rw [ordB_length]; exact h2) fun r hr => h3 r ((ordB_eqv (key := rkS) U).mem hr)
end Go.Proofs.Ytgkegpdmidcmoaa
namespace Go.Proofs.Ytgkegpdmidcmoaa
set_option linter.unusedVariables false
set_option linter.unusedSimpArgs false
open Go.RowKit Go.Joins

/-- What a function value says of rules: an error's number; it may make memory. -/
def FR (w0 : World) (fv : Value) (U : List Ru) (p : Rs → Int) : Prop :=
  ∃ (F : Nat) (c : Value), fv = .func (.func F) #[] #[c] ∧ (∀ args w, (callFunc F args).run Try.prog w = .ok (.enter F args) w) ∧
    ∀ u ∈ U, ∀ w, Below w0.heap.size w0 w → Calls Try.prog F #[.agg #[.int .i64 u.rank, .slice u.xa u.xn u.xc, .string (bs u.tg), .int .i64 u.ap, .int .i64 u.st, .int .i64 u.dp, .int .i64 u.dt, .int .i64 u.mp, .string (bs u.mi), .int .i64 u.sm], c] w fun e w' => e = .returned (.int .i64 (p u.sem)) ∧ Below w.heap.size w w'
theorem sem_of {U : List Ru} {i : Nat} {u : Ru} (hu : U[i]? = some u) : (U.map Ru.sem)[i]? = some u.sem := by
  rw [List.getElem?_map, hu]; rfl
end Go.Proofs.Ytgkegpdmidcmoaa
namespace Go.Proofs.Ytgkegpdmidcmoaa
set_option linter.unusedVariables false
set_option linter.unusedSimpArgs false
open Go.RowKit Go.Joins

def k12a : Ru := ⟨1, none, 0, 0, [], [97], 0, 0, 0, 0, 0, [], 0⟩
def k12b (g : Nat) : Ru := ⟨5, some ⟨g, 0, none⟩, 1, 1, [⟨2, [], [120]⟩], [98], 0, 0, 0, 0, 0, [], 0⟩
def k12c : Ru := ⟨5, none, 0, 0, [], [99], 0, 0, 0, 0, 0, [], 0⟩
def k12U (g : Nat) : List Ru := [k12a, k12b g, k12c]
def k12C (g : Nat) : Array Value := #[.int .i64 1, .slice none 0 0, .string (bs [97]), .int .i64 0, .int .i64 0, .int .i64 0, .int .i64 0, .int .i64 0, .string (bs []), .int .i64 0, .int .i64 5, .slice (some ⟨g, 0, none⟩) 1 1, .string (bs [98]), .int .i64 0, .int .i64 0, .int .i64 0, .int .i64 0, .int .i64 0, .string (bs []), .int .i64 0, .int .i64 5, .slice none 0 0, .string (bs [99]), .int .i64 0, .int .i64 0, .int .i64 0, .int .i64 0, .int .i64 0, .string (bs []), .int .i64 0]
theorem k12_row (g i j : Nat) (hi : i < 3) (hj : j < 10) : (k12C g)[i * 10 + j]? = (encR ((k12U g)[i]'hi))[j]? := by
  match i, hi, j, hj with
  | 0, _, 0, _ => rfl
  | 0, _, 1, _ => rfl
  | 0, _, 2, _ => rfl
  | 0, _, 3, _ => rfl
  | 0, _, 4, _ => rfl
  | 0, _, 5, _ => rfl
  | 0, _, 6, _ => rfl
  | 0, _, 7, _ => rfl
  | 0, _, 8, _ => rfl
  | 0, _, 9, _ => rfl
  | 1, _, 0, _ => rfl
  | 1, _, 1, _ => rfl
  | 1, _, 2, _ => rfl
  | 1, _, 3, _ => rfl
  | 1, _, 4, _ => rfl
  | 1, _, 5, _ => rfl
  | 1, _, 6, _ => rfl
  | 1, _, 7, _ => rfl
  | 1, _, 8, _ => rfl
  | 1, _, 9, _ => rfl
  | 2, _, 0, _ => rfl
  | 2, _, 1, _ => rfl
  | 2, _, 2, _ => rfl
  | 2, _, 3, _ => rfl
  | 2, _, 4, _ => rfl
  | 2, _, 5, _ => rfl
  | 2, _, 6, _ => rfl
  | 2, _, 7, _ => rfl
  | 2, _, 8, _ => rfl
  | 2, _, 9, _ => rfl
theorem k12_rv (w : World) (g gp : Nat) (h : Bk w g 47 (k12C gp)) (hp : Bk w gp 69 #[.int .i64 2, .string (bs []), .string (bs [120])]) (hg : g < w.heap.size) (hgp : gp < w.heap.size) : RV w (.slice (some ⟨g, 0, none⟩) 3 3) (k12U gp) := by
  refine ⟨some ⟨g, 0, none⟩, 3, rfl, fun i hi => ⟨g, 0, rfl, hg, fun j hj => ?_⟩, fun u hu => ?_, by simp, by simp [k12U], by simp [k12U]⟩
  · rw [Nat.zero_add, Bk.cell h]
    exact k12_row gp i j hi hj
  · simp only [k12U, List.mem_cons, List.mem_nil_iff, or_false] at hu
    rcases hu with rfl | rfl | rfl
    · exact PV.nil _ _
    · refine ⟨some ⟨gp, 0, none⟩, 1, rfl, fun k hk => ?_, by simp, by simp [k12b], by simp [k12b]⟩
      match k, hk with
      | 0, _ => exact ⟨gp, 0, rfl, hgp, Bk.cell hp 0, Bk.cell hp 1, Bk.cell hp 2⟩
    · exact PV.nil _ _
theorem k12_ord (g : Nat) : ordB rkS ((k12U g).map Ru.sem) = [(k12b 0).sem, k12c.sem, k12a.sem] := by
  show ordB rkS [k12a.sem, (k12b 0).sem, k12c.sem] = _
  decide +kernel
end Go.Proofs.Ytgkegpdmidcmoaa
namespace Go.Proofs.Ytgkegpdmidcmoaa
set_option linter.unusedVariables false
set_option linter.unusedSimpArgs false
open Go.RowKit Go.Joins

end Go.Proofs.Ytgkegpdmidcmoaa
namespace Go.Proofs.Ytgkegpdmidcmoaa
set_option linter.unusedVariables false
set_option linter.unusedSimpArgs false
open Go.RowKit Go.Joins

theorem tx_up {w w' : World} {v : Value} {L : List (List UInt8)} (h : TX w (· < w.heap.size) v L) (hb : Below w.heap.size w w') : TX w' (· < w'.heap.size) v L := by
  obtain ⟨A, cap, e, h1, h2⟩ := h
  exact ⟨A, cap, e, stx_up h1 hb, h2⟩
theorem maxLen_le {n : Nat} (h : n ≤ maxLen) : n ≤ 9223372036854775807 := by unfold maxLen at h; omega
end Go.Proofs.Ytgkegpdmidcmoaa
namespace Go.Proofs.Ytgkegpdmidcmoaa
set_option linter.unusedVariables false
set_option linter.unusedSimpArgs false
open Go.RowKit Go.Joins

theorem fewRu_len {l : List Rs} (h : fewRu l = true) : l.length ≤ 40 := by
  unfold fewRu at h
  simp at h
  exact h.1
theorem fewRu_ps {U : List Ru} (h : fewRu (U.map Ru.sem) = true) : ∀ u ∈ U, u.ps.length ≤ 20 := fun u hu => by
  have h40 := fewRu_len h
  rw [fewRu_eq h40] at h
  have h1 := List.all_eq_true.1 h u.sem (List.mem_map.2 ⟨u, hu, rfl⟩)
  unfold fewR1 at h1
  rw [Bool.and_eq_true] at h1
  have h2 := h1.1
  unfold fewP at h2
  rw [Bool.and_eq_true] at h2
  have h3 := h2.1
  simp at h3
  exact h3
theorem keepBQ {v w' : World} {g : Nat} {m h p b : List UInt8} {x : Value} (k : BQ v g m h p x b) (hz : Below v.heap.size v w') : w'.cell? ⟨g, 0, none⟩ = some (.string (bs m)) ∧ w'.cell? ⟨g, 1, none⟩ = some (.string (bs h)) ∧ w'.cell? ⟨g, 2, none⟩ = some (.string (bs p)) ∧ w'.cell? ⟨g, 3, none⟩ = some x ∧ w'.cell? ⟨g, 4, none⟩ = some (.string (bs b)) ∧ Below v.heap.size v w' := by
  obtain ⟨q0, q1, q2, q3, q4⟩ := (k.up hz).cells
  exact ⟨q0, q1, q2, q3, q4, hz⟩
end Go.Proofs.Ytgkegpdmidcmoaa
namespace Go.Proofs.Ytgkegpdmidcmoaa
set_option linter.unusedVariables false
set_option linter.unusedSimpArgs false
open Go.RowKit Go.Joins

/-- A slice of rules that can be read, in blocks that N allows. -/
def RN (w : World) (N : Nat → Prop) (y : Value) (U : List Ru) : Prop := ∃ A c, y = .slice A U.length c ∧ GX encR 10 w N A U ∧ RP w N U ∧ (A = none → c = 0) ∧ U.length ≤ c ∧ U.length ≤ 9223372036854775807
theorem RN.same {w w' : World} {N : Nat → Prop} {y : Value} {U : List Ru} (h : RN w N y U) (hs : ∀ b, N b → w'.heap[b]? = w.heap[b]?) : RN w' N y U := by
  obtain ⟨A, c, e, h1, h2, h3⟩ := h
  exact ⟨A, c, e, h1.same hs, h2.same hs, h3⟩
theorem RN.imp {w : World} {N M : Nat → Prop} {y : Value} {U : List Ru} (h : RN w N y U) (hs : ∀ b, N b → M b) : RN w M y U := by
  obtain ⟨A, c, e, h1, h2, h3⟩ := h
  exact ⟨A, c, e, h1.imp hs, h2.imp hs, h3⟩
theorem RN.rv {w : World} {N : Nat → Prop} {y : Value} {U : List Ru} (h : RN w N y U) (hs : ∀ b, N b → b < w.heap.size) : RV w y U := h.imp hs
theorem RV.rn {w : World} {y : Value} {U : List Ru} (h : RV w y U) : RN w (· < w.heap.size) y U := h
end Go.Proofs.Ytgkegpdmidcmoaa
namespace Go.Proofs.Ytgkegpdmidcmoaa
set_option linter.unusedVariables false
set_option linter.unusedSimpArgs false
open Go.RowKit Go.Joins

/-- A table: its version, its format, its rules. -/
abbrev Tt := Int × List UInt8 × List Rs
def noT : Tt := (0, [], [])
def badV (v : Int) : Bool := decide (v < 1) || decide (1099511627776 < v)
def compT (v : Int) (f : List UInt8) (U : List Rs) (l : List (List UInt8)) : Int × Tt :=
  if badV v = true then (12, noT) else if chkC (chkR · l) f U ≠ 0 then (chkC (chkR · l) f U, noT) else (0, (v, f, ordB rkS U))
/-- A table, as a value that can be read. -/
def TV (w : World) (t : Value) (T : Tt) : Prop := ∃ y V, t = .agg #[.int .i64 T.1, y, .string (bs T.2.1)] ∧ RV w y V ∧ V.map Ru.sem = T.2.2
theorem TV.up {w w' : World} {t : Value} {T : Tt} (h : TV w t T) (hb : Below w.heap.size w w') : TV w' t T := by
  obtain ⟨y, V, e, h1, h2⟩ := h
  exact ⟨y, V, e, h1.up hb, h2⟩
theorem rv_none (w : World) : RV w (.slice none 0 0) [] := ⟨none, 0, rfl, GX.nil _ _ _, fun u hu => (by cases hu), fun _ => rfl, Nat.le_refl _, by simp⟩
theorem TV.none (w : World) : TV w (.agg #[.int .i64 0, .slice none 0 0, .string (bs [])]) noT := ⟨_, [], rfl, rv_none w, rfl⟩
/-- A variable that holds a table. -/
def BT (w : World) (g : Nat) (v : Int) (y : Value) (f : List UInt8) : Prop := Bk w g 33 #[.int .i64 v, y, .string (bs f)]
theorem BT.new (w : World) (v : Int) (y : Value) (f : List UInt8) : BT (w.alloc (.cells #[.int .i64 v, y, .string (bs f)] 33)) w.heap.size v y f := Bk.new _ _ _
theorem BT.up {w w' : World} {g : Nat} {v : Int} {y : Value} {f : List UInt8} (k : BT w g v y f) (hb : Below w.heap.size w w') : BT w' g v y f := Bk.up k hb
theorem BT.cells {w : World} {g : Nat} {v : Int} {y : Value} {f : List UInt8} (k : BT w g v y f) : w.cell? ⟨g, 0, none⟩ = some (.int .i64 v) ∧ w.cell? ⟨g, 1, none⟩ = some y ∧ w.cell? ⟨g, 2, none⟩ = some (.string (bs f)) := ⟨Bk.cell k 0, Bk.cell k 1, Bk.cell k 2⟩
theorem BT.set3 {w : World} {g : Nat} {v : Int} {y : Value} {f : List UInt8} (k : BT w g v y f) (v' : Int) (y' : Value) (f' : List UInt8) : BT (((w.setCell ⟨g, 0, none⟩ (.int .i64 v')).setCell ⟨g, 1, none⟩ y').setCell ⟨g, 2, none⟩ (.string (bs f'))) g v' y' f' := by
  have := ((Bk.set_ k 0 (.int .i64 v')).set_ 1 y').set_ 2 (.string (bs f'))
  exact this
theorem BT.froz {w : World} {g : Nat} {v : Int} {y : Value} {f : List UInt8} (k : BT w g v y f) : w.frozen? ⟨g, 0, none⟩ = false ∧ w.frozen? ⟨g, 1, none⟩ = false ∧ w.frozen? ⟨g, 2, none⟩ = false := ⟨Bk.frozen k 0, Bk.frozen k 1, Bk.frozen k 2⟩
theorem below_set3 {B : Nat} {w w' : World} (h : Below B w w') (g : Nat) (hg : B ≤ g) (a b c : Value) : Below B w (((w'.setCell ⟨g, 0, none⟩ a).setCell ⟨g, 1, none⟩ b).setCell ⟨g, 2, none⟩ c) :=
  Below.setCell (Below.setCell (Below.setCell h hg _) hg _) hg _
theorem rn_set3 {w : World} {N : Nat → Prop} {y : Value} {V : List Ru} (h : RN w N y V) (g : Nat) (hg : ∀ b, N b → b ≠ g) (hs : ∀ b, N b → b < w.heap.size) (a b c : Value) : RV (((w.setCell ⟨g, 0, none⟩ a).setCell ⟨g, 1, none⟩ b).setCell ⟨g, 2, none⟩ c) y V := by
  refine (h.same fun k hk => ?_).rv fun k hk => ?_
  · rw [Below.heap_setCell _ _ _ k (hg k hk), Below.heap_setCell _ _ _ k (hg k hk), Below.heap_setCell _ _ _ k (hg k hk)]
  · rw [World.size_setCell, World.size_setCell, World.size_setCell]; exact hs k hk
theorem chkR_ps {r : Rs} {l : List (List UInt8)} (h : chkR r l = 0) : r.ps.length ≤ 4 := by
  unfold chkR at h
  by_cases h1 : r.rank < 0 ∨ 99 < r.rank
  · rw [if_pos h1] at h; exact absurd h (by omega)
  rw [if_neg h1] at h
  by_cases h2 : 4 < r.ps.length
  · rw [if_pos h2] at h; exact absurd h (by omega)
  omega
theorem chkC_small {f : List UInt8} {U : List Ru} {l : List (List UInt8)} (h : chkC (chkR · l) f (U.map Ru.sem) = 0) : U.length ≤ 16 ∧ ∀ u ∈ U, u.ps.length ≤ 4 := by
  obtain ⟨-, h2, h3⟩ := chkC_ok h
  exact ⟨by simpa using h2, fun u hu => chkR_ps (r := u.sem) (h3 u.sem (List.mem_map.2 ⟨u, hu, rfl⟩))⟩
end Go.Proofs.Ytgkegpdmidcmoaa
namespace Go.Proofs.Ytgkegpdmidcmoaa
set_option linter.unusedVariables false
set_option linter.unusedSimpArgs false

section
variable {α : Type} {key : α → Int}
/-- How many of the first n have this key. -/
def cntK (key : α → Int) (r : Int) (L : List α) (n : Nat) : Nat := ((L.take n).filter (fun x => decide (key x = r))).length
theorem cntK_zero (r : Int) (L : List α) : cntK key r L 0 = 0 := by simp [cntK]
theorem cntK_succ (r : Int) {L : List α} {i : Nat} {x : α} (h : L[i]? = some x) : cntK key r L (i + 1) = cntK key r L i + if key x = r then 1 else 0 := by
  obtain ⟨hi, rfl⟩ := List.getElem?_eq_some_iff.1 h
  unfold cntK
  rw [List.take_add_one, List.filter_append, List.length_append, List.getElem?_eq_getElem hi]
  by_cases e : key L[i] = r <;> simp [e]
theorem filter_at (r : Int) {L : List α} {i : Nat} {x : α} (h : L[i]? = some x) (hr : key x = r) : (L.filter (fun x => decide (key x = r)))[cntK key r L i]? = some x := by
  obtain ⟨hi, rfl⟩ := List.getElem?_eq_some_iff.1 h
  have e : L.filter (fun x => decide (key x = r)) = (L.take i).filter (fun x => decide (key x = r)) ++ (L.drop i).filter (fun x => decide (key x = r)) := by
    rw [← List.filter_append, List.take_append_drop]
  unfold cntK
  rw [e, List.getElem?_append_right (Nat.le_refl _), Nat.sub_self]
  rw [List.drop_eq_getElem_cons hi, List.filter_cons, if_pos (by simpa using hr)]
  rfl
theorem cntK_all (r : Int) (L : List α) : cntK key r L L.length = (L.filter (fun x => decide (key x = r))).length := by unfold cntK; rw [List.take_length]
theorem cntK_none {T : List α} (hs : Srt key T) {i : Nat} {x y : α} (hx : T[i + 1]? = some x) (hy : T[i]? = some y) (hne : key x ≠ key y) : cntK key (key x) T (i + 1) = 0 := by
  unfold cntK
  rw [List.length_eq_zero_iff, List.filter_eq_nil_iff]
  intro z hz
  obtain ⟨j, hj, hjl, hk⟩ := mem_kat_take (key := key) hz
  have hil := (List.getElem?_eq_some_iff.1 hx).1
  have h1 := srt_kat hs (i := j) (j := i) (by omega) (by omega)
  have h2 := srt_kat hs (i := i) (j := i + 1) (by omega) hil
  rw [kat_eq hx, kat_eq hy] at h2
  rw [kat_eq hy] at h1
  simp
  omega
theorem srt_next {T : List α} (hs : Srt key T) {i : Nat} {x y : α} (hx : T[i + 1]? = some x) (hy : T[i]? = some y) : key x ≤ key y := by
  have h2 := srt_kat hs (i := i) (j := i + 1) (by omega) (List.getElem?_eq_some_iff.1 hx).1
  rwa [kat_eq hx, kat_eq hy] at h2
end

theorem fstK_spec (hit : Ru → Bool) (U : List Ru) : ∀ n, n ≤ U.length → match fstK hit U n with
    | none => ∀ j u, j < n → U[j]? = some u → hit u = false
    | some k => k < n ∧ ∃ u, U[k]? = some u ∧ hit u = true ∧ ∀ j v, j < n → U[j]? = some v → hit v = true → v.rank ≤ u.rank ∧ (v.rank = u.rank → k ≤ j)
  | 0, _ => by simp [fstK]
  | n + 1, hn => by
    have ih := fstK_spec hit U n (by omega)
    have hu : U[n]? = some U[n] := List.getElem?_eq_getElem (by omega)
    cases hf : fstK hit U n with
    | none =>
      rw [hf] at ih
      rw [fstK_none hu hf]
      by_cases hh : hit U[n] = true
      · rw [if_pos hh]
        refine ⟨by omega, _, hu, hh, fun j v hj hv hit' => ?_⟩
        rcases Nat.lt_or_ge j n with h | h
        · rw [ih j v h hv] at hit'; cases hit'
        · obtain rfl : j = n := by omega
          rw [hu] at hv
          obtain rfl := Option.some.inj hv
          exact ⟨Int.le_refl _, fun _ => Nat.le_refl _⟩
      · rw [if_neg hh]
        intro j v hj hv
        rcases Nat.lt_or_ge j n with h | h
        · exact ih j v h hv
        · obtain rfl : j = n := by omega
          rw [hu] at hv
          obtain rfl := Option.some.inj hv
          simpa using hh
    | some k =>
      rw [hf] at ih
      obtain ⟨hk, u, huk, hhu, hall⟩ := ih
      rw [fstK_some hu hf, kat_eq (key := rkR) huk]
      by_cases hh : hit U[n] = true ∧ rkR u < U[n].rank
      · rw [if_pos hh]
        refine ⟨by omega, _, hu, hh.1, fun j v hj hv hit' => ?_⟩
        rcases Nat.lt_or_ge j n with h | h
        · have := (hall j v h hv hit').1
          have h2 := hh.2
          unfold rkR at h2
          exact ⟨by omega, fun e => by omega⟩
        · obtain rfl : j = n := by omega
          rw [hu] at hv
          obtain rfl := Option.some.inj hv
          exact ⟨Int.le_refl _, fun _ => Nat.le_refl _⟩
      · rw [if_neg hh]
        refine ⟨by omega, u, huk, hhu, fun j v hj hv hit' => ?_⟩
        rcases Nat.lt_or_ge j n with h | h
        · exact hall j v h hv hit'
        · obtain rfl : j = n := by omega
          rw [hu] at hv
          obtain rfl := Option.some.inj hv
          have : ¬ (rkR u < U[j].rank) := fun h => hh ⟨hit', h⟩
          unfold rkR at this
          exact ⟨by omega, fun _ => by omega⟩
theorem map_at {U : List Ru} {T : List Rs} (h : U.map Ru.sem = T) {i : Nat} {u : Ru} (hu : U[i]? = some u) : T[i]? = some u.sem := by
  rw [← h, List.getElem?_map, hu]; rfl
theorem at_map {U : List Ru} {T : List Rs} (h : U.map Ru.sem = T) {i : Nat} {s : Rs} (hs : T[i]? = some s) : ∃ u, U[i]? = some u ∧ u.sem = s := by
  rw [← h, List.getElem?_map] at hs
  cases hu : U[i]? with
  | none => rw [hu] at hs; cases hs
  | some u => rw [hu] at hs; exact ⟨u, rfl, Option.some.inj hs⟩
/-- None hits in what is ordered: none is first, neither here nor there. -/
theorem fst_none {hit : Rs → Bool} {U : List Ru} {T : List Rs} (hm : ∀ s ∈ U.map Ru.sem, s ∈ T) (h0 : ∀ j s, j < T.length → T[j]? = some s → hit s = false) : fstK (fun u => hit u.sem) U U.length = none := by
  have h := fstK_spec (fun u => hit u.sem) U U.length (Nat.le_refl _)
  cases hf : fstK (fun u => hit u.sem) U U.length with
  | none => rfl
  | some k =>
    rw [hf] at h
    obtain ⟨hk, u, hu, hh, -⟩ := h
    have hmem : u.sem ∈ T := hm _ (List.mem_map.2 ⟨u, List.mem_of_getElem? hu, rfl⟩)
    obtain ⟨j, hj, hs⟩ := List.getElem_of_mem hmem
    rw [h0 j u.sem hj (by rw [List.getElem?_eq_getElem hj, hs])] at hh
    cases hh
/-- The first that hits of a sorted list is the one that First finds there. -/
theorem fst_sorted {hit : Rs → Bool} {V : List Ru} {T : List Rs} (hV : V.map Ru.sem = T) (hs : Srt rkS T) {f : Nat} {s : Rs} (hf : T[f]? = some s) (hh : hit s = true) (h0 : ∀ j t, j < f → T[j]? = some t → hit t = false) : fstK (fun u => hit u.sem) V V.length = some f := by
  obtain ⟨v, hv, hvs⟩ := at_map hV hf
  have hfl := (List.getElem?_eq_some_iff.1 hv).1
  have h := fstK_spec (fun u => hit u.sem) V V.length (Nat.le_refl _)
  cases hk : fstK (fun u => hit u.sem) V V.length with
  | none =>
    rw [hk] at h
    have := h f v hfl hv
    rw [hvs, hh] at this
    cases this
  | some k =>
    rw [hk] at h
    obtain ⟨hkl, u, hu, hhu, hall⟩ := h
    obtain ⟨h1, h2⟩ := hall f v hfl hv (by rw [hvs]; exact hh)
    have hfk : f ≤ k := by
      rcases Nat.lt_or_ge k f with h | h
      · have := h0 k _ h (map_at hV hu)
        rw [this] at hhu
        cases hhu
      · exact h
    have h3 := srt_kat hs hfk (by rw [← hV, List.length_map]; exact hkl)
    rw [kat_eq (map_at hV hu), kat_eq (map_at hV hv)] at h3
    have h4 : v.rank = u.rank := by
      have : u.rank ≤ v.rank := h3
      omega
    have := h2 h4
    rw [show k = f by omega]
theorem find_least {α : Type} {p : α → Bool} {L : List α} {k : Nat} {x : α} (hx : L[k]? = some x) (hp : p x = true) (h0 : ∀ j y, j < k → L[j]? = some y → p y = false) : L.find? p = some x := by
  obtain ⟨hk, rfl⟩ := List.getElem?_eq_some_iff.1 hx
  rw [List.find?_eq_some_iff_getElem]
  exact ⟨hp, k, hk, rfl, fun j hj => by simpa using h0 j _ hj (List.getElem?_eq_getElem (by omega))⟩
/-- It is the same rule as the one that First finds of those as they stood. -/
theorem fst_stood {hit : Rs → Bool} {U : List Ru} {T : List Rs} (he : Eqv rkS (U.map Ru.sem) T) (hs : Srt rkS T) {f : Nat} {s : Rs} (hf : T[f]? = some s) (hh : hit s = true) (h0 : ∀ j t, j < f → T[j]? = some t → hit t = false) :
    ∃ k u, fstK (fun u => hit u.sem) U U.length = some k ∧ U[k]? = some u ∧ u.sem = s := by
  have hsT : s ∈ T := List.mem_of_getElem? hf
  have hsU : s ∈ U.map Ru.sem := he.symm.mem hsT
  obtain ⟨v, hvU, hvs⟩ := List.mem_map.1 hsU
  obtain ⟨j, hj, hvj⟩ := List.getElem_of_mem hvU
  have hv : U[j]? = some v := by rw [List.getElem?_eq_getElem hj, hvj]
  have h := fstK_spec (fun u => hit u.sem) U U.length (Nat.le_refl _)
  cases hk : fstK (fun u => hit u.sem) U U.length with
  | none =>
    rw [hk] at h
    have := h j v hj hv
    rw [hvs, hh] at this
    cases this
  | some k =>
    rw [hk] at h
    obtain ⟨hkl, u, hu, hhu, hall⟩ := h
    obtain ⟨h1, -⟩ := hall j v hj hv (by rw [hvs]; exact hh)
    have hut : u.sem ∈ T := he.mem (List.mem_map.2 ⟨u, List.mem_of_getElem? hu, rfl⟩)
    obtain ⟨g, hg, hgu⟩ := List.getElem_of_mem hut
    have hgu' : T[g]? = some u.sem := by rw [List.getElem?_eq_getElem hg, hgu]
    have hfg : f ≤ g := by
      rcases Nat.lt_or_ge g f with h | h
      · have := h0 g _ h hgu'
        rw [this] at hhu
        cases hhu
      · exact h
    have h3 := srt_kat hs hfg hg
    rw [kat_eq hgu', kat_eq hf] at h3
    have hr : u.rank = s.rank := by
      have a1 : u.rank ≤ s.rank := h3
      have a2 : s.rank = v.rank := by rw [← hvs]; rfl
      omega
    have e1 : T.find? (fun x => hit x && decide (rkS x = s.rank)) = some s := find_least hf (by rw [hh]; simp [rkS]) fun i y hi hy => by rw [h0 i y hi hy]; rfl
    have e2 : (U.map Ru.sem).find? (fun x => hit x && decide (rkS x = s.rank)) = some u.sem := by
      refine find_least (map_at rfl hu) (by rw [hhu]; simp [rkS]; exact hr) fun i y hi hy => ?_
      obtain ⟨x, hx, rfl⟩ := at_map rfl hy
      have hxl := (List.getElem?_eq_some_iff.1 hx).1
      by_cases hhx : hit x.sem = true
      · have hne : x.rank ≠ u.rank := fun e => by have := (hall i x hxl hx hhx).2 e; omega
        rw [hhx]
        simp only [Bool.true_and, decide_eq_false_iff_not]
        intro e
        exact hne (by rw [hr]; exact e)
      · rw [Bool.not_eq_true] at hhx
        rw [hhx]; rfl
    have e3 : ∀ L : List Rs, L.find? (fun x => hit x && decide (rkS x = s.rank)) = (L.filter (fun x => decide (rkS x = s.rank))).find? hit := fun L => by
      rw [List.find?_filter]
      congr 1
      funext x
      cases hit x <;> simp
    rw [e3, ← he s.rank, ← e3, e2] at e1
    exact ⟨k, u, rfl, hu, Option.some.inj e1⟩
end Go.Proofs.Ytgkegpdmidcmoaa
namespace Go.Proofs.Ytgkegpdmidcmoaa
set_option linter.unusedVariables false
set_option linter.unusedSimpArgs false
open Go.RowKit Go.Joins

def rkEq (U V : List Ru) : Bool := decide (U.map rkR = V.map rkR)
theorem rkEq_true {U V : List Ru} (hl : V.length = U.length) (h : ∀ (j : Nat) (a b : Ru), U[j]? = some a → V[j]? = some b → a.rank = b.rank) : rkEq U V = true := by
  refine decide_eq_true (List.ext_getElem (by simp [hl]) fun j h1 h2 => ?_)
  rw [List.getElem_map, List.getElem_map]
  rw [List.length_map] at h1 h2
  exact h j _ _ (List.getElem?_eq_getElem h1) (List.getElem?_eq_getElem h2)
theorem rkEq_false {U V : List Ru} {i : Nat} {a b : Ru} (h1 : U[i]? = some a) (h2 : V[i]? = some b) (h : a.rank ≠ b.rank) : rkEq U V = false := by
  refine decide_eq_false fun e => h ?_
  have := congrArg (fun l : List Int => l[i]?) e
  simp only [List.getElem?_map, h1, h2, Option.map_some] at this
  exact Option.some.inj this
/-- Where ranks are the same up to a place, the rules there are the same: of one rank none has moved. -/
def Stay (U V : List Ru) : Prop := ∀ (i : Nat) (u v : Ru), U[i]? = some u → V[i]? = some v → (∀ (j : Nat) (a b : Ru), j ≤ i → U[j]? = some a → V[j]? = some b → a.rank = b.rank) → u.sem = v.sem
theorem cnt_same {L M : List Rs} (r : Int) : ∀ (i : Nat), (∀ (j : Nat) (a b : Rs), j < i → L[j]? = some a → M[j]? = some b → a.rank = b.rank) → i ≤ L.length → i ≤ M.length → cntK rkS r L i = cntK rkS r M i
  | 0, _, _, _ => by rw [cntK_zero, cntK_zero]
  | i + 1, h, h1, h2 => by
    have hL : L[i]? = some (L[i]'(by omega)) := List.getElem?_eq_getElem _
    have hM : M[i]? = some (M[i]'(by omega)) := List.getElem?_eq_getElem _
    rw [cntK_succ r hL, cntK_succ r hM, cnt_same r i (fun j a b hj => h j a b (by omega)) (by omega) (by omega)]
    have := h i _ _ (by omega) hL hM
    unfold rkS
    rw [this]
theorem stay_ord {U V : List Ru} (he : V.map Ru.sem = ordB rkS (U.map Ru.sem)) : Stay U V := fun i u v hu hv h => by
  have hE : Eqv rkS (V.map Ru.sem) (U.map Ru.sem) := by rw [he]; exact ordB_eqv _
  have hui := (List.getElem?_eq_some_iff.1 hu).1
  have hvi := (List.getElem?_eq_some_iff.1 hv).1
  have hr := h i u v (Nat.le_refl _) hu hv
  have hc := cnt_same (L := U.map Ru.sem) (M := V.map Ru.sem) u.rank i (fun j a b hj ha hb => by
    rw [List.getElem?_map] at ha hb
    obtain ⟨a', ha', rfl⟩ := Option.map_eq_some_iff.1 ha
    obtain ⟨b', hb', rfl⟩ := Option.map_eq_some_iff.1 hb
    exact h j a' b' (by omega) ha' hb') (by simp; omega) (by simp; omega)
  have f1 := filter_at (key := rkS) u.rank (L := U.map Ru.sem) (x := u.sem) (sem_of hu) rfl
  have f2 := filter_at (key := rkS) u.rank (L := V.map Ru.sem) (x := v.sem) (sem_of hv) hr.symm
  rw [← hE u.rank, hc, f2] at f1
  exact (Option.some.inj f1).symm
end Go.Proofs.Ytgkegpdmidcmoaa
namespace Go.Proofs.Ytgkegpdmidcmoaa
set_option linter.unusedVariables false
set_option linter.unusedSimpArgs false
open Go.RowKit Go.Joins

end Go.Proofs.Ytgkegpdmidcmoaa
namespace Go.Proofs.Ytgkegpdmidcmoaa
set_option linter.unusedVariables false
set_option linter.unusedSimpArgs false
open Go.RowKit Go.Joins

def wholeB (v : Int) (f : List UInt8) (U : List Rs) (l : List (List UInt8)) : Bool := decide ((compT v f U l).1 = 0) && decide (U.map rkS = (ordB rkS U).map rkS)
theorem compT_ok {v : Int} {f : List UInt8} {U : List Rs} {l : List (List UInt8)} {T : Tt} (h : compT v f U l = (0, T)) : T = (v, f, ordB rkS U) ∧ badV v = false ∧ chkC (chkR · l) f U = 0 := by
  unfold compT at h
  by_cases h1 : badV v = true
  · rw [if_pos h1] at h
    have := congrArg Prod.fst h
    simp at this
  rw [if_neg h1] at h
  by_cases h2 : chkC (chkR · l) f U ≠ 0
  · rw [if_pos h2] at h
    exact absurd (congrArg Prod.fst h) h2
  rw [if_neg h2] at h
  exact ⟨(congrArg Prod.snd h).symm, by simpa using h1, Decidable.not_not.1 h2⟩
theorem compT_no {v : Int} {f : List UInt8} {U : List Rs} {l : List (List UInt8)} {z : Int} {T : Tt} (h : compT v f U l = (z, T)) (hz : z ≠ 0) : T = noT := by
  unfold compT at h
  by_cases h1 : badV v = true
  · rw [if_pos h1] at h; exact (congrArg Prod.snd h).symm
  rw [if_neg h1] at h
  by_cases h2 : chkC (chkR · l) f U ≠ 0
  · rw [if_pos h2] at h; exact (congrArg Prod.snd h).symm
  rw [if_neg h2] at h
  exact absurd (congrArg Prod.fst h).symm hz
theorem rkEq_of {U V : List Ru} (he : V.map Ru.sem = ordB rkS (U.map Ru.sem)) : rkEq U V = decide ((U.map Ru.sem).map rkS = (ordB rkS (U.map Ru.sem)).map rkS) := by
  rw [rkEq, ← he, List.map_map, List.map_map]
  rfl
theorem ord_len {U V : List Ru} (he : V.map Ru.sem = ordB rkS (U.map Ru.sem)) : V.length = U.length := by
  have := congrArg List.length he
  rw [ordB_length, List.length_map, List.length_map] at this
  exact this
theorem okRs_ord {U V : List Ru} (he : V.map Ru.sem = ordB rkS (U.map Ru.sem)) (h : ∀ u ∈ U, okRs u.sem) : ∀ v ∈ V, okRs v.sem := fun v hv => by
  have h1 : v.sem ∈ ordB rkS (U.map Ru.sem) := by rw [← he]; exact List.mem_map.2 ⟨v, hv, rfl⟩
  obtain ⟨u, hu, e⟩ := List.mem_map.1 ((ordB_eqv (key := rkS) (U.map Ru.sem)).mem h1)
  rw [← e]; exact h u hu
end Go.Proofs.Ytgkegpdmidcmoaa
namespace Go.Proofs.Ytgkegpdmidcmoaa
set_option linter.unusedVariables false
set_option linter.unusedSimpArgs false
open Go.RowKit Go.Joins

/-- The place of the first rule that hits. -/
def lkI (hit : Ru → Bool) (U : List Ru) : Int := if U.findIdx hit < U.length then (U.findIdx hit : Int) else -1
theorem lkI_hit {hit : Ru → Bool} {U : List Ru} {k : Nat} {u : Ru} (hu : U[k]? = some u) (hn : ∀ (j : Nat) (x : Ru), j < k → U[j]? = some x → hit x = false) (hp : hit u = true) : lkI hit U = (k : Int) := by
  obtain ⟨hk, rfl⟩ := List.getElem?_eq_some_iff.1 hu
  have := findIdx_hit hit U k hk (fun j hj hlt => hn j _ hlt (List.getElem?_eq_getElem hj)) hp
  rw [lkI, this, if_pos hk]
theorem lkI_miss {hit : Ru → Bool} {U : List Ru} (hn : ∀ (j : Nat) (x : Ru), j < U.length → U[j]? = some x → hit x = false) : lkI hit U = -1 := by
  have := findIdx_miss hit U (fun j hj => hn j _ hj (List.getElem?_eq_getElem hj))
  rw [lkI, this, if_neg (by omega)]
theorem none_up {hit : Ru → Bool} {U : List Ru} {i : Nat} {u : Ru} (h : ∀ (j : Nat) (x : Ru), j < i → U[j]? = some x → hit x = false) (hu : U[i]? = some u) (hh : hit u = false) : ∀ (j : Nat) (x : Ru), j < i + 1 → U[j]? = some x → hit x = false := fun j x hj hx => by
  by_cases e : j = i
  · subst e; rw [hu] at hx; cases hx; exact hh
  · exact h j x (by omega) hx
/-- What a function value says of rules: a bool; it may make memory. -/
def FB (w0 : World) (fv : Value) (U : List Ru) (p : Ru → Bool) : Prop :=
  ∃ (F : Nat) (c : Value), fv = .func (.func F) #[] #[c] ∧ (∀ args w, (callFunc F args).run Try.prog w = .ok (.enter F args) w) ∧
    ∀ u ∈ U, ∀ w, Below w0.heap.size w0 w → Calls Try.prog F #[.agg #[.int .i64 u.rank, .slice u.xa u.xn u.xc, .string (bs u.tg), .int .i64 u.ap, .int .i64 u.st, .int .i64 u.dp, .int .i64 u.dt, .int .i64 u.mp, .string (bs u.mi), .int .i64 u.sm], c] w fun e w' => e = .returned (.bool (p u)) ∧ Below w.heap.size w w'
set_option maxRecDepth 100000 in
set_option maxHeartbeats 4000000 in
theorem rindexFunc_any (A : Option Addr) (c : Nat) (fv : Value) (U : List Ru) (p : Ru → Bool) (w : World) (hU : GX encR 10 w (· < w.heap.size) A U) (hF : FB w fv U p) (hl : U.length ≤ 9223372036854775807) {z : Int} (H : Hid (lkI p U = z)) :
    Calls Try.prog 39 #[.slice A U.length c, fv] w fun e w' => e = .returned (.int .i64 z) ∧ Below w.heap.size w w' := by
  obtain ⟨F, cv, rfl, eg, hF⟩ := hF
  have H0 := hid hU
  have HF := hid hF
  clear hU hF
  generalize hnU : U.length = n at *
  have HNU := hid hnU
  clear hnU
  go_enter Try.func39, Try.ntmps39
  go_wp2_with fail
  go_loopg [8] n (fun g1 vi wr => ∃ i : Nat, vi = .int .i64 i ∧ i ≤ n ∧ n - i ≤ g1 ∧ Hid ((∀ (j : Nat) (x : Ru), j < i → U[j]? = some x → p x = false) ∧ Below w.heap.size w wr))
  case atStart => exact ⟨0, rfl, by omega, by omega, hid ⟨fun j x hj => by omega, Below.refl _ _⟩⟩
  case round =>
    obtain ⟨i, rfl, hin, hgk, HB⟩ := hrel
    by_cases hlt : i < n
    · have hltz : (i : Int) < (n : Int) := by omega
      have hltd : decide ((i : Int) < (n : Int)) = true := decide_eq_true hltz
      have hi0 : (0 : Int) ≤ (i : Int) := by omega
      have hiU : i < U.length := by have := HNU.out; omega
      obtain ⟨u, hu⟩ : ∃ u, U[i]? = some u := ⟨_, List.getElem?_eq_getElem hiU⟩
      obtain ⟨bb, oo, rfl, -⟩ := H0.out.some_of hiU
      have HU := hid hu
      obtain ⟨r0, r1, r2, r3, r4, r5, r6, r7, r8, r9⟩ := rank_cell (H0.out.up HB.out.2) hu
      obtain ⟨z1, hz1⟩ : ∃ z1, p u = z1 := ⟨_, rfl⟩
      have HZ := hid hz1
      have HC := hid (HF.out u (List.mem_of_getElem? hu) wr HB.out.2)
      rw [hz1] at HC
      clear hz1 hu hiU
      go_wp2_with fail
      refine HC.out.mono ?_
      rintro e w1 ⟨rfl, hb1⟩
      have HB1 := hid (estep HB.out.2 hb1)
      clear hb1 r0 r1 r2 r3 r4 r5 r6 r7 r8 r9
      cases z1
      · go_wp2_with fail
        go_roundg (n - (i + 1))
        case measure => omega
        case rel => exact ⟨i + 1, by go_num, by omega, by omega, hid ⟨none_up HB.out.1 HU.out HZ.out, HB1.out⟩⟩
      · have HE := hid (show z = (i : Int) by rw [← H.out]; exact lkI_hit HU.out HB.out.1 HZ.out)
        go_wp2_with fail
        go_returns
        exact ⟨by rw [HE.out]; rfl, HB1.out⟩
    · obtain rfl : i = n := by omega
      have hltd : decide ((i : Int) < (i : Int)) = false := by simp
      have HE := hid (show z = -1 by rw [← H.out]; exact lkI_miss fun j x hj hx => HB.out.1 j x (by have := HNU.out; omega) hx)
      go_wp2_with fail
      go_returns
      exact ⟨by rw [HE.out]; rfl, HB.out.2⟩
set_option maxRecDepth 100000 in
set_option maxHeartbeats 4000000 in
theorem lookup1_any (g : Nat) (u : Ru) (m h p b : List UInt8) (x : Value) (L : List Hd) (w : World) (hq : BQ w g m h p x b) (hx : HV w x L) (hL : L.length ≤ 1000000) (hu : UV w u) :
    Calls Try.prog 40 #[.agg #[.int .i64 u.rank, .slice u.xa u.xn u.xc, .string (bs u.tg), .int .i64 u.ap, .int .i64 u.st, .int .i64 u.dp, .int .i64 u.dt, .int .i64 u.mp, .string (bs u.mi), .int .i64 u.sm], .pointer (some ⟨g, 0, none⟩)] w fun e w' => e = .returned (.bool (allE u.ps m h p L)) ∧ Below w.heap.size w w' := by
  have hb1 := enew w (.cells #[.int .i64 u.rank, .slice u.xa u.xn u.xc, .string (bs u.tg), .int .i64 u.ap, .int .i64 u.st, .int .i64 u.dp, .int .i64 u.dt, .int .i64 u.mp, .string (bs u.mi), .int .i64 u.sm] 47)
  have hr0 := BR.new w u
  have hq0 := hq.up hb1
  have HC := hid (fun w2 (h1 : UV w2 u) (h2 : HV w2 x L) => hits_any u m h p b x L w2 h1 h2 hL (hid rfl))
  have HU := hid (hu.up hb1)
  have HX := hid (hx.up hb1)
  have HB := hid hb1
  clear hq hx hu hb1
  go_enter Try.func40, Try.ntmps40
  go_upto_region 1 with (fail)
  generalize w.alloc (.cells #[.int .i64 u.rank, .slice u.xa u.xn u.xc, .string (bs u.tg), .int .i64 u.ap, .int .i64 u.st, .int .i64 u.dp, .int .i64 u.dt, .int .i64 u.mp, .string (bs u.mi), .int .i64 u.sm] 47) = v0 at *
  obtain ⟨r0, r1, r2, r3, r4, r5, r6, r7, r8, r9⟩ := hr0.cells
  obtain ⟨q0, q1, q2, q3, q4⟩ := hq0.cells
  go_wp2_with fail
  refine (HC.out _ HU.out HX.out).mono ?_
  rintro e w1 ⟨rfl, hb2⟩
  go_wp2_with fail
  go_returns
  exact ⟨rfl, estep HB.out hb2⟩
set_option maxRecDepth 100000 in
set_option maxHeartbeats 4000000 in
theorem lookup_any (v : Int) (y : Value) (f : List UInt8) (U : List Ru) (m h p b : List UInt8) (x : Value) (L : List Hd) (w : World) (hy : RV w y U) (hx : HV w x L) (hL : L.length ≤ 1000000) {z : Int} (H : Hid (lkI (fun u => allE u.ps m h p L) U = z)) :
    Calls Try.prog 35 #[.agg #[.int .i64 v, y, .string (bs f)], .agg #[.string (bs m), .string (bs h), .string (bs p), x, .string (bs b)]] w fun e w' => e = .returned (.int .i64 z) ∧ Below w.heap.size w w' := by
  have hmf : ∀ (fn : Fn) (first cap : Array Value) (w : World), (Instr.makeFunc fn first cap).run Try.prog w = .ok (.func fn first cap) w := fun _ _ _ _ => rfl
  have hb1 := enew w (.cells #[.int .i64 v, y, .string (bs f)] 33)
  have hb2 := enew (w.alloc (.cells #[.int .i64 v, y, .string (bs f)] 33)) (.cells #[.string (bs m), .string (bs h), .string (bs p), x, .string (bs b)] 36)
  have hr0 := (BT.new w v y f).up hb2
  have hq0 := BQ.new (w.alloc (.cells #[.int .i64 v, y, .string (bs f)] 33)) m h p x b
  rw [World.size_alloc] at hq0
  have hb0 := estep hb1 hb2
  have HY := hid (hy.up hb0)
  have HX := hid (hx.up hb0)
  have HB := hid hb0
  clear hy hx hb0 hb1 hb2
  go_enter Try.func35, Try.ntmps35
  go_upto_region 1 with (fail)
  generalize (w.alloc (.cells #[.int .i64 v, y, .string (bs f)] 33)).alloc (.cells #[.string (bs m), .string (bs h), .string (bs p), x, .string (bs b)] 36) = v0 at *
  obtain ⟨k0, k1, k2⟩ := hr0.cells
  obtain ⟨A, c, rfl, hgx, hrp, -, -, hl9⟩ := id HY.out
  have HFB : Hid (FB v0 (.func (.func 40) #[] #[.pointer (some ⟨w.heap.size + 1, 0, none⟩)]) U (fun u => allE u.ps m h p L)) := hid ⟨_, _, rfl, fun _ _ => by kernel_rfl, fun u hu w2 h2 => lookup1_any (w.heap.size + 1) u m h p b x L w2 (hq0.up h2) (HX.out.up h2) hL (UV.up (hrp u hu) h2)⟩
  have HI := hid (rindexFunc_any A c _ U _ v0 hgx HFB.out hl9 H)
  clear hgx hrp
  go_wp2_with fail
  refine HI.out.mono ?_
  rintro e w1 ⟨rfl, hb2⟩
  go_wp2_with fail
  go_returns
  exact ⟨rfl, estep HB.out hb2⟩
set_option maxRecDepth 100000 in
set_option maxHeartbeats 8000000 in
theorem rlookup_any (v : Int) (y : Value) (f : List UInt8) (U : List Ru) (m h p b : List UInt8) (x : Value) (L : List Hd) (w : World) (hy : RV w y U) (hS : ∀ u ∈ U, smallP u.ps) (hpl : p.length ≤ 140737488351232) (hx : HV w x L) (hL : L.length ≤ 1000000) {z : Int} (H : Hid (lkI (fun u => allE u.ps m h p L) U = z)) :
    Calls Try.prog 23 #[.agg #[.int .i64 v, y, .string (bs f)], .agg #[.string (bs m), .string (bs h), .string (bs p), x, .string (bs b)]] w fun e w' => e = .returned (.int .i64 z) ∧ Below w.heap.size w w' := by
  have hb1 := enew w (.cells #[.int .i64 v, y, .string (bs f)] 33)
  have hb2 := enew (w.alloc (.cells #[.int .i64 v, y, .string (bs f)] 33)) (.cells #[.string (bs m), .string (bs h), .string (bs p), x, .string (bs b)] 36)
  have hr0 := (BT.new w v y f).up hb2
  have hq0 := BQ.new (w.alloc (.cells #[.int .i64 v, y, .string (bs f)] 33)) m h p x b
  rw [World.size_alloc] at hq0
  have hb0 := estep hb1 hb2
  have HY := hid (hy.up hb0)
  have HX := hid (hx.up hb0)
  have HB := hid hb0
  have HC := hid (fun (u : Ru) (hu : u ∈ U) (w2 : World) (h1 : UV w2 u) (h2 : HV w2 x L) => rhits_any u m h p b x L w2 h1 (hS u hu) h2 hL hpl (hid rfl))
  obtain ⟨A, c, rfl, -, -, -, -, hl9⟩ := id hy
  clear hy hx hb0 hb1 hb2 hS hpl hL
  generalize hnU : U.length = n at *
  have HNU := hid hnU
  clear hnU
  go_enter Try.func23, Try.ntmps23
  go_upto_region 1 with (fail)
  generalize (w.alloc (.cells #[.int .i64 v, .slice A n c, .string (bs f)] 33)).alloc (.cells #[.string (bs m), .string (bs h), .string (bs p), x, .string (bs b)] 36) = v0 at *
  obtain ⟨A9, c9, e9, hgx, hrp, -⟩ := id HY.out
  injection e9 with e1 e2 e3
  subst e1 e3
  have H1 := hid (And.intro hgx hrp)
  clear e2 hgx hrp
  go_wp2_with fail
  go_loopg [5] n (fun g1 vi wr => ∃ i : Nat, vi = .int .i64 i ∧ i ≤ n ∧ n - i ≤ g1 ∧ Hid ((∀ (j : Nat) (u : Ru), j < i → U[j]? = some u → allE u.ps m h p L = false) ∧ Below v0.heap.size v0 wr))
  case atStart => exact ⟨0, rfl, by omega, by omega, hid ⟨fun j x hj => by omega, Below.refl _ _⟩⟩
  case round =>
    obtain ⟨i, rfl, hin, hgk, HW⟩ := hrel
    obtain ⟨k0, k1, k2⟩ := (hr0.up HW.out.2).cells
    by_cases hlt : i < n
    · have hltz : (i : Int) < (n : Int) := by omega
      have hltd : decide ((i : Int) < (n : Int)) = true := decide_eq_true hltz
      have hi0 : (0 : Int) ≤ (i : Int) := by omega
      have hiU : i < U.length := by have := HNU.out; omega
      obtain ⟨u, hu⟩ : ∃ u, U[i]? = some u := ⟨_, List.getElem?_eq_getElem hiU⟩
      have hum := List.mem_of_getElem? hu
      obtain ⟨bb, oo, rfl, -⟩ := H1.out.1.some_of hiU
      have HU := hid hu
      obtain ⟨r0, r1, r2, r3, r4, r5, r6, r7, r8, r9⟩ := rank_cell (H1.out.1.up HW.out.2) hu
      obtain ⟨q0, q1, q2, q3, q4⟩ := (hq0.up HW.out.2).cells
      obtain ⟨z1, hz1⟩ : ∃ z1, allE u.ps m h p L = z1 := ⟨_, rfl⟩
      have HZ := hid hz1
      have HCU := hid (fun (w2 : World) (hb : Below wr.heap.size wr w2) => HC.out u hum w2 (UV.up (H1.out.2 u hum) (estep HW.out.2 hb)) (HX.out.up (estep HW.out.2 hb)))
      rw [hz1] at HCU
      have K1 := BW.cell k1
      have R0 := BW.cell r0
      have R1 := BW.cell r1
      have R2 := BW.cell r2
      have R3 := BW.cell r3
      have R4 := BW.cell r4
      have R5 := BW.cell r5
      have R6 := BW.cell r6
      have R7 := BW.cell r7
      have R8 := BW.cell r8
      have R9 := BW.cell r9
      have Q0 := BW.cell q0
      have Q1 := BW.cell q1
      have Q2 := BW.cell q2
      have Q3 := BW.cell q3
      have Q4 := BW.cell q4
      clear r0 r1 r2 r3 r4 r5 r6 r7 r8 r9 q0 q1 q2 q3 q4 hz1 hu hum hiU
      go_upto_region 4 with (fail)
      clear k0 k1 k2
      refine wp_region_bw (by kernel_rfl) (by kernel_rfl) ?_
      repeat (go_big_quiet_step ((go_at_call 33; exact calls_bw (HCU.out _ (BW.h _)))))
      refine wpQuiet_nil ?_
      rintro _ ⟨pq, rfl⟩
      clear R0 R1 R2 R3 R4 R5 R6 R7 R8 R9 Q0 Q1 Q2 Q3 Q4 K1
      have HB1 := hid (estep HW.out.2 pq.h)
      cases z1
      · go_wp2_with fail
        go_roundg (n - (i + 1))
        case measure => omega
        case rel => exact ⟨i + 1, by go_num, by omega, by omega, hid ⟨none_up (hit := fun u => allE u.ps m h p L) HW.out.1 HU.out HZ.out, HB1.out⟩⟩
      · have HE := hid (show z = (i : Int) by rw [← H.out]; exact lkI_hit (hit := fun u => allE u.ps m h p L) HU.out HW.out.1 HZ.out)
        go_wp2_with fail
        go_returns
        exact ⟨by rw [HE.out]; rfl, estep HB.out HB1.out⟩
    · obtain rfl : i = n := by omega
      have hltd : decide ((i : Int) < (i : Int)) = false := by simp
      have HE := hid (show z = -1 by rw [← H.out]; exact lkI_miss (hit := fun u => allE u.ps m h p L) fun j x hj hx => HW.out.1 j x (by have := HNU.out; omega) hx)
      go_wp2_with fail
      go_returns
      exact ⟨by rw [HE.out]; rfl, estep HB.out HW.out.2⟩
end Go.Proofs.Ytgkegpdmidcmoaa
namespace Go.Proofs.Ytgkegpdmidcmoaa
set_option linter.unusedVariables false
set_option linter.unusedSimpArgs false
open Go.RowKit Go.Joins

def fewC (f : List UInt8) (U : List Rs) : Bool := decide (f.length ≤ 400) && fewRu U
def namesB (l : List (List UInt8)) : Bool := (l.take 21).all (fun n => decide (n.length ≤ 400)) && decide (l.length ≤ 20)
theorem rufew_rv (y : Value) (U : List Ru) (w : World) (h : RV w y U) (hs : ∀ u ∈ U, okRs u.sem) {z : Bool} (H : Hid (fewRu (U.map Ru.sem) = z)) :
    Calls Try.prog 26 #[y] w fun e w' => e = .returned (.bool z) ∧ Below w.heap.size w w' := by
  obtain ⟨A, c, rfl, hgx, hrp, -, -, hl9⟩ := h
  exact rufew_any A c U w hgx hrp hs hl9 H
set_option maxRecDepth 100000 in
set_option maxHeartbeats 4000000 in
theorem tfew_any (v : Int) (y : Value) (f : List UInt8) (U : List Ru) (w : World) (hy : RV w y U) (hs : ∀ u ∈ U, okRs u.sem) (hf : f.length ≤ 140737488351232) {z : Bool} (H : Hid (fewC f (U.map Ru.sem) = z)) :
    Calls Try.prog 16 #[.agg #[.int .i64 v, y, .string (bs f)]] w fun e w' => e = .returned (.bool z) ∧ Below w.heap.size w w' := by
  have hb1 := enew w (.cells #[.int .i64 v, y, .string (bs f)] 33)
  have hk0 := BT.new w v y f
  have HY := hid (hy.up hb1)
  have HB := hid hb1
  have HS := hid hs
  have HF := hid (show z = (decide (f.length ≤ 400) && fewRu (U.map Ru.sem)) from H.out.symm)
  clear hy hb1 hs H
  by_cases h4 : f.length ≤ 400
  · have d1 : decide ((f.length : Int) ≤ 400) = true := decide_eq_true (by omega)
    have HFW := hid (show fewRu (U.map Ru.sem) = z by rw [HF.out, decide_eq_true h4]; rfl)
    have HC := hid (fun (w2 : World) (h : RV w2 y U) => rufew_rv y U w2 h HS.out HFW)
    clear h4
    go_enter Try.func16, Try.ntmps16
    go_upto_region 1 with (fail)
    generalize w.alloc (.cells #[.int .i64 v, y, .string (bs f)] 33) = v0 at *
    obtain ⟨k0, k1, k2⟩ := hk0.cells
    go_wp2_with fail
    refine (HC.out _ HY.out).mono ?_
    rintro e w1 ⟨rfl, hb2⟩
    go_wp2_with fail
    go_returns
    exact ⟨rfl, estep HB.out hb2⟩
  · have d1 : decide ((f.length : Int) ≤ 400) = false := decide_eq_false (by omega)
    have HZ := hid (show z = false by rw [HF.out, decide_eq_false h4]; rfl)
    clear h4
    go_enter Try.func16, Try.ntmps16
    go_upto_region 1 with (fail)
    generalize w.alloc (.cells #[.int .i64 v, y, .string (bs f)] 33) = v0 at *
    obtain ⟨k0, k1, k2⟩ := hk0.cells
    go_wp2_with fail
    go_returns
    exact ⟨by rw [HZ.out]; rfl, HB.out⟩
theorem namesB_no {l : List (List UInt8)} {k : Nat} (hk : k < l.length) (h20 : k ≤ 20) (h : ¬ l[k].length ≤ 400) : namesB l = false := by
  have : (l.take 21).all (fun n => decide (n.length ≤ 400)) = false := by
    rw [List.all_eq_false]
    refine ⟨l[k], ?_, by simpa using h⟩
    have h1 : (l.take 21)[k]? = some l[k] := by rw [List.getElem?_take_of_lt (by omega), List.getElem?_eq_getElem hk]
    exact List.mem_of_getElem? h1
  rw [namesB, this]; rfl
theorem all_take_up {l : List (List UInt8)} {k : Nat} (hk : k < l.length) (h : (l.take k).all (fun n => decide (n.length ≤ 400)) = true) (hh : l[k].length ≤ 400) : (l.take (k + 1)).all (fun n => decide (n.length ≤ 400)) = true := by
  rw [List.take_succ_eq_append_getElem hk, List.all_append, h]
  simp [hh]
theorem stx_drewN {w : World} {A : Option Addr} {l : List (List UInt8)} (h : STexts w (· < w.heap.size) A l) (n : Nat) : STexts (w.drewN n) (· < (w.drewN n).heap.size) A l := stx_up h (below_drewN (Below.refl _ _) _)
end Go.Proofs.Ytgkegpdmidcmoaa
namespace Go.Proofs.Ytgkegpdmidcmoaa
set_option linter.unusedVariables false
set_option linter.unusedSimpArgs false
open Go.RowKit Go.Joins

theorem left_tmod (d : Int) : Int.tmod (Int.tmod d 100 + 100) 100 = d % 100 := by
  rcases Int.le_total 0 d with h | h
  · rw [Int.tmod_eq_emod_of_nonneg h, Int.tmod_eq_emod_of_nonneg (by omega)]; omega
  · obtain ⟨k, rfl⟩ : ∃ k, d = -k := ⟨-d, by omega⟩
    rw [Int.neg_tmod, Int.tmod_eq_emod_of_nonneg (by omega : 0 ≤ k), Int.tmod_eq_emod_of_nonneg (by omega)]; omega
theorem tmod_bounds (d : Int) : -100 < Int.tmod d 100 ∧ Int.tmod d 100 < 100 := by
  rcases Int.le_total 0 d with h | h
  · rw [Int.tmod_eq_emod_of_nonneg h]; omega
  · obtain ⟨k, rfl⟩ : ∃ k, d = -k := ⟨-d, by omega⟩
    rw [Int.neg_tmod, Int.tmod_eq_emod_of_nonneg (by omega : 0 ≤ k)]; omega
theorem left_neg {d : Int} (h : Int.tmod d 100 < 0) : Int.tmod d 100 + 100 = d % 100 := by
  rcases Int.le_total 0 d with h0 | h0
  · rw [Int.tmod_eq_emod_of_nonneg h0] at h; omega
  · obtain ⟨k, rfl⟩ : ∃ k, d = -k := ⟨-d, by omega⟩
    rw [Int.neg_tmod, Int.tmod_eq_emod_of_nonneg (by omega : 0 ≤ k)] at h ⊢; omega
theorem left_pos {d : Int} (h : ¬ Int.tmod d 100 < 0) : Int.tmod d 100 = d % 100 := by
  rcases Int.le_total 0 d with h0 | h0
  · rw [Int.tmod_eq_emod_of_nonneg h0]
  · obtain ⟨k, rfl⟩ : ∃ k, d = -k := ⟨-d, by omega⟩
    rw [Int.neg_tmod, Int.tmod_eq_emod_of_nonneg (by omega : 0 ≤ k)] at h ⊢; omega
set_option maxHeartbeats 800000 in
theorem left_any (d : Int) (w : World) (hd : -9223372036854775808 ≤ d ∧ d ≤ 9223372036854775807) :
    Calls Try.prog 24 #[.int .i64 d] w fun e w' => e = .returned (.int .i64 (d % 100)) ∧ w = w' := by
  obtain ⟨h1, h2⟩ := hd
  obtain ⟨b1, b2⟩ := tmod_bounds d
  go_enter Try.func24, Try.ntmps24
  go_wp2_with fail
  go_returns
  refine ⟨?_, rfl⟩
  rw [← show (Int.tmod d 100 + 100) % 100 = d % 100 from by rw [← left_tmod d, Int.tmod_eq_emod_of_nonneg (by omega : 0 ≤ Int.tmod d 100 + 100)]]
  rfl
set_option maxHeartbeats 800000 in
theorem rleft_any (d : Int) (w : World) (hd : -9223372036854775808 ≤ d ∧ d ≤ 9223372036854775807) :
    Calls Try.prog 25 #[.int .i64 d] w fun e w' => e = .returned (.int .i64 (d % 100)) ∧ w = w' := by
  obtain ⟨h1, h2⟩ := hd
  obtain ⟨b1, b2⟩ := tmod_bounds d
  by_cases h : Int.tmod d 100 < 0
  · have HE := hid (left_neg h)
    go_enter Try.func25, Try.ntmps25
    go_wp2_with fail
    go_returns
    exact ⟨by rw [← HE.out]; rfl, rfl⟩
  · have HE := hid (left_pos h)
    go_enter Try.func25, Try.ntmps25
    go_wp2_with fail
    go_returns
    exact ⟨by rw [← HE.out]; rfl, rfl⟩
def fireB (d p : Int) : Bool := decide (d % 100 < p)
set_option maxHeartbeats 800000 in
theorem fires_any (d p : Int) (w : World) (hd : -9223372036854775808 ≤ d ∧ d ≤ 9223372036854775807) :
    Calls Try.prog 9 #[.int .i64 d, .int .i64 p] w fun e w' => e = .returned (.bool (fireB d p)) ∧ w = w' := by
  have HC := hid (left_any d w hd)
  clear hd
  go_enter Try.func9, Try.ntmps9
  go_wp2_with fail
  refine HC.out.mono ?_
  rintro e w1 ⟨rfl, rfl⟩
  go_wp2_with fail
  go_returns
  exact ⟨rfl, rfl⟩
set_option maxHeartbeats 800000 in
theorem rfires_any (d p : Int) (w : World) (hd : -9223372036854775808 ≤ d ∧ d ≤ 9223372036854775807) :
    Calls Try.prog 10 #[.int .i64 d, .int .i64 p] w fun e w' => e = .returned (.bool (fireB d p)) ∧ w = w' := by
  have HC := hid (rleft_any d w hd)
  clear hd
  go_enter Try.func10, Try.ntmps10
  go_wp2_with fail
  refine HC.out.mono ?_
  rintro e w1 ⟨rfl, rfl⟩
  go_wp2_with fail
  go_returns
  exact ⟨rfl, rfl⟩
/-- The cells of a slice of numbers that may be below 0. -/
def DR (w : World) (A : Option Addr) (L : List Int) : Prop :=
  ∀ k (h : k < L.length), ∃ ad, A = some ad ∧ ad.block < w.heap.size ∧ w.cell? (ad.add k) = some (.int .i64 L[k])
theorem DR.up {w w' : World} {A : Option Addr} {L : List Int} (h : DR w A L) (hb : Below w.heap.size w w') : DR w' A L := by
  intro k hk
  obtain ⟨ad, e, h1, h2⟩ := h k hk
  exact ⟨ad, e, Nat.lt_of_lt_of_le h1 hb.size, (hb.cell (by rw [add_block]; exact h1)).trans h2⟩
def I64 (L : List Int) : Prop := ∀ x ∈ L, -9223372036854775808 ≤ x ∧ x ≤ 9223372036854775807
/-- A slice of numbers, as a value. -/
def DV (w : World) (y : Value) (L : List Int) : Prop := ∃ A c, y = .slice A L.length c ∧ DR w A L ∧ L.length ≤ 140737488351232 ∧ I64 L
theorem DV.up {w w' : World} {y : Value} {L : List Int} (h : DV w y L) (hb : Below w.heap.size w w') : DV w' y L := by
  obtain ⟨A, c, e, h1, h2⟩ := h
  exact ⟨A, c, e, h1.up hb, h2⟩
def atI (L : List Int) (n : Int) : Int := if h : 0 ≤ n ∧ n.toNat < L.length then L[n.toNat] % 100 else 99
theorem atI_in {L : List Int} {k : Nat} (hk : k < L.length) : atI L (k : Int) = L[k] % 100 := by
  rw [atI, dif_pos (show 0 ≤ (k : Int) ∧ ((k : Int)).toNat < L.length from ⟨by omega, by simpa using hk⟩)]
  simp
theorem atI_out {L : List Int} {n : Int} (h : n < 0 ∨ (L.length : Int) ≤ n) : atI L n = 99 := by
  rw [atI, dif_neg (by omega)]
theorem atI_bounds (L : List Int) (n : Int) : 0 ≤ atI L n ∧ atI L n < 100 := by
  unfold atI
  split <;> omega
set_option maxHeartbeats 800000 in
theorem cat_any (y : Value) (L : List Int) (n : Int) (w : World) (hy : DV w y L) {z : Int} (H : Hid (atI L n = z)) :
    Calls Try.prog 11 #[y, .int .i64 n] w fun e w' => e = .returned (.int .i64 z) ∧ w = w' := by
  obtain ⟨A, c, rfl, hR, hl, hL⟩ := hy
  by_cases h0 : 0 ≤ n
  · obtain ⟨k, rfl⟩ := Int.eq_ofNat_of_zero_le h0
    by_cases hk : k < L.length
    · obtain ⟨ad, rfl, hB, hc⟩ := hR k hk
      have HA := hid (atI_in hk)
      have HF := hid (left_any L[k] w (hL _ (List.getElem_mem _)))
      generalize L[k] = x at *
      have hki : (k : Int) < (L.length : Int) := by omega
      clear hR hL
      go_enter Try.func11, Try.ntmps11
      go_wp2_with fail
      refine HF.out.mono ?_
      rintro e w1 ⟨rfl, rfl⟩
      go_wp2_with fail
      go_returns
      exact ⟨by rw [← H.out, HA.out]; rfl, rfl⟩
    · have HA := hid (atI_out (L := L) (n := (k : Int)) (by omega))
      have hnk : ¬ (k : Int) < (L.length : Int) := by omega
      clear hR hL
      go_enter Try.func11, Try.ntmps11
      go_wp2_with fail
      go_returns
      exact ⟨by rw [← H.out, HA.out]; rfl, rfl⟩
  · have HA := hid (atI_out (L := L) (n := n) (by omega))
    clear hR hL
    go_enter Try.func11, Try.ntmps11
    go_wp2_with fail
    go_returns
    exact ⟨by rw [← H.out, HA.out]; rfl, rfl⟩
set_option maxHeartbeats 800000 in
theorem rcat_any (y : Value) (L : List Int) (n : Int) (w : World) (hy : DV w y L) {z : Int} (H : Hid (atI L n = z)) :
    Calls Try.prog 12 #[y, .int .i64 n] w fun e w' => e = .returned (.int .i64 z) ∧ w = w' := by
  obtain ⟨A, c, rfl, hR, hl, hL⟩ := hy
  by_cases h0 : 0 ≤ n
  · obtain ⟨k, rfl⟩ := Int.eq_ofNat_of_zero_le h0
    by_cases hk : k < L.length
    · obtain ⟨ad, rfl, hB, hc⟩ := hR k hk
      have HA := hid (atI_in hk)
      have HF := hid (rleft_any L[k] w (hL _ (List.getElem_mem _)))
      generalize L[k] = x at *
      have hki : (k : Int) < (L.length : Int) := by omega
      clear hR hL
      go_enter Try.func12, Try.ntmps12
      go_wp2_with fail
      refine HF.out.mono ?_
      rintro e w1 ⟨rfl, rfl⟩
      go_wp2_with fail
      go_returns
      exact ⟨by rw [← H.out, HA.out]; rfl, rfl⟩
    · have HA := hid (atI_out (L := L) (n := (k : Int)) (by omega))
      have hnk : ¬ (k : Int) < (L.length : Int) := by omega
      clear hR hL
      go_enter Try.func12, Try.ntmps12
      go_wp2_with fail
      go_returns
      exact ⟨by rw [← H.out, HA.out]; rfl, rfl⟩
  · have HA := hid (atI_out (L := L) (n := n) (by omega))
    clear hR hL
    go_enter Try.func12, Try.ntmps12
    go_wp2_with fail
    go_returns
    exact ⟨by rw [← H.out, HA.out]; rfl, rfl⟩
end Go.Proofs.Ytgkegpdmidcmoaa
namespace Go.Proofs.Ytgkegpdmidcmoaa
set_option linter.unusedVariables false
set_option linter.unusedSimpArgs false
open Go.RowKit Go.Joins

/-- A variable that holds three draws. -/
def BA (w : World) (g : Nat) (a b c : Int) : Prop := Bk w g 25 #[.int .i64 a, .int .i64 b, .int .i64 c]
theorem BA.new (w : World) (a b c : Int) : BA (w.alloc (.cells #[.int .i64 a, .int .i64 b, .int .i64 c] 25)) w.heap.size a b c := Bk.new _ _ _
theorem BA.up {w w' : World} {g : Nat} {a b c : Int} (k : BA w g a b c) (hb : Below w.heap.size w w') : BA w' g a b c := Bk.up k hb
theorem BA.cells {w : World} {g : Nat} {a b c : Int} (k : BA w g a b c) : w.cell? ⟨g, 0, none⟩ = some (.int .i64 a) ∧ w.cell? ⟨g, 1, none⟩ = some (.int .i64 b) ∧ w.cell? ⟨g, 2, none⟩ = some (.int .i64 c) := ⟨Bk.cell k 0, Bk.cell k 1, Bk.cell k 2⟩
theorem BA.froz {w : World} {g : Nat} {a b c : Int} (k : BA w g a b c) : w.frozen? ⟨g, 0, none⟩ = false ∧ w.frozen? ⟨g, 1, none⟩ = false ∧ w.frozen? ⟨g, 2, none⟩ = false := ⟨Bk.frozen k 0, Bk.frozen k 1, Bk.frozen k 2⟩
theorem BA.set0 {w : World} {g : Nat} {a b c : Int} (k : BA w g a b c) (x : Int) : BA (w.setCell ⟨g, 0, none⟩ (.int .i64 x)) g x b c := Bk.set_ k 0 _
theorem BA.set1 {w : World} {g : Nat} {a b c : Int} (k : BA w g a b c) (x : Int) : BA (w.setCell ⟨g, 1, none⟩ (.int .i64 x)) g a x c := Bk.set_ k 1 _
theorem BA.set2 {w : World} {g : Nat} {a b c : Int} (k : BA w g a b c) (x : Int) : BA (w.setCell ⟨g, 2, none⟩ (.int .i64 x)) g a b x := Bk.set_ k 2 _
theorem BA.set3 {w : World} {g : Nat} {a b c : Int} (k : BA w g a b c) (x y z : Int) : BA (((w.setCell ⟨g, 0, none⟩ (.int .i64 x)).setCell ⟨g, 1, none⟩ (.int .i64 y)).setCell ⟨g, 2, none⟩ (.int .i64 z)) g x y z := ((k.set0 x).set1 y).set2 z
theorem BA.set_other {w : World} {g g' : Nat} {a b c : Int} (k : BA w g a b c) (hg : g ≠ g') (i : Nat) (x : Value) : BA (w.setCell ⟨g', i, none⟩ x) g a b c := by
  unfold BA Bk at k ⊢
  simp only [World.setCell]
  rw [Array.getElem?_modify, if_neg (fun h => hg h.symm)]
  exact k
/-- Draw i of a hop. -/
def drI (L : List Int) (hop : Int) (i : Nat) : Int := if hop < 0 then 99 else atI L (1 + 3 * hop + i)
theorem drI_neg {L : List Int} {hop : Int} (h : hop < 0) (i : Nat) : drI L hop i = 99 := by rw [drI, if_pos h]
theorem drI_far {L : List Int} {hop : Int} (h : (L.length : Int) ≤ hop) (i : Nat) : drI L hop i = 99 := by
  unfold drI
  split
  · rfl
  · rw [atI_out (by omega)]
theorem drI_at {L : List Int} {hop : Int} (h : ¬ hop < 0) (i : Nat) : drI L hop i = atI L (1 + 3 * hop + i) := by rw [drI, if_neg h]
set_option maxRecDepth 100000 in
set_option maxHeartbeats 4000000 in
theorem cdraws_any (y : Value) (L : List Int) (hop : Int) (w : World) (hy : DV w y L) {a b c : Int} (H : Hid (drI L hop 0 = a ∧ drI L hop 1 = b ∧ drI L hop 2 = c)) :
    Calls Try.prog 13 #[y, .int .i64 hop] w fun e w' => e = .returned (.agg #[.int .i64 a, .int .i64 b, .int .i64 c]) ∧ Below w.heap.size w w' := by
  have hba := enew w (.cells #[.int .i64 0, .int .i64 0, .int .i64 0] 25)
  have hbb := enew (w.alloc (.cells #[.int .i64 0, .int .i64 0, .int .i64 0] 25)) (.cells #[.int .i64 99, .int .i64 99, .int .i64 99] 25)
  have hra := (BA.new w 0 0 0).up hbb
  have hrb := BA.new (w.alloc (.cells #[.int .i64 0, .int .i64 0, .int .i64 0] 25)) 99 99 99
  rw [World.size_alloc] at hrb
  have hb0 := estep hba hbb
  have HY := hid hy
  obtain ⟨A, cp, rfl, -, hl, -⟩ := id hy
  clear hy hba hbb
  go_enter Try.func13, Try.ntmps13
  go_upto_region 2 with (fail)
  have hgs : w.heap.size ≤ w.heap.size := Nat.le_refl _
  have hgs1 : w.heap.size ≤ w.heap.size + 1 := by omega
  generalize (w.alloc (.cells #[.int .i64 0, .int .i64 0, .int .i64 0] 25)).alloc (.cells #[.int .i64 99, .int .i64 99, .int .i64 99] 25) = v0 at *
  have HRA := hid hra
  have HB0 := hid hb0
  by_cases hn : hop < 0
  · have HA := hid (show a = 99 ∧ b = 99 ∧ c = 99 from ⟨by rw [← H.out.1, drI_neg hn], by rw [← H.out.2.1, drI_neg hn], by rw [← H.out.2.2, drI_neg hn]⟩)
    obtain ⟨b0, b1, b2⟩ := hrb.cells
    obtain ⟨a0, a1, a2⟩ := hra.cells
    obtain ⟨f0, f1, f2⟩ := hra.froz
    have HR := hid (hra.set3 99 99 99).cells
    have HBB := hid (below_set3 hb0 w.heap.size hgs (.int .i64 99) (.int .i64 99) (.int .i64 99))
    clear hrb hra hb0
    go_wp2_with fail
    (try simp only [Exit.inBlock, Exit.then])
    refine bodyPost_ret (v := .agg #[.int .i64 99, .int .i64 99, .int .i64 99]) (by simp [results, Try.results13, go_sem, HR.out.1, HR.out.2.1, HR.out.2.2]; try rfl) rfl ?_
    exact ⟨by rw [HA.out.1, HA.out.2.1, HA.out.2.2], HBB.out⟩
  by_cases hf : (L.length : Int) ≤ hop
  · have HA := hid (show a = 99 ∧ b = 99 ∧ c = 99 from ⟨by rw [← H.out.1, drI_far hf], by rw [← H.out.2.1, drI_far hf], by rw [← H.out.2.2, drI_far hf]⟩)
    obtain ⟨b0, b1, b2⟩ := hrb.cells
    obtain ⟨a0, a1, a2⟩ := hra.cells
    obtain ⟨f0, f1, f2⟩ := hra.froz
    have HR := hid (hra.set3 99 99 99).cells
    have HBB := hid (below_set3 hb0 w.heap.size hgs (.int .i64 99) (.int .i64 99) (.int .i64 99))
    clear hrb hra hb0
    go_wp2_with fail
    (try simp only [Exit.inBlock, Exit.then])
    refine bodyPost_ret (v := .agg #[.int .i64 99, .int .i64 99, .int .i64 99]) (by simp [results, Try.results13, go_sem, HR.out.1, HR.out.2.1, HR.out.2.2]; try rfl) rfl ?_
    exact ⟨by rw [HA.out.1, HA.out.2.1, HA.out.2.2], HBB.out⟩
  have hn0 : 0 ≤ hop := by omega
  have hf0 : hop < (L.length : Int) := by omega
  have hf1 : hop < 140737488351232 := by omega
  clear hn hf
  have HA := hid (show atI L (1 + 3 * hop) = a ∧ atI L (1 + 3 * hop + 1) = b ∧ atI L (1 + 3 * hop + 2) = c from ⟨by rw [← H.out.1, drI_at (by omega)]; simp, by rw [← H.out.2.1, drI_at (by omega)]; simp, by rw [← H.out.2.2, drI_at (by omega)]; simp⟩)
  have HRB := hid hrb
  clear hrb hra hb0 H
  go_wp2_with fail
  go_loopw [17] (fun i wr => ∃ k : Int, (k = 0 ∨ k = 1 ∨ k = 2 ∨ k = 3) ∧ i = .int .i64 k ∧ Hid (∃ a' b' c' : Int, BA wr (w.heap.size + 1) a' b' c' ∧ (1 ≤ k → a' = a) ∧ (2 ≤ k → b' = b) ∧ (3 ≤ k → c' = c) ∧ BA wr w.heap.size 0 0 0 ∧ Below w.heap.size w wr)) (fun i _ => (3 - intOf i).toNat)
  case atStart => exact ⟨0, by omega, rfl, hid ⟨99, 99, 99, HRB.out, by omega, by omega, by omega, HRA.out, HB0.out⟩⟩
  case round =>
    obtain ⟨k, hk, rfl, a', b', c', hB, ha, hb, hc, hR, hW⟩ := hrel
    have HR := hid hR
    have HW := hid hW
    clear hR hW
    rcases hk with rfl | rfl | rfl | rfl
    · have HAT := hid (cat_any (.slice A L.length cp) L (1 + 3 * hop) wr (HY.out.up HW.out) (hid HA.out.1))
      have hWb := (HW.out.setCell hgs1 (p := ⟨w.heap.size + 1, 0, none⟩) (.int .i64 a))
      obtain ⟨b0, b1, b2⟩ := hB.cells
      obtain ⟨f0, f1, f2⟩ := hB.froz
      have HBB := hid (And.intro hB (And.intro ha (And.intro hb (And.intro hc hWb))))
      clear hB ha hb hc hWb
      go_wp2_with fail
      refine HAT.out.mono ?_
      rintro e w1 ⟨rfl, rfl⟩
      go_wp2_with fail
      obtain ⟨hB, ha, hb, hc, hWb⟩ := HBB.out
      go_roundw
      case measure => simp [intOf]
      case rel => exact ⟨1, by omega, rfl, hid ⟨a, b', c', hB.set0 a, by omega, by omega, by omega, HR.out.set_other (by omega) 0 _, hWb⟩⟩
    · have HAT := hid (cat_any (.slice A L.length cp) L (1 + 3 * hop + 1) wr (HY.out.up HW.out) (hid HA.out.2.1))
      have hWb := (HW.out.setCell hgs1 (p := ⟨w.heap.size + 1, 1, none⟩) (.int .i64 b))
      obtain ⟨b0, b1, b2⟩ := hB.cells
      obtain ⟨f0, f1, f2⟩ := hB.froz
      have HBB := hid (And.intro hB (And.intro ha (And.intro hb (And.intro hc hWb))))
      clear hB ha hb hc hWb
      go_wp2_with fail
      refine HAT.out.mono ?_
      rintro e w1 ⟨rfl, rfl⟩
      go_wp2_with fail
      obtain ⟨hB, ha, hb, hc, hWb⟩ := HBB.out
      go_roundw
      case measure => simp [intOf]
      case rel => exact ⟨2, by omega, rfl, hid ⟨a', b, c', hB.set1 b, fun _ => ha (by omega), by omega, by omega, HR.out.set_other (by omega) 1 _, hWb⟩⟩
    · have HAT := hid (cat_any (.slice A L.length cp) L (1 + 3 * hop + 2) wr (HY.out.up HW.out) (hid HA.out.2.2))
      have hWb := (HW.out.setCell hgs1 (p := ⟨w.heap.size + 1, 2, none⟩) (.int .i64 c))
      obtain ⟨b0, b1, b2⟩ := hB.cells
      obtain ⟨f0, f1, f2⟩ := hB.froz
      have HBB := hid (And.intro hB (And.intro ha (And.intro hb (And.intro hc hWb))))
      clear hB ha hb hc hWb
      go_wp2_with fail
      refine HAT.out.mono ?_
      rintro e w1 ⟨rfl, rfl⟩
      go_wp2_with fail
      obtain ⟨hB, ha, hb, hc, hWb⟩ := HBB.out
      go_roundw
      case measure => simp [intOf]
      case rel => exact ⟨3, by omega, rfl, hid ⟨a', b', c, hB.set2 c, fun _ => ha (by omega), fun _ => hb (by omega), by omega, HR.out.set_other (by omega) 2 _, hWb⟩⟩
    · obtain rfl := ha (by omega)
      obtain rfl := hb (by omega)
      obtain rfl := hc (by omega)
      obtain ⟨b0, b1, b2⟩ := hB.cells
      obtain ⟨a0, a1, a2⟩ := HR.out.cells
      obtain ⟨f0, f1, f2⟩ := HR.out.froz
      have HR := hid (HR.out.set3 a' b' c').cells
      have HBB := hid (below_set3 HW.out w.heap.size hgs (.int .i64 a') (.int .i64 b') (.int .i64 c'))
      clear hB ha hb hc
      go_wp2_with fail
      (try simp only [Exit.inBlock, Exit.then])
      refine bodyPost_ret (v := .agg #[.int .i64 a', .int .i64 b', .int .i64 c']) (by simp [results, Try.results13, go_sem, HR.out.1, HR.out.2.1, HR.out.2.2]; try rfl) rfl ?_
      exact ⟨rfl, HBB.out⟩
set_option maxRecDepth 100000 in
set_option maxHeartbeats 4000000 in
theorem rcdraws_any (y : Value) (L : List Int) (hop : Int) (w : World) (hy : DV w y L) (hh : -9223372036854775808 ≤ hop ∧ hop ≤ 9223372036854775807) {a b c : Int} (H : Hid (drI L hop 0 = a ∧ drI L hop 1 = b ∧ drI L hop 2 = c)) :
    Calls Try.prog 14 #[y, .int .i64 hop] w fun e w' => e = .returned (.agg #[.int .i64 a, .int .i64 b, .int .i64 c]) ∧ Below w.heap.size w w' := by
  obtain ⟨hh1, hh2⟩ := hh
  have hb0 := enew w (.cells #[.int .i64 0, .int .i64 0, .int .i64 0] 25)
  have hra := BA.new w 0 0 0
  have HY := hid hy
  obtain ⟨A, cp, rfl, -, hl, -⟩ := id hy
  clear hy
  have hgs : w.heap.size ≤ w.heap.size := Nat.le_refl _
  go_enter Try.func14, Try.ntmps14
  go_upto_region 1 with (fail)
  generalize w.alloc (.cells #[.int .i64 0, .int .i64 0, .int .i64 0] 25) = v0 at *
  obtain ⟨a0, a1, a2⟩ := hra.cells
  obtain ⟨f0, f1, f2⟩ := hra.froz
  by_cases hn : hop < 0
  · have HA := hid (show a = 99 ∧ b = 99 ∧ c = 99 from ⟨by rw [← H.out.1, drI_neg hn], by rw [← H.out.2.1, drI_neg hn], by rw [← H.out.2.2, drI_neg hn]⟩)
    have HR := hid (hra.set3 99 99 99).cells
    have HBB := hid (below_set3 hb0 w.heap.size hgs (.int .i64 99) (.int .i64 99) (.int .i64 99))
    clear hra hb0
    go_wp2_with fail
    (try simp only [Exit.inBlock, Exit.then])
    refine bodyPost_ret (v := .agg #[.int .i64 99, .int .i64 99, .int .i64 99]) (by simp [results, Try.results14, go_sem, HR.out.1, HR.out.2.1, HR.out.2.2]; try rfl) rfl ?_
    exact ⟨by rw [HA.out.1, HA.out.2.1, HA.out.2.2], HBB.out⟩
  by_cases hf : (L.length : Int) < hop
  · have HA := hid (show a = 99 ∧ b = 99 ∧ c = 99 from ⟨by rw [← H.out.1, drI_far (by omega)], by rw [← H.out.2.1, drI_far (by omega)], by rw [← H.out.2.2, drI_far (by omega)]⟩)
    have HR := hid (hra.set3 99 99 99).cells
    have HBB := hid (below_set3 hb0 w.heap.size hgs (.int .i64 99) (.int .i64 99) (.int .i64 99))
    clear hra hb0
    go_wp2_with fail
    (try simp only [Exit.inBlock, Exit.then])
    refine bodyPost_ret (v := .agg #[.int .i64 99, .int .i64 99, .int .i64 99]) (by simp [results, Try.results14, go_sem, HR.out.1, HR.out.2.1, HR.out.2.2]; try rfl) rfl ?_
    exact ⟨by rw [HA.out.1, HA.out.2.1, HA.out.2.2], HBB.out⟩
  have hn0 : 0 ≤ hop := by omega
  have hf0 : ¬ (L.length : Int) < hop := hf
  have hf1 : hop ≤ 140737488351232 := by omega
  clear hn hf
  have HA := hid (show atI L (1 + 3 * hop) = a ∧ atI L (2 + 3 * hop) = b ∧ atI L (3 + 3 * hop) = c from ⟨by rw [← H.out.1, drI_at (by omega)]; simp, by rw [← H.out.2.1, drI_at (by omega)]; congr 1; omega, by rw [← H.out.2.2, drI_at (by omega)]; congr 1; omega⟩)
  have HC0 := hid (rcat_any (.slice A L.length cp) L (1 + 3 * hop) v0 (HY.out.up hb0) (hid HA.out.1))
  have HC1 := hid (rcat_any (.slice A L.length cp) L (2 + 3 * hop) v0 (HY.out.up hb0) (hid HA.out.2.1))
  have HC2 := hid (rcat_any (.slice A L.length cp) L (3 + 3 * hop) v0 (HY.out.up hb0) (hid HA.out.2.2))
  have HR := hid (hra.set3 a b c).cells
  have HBB := hid (below_set3 hb0 w.heap.size hgs (.int .i64 a) (.int .i64 b) (.int .i64 c))
  clear hra hb0 H
  go_wp2_with fail
  refine HC0.out.mono ?_
  rintro e w1 ⟨rfl, rfl⟩
  go_wp2_with fail
  refine HC1.out.mono ?_
  rintro e w1 ⟨rfl, rfl⟩
  go_wp2_with fail
  refine HC2.out.mono ?_
  rintro e w1 ⟨rfl, rfl⟩
  go_wp2_with fail
  (try simp only [Exit.inBlock, Exit.then])
  refine bodyPost_ret (v := .agg #[.int .i64 a, .int .i64 b, .int .i64 c]) (by simp [results, Try.results14, go_sem, HR.out.1, HR.out.2.1, HR.out.2.2]; try rfl) rfl ?_
  exact ⟨rfl, HBB.out⟩
end Go.Proofs.Ytgkegpdmidcmoaa
namespace Go.Proofs.Ytgkegpdmidcmoaa
set_option linter.unusedVariables false
set_option linter.unusedSimpArgs false
open Go.RowKit Go.Joins Go.ChangeShapes Go.WideShapes Go.Deep

section
variable {H : Type} {enc : TypeId × Value → H} {P : Program} {w : World} {base : Nat}
theorem open_DV {t e : TypeId} {A : Option Addr} {n c : Nat} {d : DataW H} {p : List MemPlace} (ht : P.underlying t = some (.slice e)) (he : P.underlying e = some (.int .i64)) (hc : P.cellsOf e = 1) (hb8 : P.bytesOf e = 8) (hz : Sized P t d)
    (h : DataW.Trod enc P w base (fun _ => true) true t (.slice A n c) d p) :
    ∃ L : List Int, DV w (.slice A n c) L := by
  obtain ⟨fuel, hf⟩ := h
  rcases open_ints ht he hc hf with ⟨h0, _⟩ | ⟨a, len, cap, zs, hcs, _, hl, hm, hss, hd, hcell, hwf⟩
  · have h1 : Value.slice A n c = .slice none 0 0 := by simpa [Value.cells] using h0
    injection h1 with h1 h2 h3
    subst h1 h2 h3
    exact ⟨[], none, 0, rfl, fun k hk => absurd hk (by simp), by simp, fun x hx => absurd hx (by simp)⟩
  · have h1 : Value.slice A n c = .slice (some a) len cap := by simpa [Value.cells] using hcs
    injection h1 with h1 h2 h3
    subst h1 h2 h3
    have hss : zs.length = c := by simpa using hss
    have hlen : (zs.take n).length = n := by simp; omega
    have hz1 : n ≤ 140737488351232 := by
      have hd := congrArg Prod.fst hd
      simp only at hd
      rw [hd] at hz
      have h8 := hz ((zs.length) * 8) (by simp only [DataW.weights, ht, hb8, List.mem_cons]; left; simp [lits]; omega)
      have hr : reachBytes < 2 ^ 47 := reachBytes_lt
      omega
    refine ⟨zs.take n, some a, c, by rw [hlen], fun k hk => ?_, by rw [hlen]; exact hz1, fun x hx => ?_⟩
    · rw [hlen] at hk
      have hc1 := hcell k (by omega)
      refine ⟨a, rfl, by have := lt_of_cell hc1; rwa [add_block] at this, ?_⟩
      rw [hc1, List.getD_eq_getElem?_getD, List.getElem?_eq_getElem (show k < zs.length from by omega), Option.getD_some, List.getElem_take]
    · exact bounds_i64 (hwf x (List.mem_of_mem_take hx))
end
theorem ba_guard (op : BinOp) (x y : Operand) (xs ys : Array Value) (w : World) : (eqGuard op 25 x y (.agg xs) (.agg ys)).run Try.prog w = .ok () w := run_eqGuard_agg w op _ x y xs ys (by kernel_rfl)
theorem ba_eqIn (w : World) (a b c : Int) : (Op.equalIn 10000 25 (.agg #[.int .i64 a, .int .i64 b, .int .i64 c]) (.agg #[.int .i64 a, .int .i64 b, .int .i64 c])).run Try.prog w = .ok true w := by
  have us2 := Try.underlying3
  have as2 := Try.isAgg3
  have zs2 := Try.sizeOf3
  rw [show (10000 : Nat) = 9999 + 1 from rfl]
  unfold Op.equalIn
  simp only [Sem.run_bind, run_underlying Try.underlying25, Result.andThen_ok, zs2]
  rw [Std.Legacy.Range.forIn_eq_forIn_range']
  go_simp
  rw [show List.range' 0 3 = [0, 1, 2] from rfl]
  simp [List.forIn_cons, List.forIn_nil, Sem.run_bind, as2, go_sem, us2]
theorem ba_eql (w : World) (a b c : Int) : (binOp .eql 25 (.agg #[.int .i64 a, .int .i64 b, .int .i64 c]) (.agg #[.int .i64 a, .int .i64 b, .int .i64 c])).run Try.prog w = .ok (.bool true) w := by
  rw [run_eql_struct, ba_eqIn]; rfl
set_option maxRecDepth 100000 in
set_option maxHeartbeats 4000000 in
theorem known15_any (w : World) :
    Calls Try.prog 15 #[] w fun e w' => e = .returned (.bool true) ∧ Below w.heap.size w w' := by
  have hnot := enot
  have HF1 := hid (fun w2 => (show Calls Try.prog 9 #[.int .i64 7, .int .i64 8] w2 fun e w' => e = .returned (.bool true) ∧ w2 = w' from fires_any 7 8 w2 ⟨by decide, by decide⟩))
  have HF2 := hid (fun w2 => (show Calls Try.prog 9 #[.int .i64 107, .int .i64 7] w2 fun e w' => e = .returned (.bool false) ∧ w2 = w' from fires_any 107 7 w2 ⟨by decide, by decide⟩))
  have hb0 := enew w (.cells #[.int .i64 1, .int .i64 2, .int .i64 103, .int .i64 (-1)] 3)
  have hk := Bk.new w 3 #[.int .i64 1, .int .i64 2, .int .i64 103, .int .i64 (-1)]
  have hv : DV (w.alloc (.cells #[.int .i64 1, .int .i64 2, .int .i64 103, .int .i64 (-1)] 3)) (.slice (some ⟨w.heap.size, 0, none⟩) 4 4) [1, 2, 103, -1] := by
    refine ⟨some ⟨w.heap.size, 0, none⟩, 4, rfl, fun k hk2 => ⟨_, rfl, by simp, ?_⟩, by simp, fun x hx => ?_⟩
    · have hk3 : k < 4 := hk2
      obtain rfl | rfl | rfl | rfl : k = 0 ∨ k = 1 ∨ k = 2 ∨ k = 3 := by omega
      · exact Bk.cell hk 0
      · exact Bk.cell hk 1
      · exact Bk.cell hk 2
      · exact Bk.cell hk 3
    · simp only [List.mem_cons, List.not_mem_nil, or_false] at hx
      rcases hx with rfl | rfl | rfl | rfl <;> decide
  have hg := ba_guard
  have he1 : ∀ w : World, (binOp .eql 25 (.agg #[.int .i64 2, .int .i64 3, .int .i64 99]) (.agg #[.int .i64 2, .int .i64 3, .int .i64 99])).run Try.prog w = .ok (.bool true) w := fun w => ba_eql w _ _ _
  have he2 : ∀ w : World, (binOp .eql 25 (.agg #[.int .i64 99, .int .i64 99, .int .i64 99]) (.agg #[.int .i64 99, .int .i64 99, .int .i64 99])).run Try.prog w = .ok (.bool true) w := fun w => ba_eql w _ _ _
  have HA1 := hid (fun w2 (hv : DV w2 (.slice (some ⟨w.heap.size, 0, none⟩) 4 4) [1, 2, 103, -1]) => cat_any _ _ 2 w2 hv (z := 3) (hid (by decide)))
  have HA2 := hid (fun w2 (hv : DV w2 (.slice (some ⟨w.heap.size, 0, none⟩) 4 4) [1, 2, 103, -1]) => cat_any _ _ 9 w2 hv (z := 99) (hid (by decide)))
  have HD1 := hid (fun w2 (hv : DV w2 (.slice (some ⟨w.heap.size, 0, none⟩) 4 4) [1, 2, 103, -1]) => cdraws_any _ _ 0 w2 hv (a := 2) (b := 3) (c := 99) (hid (by decide)))
  have HD2 := hid (fun w2 (hv : DV w2 (.slice (some ⟨w.heap.size, 0, none⟩) 4 4) [1, 2, 103, -1]) => cdraws_any _ _ (-1) w2 hv (a := 99) (b := 99) (c := 99) (hid (by decide)))
  have HV := hid hv
  clear hv hk
  go_enter Try.func15, Try.ntmps15
  go_upto_region 2 with (fail)
  generalize w.alloc (.cells #[.int .i64 1, .int .i64 2, .int .i64 103, .int .i64 (-1)] 3) = v0 at *
  go_wp2_with fail
  refine (HF1.out _).mono ?_
  rintro e w1 ⟨rfl, rfl⟩
  go_wp2_with fail
  refine (HF2.out _).mono ?_
  rintro e w1 ⟨rfl, rfl⟩
  go_wp2_with fail
  refine (HA1.out _ HV.out).mono ?_
  rintro e w1 ⟨rfl, rfl⟩
  go_wp2_with fail
  refine (HA2.out _ HV.out).mono ?_
  rintro e w1 ⟨rfl, rfl⟩
  go_wp2_with fail
  refine (HD1.out _ HV.out).mono ?_
  rintro e w1 ⟨rfl, hb1⟩
  have HB1 := hid hb1
  clear hb1
  go_wp2_with fail
  refine (HD2.out _ (HV.out.up HB1.out)).mono ?_
  rintro e w2 ⟨rfl, hb2⟩
  have HB2 := hid hb2
  clear hb2
  go_wp2_with fail
  go_returns
  exact ⟨rfl, estep hb0 (estep HB1.out HB2.out)⟩
end Go.Proofs.Ytgkegpdmidcmoaa
namespace Go.Proofs.Ytgkegpdmidcmoaa
set_option linter.unusedVariables false
set_option linter.unusedSimpArgs false
open Go.RowKit Go.Joins

theorem ba_index0 (a b c : Int) (w : World) : (Instr.index 25 (.agg #[.int .i64 a, .int .i64 b, .int .i64 c]) (.int .i64 0)).run Try.prog w = .ok (.int .i64 a) w := by
  have as2 := Try.isAgg3
  have zs2 := Try.sizeOf3
  simp [Instr.index, run_underlying Try.underlying25, zs2, as2, go_sem]
theorem ba_index1 (a b c : Int) (w : World) : (Instr.index 25 (.agg #[.int .i64 a, .int .i64 b, .int .i64 c]) (.int .i64 1)).run Try.prog w = .ok (.int .i64 b) w := by
  have as2 := Try.isAgg3
  have zs2 := Try.sizeOf3
  simp [Instr.index, run_underlying Try.underlying25, zs2, as2, go_sem]
theorem ba_index2 (a b c : Int) (w : World) : (Instr.index 25 (.agg #[.int .i64 a, .int .i64 b, .int .i64 c]) (.int .i64 2)).run Try.prog w = .ok (.int .i64 c) w := by
  have as2 := Try.isAgg3
  have zs2 := Try.sizeOf3
  simp [Instr.index, run_underlying Try.underlying25, zs2, as2, go_sem]
theorem calls_below {P : Program} {f : FuncId} {args : Array Value} {w : World} {v : Value} (h : Calls P f args w fun e w' => e = .returned v ∧ w = w') : Calls P f args w fun e w' => e = .returned v ∧ Below w.heap.size w w' :=
  h.mono fun _ _ ⟨he, hb⟩ => ⟨he, hb ▸ Below.refl _ _⟩
set_option maxRecDepth 100000 in
set_option maxHeartbeats 4000000 in
theorem chanceSays_walk (d p : Int) (y : Value) (L : List Int) (n : Int) (hd : -9223372036854775808 ≤ d ∧ d ≤ 9223372036854775807) (hp : -9223372036854775808 ≤ p ∧ p ≤ 9223372036854775807) (hn : -9223372036854775808 ≤ n ∧ n ≤ 9223372036854775807) (w : World) (hy : DV w y L) :
    Calls Try.prog 3 #[.int .i64 d, .int .i64 p, y, .int .i64 n] w fun e w' => e = .returned (.bool true) ∧ Below w.heap.size w w' := by
  have hg := ba_guard
  have HF := hid (fires_any d p w hd)
  have HRF := hid (rfires_any d p w hd)
  obtain ⟨z, hz⟩ : ∃ z, fireB d p = z := ⟨_, rfl⟩
  rw [hz] at HF HRF
  obtain ⟨x, hx⟩ : ∃ x, atI L n = x := ⟨_, rfl⟩
  obtain ⟨a, ha⟩ : ∃ a, drI L n 0 = a := ⟨_, rfl⟩
  obtain ⟨b, hb⟩ : ∃ b, drI L n 1 = b := ⟨_, rfl⟩
  obtain ⟨c, hc⟩ : ∃ c, drI L n 2 = c := ⟨_, rfl⟩
  have HA := hid (cat_any y L n w hy (hid hx))
  have HRA := hid (rcat_any y L n w hy (hid hx))
  have HD := hid (cdraws_any y L n w hy (hid ⟨ha, hb, hc⟩))
  have HRD := hid (fun w2 (h2 : Below w.heap.size w w2) => rcdraws_any y L n w2 (hy.up h2) hn (hid ⟨ha, hb, hc⟩))
  have he : ∀ w : World, (binOp .eql 25 (.agg #[.int .i64 a, .int .i64 b, .int .i64 c]) (.agg #[.int .i64 a, .int .i64 b, .int .i64 c])).run Try.prog w = .ok (.bool true) w := fun w => ba_eql w _ _ _
  clear hz hx ha hb hc hd hp hn hy
  go_enter Try.func3, Try.ntmps3
  go_wp2_with fail
  refine HF.out.mono ?_
  rintro e w1 ⟨rfl, rfl⟩
  go_wp2_with fail
  refine HRF.out.mono ?_
  rintro e w1 ⟨rfl, rfl⟩
  go_wp2_with fail
  refine HA.out.mono ?_
  rintro e w1 ⟨rfl, rfl⟩
  go_wp2_with fail
  refine HRA.out.mono ?_
  rintro e w1 ⟨rfl, rfl⟩
  go_wp2_with fail
  refine HD.out.mono ?_
  rintro e w1 ⟨rfl, hb1⟩
  have HB1 := hid hb1
  clear hb1
  go_wp2_with fail
  refine (HRD.out _ HB1.out).mono ?_
  rintro e w2 ⟨rfl, hb2⟩
  have HB2 := hid (estep HB1.out hb2)
  clear hb2
  go_wp2_with fail
  refine (known15_any _).mono ?_
  rintro e w3 ⟨rfl, hb3⟩
  have HB3 := hid (estep HB2.out hb3)
  clear hb3
  go_wp2_with fail
  go_returns
  exact ⟨rfl, HB3.out⟩
/-- How many of k draws, one after another, fire. -/
def cntF (d p : Int) : Nat → Nat
  | 0 => 0
  | k + 1 => cntF d p k + if fireB (d + k) p = true then 1 else 0
theorem cntF_closed (d p : Int) (h0 : 0 ≤ p) (h1 : p ≤ 100) (k : Nat) (hk : k ≤ 100) : (cntF d p k : Int) = max 0 (min (min (d % 100 + k) 100) p - d % 100) + max 0 (min (d % 100 + k - 100) p) := by
  induction k with
  | zero => simp [cntF]; omega
  | succ k ih =>
    have ih := ih (by omega)
    have hs : cntF d p (k + 1) = cntF d p k + if fireB (d + k) p = true then 1 else 0 := rfl
    rw [hs]
    by_cases hf : fireB (d + k) p = true
    · rw [if_pos hf]
      have := of_decide_eq_true hf
      omega
    · rw [if_neg hf]
      have : ¬ ((d + k) % 100 < p) := fun h => hf (decide_eq_true h)
      omega
theorem cntF_all (d p : Int) (h0 : 0 ≤ p) (h1 : p ≤ 100) : (cntF d p 100 : Int) = p := by
  rw [cntF_closed d p h0 h1 100 (by omega)]
  omega
theorem cntF_le (d p : Int) (k : Nat) : cntF d p k ≤ k := by
  induction k with
  | zero => simp [cntF]
  | succ k ih =>
    have hs : cntF d p (k + 1) = cntF d p k + if fireB (d + k) p = true then 1 else 0 := rfl
    rw [hs]; split <;> omega
set_option maxRecDepth 100000 in
set_option maxHeartbeats 8000000 in
theorem chanceParts_walk (d p m : Int) (hd : -9223372036854775808 ≤ d ∧ d ≤ 9223372036854775807) (hp : -9223372036854775808 ≤ p ∧ p ≤ 9223372036854775807) (hm : -9223372036854775808 ≤ m ∧ m ≤ 9223372036854775807) (w : World) :
    Calls Try.prog 4 #[.int .i64 d, .int .i64 p, .int .i64 m] w fun e w' => e = .returned (.bool true) ∧ Below w.heap.size w w' := by
  have hnot := enot
  have HF0 := hid (fires_any d 0 w hd)
  rw [show fireB d 0 = false from decide_eq_false (by omega)] at HF0
  have HF1 := hid (fires_any d 100 w hd)
  rw [show fireB d 100 = true from decide_eq_true (by omega)] at HF1
  have HFP := hid (fires_any d p w hd)
  have HFM := hid (fires_any d m w hd)
  have HMO : Hid (fireB d p = true → p ≤ m → fireB d m = true) := hid (fun h1 h2 => decide_eq_true (Int.lt_of_lt_of_le (of_decide_eq_true h1) h2))
  obtain ⟨zp, hzp⟩ : ∃ z, fireB d p = z := ⟨_, rfl⟩
  obtain ⟨zm, hzm⟩ : ∃ z, fireB d m = z := ⟨_, rfl⟩
  rw [hzp] at HFP HMO
  rw [hzm] at HFM HMO
  have HZP := hid hzp
  clear hzp hzm hd hm hp
  go_enter Try.func4, Try.ntmps4
  go_wp2_with fail
  refine HF0.out.mono ?_
  rintro e w1 ⟨rfl, rfl⟩
  go_wp2_with fail
  refine HF1.out.mono ?_
  rintro e w1 ⟨rfl, rfl⟩
  go_upto_region 3 with (fail)
  go_cut [29] from 16 to 30 (fun s wx => s = .bool false ∧ wx = w)
  case first =>
    go_wp2_with fail
    refine HFP.out.mono ?_
    rintro e w1 ⟨rfl, rfl⟩
    cases zp
    · go_wp2_with fail
      go_meet
      exact ⟨rfl, rfl⟩
    · by_cases hpm : p ≤ m
      · obtain rfl : zm = true := HMO.out rfl hpm
        go_wp2_with fail
        refine HFM.out.mono ?_
        rintro e w1 ⟨rfl, rfl⟩
        go_wp2_with fail
        go_meet
        exact ⟨rfl, rfl⟩
      · go_wp2_with fail
        go_meet
        exact ⟨rfl, rfl⟩
  case rest =>
    obtain ⟨rfl, hwc⟩ := hcut
    subst hwc
    obtain ⟨w1, rfl⟩ : ∃ w1, w1 = wc := ⟨_, rfl⟩
    clear HFP HFM HMO HZP HF0 HF1
    by_cases h1 : p < 0
    · go_wp2_with fail
      refine (known15_any _).mono ?_
      rintro e w3 ⟨rfl, hb3⟩
      go_wp2_with fail
      go_returns
      exact ⟨rfl, hb3⟩
    by_cases h2 : 100 < p
    · go_wp2_with fail
      refine (known15_any _).mono ?_
      rintro e w3 ⟨rfl, hb3⟩
      go_wp2_with fail
      go_returns
      exact ⟨rfl, hb3⟩
    by_cases h3 : d < -1000000
    · go_wp2_with fail
      refine (known15_any _).mono ?_
      rintro e w3 ⟨rfl, hb3⟩
      go_wp2_with fail
      go_returns
      exact ⟨rfl, hb3⟩
    by_cases h4 : 1000000 < d
    · go_wp2_with fail
      refine (known15_any _).mono ?_
      rintro e w3 ⟨rfl, hb3⟩
      go_wp2_with fail
      go_returns
      exact ⟨rfl, hb3⟩
    have HALL := hid (cntF_all d p (by omega) (by omega))
    have HS : Hid (∀ k : Nat, cntF d p (k + 1) = cntF d p k + if fireB (d + k) p = true then 1 else 0) := hid fun k => rfl
    have HLE := hid (cntF_le d p)
    have hd1 : -1000000 ≤ d := by omega
    have hd2 : d ≤ 1000000 := by omega
    go_wp2_with fail
    go_loop [7, 8] (fun n i => ∃ k : Nat, k ≤ 100 ∧ i = .int .i64 k ∧ n = .int .i64 (cntF d p k)) (fun _ i => 100 - (intOf i).toNat)
    case atStart => exact ⟨0, by omega, rfl, rfl⟩
    case round =>
      obtain ⟨k, hk, rfl, rfl⟩ := hrel
      by_cases hlt : k < 100
      · have HF := hid (fires_any (d + k) p w1 ⟨by omega, by omega⟩)
        have hle := HLE.out k
        have hS := HS.out k
        obtain ⟨z, hz⟩ : ∃ z, fireB (d + k) p = z := ⟨_, rfl⟩
        rw [hz] at HF hS
        clear hz
        have HS1 := hid hS
        clear hS
        generalize hc : cntF d p k = c at *
        go_wp2_with fail
        refine HF.out.mono ?_
        rintro e w1 ⟨rfl, rfl⟩
        cases z
        · go_wp2_with fail
          go_round
          case measure => simp [intOf]; omega
          case rel => exact ⟨k + 1, by omega, by go_num, by rw [HS1.out]; rfl⟩
        · go_wp2_with fail
          go_round
          case measure => simp [intOf]; omega
          case rel => exact ⟨k + 1, by omega, by go_num, by rw [HS1.out]; simp⟩
      · obtain rfl : k = 100 := by omega
        rw [HALL.out]
        go_wp2_with fail
        refine (known15_any _).mono ?_
        rintro e w3 ⟨rfl, hb3⟩
        go_wp2_with fail
        go_returns
        exact ⟨rfl, hb3⟩
set_option maxRecDepth 100000 in
set_option maxHeartbeats 8000000 in
theorem chanceDraws_walk (y : Value) (L : List Int) (hop k : Int) (hh : -9223372036854775808 ≤ hop ∧ hop ≤ 9223372036854775807) (hkk : -9223372036854775808 ≤ k ∧ k ≤ 9223372036854775807) (w : World) (hy : DV w y L) :
    Calls Try.prog 5 #[y, .int .i64 hop, .int .i64 k] w fun e w' => e = .returned (.bool true) ∧ Below w.heap.size w w' := by
  clear hh hkk
  go_enter Try.func5, Try.ntmps5
  by_cases h1 : hop < 0
  · go_wp2_with fail
    refine (known15_any _).mono ?_
    rintro e w3 ⟨rfl, hb3⟩
    go_wp2_with fail
    go_returns
    exact ⟨rfl, hb3⟩
  by_cases h2 : 1000000 < hop
  · go_wp2_with fail
    refine (known15_any _).mono ?_
    rintro e w3 ⟨rfl, hb3⟩
    go_wp2_with fail
    go_returns
    exact ⟨rfl, hb3⟩
  by_cases h3 : k < 0
  · go_wp2_with fail
    refine (known15_any _).mono ?_
    rintro e w3 ⟨rfl, hb3⟩
    go_wp2_with fail
    go_returns
    exact ⟨rfl, hb3⟩
  by_cases h4 : 2 < k
  · go_wp2_with fail
    refine (known15_any _).mono ?_
    rintro e w3 ⟨rfl, hb3⟩
    go_wp2_with fail
    go_returns
    exact ⟨rfl, hb3⟩
  have hop0 : 0 ≤ hop := by omega
  have hop1 : hop ≤ 1000000 := by omega
  obtain ⟨x, hx⟩ : ∃ x, atI L (1 + 3 * hop + k) = x := ⟨_, rfl⟩
  obtain ⟨a, ha⟩ : ∃ a, drI L hop 0 = a := ⟨_, rfl⟩
  obtain ⟨b, hb⟩ : ∃ b, drI L hop 1 = b := ⟨_, rfl⟩
  obtain ⟨c, hc⟩ : ∃ c, drI L hop 2 = c := ⟨_, rfl⟩
  have HD := hid (fun (w2 : World) (h2 : Below w.heap.size w w2) => cdraws_any y L hop w2 (hy.up h2) (hid ⟨ha, hb, hc⟩))
  have HA := hid (fun (w2 : World) (h2 : Below w.heap.size w w2) => calls_below (cat_any y L (1 + 3 * hop + k) w2 (hy.up h2) (hid hx)))
  have HX := hid (show (k = 0 → x = a) ∧ (k = 1 → x = b) ∧ (k = 2 → x = c) by
    refine ⟨?_, ?_, ?_⟩
    · rintro rfl; rw [← hx, ← ha, drI_at h1]; simp
    · rintro rfl; rw [← hx, ← hb, drI_at h1]; simp
    · rintro rfl; rw [← hx, ← hc, drI_at h1]; simp)
  clear hx ha hb hc hy
  obtain rfl | rfl | rfl : k = 0 ∨ k = 1 ∨ k = 2 := by omega
  · obtain rfl := HX.out.1 rfl
    rw [show 1 + 3 * hop + (0 : Int) = 1 + 3 * hop from by omega] at HA
    have hix : ∀ w : World, (Instr.index 25 (.agg #[.int .i64 x, .int .i64 b, .int .i64 c]) (.int .i64 0)).run Try.prog w = .ok (.int .i64 x) w := fun w => ba_index0 _ _ _ w
    go_upto_region 3 with (fail)
    refine wp_region_bw (by kernel_rfl) (by kernel_rfl) ?_
    repeat (go_big_quiet_step ((first
      | (go_at_call 13; with_reducible exact calls_bw (HD.out _ (BW.h _)))
      | (go_at_call 11; with_reducible exact calls_bw (HA.out _ (BW.h _)))
      | (go_at_call 15; with_reducible exact calls_bw (known15_any _)))))
    refine wpQuiet_nil ?_
    rintro _ ⟨pq, rfl⟩
    have HB9 := hid pq.h
    go_wp2_with fail
    go_returns
    exact ⟨rfl, HB9.out⟩
  · obtain rfl := HX.out.2.1 rfl
    have hix : ∀ w : World, (Instr.index 25 (.agg #[.int .i64 a, .int .i64 x, .int .i64 c]) (.int .i64 1)).run Try.prog w = .ok (.int .i64 x) w := fun w => ba_index1 _ _ _ w
    go_upto_region 3 with (fail)
    refine wp_region_bw (by kernel_rfl) (by kernel_rfl) ?_
    repeat (go_big_quiet_step ((first
      | (go_at_call 13; with_reducible exact calls_bw (HD.out _ (BW.h _)))
      | (go_at_call 11; with_reducible exact calls_bw (HA.out _ (BW.h _)))
      | (go_at_call 15; with_reducible exact calls_bw (known15_any _)))))
    refine wpQuiet_nil ?_
    rintro _ ⟨pq, rfl⟩
    have HB9 := hid pq.h
    go_wp2_with fail
    go_returns
    exact ⟨rfl, HB9.out⟩
  · obtain rfl := HX.out.2.2 rfl
    have hix : ∀ w : World, (Instr.index 25 (.agg #[.int .i64 a, .int .i64 b, .int .i64 x]) (.int .i64 2)).run Try.prog w = .ok (.int .i64 x) w := fun w => ba_index2 _ _ _ w
    go_upto_region 3 with (fail)
    refine wp_region_bw (by kernel_rfl) (by kernel_rfl) ?_
    repeat (go_big_quiet_step ((first
      | (go_at_call 13; with_reducible exact calls_bw (HD.out _ (BW.h _)))
      | (go_at_call 11; with_reducible exact calls_bw (HA.out _ (BW.h _)))
      | (go_at_call 15; with_reducible exact calls_bw (known15_any _)))))
    refine wpQuiet_nil ?_
    rintro _ ⟨pq, rfl⟩
    have HB9 := hid pq.h
    go_wp2_with fail
    go_returns
    exact ⟨rfl, HB9.out⟩
end Go.Proofs.Ytgkegpdmidcmoaa
namespace Go.Proofs.Ytgkegpdmidcmoaa
set_option linter.unusedVariables false
set_option linter.unusedSimpArgs false
open Go.RowKit Go.Joins

/-- A variable that holds a rule that hits, with its place. -/
def BH (w : World) (g : Nat) (u : Ru) (z : Int) : Prop := Bk w g 57 #[.int .i64 u.rank, .slice u.xa u.xn u.xc, .string (bs u.tg), .int .i64 u.ap, .int .i64 u.st, .int .i64 u.dp, .int .i64 u.dt, .int .i64 u.mp, .string (bs u.mi), .int .i64 u.sm, .int .i64 z]
theorem BH.new (w : World) (u : Ru) (z : Int) : BH (w.alloc (.cells #[.int .i64 u.rank, .slice u.xa u.xn u.xc, .string (bs u.tg), .int .i64 u.ap, .int .i64 u.st, .int .i64 u.dp, .int .i64 u.dt, .int .i64 u.mp, .string (bs u.mi), .int .i64 u.sm, .int .i64 z] 57)) w.heap.size u z := Bk.new _ _ _
theorem BH.up {w w' : World} {g : Nat} {u : Ru} {z : Int} (k : BH w g u z) (hb : Below w.heap.size w w') : BH w' g u z := Bk.up k hb
theorem BH.cells {w : World} {g : Nat} {u : Ru} {z : Int} (k : BH w g u z) : w.cell? ⟨g, 0, none⟩ = some (.int .i64 u.rank) ∧ w.cell? ⟨g, 1, none⟩ = some (.slice u.xa u.xn u.xc) ∧ w.cell? ⟨g, 2, none⟩ = some (.string (bs u.tg)) ∧ w.cell? ⟨g, 3, none⟩ = some (.int .i64 u.ap) ∧ w.cell? ⟨g, 4, none⟩ = some (.int .i64 u.st) ∧ w.cell? ⟨g, 5, none⟩ = some (.int .i64 u.dp) ∧ w.cell? ⟨g, 6, none⟩ = some (.int .i64 u.dt) ∧ w.cell? ⟨g, 7, none⟩ = some (.int .i64 u.mp) ∧ w.cell? ⟨g, 8, none⟩ = some (.string (bs u.mi)) ∧ w.cell? ⟨g, 9, none⟩ = some (.int .i64 u.sm) ∧ w.cell? ⟨g, 10, none⟩ = some (.int .i64 z) :=
  ⟨Bk.cell k 0, Bk.cell k 1, Bk.cell k 2, Bk.cell k 3, Bk.cell k 4, Bk.cell k 5, Bk.cell k 6, Bk.cell k 7, Bk.cell k 8, Bk.cell k 9, Bk.cell k 10⟩
/-- A variable that holds an action. -/
def BY (w : World) (g : Nat) (k r : Int) (tg : List UInt8) (st dl : Int) (mi : List UInt8) : Prop := Bk w g 40 #[.int .i64 k, .int .i64 r, .string (bs tg), .int .i64 st, .int .i64 dl, .string (bs mi)]
theorem BY.new (w : World) (k r : Int) (tg : List UInt8) (st dl : Int) (mi : List UInt8) : BY (w.alloc (.cells #[.int .i64 k, .int .i64 r, .string (bs tg), .int .i64 st, .int .i64 dl, .string (bs mi)] 40)) w.heap.size k r tg st dl mi := Bk.new _ _ _
theorem BY.up {w w' : World} {g : Nat} {k r : Int} {tg : List UInt8} {st dl : Int} {mi : List UInt8} (h : BY w g k r tg st dl mi) (hb : Below w.heap.size w w') : BY w' g k r tg st dl mi := Bk.up h hb
theorem BY.cells {w : World} {g : Nat} {k r : Int} {tg : List UInt8} {st dl : Int} {mi : List UInt8} (h : BY w g k r tg st dl mi) : w.cell? ⟨g, 0, none⟩ = some (.int .i64 k) ∧ w.cell? ⟨g, 1, none⟩ = some (.int .i64 r) ∧ w.cell? ⟨g, 2, none⟩ = some (.string (bs tg)) ∧ w.cell? ⟨g, 3, none⟩ = some (.int .i64 st) ∧ w.cell? ⟨g, 4, none⟩ = some (.int .i64 dl) ∧ w.cell? ⟨g, 5, none⟩ = some (.string (bs mi)) :=
  ⟨Bk.cell h 0, Bk.cell h 1, Bk.cell h 2, Bk.cell h 3, Bk.cell h 4, Bk.cell h 5⟩
theorem BY.froz {w : World} {g : Nat} {k r : Int} {tg : List UInt8} {st dl : Int} {mi : List UInt8} (h : BY w g k r tg st dl mi) : w.frozen? ⟨g, 0, none⟩ = false ∧ w.frozen? ⟨g, 1, none⟩ = false ∧ w.frozen? ⟨g, 2, none⟩ = false ∧ w.frozen? ⟨g, 3, none⟩ = false ∧ w.frozen? ⟨g, 4, none⟩ = false ∧ w.frozen? ⟨g, 5, none⟩ = false :=
  ⟨Bk.frozen h 0, Bk.frozen h 1, Bk.frozen h 2, Bk.frozen h 3, Bk.frozen h 4, Bk.frozen h 5⟩
theorem BY.set6 {w : World} {g : Nat} {k r : Int} {tg : List UInt8} {st dl : Int} {mi : List UInt8} (h : BY w g k r tg st dl mi) (k' r' : Int) (tg' : List UInt8) (st' dl' : Int) (mi' : List UInt8) : BY ((((((w.setCell ⟨g, 0, none⟩ (.int .i64 k')).setCell ⟨g, 1, none⟩ (.int .i64 r')).setCell ⟨g, 2, none⟩ (.string (bs tg'))).setCell ⟨g, 3, none⟩ (.int .i64 st')).setCell ⟨g, 4, none⟩ (.int .i64 dl')).setCell ⟨g, 5, none⟩ (.string (bs mi'))) g k' r' tg' st' dl' mi' := by
  have k0 : BY (w.setCell ⟨g, 0, none⟩ (.int .i64 k')) g k' r tg st dl mi := Bk.set_ h 0 _
  have k1 : BY ((w.setCell ⟨g, 0, none⟩ (.int .i64 k')).setCell ⟨g, 1, none⟩ (.int .i64 r')) g k' r' tg st dl mi := Bk.set_ k0 1 _
  have k2 : BY (((w.setCell ⟨g, 0, none⟩ (.int .i64 k')).setCell ⟨g, 1, none⟩ (.int .i64 r')).setCell ⟨g, 2, none⟩ (.string (bs tg'))) g k' r' tg' st dl mi := Bk.set_ k1 2 _
  have k3 : BY ((((w.setCell ⟨g, 0, none⟩ (.int .i64 k')).setCell ⟨g, 1, none⟩ (.int .i64 r')).setCell ⟨g, 2, none⟩ (.string (bs tg'))).setCell ⟨g, 3, none⟩ (.int .i64 st')) g k' r' tg' st' dl mi := Bk.set_ k2 3 _
  have k4 : BY (((((w.setCell ⟨g, 0, none⟩ (.int .i64 k')).setCell ⟨g, 1, none⟩ (.int .i64 r')).setCell ⟨g, 2, none⟩ (.string (bs tg'))).setCell ⟨g, 3, none⟩ (.int .i64 st')).setCell ⟨g, 4, none⟩ (.int .i64 dl')) g k' r' tg' st' dl' mi := Bk.set_ k3 4 _
  have k5 : BY ((((((w.setCell ⟨g, 0, none⟩ (.int .i64 k')).setCell ⟨g, 1, none⟩ (.int .i64 r')).setCell ⟨g, 2, none⟩ (.string (bs tg'))).setCell ⟨g, 3, none⟩ (.int .i64 st')).setCell ⟨g, 4, none⟩ (.int .i64 dl')).setCell ⟨g, 5, none⟩ (.string (bs mi'))) g k' r' tg' st' dl' mi' := Bk.set_ k4 5 _
  exact k5
theorem BY.setSt {w : World} {g : Nat} {k r : Int} {tg : List UInt8} {st dl : Int} {mi : List UInt8} (h : BY w g k r tg st dl mi) (x : Int) : BY (w.setCell ⟨g, 3, none⟩ (.int .i64 x)) g k r tg x dl mi := Bk.set_ h 3 _
theorem BY.setDl {w : World} {g : Nat} {k r : Int} {tg : List UInt8} {st dl : Int} {mi : List UInt8} (h : BY w g k r tg st dl mi) (x : Int) : BY (w.setCell ⟨g, 4, none⟩ (.int .i64 x)) g k r tg st x mi := Bk.set_ h 4 _
theorem BY.setMi {w : World} {g : Nat} {k r : Int} {tg : List UInt8} {st dl : Int} {mi : List UInt8} (h : BY w g k r tg st dl mi) (x : List UInt8) : BY (w.setCell ⟨g, 5, none⟩ (.string (bs x))) g k r tg st dl x := Bk.set_ h 5 _
theorem Bk.set_other {w : World} {g g' : Nat} {t : TypeId} {cs : Array Value} (k : Bk w g t cs) (hg : g ≠ g') (i : Nat) (x : Value) : Bk (w.setCell ⟨g', i, none⟩ x) g t cs := by
  unfold Bk at k ⊢
  simp only [World.setCell]
  rw [Array.getElem?_modify, if_neg (fun h => hg h.symm)]
  exact k
theorem below_set6 {B : Nat} {w w' : World} (h : Below B w w') (g : Nat) (hg : B ≤ g) (a0 a1 a2 a3 a4 a5 : Value) : Below B w ((((((w'.setCell ⟨g, 0, none⟩ a0).setCell ⟨g, 1, none⟩ a1).setCell ⟨g, 2, none⟩ a2).setCell ⟨g, 3, none⟩ a3).setCell ⟨g, 4, none⟩ a4).setCell ⟨g, 5, none⟩ a5) :=
  (((((h.setCell hg _).setCell hg _).setCell hg _).setCell hg _).setCell hg _).setCell hg _
set_option maxRecDepth 100000 in
set_option maxHeartbeats 4000000 in
theorem action_any (u : Ru) (z k : Int) (w : World) :
    Calls Try.prog 28 #[.agg #[.int .i64 u.rank, .slice u.xa u.xn u.xc, .string (bs u.tg), .int .i64 u.ap, .int .i64 u.st, .int .i64 u.dp, .int .i64 u.dt, .int .i64 u.mp, .string (bs u.mi), .int .i64 u.sm, .int .i64 z], .int .i64 k] w fun e w' => e = .returned (.agg #[.int .i64 k, .int .i64 z, .string (bs u.tg), .int .i64 0, .int .i64 0, .string (bs [])]) ∧ Below w.heap.size w w' := by
  have c4 : (ByteArray.mk #[]) = bs [] := rfl
  go_enter Try.func28, Try.ntmps28
  go_wp2_with fail
  go_returns
  exact ⟨rfl, by go_grown⟩
set_option maxRecDepth 100000 in
set_option maxHeartbeats 4000000 in
theorem aborts_any (u : Ru) (z d0 d1 d2 : Int) (w : World) (hd : -9223372036854775808 ≤ d0 ∧ d0 ≤ 9223372036854775807) {b : Bool} (H : Hid (fireB d0 u.ap = b)) :
    Calls Try.prog 29 #[.agg #[.int .i64 u.rank, .slice u.xa u.xn u.xc, .string (bs u.tg), .int .i64 u.ap, .int .i64 u.st, .int .i64 u.dp, .int .i64 u.dt, .int .i64 u.mp, .string (bs u.mi), .int .i64 u.sm, .int .i64 z], .agg #[.int .i64 d0, .int .i64 d1, .int .i64 d2]] w fun e w' => e = .returned (.bool b) ∧ Below w.heap.size w w' := by
  have HF := hid (fun w2 => fires_any d0 u.ap w2 hd)
  rw [H.out] at HF
  have hb1 := enew w (.cells #[.int .i64 u.rank, .slice u.xa u.xn u.xc, .string (bs u.tg), .int .i64 u.ap, .int .i64 u.st, .int .i64 u.dp, .int .i64 u.dt, .int .i64 u.mp, .string (bs u.mi), .int .i64 u.sm, .int .i64 z] 57)
  have hb2 := enew (w.alloc (.cells #[.int .i64 u.rank, .slice u.xa u.xn u.xc, .string (bs u.tg), .int .i64 u.ap, .int .i64 u.st, .int .i64 u.dp, .int .i64 u.dt, .int .i64 u.mp, .string (bs u.mi), .int .i64 u.sm, .int .i64 z] 57)) (.cells #[.int .i64 d0, .int .i64 d1, .int .i64 d2] 25)
  have HB := hid (estep hb1 hb2)
  clear hd hb1 hb2
  go_enter Try.func29, Try.ntmps29
  go_wp2_with fail
  refine (HF.out _).mono ?_
  rintro e w1 ⟨rfl, rfl⟩
  go_wp2_with fail
  go_returns
  exact ⟨rfl, HB.out⟩
set_option maxRecDepth 100000 in
set_option maxHeartbeats 4000000 in
theorem delays_any (u : Ru) (z d0 d1 d2 : Int) (w : World) (hd : -9223372036854775808 ≤ d1 ∧ d1 ≤ 9223372036854775807) {b : Bool} (H : Hid (fireB d1 u.dp = b)) :
    Calls Try.prog 36 #[.agg #[.int .i64 u.rank, .slice u.xa u.xn u.xc, .string (bs u.tg), .int .i64 u.ap, .int .i64 u.st, .int .i64 u.dp, .int .i64 u.dt, .int .i64 u.mp, .string (bs u.mi), .int .i64 u.sm, .int .i64 z], .agg #[.int .i64 d0, .int .i64 d1, .int .i64 d2]] w fun e w' => e = .returned (.bool b) ∧ Below w.heap.size w w' := by
  have HF := hid (fun w2 => fires_any d1 u.dp w2 hd)
  rw [H.out] at HF
  have hb1 := enew w (.cells #[.int .i64 u.rank, .slice u.xa u.xn u.xc, .string (bs u.tg), .int .i64 u.ap, .int .i64 u.st, .int .i64 u.dp, .int .i64 u.dt, .int .i64 u.mp, .string (bs u.mi), .int .i64 u.sm, .int .i64 z] 57)
  have hb2 := enew (w.alloc (.cells #[.int .i64 u.rank, .slice u.xa u.xn u.xc, .string (bs u.tg), .int .i64 u.ap, .int .i64 u.st, .int .i64 u.dp, .int .i64 u.dt, .int .i64 u.mp, .string (bs u.mi), .int .i64 u.sm, .int .i64 z] 57)) (.cells #[.int .i64 d0, .int .i64 d1, .int .i64 d2] 25)
  have HB := hid (estep hb1 hb2)
  clear hd hb1 hb2
  go_enter Try.func36, Try.ntmps36
  go_wp2_with fail
  refine (HF.out _).mono ?_
  rintro e w1 ⟨rfl, rfl⟩
  go_wp2_with fail
  go_returns
  exact ⟨rfl, HB.out⟩
set_option maxRecDepth 100000 in
set_option maxHeartbeats 4000000 in
theorem mirrors_any (u : Ru) (z d0 d1 d2 : Int) (w : World) (hd : -9223372036854775808 ≤ d2 ∧ d2 ≤ 9223372036854775807) {b : Bool} (H : Hid (fireB d2 u.mp = b)) :
    Calls Try.prog 37 #[.agg #[.int .i64 u.rank, .slice u.xa u.xn u.xc, .string (bs u.tg), .int .i64 u.ap, .int .i64 u.st, .int .i64 u.dp, .int .i64 u.dt, .int .i64 u.mp, .string (bs u.mi), .int .i64 u.sm, .int .i64 z], .agg #[.int .i64 d0, .int .i64 d1, .int .i64 d2]] w fun e w' => e = .returned (.bool b) ∧ Below w.heap.size w w' := by
  have HF := hid (fun w2 => fires_any d2 u.mp w2 hd)
  rw [H.out] at HF
  have hb1 := enew w (.cells #[.int .i64 u.rank, .slice u.xa u.xn u.xc, .string (bs u.tg), .int .i64 u.ap, .int .i64 u.st, .int .i64 u.dp, .int .i64 u.dt, .int .i64 u.mp, .string (bs u.mi), .int .i64 u.sm, .int .i64 z] 57)
  have hb2 := enew (w.alloc (.cells #[.int .i64 u.rank, .slice u.xa u.xn u.xc, .string (bs u.tg), .int .i64 u.ap, .int .i64 u.st, .int .i64 u.dp, .int .i64 u.dt, .int .i64 u.mp, .string (bs u.mi), .int .i64 u.sm, .int .i64 z] 57)) (.cells #[.int .i64 d0, .int .i64 d1, .int .i64 d2] 25)
  have HB := hid (estep hb1 hb2)
  clear hd hb1 hb2
  go_enter Try.func37, Try.ntmps37
  go_wp2_with fail
  refine (HF.out _).mono ?_
  rintro e w1 ⟨rfl, rfl⟩
  go_wp2_with fail
  go_returns
  exact ⟨rfl, HB.out⟩
set_option maxRecDepth 100000 in
set_option maxHeartbeats 4000000 in
theorem samples_any (u : Ru) (z d : Int) (w : World) (hd : -9223372036854775808 ≤ d ∧ d ≤ 9223372036854775807) {b : Bool} (H : Hid (fireB d u.sm = b)) :
    Calls Try.prog 32 #[.agg #[.int .i64 u.rank, .slice u.xa u.xn u.xc, .string (bs u.tg), .int .i64 u.ap, .int .i64 u.st, .int .i64 u.dp, .int .i64 u.dt, .int .i64 u.mp, .string (bs u.mi), .int .i64 u.sm, .int .i64 z], .int .i64 d] w fun e w' => e = .returned (.bool b) ∧ Below w.heap.size w w' := by
  have HF := hid (fun w2 => fires_any d u.sm w2 hd)
  rw [H.out] at HF
  have hb1 := enew w (.cells #[.int .i64 u.rank, .slice u.xa u.xn u.xc, .string (bs u.tg), .int .i64 u.ap, .int .i64 u.st, .int .i64 u.dp, .int .i64 u.dt, .int .i64 u.mp, .string (bs u.mi), .int .i64 u.sm, .int .i64 z] 57)
  have HB := hid hb1
  clear hd hb1
  go_enter Try.func32, Try.ntmps32
  go_wp2_with fail
  refine (HF.out _).mono ?_
  rintro e w1 ⟨rfl, rfl⟩
  go_wp2_with fail
  go_returns
  exact ⟨rfl, HB.out⟩
end Go.Proofs.Ytgkegpdmidcmoaa
namespace Go.Proofs.Ytgkegpdmidcmoaa
set_option linter.unusedVariables false
set_option linter.unusedSimpArgs false
open Go.RowKit Go.Joins

/-- The delay and the mirror of what passes. -/
def pDl (u : Ru) (d : Int) : Int := if fireB d u.dp = true then u.dt else 0
def pMi (u : Ru) (d : Int) : List UInt8 := if fireB d u.mp = true then u.mi else []
/-- What abort and pass know: the hit, the draws, the result (empty), and the action so far. -/
def PSt (w wx : World) (g3 : Nat) (u : Ru) (z d0 d1 d2 k st dl : Int) (mi : List UInt8) : Prop :=
  BH wx w.heap.size u z ∧ BA wx (w.heap.size + 1) d0 d1 d2 ∧ BY wx (w.heap.size + 2) 0 0 [] 0 0 [] ∧ w.heap.size + 2 < g3 ∧ BY wx g3 k z u.tg st dl mi ∧ Below w.heap.size w wx
theorem PSt.up {w wx w' : World} {g3 : Nat} {u : Ru} {z d0 d1 d2 k st dl : Int} {mi : List UInt8} (h : PSt w wx g3 u z d0 d1 d2 k st dl mi) (hb : Below wx.heap.size wx w') : PSt w w' g3 u z d0 d1 d2 k st dl mi :=
  ⟨h.1.up hb, h.2.1.up hb, h.2.2.1.up hb, h.2.2.2.1, h.2.2.2.2.1.up hb, estep h.2.2.2.2.2 hb⟩
theorem PSt.setDl {w wx : World} {g3 : Nat} {u : Ru} {z d0 d1 d2 k st dl : Int} {mi : List UInt8} (h : PSt w wx g3 u z d0 d1 d2 k st dl mi) (x : Int) : PSt w (wx.setCell ⟨g3, 4, none⟩ (.int .i64 x)) g3 u z d0 d1 d2 k st x mi :=
  have hg := h.2.2.2.1
  ⟨Bk.set_other h.1 (by omega) _ _, Bk.set_other h.2.1 (by omega) _ _, Bk.set_other h.2.2.1 (by omega) _ _, hg, h.2.2.2.2.1.setDl x, h.2.2.2.2.2.setCell (p := ⟨g3, 4, none⟩) (by show _ ≤ g3; omega) _⟩
theorem PSt.setMi {w wx : World} {g3 : Nat} {u : Ru} {z d0 d1 d2 k st dl : Int} {mi : List UInt8} (h : PSt w wx g3 u z d0 d1 d2 k st dl mi) (x : List UInt8) : PSt w (wx.setCell ⟨g3, 5, none⟩ (.string (bs x))) g3 u z d0 d1 d2 k st dl x :=
  have hg := h.2.2.2.1
  ⟨Bk.set_other h.1 (by omega) _ _, Bk.set_other h.2.1 (by omega) _ _, Bk.set_other h.2.2.1 (by omega) _ _, hg, h.2.2.2.2.1.setMi x, h.2.2.2.2.2.setCell (p := ⟨g3, 5, none⟩) (by show _ ≤ g3; omega) _⟩
set_option maxRecDepth 100000 in
set_option maxHeartbeats 4000000 in
theorem abort_any (u : Ru) (z : Int) (w : World) :
    Calls Try.prog 30 #[.agg #[.int .i64 u.rank, .slice u.xa u.xn u.xc, .string (bs u.tg), .int .i64 u.ap, .int .i64 u.st, .int .i64 u.dp, .int .i64 u.dt, .int .i64 u.mp, .string (bs u.mi), .int .i64 u.sm, .int .i64 z]] w fun e w' => e = .returned (.agg #[.int .i64 1, .int .i64 z, .string (bs u.tg), .int .i64 u.st, .int .i64 0, .string (bs [])]) ∧ Below w.heap.size w w' := by
  have c4 : (ByteArray.mk #[]) = bs [] := rfl
  have hb1 := enew w (.cells #[.int .i64 u.rank, .slice u.xa u.xn u.xc, .string (bs u.tg), .int .i64 u.ap, .int .i64 u.st, .int .i64 u.dp, .int .i64 u.dt, .int .i64 u.mp, .string (bs u.mi), .int .i64 u.sm, .int .i64 z] 57)
  have hb2 := enew (w.alloc (.cells #[.int .i64 u.rank, .slice u.xa u.xn u.xc, .string (bs u.tg), .int .i64 u.ap, .int .i64 u.st, .int .i64 u.dp, .int .i64 u.dt, .int .i64 u.mp, .string (bs u.mi), .int .i64 u.sm, .int .i64 z] 57)) (.cells #[.int .i64 0, .int .i64 0, .string (bs []), .int .i64 0, .int .i64 0, .string (bs [])] 40)
  have hh := (BH.new w u z).up hb2
  have hr := BY.new (w.alloc (.cells #[.int .i64 u.rank, .slice u.xa u.xn u.xc, .string (bs u.tg), .int .i64 u.ap, .int .i64 u.st, .int .i64 u.dp, .int .i64 u.dt, .int .i64 u.mp, .string (bs u.mi), .int .i64 u.sm, .int .i64 z] 57)) 0 0 [] 0 0 []
  rw [World.size_alloc] at hr
  have HB0 := hid (estep hb1 hb2)
  have hgs : w.heap.size ≤ w.heap.size + 1 := by omega
  clear hb1 hb2
  go_enter Try.func30, Try.ntmps30
  go_upto_region 1 with (fail)
  generalize (w.alloc (.cells #[.int .i64 u.rank, .slice u.xa u.xn u.xc, .string (bs u.tg), .int .i64 u.ap, .int .i64 u.st, .int .i64 u.dp, .int .i64 u.dt, .int .i64 u.mp, .string (bs u.mi), .int .i64 u.sm, .int .i64 z] 57)).alloc (.cells #[.int .i64 0, .int .i64 0, .string (bs []), .int .i64 0, .int .i64 0, .string (bs [])] 40) = v0 at *
  have HH := hid (And.intro hh hr)
  obtain ⟨a0, a1, a2, a3, a4, a5, a6, a7, a8, a9, a10⟩ := hh.cells
  clear hh hr
  go_wp2_with fail
  refine (action_any u z 1 _).mono ?_
  rintro e w1 ⟨rfl, hb1⟩
  have hb2 := enew w1 (.cells #[.int .i64 1, .int .i64 z, .string (bs u.tg), .int .i64 0, .int .i64 0, .string (bs [])] 40)
  have hl := BY.new w1 1 z u.tg 0 0 []
  have hbb := estep hb1 hb2
  have hh := HH.out.1.up hbb
  have hr := HH.out.2.up hbb
  have HB1 := hid (estep HB0.out hbb)
  have hlt : w.heap.size + 1 < w1.heap.size := Nat.lt_of_lt_of_le (Bk.lt HH.out.2) hb1.size
  clear a0 a1 a2 a3 a4 a5 a6 a7 a8 a9 a10 hb1 hb2 hbb
  go_upto_region 2 with (fail)
  generalize w1.alloc (.cells #[.int .i64 1, .int .i64 z, .string (bs u.tg), .int .i64 0, .int .i64 0, .string (bs [])] 40) = v1 at *
  have HH1 := hid (And.intro hl (And.intro (Bk.set_other hr (show w.heap.size + 1 ≠ w1.heap.size by omega) 3 (.int .i64 u.st)) (HB1.out.setCell (p := ⟨w1.heap.size, 3, none⟩) (by show _ ≤ w1.heap.size; omega) (.int .i64 u.st))))
  obtain ⟨a0, a1, a2, a3, a4, a5, a6, a7, a8, a9, a10⟩ := hh.cells
  obtain ⟨l0, l1, l2, l3, l4, l5⟩ := hl.cells
  obtain ⟨f0, f1, f2, f3, f4, f5⟩ := hl.froz
  clear hh hl hr
  go_upto_region 3 with (fail)
  have hl := HH1.out.1.setSt u.st
  have hr : BY (v1.setCell ⟨w1.heap.size, 3, none⟩ (.int .i64 u.st)) (w.heap.size + 1) 0 0 [] 0 0 [] := HH1.out.2.1
  have HB2 := hid HH1.out.2.2
  clear a0 a1 a2 a3 a4 a5 a6 a7 a8 a9 a10 l0 l1 l2 l3 l4 l5 f0 f1 f2 f3 f4 f5 HH1
  generalize v1.setCell ⟨w1.heap.size, 3, none⟩ (.int .i64 u.st) = v2 at *
  obtain ⟨l0, l1, l2, l3, l4, l5⟩ := hl.cells
  obtain ⟨r0, r1, r2, r3, r4, r5⟩ := hr.cells
  obtain ⟨f0, f1, f2, f3, f4, f5⟩ := hr.froz
  have HR := hid (hr.set6 1 z u.tg u.st 0 []).cells
  have HBB := hid (below_set6 HB2.out (w.heap.size + 1) hgs (.int .i64 1) (.int .i64 z) (.string (bs u.tg)) (.int .i64 u.st) (.int .i64 0) (.string (bs [])))
  clear hl hr
  go_wp2_with fail
  (try simp only [Exit.inBlock, Exit.then])
  refine bodyPost_ret (v := .agg #[.int .i64 1, .int .i64 z, .string (bs u.tg), .int .i64 u.st, .int .i64 0, .string (bs [])]) (by simp [results, Try.results30, go_sem, HR.out.1, HR.out.2.1, HR.out.2.2.1, HR.out.2.2.2.1, HR.out.2.2.2.2.1, HR.out.2.2.2.2.2]; try rfl) rfl ?_
  exact ⟨rfl, HBB.out⟩
set_option maxRecDepth 100000 in
set_option maxHeartbeats 8000000 in
theorem pass_any (u : Ru) (z d0 d1 d2 : Int) (w : World) (hd1 : -9223372036854775808 ≤ d1 ∧ d1 ≤ 9223372036854775807) (hd2 : -9223372036854775808 ≤ d2 ∧ d2 ≤ 9223372036854775807) {dl : Int} (HDO : Hid (pDl u d1 = dl)) {mi : List UInt8} (HMO : Hid (pMi u d2 = mi)) :
    Calls Try.prog 31 #[.agg #[.int .i64 u.rank, .slice u.xa u.xn u.xc, .string (bs u.tg), .int .i64 u.ap, .int .i64 u.st, .int .i64 u.dp, .int .i64 u.dt, .int .i64 u.mp, .string (bs u.mi), .int .i64 u.sm, .int .i64 z], .agg #[.int .i64 d0, .int .i64 d1, .int .i64 d2]] w fun e w' => e = .returned (.agg #[.int .i64 2, .int .i64 z, .string (bs u.tg), .int .i64 0, .int .i64 dl, .string (bs mi)]) ∧ Below w.heap.size w w' := by
  have c4 : (ByteArray.mk #[]) = bs [] := rfl
  obtain ⟨b1, hb⟩ : ∃ b, fireB d1 u.dp = b := ⟨_, rfl⟩
  have HD := hid hb
  clear hb
  obtain ⟨b2, hb⟩ : ∃ b, fireB d2 u.mp = b := ⟨_, rfl⟩
  have HM := hid hb
  clear hb
  have hb1 := enew w (.cells #[.int .i64 u.rank, .slice u.xa u.xn u.xc, .string (bs u.tg), .int .i64 u.ap, .int .i64 u.st, .int .i64 u.dp, .int .i64 u.dt, .int .i64 u.mp, .string (bs u.mi), .int .i64 u.sm, .int .i64 z] 57)
  have hb2 := enew (w.alloc (.cells #[.int .i64 u.rank, .slice u.xa u.xn u.xc, .string (bs u.tg), .int .i64 u.ap, .int .i64 u.st, .int .i64 u.dp, .int .i64 u.dt, .int .i64 u.mp, .string (bs u.mi), .int .i64 u.sm, .int .i64 z] 57)) (.cells #[.int .i64 d0, .int .i64 d1, .int .i64 d2] 25)
  have hb3 := enew ((w.alloc (.cells #[.int .i64 u.rank, .slice u.xa u.xn u.xc, .string (bs u.tg), .int .i64 u.ap, .int .i64 u.st, .int .i64 u.dp, .int .i64 u.dt, .int .i64 u.mp, .string (bs u.mi), .int .i64 u.sm, .int .i64 z] 57)).alloc (.cells #[.int .i64 d0, .int .i64 d1, .int .i64 d2] 25)) (.cells #[.int .i64 0, .int .i64 0, .string (bs []), .int .i64 0, .int .i64 0, .string (bs [])] 40)
  have hh := (BH.new w u z).up (estep hb2 hb3)
  have ha := (BA.new (w.alloc (.cells #[.int .i64 u.rank, .slice u.xa u.xn u.xc, .string (bs u.tg), .int .i64 u.ap, .int .i64 u.st, .int .i64 u.dp, .int .i64 u.dt, .int .i64 u.mp, .string (bs u.mi), .int .i64 u.sm, .int .i64 z] 57)) d0 d1 d2).up hb3
  have hr := BY.new ((w.alloc (.cells #[.int .i64 u.rank, .slice u.xa u.xn u.xc, .string (bs u.tg), .int .i64 u.ap, .int .i64 u.st, .int .i64 u.dp, .int .i64 u.dt, .int .i64 u.mp, .string (bs u.mi), .int .i64 u.sm, .int .i64 z] 57)).alloc (.cells #[.int .i64 d0, .int .i64 d1, .int .i64 d2] 25)) 0 0 [] 0 0 []
  simp only [World.size_alloc] at hr ha
  have HB0 := hid (estep hb1 (estep hb2 hb3))
  have hgs : w.heap.size ≤ w.heap.size + 2 := by omega
  clear hb1 hb2 hb3
  go_enter Try.func31, Try.ntmps31
  go_upto_region 1 with (fail)
  generalize ((w.alloc (.cells #[.int .i64 u.rank, .slice u.xa u.xn u.xc, .string (bs u.tg), .int .i64 u.ap, .int .i64 u.st, .int .i64 u.dp, .int .i64 u.dt, .int .i64 u.mp, .string (bs u.mi), .int .i64 u.sm, .int .i64 z] 57)).alloc (.cells #[.int .i64 d0, .int .i64 d1, .int .i64 d2] 25)).alloc (.cells #[.int .i64 0, .int .i64 0, .string (bs []), .int .i64 0, .int .i64 0, .string (bs [])] 40) = v0 at *
  have HH := hid (And.intro hh (And.intro ha hr))
  obtain ⟨a0, a1, a2, a3, a4, a5, a6, a7, a8, a9, a10⟩ := hh.cells
  clear hh ha hr
  go_wp2_with fail
  refine (action_any u z 2 _).mono ?_
  rintro e w1 ⟨rfl, hb1⟩
  have hb2 := enew w1 (.cells #[.int .i64 2, .int .i64 z, .string (bs u.tg), .int .i64 0, .int .i64 0, .string (bs [])] 40)
  have hbb := estep hb1 hb2
  have HP : Hid (PSt w _ w1.heap.size u z d0 d1 d2 2 0 0 []) := hid ⟨HH.out.1.up hbb, HH.out.2.1.up hbb, HH.out.2.2.up hbb, Nat.lt_of_lt_of_le (Bk.lt HH.out.2.2) hb1.size, BY.new w1 2 z u.tg 0 0 [], estep HB0.out hbb⟩
  clear a0 a1 a2 a3 a4 a5 a6 a7 a8 a9 a10 hb1 hb2 hbb HH HB0
  go_upto_region 2 with (fail)
  generalize w1.alloc (.cells #[.int .i64 2, .int .i64 z, .string (bs u.tg), .int .i64 0, .int .i64 0, .string (bs [])] 40) = v1 at *
  generalize w1.heap.size = g3 at *
  obtain ⟨a0, a1, a2, a3, a4, a5, a6, a7, a8, a9, a10⟩ := HP.out.1.cells
  obtain ⟨d0c, d1c, d2c⟩ := HP.out.2.1.cells
  go_wp2_with fail
  refine (delays_any u z d0 d1 d2 _ hd1 HD).mono ?_
  rintro e w3 ⟨rfl, hb3⟩
  clear a0 a1 a2 a3 a4 a5 a6 a7 a8 a9 a10 d0c d1c d2c
  have HP3 := hid (HP.out.up hb3)
  clear HP hb3
  have HP := hid HP3.out
  clear HP3
  cases b1
  · have HDL := hid (show dl = 0 by rw [← HDO.out, pDl, if_neg (by rw [HD.out]; decide)])
    go_upto_region 4 with (fail)
    obtain ⟨a0, a1, a2, a3, a4, a5, a6, a7, a8, a9, a10⟩ := HP.out.1.cells
    obtain ⟨d0c, d1c, d2c⟩ := HP.out.2.1.cells
    go_wp2_with fail
    refine (mirrors_any u z d0 d1 d2 _ hd2 HM).mono ?_
    rintro e w5 ⟨rfl, hb5⟩
    clear a0 a1 a2 a3 a4 a5 a6 a7 a8 a9 a10 d0c d1c d2c
    have HP5 := hid (HP.out.up hb5)
    clear HP hb5
    have HP := hid HP5.out
    clear HP5
    cases b2
    · have HMI := hid (show mi = [] by rw [← HMO.out, pMi, if_neg (by rw [HM.out]; decide)])
      go_upto_region 6 with (fail)
      obtain ⟨l0, l1, l2, l3, l4, l5⟩ := HP.out.2.2.2.2.1.cells
      obtain ⟨r0, r1, r2, r3, r4, r5⟩ := HP.out.2.2.1.cells
      obtain ⟨f0, f1, f2, f3, f4, f5⟩ := HP.out.2.2.1.froz
      have HR := hid (HP.out.2.2.1.set6 2 z u.tg 0 0 []).cells
      have HBB := hid (below_set6 HP.out.2.2.2.2.2 (w.heap.size + 2) hgs (.int .i64 2) (.int .i64 z) (.string (bs u.tg)) (.int .i64 0) (.int .i64 0) (.string (bs [])))
      go_wp2_with fail
      (try simp only [Exit.inBlock, Exit.then])
      refine bodyPost_ret (v := .agg #[.int .i64 2, .int .i64 z, .string (bs u.tg), .int .i64 0, .int .i64 0, .string (bs [])]) (by simp [results, Try.results31, go_sem, HR.out.1, HR.out.2.1, HR.out.2.2.1, HR.out.2.2.2.1, HR.out.2.2.2.2.1, HR.out.2.2.2.2.2]; try rfl) rfl ?_
      exact ⟨by rw [HDL.out, HMI.out], HBB.out⟩
    · have HMI := hid (show mi = u.mi by rw [← HMO.out, pMi, if_pos HM.out])
      obtain ⟨a0, a1, a2, a3, a4, a5, a6, a7, a8, a9, a10⟩ := HP.out.1.cells
      obtain ⟨l0, l1, l2, l3, l4, l5⟩ := HP.out.2.2.2.2.1.cells
      obtain ⟨f0, f1, f2, f3, f4, f5⟩ := HP.out.2.2.2.2.1.froz
      go_upto_region 6 with (fail)
      have HQ := hid (HP.out.setMi u.mi)
      clear a0 a1 a2 a3 a4 a5 a6 a7 a8 a9 a10 l0 l1 l2 l3 l4 l5 f0 f1 f2 f3 f4 f5 HP
      have HP := hid HQ.out
      clear HQ
      generalize w5.setCell ⟨g3, 5, none⟩ (.string (bs u.mi)) = w5s at *
      obtain ⟨l0, l1, l2, l3, l4, l5⟩ := HP.out.2.2.2.2.1.cells
      obtain ⟨r0, r1, r2, r3, r4, r5⟩ := HP.out.2.2.1.cells
      obtain ⟨f0, f1, f2, f3, f4, f5⟩ := HP.out.2.2.1.froz
      have HR := hid (HP.out.2.2.1.set6 2 z u.tg 0 0 u.mi).cells
      have HBB := hid (below_set6 HP.out.2.2.2.2.2 (w.heap.size + 2) hgs (.int .i64 2) (.int .i64 z) (.string (bs u.tg)) (.int .i64 0) (.int .i64 0) (.string (bs u.mi)))
      go_wp2_with fail
      (try simp only [Exit.inBlock, Exit.then])
      refine bodyPost_ret (v := .agg #[.int .i64 2, .int .i64 z, .string (bs u.tg), .int .i64 0, .int .i64 0, .string (bs u.mi)]) (by simp [results, Try.results31, go_sem, HR.out.1, HR.out.2.1, HR.out.2.2.1, HR.out.2.2.2.1, HR.out.2.2.2.2.1, HR.out.2.2.2.2.2]; try rfl) rfl ?_
      exact ⟨by rw [HDL.out, HMI.out], HBB.out⟩
  · have HDL := hid (show dl = u.dt by rw [← HDO.out, pDl, if_pos HD.out])
    obtain ⟨a0, a1, a2, a3, a4, a5, a6, a7, a8, a9, a10⟩ := HP.out.1.cells
    obtain ⟨l0, l1, l2, l3, l4, l5⟩ := HP.out.2.2.2.2.1.cells
    obtain ⟨f0, f1, f2, f3, f4, f5⟩ := HP.out.2.2.2.2.1.froz
    go_upto_region 4 with (fail)
    have HQ := hid (HP.out.setDl u.dt)
    clear a0 a1 a2 a3 a4 a5 a6 a7 a8 a9 a10 l0 l1 l2 l3 l4 l5 f0 f1 f2 f3 f4 f5 HP
    have HP := hid HQ.out
    clear HQ
    generalize w3.setCell ⟨g3, 4, none⟩ (.int .i64 u.dt) = w3s at *
    obtain ⟨a0, a1, a2, a3, a4, a5, a6, a7, a8, a9, a10⟩ := HP.out.1.cells
    obtain ⟨d0c, d1c, d2c⟩ := HP.out.2.1.cells
    go_wp2_with fail
    refine (mirrors_any u z d0 d1 d2 _ hd2 HM).mono ?_
    rintro e w5 ⟨rfl, hb5⟩
    clear a0 a1 a2 a3 a4 a5 a6 a7 a8 a9 a10 d0c d1c d2c
    have HP5 := hid (HP.out.up hb5)
    clear HP hb5
    have HP := hid HP5.out
    clear HP5
    cases b2
    · have HMI := hid (show mi = [] by rw [← HMO.out, pMi, if_neg (by rw [HM.out]; decide)])
      go_upto_region 6 with (fail)
      obtain ⟨l0, l1, l2, l3, l4, l5⟩ := HP.out.2.2.2.2.1.cells
      obtain ⟨r0, r1, r2, r3, r4, r5⟩ := HP.out.2.2.1.cells
      obtain ⟨f0, f1, f2, f3, f4, f5⟩ := HP.out.2.2.1.froz
      have HR := hid (HP.out.2.2.1.set6 2 z u.tg 0 u.dt []).cells
      have HBB := hid (below_set6 HP.out.2.2.2.2.2 (w.heap.size + 2) hgs (.int .i64 2) (.int .i64 z) (.string (bs u.tg)) (.int .i64 0) (.int .i64 u.dt) (.string (bs [])))
      go_wp2_with fail
      (try simp only [Exit.inBlock, Exit.then])
      refine bodyPost_ret (v := .agg #[.int .i64 2, .int .i64 z, .string (bs u.tg), .int .i64 0, .int .i64 u.dt, .string (bs [])]) (by simp [results, Try.results31, go_sem, HR.out.1, HR.out.2.1, HR.out.2.2.1, HR.out.2.2.2.1, HR.out.2.2.2.2.1, HR.out.2.2.2.2.2]; try rfl) rfl ?_
      exact ⟨by rw [HDL.out, HMI.out], HBB.out⟩
    · have HMI := hid (show mi = u.mi by rw [← HMO.out, pMi, if_pos HM.out])
      obtain ⟨a0, a1, a2, a3, a4, a5, a6, a7, a8, a9, a10⟩ := HP.out.1.cells
      obtain ⟨l0, l1, l2, l3, l4, l5⟩ := HP.out.2.2.2.2.1.cells
      obtain ⟨f0, f1, f2, f3, f4, f5⟩ := HP.out.2.2.2.2.1.froz
      go_upto_region 6 with (fail)
      have HQ := hid (HP.out.setMi u.mi)
      clear a0 a1 a2 a3 a4 a5 a6 a7 a8 a9 a10 l0 l1 l2 l3 l4 l5 f0 f1 f2 f3 f4 f5 HP
      have HP := hid HQ.out
      clear HQ
      generalize w5.setCell ⟨g3, 5, none⟩ (.string (bs u.mi)) = w5s at *
      obtain ⟨l0, l1, l2, l3, l4, l5⟩ := HP.out.2.2.2.2.1.cells
      obtain ⟨r0, r1, r2, r3, r4, r5⟩ := HP.out.2.2.1.cells
      obtain ⟨f0, f1, f2, f3, f4, f5⟩ := HP.out.2.2.1.froz
      have HR := hid (HP.out.2.2.1.set6 2 z u.tg 0 u.dt u.mi).cells
      have HBB := hid (below_set6 HP.out.2.2.2.2.2 (w.heap.size + 2) hgs (.int .i64 2) (.int .i64 z) (.string (bs u.tg)) (.int .i64 0) (.int .i64 u.dt) (.string (bs u.mi)))
      go_wp2_with fail
      (try simp only [Exit.inBlock, Exit.then])
      refine bodyPost_ret (v := .agg #[.int .i64 2, .int .i64 z, .string (bs u.tg), .int .i64 0, .int .i64 u.dt, .string (bs u.mi)]) (by simp [results, Try.results31, go_sem, HR.out.1, HR.out.2.1, HR.out.2.2.1, HR.out.2.2.2.1, HR.out.2.2.2.2.1, HR.out.2.2.2.2.2]; try rfl) rfl ?_
      exact ⟨by rw [HDL.out, HMI.out], HBB.out⟩
end Go.Proofs.Ytgkegpdmidcmoaa
namespace Go.Proofs.Ytgkegpdmidcmoaa
set_option linter.unusedVariables false
set_option linter.unusedSimpArgs false
open Go.RowKit Go.Joins

theorem Bk.hit11 {w : World} {g : Nat} (k : Bk w g 57 #[.int .i64 0, .slice none 0 0, .string (bs []), .int .i64 0, .int .i64 0, .int .i64 0, .int .i64 0, .int .i64 0, .string (bs []), .int .i64 0, .int .i64 0]) (u : Ru) (z : Int) : BH (((((((((((w.setCell ⟨g, 0, none⟩ (.int .i64 u.rank)).setCell ⟨g, 1, none⟩ (.slice u.xa u.xn u.xc)).setCell ⟨g, 2, none⟩ (.string (bs u.tg))).setCell ⟨g, 3, none⟩ (.int .i64 u.ap)).setCell ⟨g, 4, none⟩ (.int .i64 u.st)).setCell ⟨g, 5, none⟩ (.int .i64 u.dp)).setCell ⟨g, 6, none⟩ (.int .i64 u.dt)).setCell ⟨g, 7, none⟩ (.int .i64 u.mp)).setCell ⟨g, 8, none⟩ (.string (bs u.mi))).setCell ⟨g, 9, none⟩ (.int .i64 u.sm)).setCell ⟨g, 10, none⟩ (.int .i64 z)) g u z := by
  have k0 : Bk (w.setCell ⟨g, 0, none⟩ (.int .i64 u.rank)) g 57 #[.int .i64 u.rank, .slice none 0 0, .string (bs []), .int .i64 0, .int .i64 0, .int .i64 0, .int .i64 0, .int .i64 0, .string (bs []), .int .i64 0, .int .i64 0] := Bk.set_ k 0 _
  have k1 : Bk ((w.setCell ⟨g, 0, none⟩ (.int .i64 u.rank)).setCell ⟨g, 1, none⟩ (.slice u.xa u.xn u.xc)) g 57 #[.int .i64 u.rank, .slice u.xa u.xn u.xc, .string (bs []), .int .i64 0, .int .i64 0, .int .i64 0, .int .i64 0, .int .i64 0, .string (bs []), .int .i64 0, .int .i64 0] := Bk.set_ k0 1 _
  have k2 : Bk (((w.setCell ⟨g, 0, none⟩ (.int .i64 u.rank)).setCell ⟨g, 1, none⟩ (.slice u.xa u.xn u.xc)).setCell ⟨g, 2, none⟩ (.string (bs u.tg))) g 57 #[.int .i64 u.rank, .slice u.xa u.xn u.xc, .string (bs u.tg), .int .i64 0, .int .i64 0, .int .i64 0, .int .i64 0, .int .i64 0, .string (bs []), .int .i64 0, .int .i64 0] := Bk.set_ k1 2 _
  have k3 : Bk ((((w.setCell ⟨g, 0, none⟩ (.int .i64 u.rank)).setCell ⟨g, 1, none⟩ (.slice u.xa u.xn u.xc)).setCell ⟨g, 2, none⟩ (.string (bs u.tg))).setCell ⟨g, 3, none⟩ (.int .i64 u.ap)) g 57 #[.int .i64 u.rank, .slice u.xa u.xn u.xc, .string (bs u.tg), .int .i64 u.ap, .int .i64 0, .int .i64 0, .int .i64 0, .int .i64 0, .string (bs []), .int .i64 0, .int .i64 0] := Bk.set_ k2 3 _
  have k4 : Bk (((((w.setCell ⟨g, 0, none⟩ (.int .i64 u.rank)).setCell ⟨g, 1, none⟩ (.slice u.xa u.xn u.xc)).setCell ⟨g, 2, none⟩ (.string (bs u.tg))).setCell ⟨g, 3, none⟩ (.int .i64 u.ap)).setCell ⟨g, 4, none⟩ (.int .i64 u.st)) g 57 #[.int .i64 u.rank, .slice u.xa u.xn u.xc, .string (bs u.tg), .int .i64 u.ap, .int .i64 u.st, .int .i64 0, .int .i64 0, .int .i64 0, .string (bs []), .int .i64 0, .int .i64 0] := Bk.set_ k3 4 _
  have k5 : Bk ((((((w.setCell ⟨g, 0, none⟩ (.int .i64 u.rank)).setCell ⟨g, 1, none⟩ (.slice u.xa u.xn u.xc)).setCell ⟨g, 2, none⟩ (.string (bs u.tg))).setCell ⟨g, 3, none⟩ (.int .i64 u.ap)).setCell ⟨g, 4, none⟩ (.int .i64 u.st)).setCell ⟨g, 5, none⟩ (.int .i64 u.dp)) g 57 #[.int .i64 u.rank, .slice u.xa u.xn u.xc, .string (bs u.tg), .int .i64 u.ap, .int .i64 u.st, .int .i64 u.dp, .int .i64 0, .int .i64 0, .string (bs []), .int .i64 0, .int .i64 0] := Bk.set_ k4 5 _
  have k6 : Bk (((((((w.setCell ⟨g, 0, none⟩ (.int .i64 u.rank)).setCell ⟨g, 1, none⟩ (.slice u.xa u.xn u.xc)).setCell ⟨g, 2, none⟩ (.string (bs u.tg))).setCell ⟨g, 3, none⟩ (.int .i64 u.ap)).setCell ⟨g, 4, none⟩ (.int .i64 u.st)).setCell ⟨g, 5, none⟩ (.int .i64 u.dp)).setCell ⟨g, 6, none⟩ (.int .i64 u.dt)) g 57 #[.int .i64 u.rank, .slice u.xa u.xn u.xc, .string (bs u.tg), .int .i64 u.ap, .int .i64 u.st, .int .i64 u.dp, .int .i64 u.dt, .int .i64 0, .string (bs []), .int .i64 0, .int .i64 0] := Bk.set_ k5 6 _
  have k7 : Bk ((((((((w.setCell ⟨g, 0, none⟩ (.int .i64 u.rank)).setCell ⟨g, 1, none⟩ (.slice u.xa u.xn u.xc)).setCell ⟨g, 2, none⟩ (.string (bs u.tg))).setCell ⟨g, 3, none⟩ (.int .i64 u.ap)).setCell ⟨g, 4, none⟩ (.int .i64 u.st)).setCell ⟨g, 5, none⟩ (.int .i64 u.dp)).setCell ⟨g, 6, none⟩ (.int .i64 u.dt)).setCell ⟨g, 7, none⟩ (.int .i64 u.mp)) g 57 #[.int .i64 u.rank, .slice u.xa u.xn u.xc, .string (bs u.tg), .int .i64 u.ap, .int .i64 u.st, .int .i64 u.dp, .int .i64 u.dt, .int .i64 u.mp, .string (bs []), .int .i64 0, .int .i64 0] := Bk.set_ k6 7 _
  have k8 : Bk (((((((((w.setCell ⟨g, 0, none⟩ (.int .i64 u.rank)).setCell ⟨g, 1, none⟩ (.slice u.xa u.xn u.xc)).setCell ⟨g, 2, none⟩ (.string (bs u.tg))).setCell ⟨g, 3, none⟩ (.int .i64 u.ap)).setCell ⟨g, 4, none⟩ (.int .i64 u.st)).setCell ⟨g, 5, none⟩ (.int .i64 u.dp)).setCell ⟨g, 6, none⟩ (.int .i64 u.dt)).setCell ⟨g, 7, none⟩ (.int .i64 u.mp)).setCell ⟨g, 8, none⟩ (.string (bs u.mi))) g 57 #[.int .i64 u.rank, .slice u.xa u.xn u.xc, .string (bs u.tg), .int .i64 u.ap, .int .i64 u.st, .int .i64 u.dp, .int .i64 u.dt, .int .i64 u.mp, .string (bs u.mi), .int .i64 0, .int .i64 0] := Bk.set_ k7 8 _
  have k9 : Bk ((((((((((w.setCell ⟨g, 0, none⟩ (.int .i64 u.rank)).setCell ⟨g, 1, none⟩ (.slice u.xa u.xn u.xc)).setCell ⟨g, 2, none⟩ (.string (bs u.tg))).setCell ⟨g, 3, none⟩ (.int .i64 u.ap)).setCell ⟨g, 4, none⟩ (.int .i64 u.st)).setCell ⟨g, 5, none⟩ (.int .i64 u.dp)).setCell ⟨g, 6, none⟩ (.int .i64 u.dt)).setCell ⟨g, 7, none⟩ (.int .i64 u.mp)).setCell ⟨g, 8, none⟩ (.string (bs u.mi))).setCell ⟨g, 9, none⟩ (.int .i64 u.sm)) g 57 #[.int .i64 u.rank, .slice u.xa u.xn u.xc, .string (bs u.tg), .int .i64 u.ap, .int .i64 u.st, .int .i64 u.dp, .int .i64 u.dt, .int .i64 u.mp, .string (bs u.mi), .int .i64 u.sm, .int .i64 0] := Bk.set_ k8 9 _
  have k10 : Bk (((((((((((w.setCell ⟨g, 0, none⟩ (.int .i64 u.rank)).setCell ⟨g, 1, none⟩ (.slice u.xa u.xn u.xc)).setCell ⟨g, 2, none⟩ (.string (bs u.tg))).setCell ⟨g, 3, none⟩ (.int .i64 u.ap)).setCell ⟨g, 4, none⟩ (.int .i64 u.st)).setCell ⟨g, 5, none⟩ (.int .i64 u.dp)).setCell ⟨g, 6, none⟩ (.int .i64 u.dt)).setCell ⟨g, 7, none⟩ (.int .i64 u.mp)).setCell ⟨g, 8, none⟩ (.string (bs u.mi))).setCell ⟨g, 9, none⟩ (.int .i64 u.sm)).setCell ⟨g, 10, none⟩ (.int .i64 z)) g 57 #[.int .i64 u.rank, .slice u.xa u.xn u.xc, .string (bs u.tg), .int .i64 u.ap, .int .i64 u.st, .int .i64 u.dp, .int .i64 u.dt, .int .i64 u.mp, .string (bs u.mi), .int .i64 u.sm, .int .i64 z] := Bk.set_ k9 10 _
  exact k10
theorem below_set11 {B : Nat} {w w' : World} (h : Below B w w') (g : Nat) (hg : B ≤ g) (a0 a1 a2 a3 a4 a5 a6 a7 a8 a9 a10 : Value) : Below B w (((((((((((w'.setCell ⟨g, 0, none⟩ a0).setCell ⟨g, 1, none⟩ a1).setCell ⟨g, 2, none⟩ a2).setCell ⟨g, 3, none⟩ a3).setCell ⟨g, 4, none⟩ a4).setCell ⟨g, 5, none⟩ a5).setCell ⟨g, 6, none⟩ a6).setCell ⟨g, 7, none⟩ a7).setCell ⟨g, 8, none⟩ a8).setCell ⟨g, 9, none⟩ a9).setCell ⟨g, 10, none⟩ a10) :=
  ((((((((((h.setCell hg _).setCell hg _).setCell hg _).setCell hg _).setCell hg _).setCell hg _).setCell hg _).setCell hg _).setCell hg _).setCell hg _).setCell hg _
set_option maxRecDepth 100000 in
set_option maxHeartbeats 8000000 in
theorem find_no (v : Int) (y : Value) (f : List UInt8) (U : List Ru) (m h p b : List UInt8) (x : Value) (L : List Hd) (w : World) (hy : RV w y U) (hx : HV w x L) (hL : L.length ≤ 1000000) (H : Hid (lkI (fun u => allE u.ps m h p L) U = -1)) :
    Calls Try.prog 27 #[.agg #[.int .i64 v, y, .string (bs f)], .agg #[.string (bs m), .string (bs h), .string (bs p), x, .string (bs b)]] w fun e w' => e = .returned (.tuple #[.agg #[.int .i64 0, .slice none 0 0, .string (bs []), .int .i64 0, .int .i64 0, .int .i64 0, .int .i64 0, .int .i64 0, .string (bs []), .int .i64 0, .int .i64 0], .bool false]) ∧ Below w.heap.size w w' := by
  have c4 : (ByteArray.mk #[]) = bs [] := rfl
  have hb1 := enew w (.cells #[.int .i64 v, y, .string (bs f)] 33)
  have hb2 := enew (w.alloc (.cells #[.int .i64 v, y, .string (bs f)] 33)) (.cells #[.string (bs m), .string (bs h), .string (bs p), x, .string (bs b)] 36)
  have hb3 := enew ((w.alloc (.cells #[.int .i64 v, y, .string (bs f)] 33)).alloc (.cells #[.string (bs m), .string (bs h), .string (bs p), x, .string (bs b)] 36)) (.cells #[.int .i64 0, .slice none 0 0, .string (bs []), .int .i64 0, .int .i64 0, .int .i64 0, .int .i64 0, .int .i64 0, .string (bs []), .int .i64 0, .int .i64 0] 57)
  have ht := (BT.new w v y f).up (estep hb2 hb3)
  have hq := (BQ.new (w.alloc (.cells #[.int .i64 v, y, .string (bs f)] 33)) m h p x b).up hb3
  have hr := Bk.new ((w.alloc (.cells #[.int .i64 v, y, .string (bs f)] 33)).alloc (.cells #[.string (bs m), .string (bs h), .string (bs p), x, .string (bs b)] 36)) 57 #[.int .i64 0, .slice none 0 0, .string (bs []), .int .i64 0, .int .i64 0, .int .i64 0, .int .i64 0, .int .i64 0, .string (bs []), .int .i64 0, .int .i64 0]
  simp only [World.size_alloc] at hq hr
  have hb0 := estep hb1 (estep hb2 hb3)
  have HB0 := hid hb0
  have HC := hid (lookup_any v y f U m h p b x L (((w.alloc (.cells #[.int .i64 v, y, .string (bs f)] 33)).alloc (.cells #[.string (bs m), .string (bs h), .string (bs p), x, .string (bs b)] 36)).alloc (.cells #[.int .i64 0, .slice none 0 0, .string (bs []), .int .i64 0, .int .i64 0, .int .i64 0, .int .i64 0, .int .i64 0, .string (bs []), .int .i64 0, .int .i64 0] 57)) (hy.up hb0) (hx.up hb0) hL H)
  have HY := hid (hy.up hb0)
  have hgs : w.heap.size ≤ w.heap.size + 2 := by omega
  clear hb1 hb2 hb3 hb0 hy hx hL
  go_enter Try.func27, Try.ntmps27
  go_upto_region 1 with (fail)
  generalize ((w.alloc (.cells #[.int .i64 v, y, .string (bs f)] 33)).alloc (.cells #[.string (bs m), .string (bs h), .string (bs p), x, .string (bs b)] 36)).alloc (.cells #[.int .i64 0, .slice none 0 0, .string (bs []), .int .i64 0, .int .i64 0, .int .i64 0, .int .i64 0, .int .i64 0, .string (bs []), .int .i64 0, .int .i64 0] 57) = v0 at *
  obtain ⟨t0, t1, t2⟩ := ht.cells
  obtain ⟨q0, q1, q2, q3, q4⟩ := hq.cells
  have HT := hid (And.intro ht hr)
  clear ht hq hr
  go_wp2_with fail
  refine HC.out.mono ?_
  rintro e w1 ⟨rfl, hb1⟩
  have ht := HT.out.1.up hb1
  have hr := HT.out.2.up hb1
  have HB1 := hid (estep HB0.out hb1)
  have HY1 := hid (HY.out.up hb1)
  clear t0 t1 t2 q0 q1 q2 q3 q4 hb1 HT
  have HZ := hid (And.intro hr HB1.out)
  have z0 := Bk.cell hr 0
  have f0 := Bk.frozen hr 0
  have z1 := Bk.cell hr 1
  have f1 := Bk.frozen hr 1
  have z2 := Bk.cell hr 2
  have f2 := Bk.frozen hr 2
  have z3 := Bk.cell hr 3
  have f3 := Bk.frozen hr 3
  have z4 := Bk.cell hr 4
  have f4 := Bk.frozen hr 4
  have z5 := Bk.cell hr 5
  have f5 := Bk.frozen hr 5
  have z6 := Bk.cell hr 6
  have f6 := Bk.frozen hr 6
  have z7 := Bk.cell hr 7
  have f7 := Bk.frozen hr 7
  have z8 := Bk.cell hr 8
  have f8 := Bk.frozen hr 8
  have z9 := Bk.cell hr 9
  have f9 := Bk.frozen hr 9
  have z10 := Bk.cell hr 10
  have f10 := Bk.frozen hr 10
  clear hr ht
  have HS : ∀ w2 : World, Bk w2 (w.heap.size + 2) 57 #[.int .i64 0, .slice none 0 0, .string (bs []), .int .i64 0, .int .i64 0, .int .i64 0, .int .i64 0, .int .i64 0, .string (bs []), .int .i64 0, .int .i64 0] → Bk (((((((((((w2.setCell ⟨(w.heap.size + 2), 0, none⟩ (.int .i64 0)).setCell ⟨(w.heap.size + 2), 1, none⟩ (.slice none 0 0)).setCell ⟨(w.heap.size + 2), 2, none⟩ (.string (bs []))).setCell ⟨(w.heap.size + 2), 3, none⟩ (.int .i64 0)).setCell ⟨(w.heap.size + 2), 4, none⟩ (.int .i64 0)).setCell ⟨(w.heap.size + 2), 5, none⟩ (.int .i64 0)).setCell ⟨(w.heap.size + 2), 6, none⟩ (.int .i64 0)).setCell ⟨(w.heap.size + 2), 7, none⟩ (.int .i64 0)).setCell ⟨(w.heap.size + 2), 8, none⟩ (.string (bs []))).setCell ⟨(w.heap.size + 2), 9, none⟩ (.int .i64 0)).setCell ⟨(w.heap.size + 2), 10, none⟩ (.int .i64 0)) (w.heap.size + 2) 57 #[.int .i64 0, .slice none 0 0, .string (bs []), .int .i64 0, .int .i64 0, .int .i64 0, .int .i64 0, .int .i64 0, .string (bs []), .int .i64 0, .int .i64 0] := fun w2 k0 => by
    have k := k0
    have k : Bk (w2.setCell ⟨(w.heap.size + 2), 0, none⟩ (.int .i64 0)) (w.heap.size + 2) 57 #[.int .i64 0, .slice none 0 0, .string (bs []), .int .i64 0, .int .i64 0, .int .i64 0, .int .i64 0, .int .i64 0, .string (bs []), .int .i64 0, .int .i64 0] := Bk.set_ k 0 _
    have k : Bk ((w2.setCell ⟨(w.heap.size + 2), 0, none⟩ (.int .i64 0)).setCell ⟨(w.heap.size + 2), 1, none⟩ (.slice none 0 0)) (w.heap.size + 2) 57 #[.int .i64 0, .slice none 0 0, .string (bs []), .int .i64 0, .int .i64 0, .int .i64 0, .int .i64 0, .int .i64 0, .string (bs []), .int .i64 0, .int .i64 0] := Bk.set_ k 1 _
    have k : Bk (((w2.setCell ⟨(w.heap.size + 2), 0, none⟩ (.int .i64 0)).setCell ⟨(w.heap.size + 2), 1, none⟩ (.slice none 0 0)).setCell ⟨(w.heap.size + 2), 2, none⟩ (.string (bs []))) (w.heap.size + 2) 57 #[.int .i64 0, .slice none 0 0, .string (bs []), .int .i64 0, .int .i64 0, .int .i64 0, .int .i64 0, .int .i64 0, .string (bs []), .int .i64 0, .int .i64 0] := Bk.set_ k 2 _
    have k : Bk ((((w2.setCell ⟨(w.heap.size + 2), 0, none⟩ (.int .i64 0)).setCell ⟨(w.heap.size + 2), 1, none⟩ (.slice none 0 0)).setCell ⟨(w.heap.size + 2), 2, none⟩ (.string (bs []))).setCell ⟨(w.heap.size + 2), 3, none⟩ (.int .i64 0)) (w.heap.size + 2) 57 #[.int .i64 0, .slice none 0 0, .string (bs []), .int .i64 0, .int .i64 0, .int .i64 0, .int .i64 0, .int .i64 0, .string (bs []), .int .i64 0, .int .i64 0] := Bk.set_ k 3 _
    have k : Bk (((((w2.setCell ⟨(w.heap.size + 2), 0, none⟩ (.int .i64 0)).setCell ⟨(w.heap.size + 2), 1, none⟩ (.slice none 0 0)).setCell ⟨(w.heap.size + 2), 2, none⟩ (.string (bs []))).setCell ⟨(w.heap.size + 2), 3, none⟩ (.int .i64 0)).setCell ⟨(w.heap.size + 2), 4, none⟩ (.int .i64 0)) (w.heap.size + 2) 57 #[.int .i64 0, .slice none 0 0, .string (bs []), .int .i64 0, .int .i64 0, .int .i64 0, .int .i64 0, .int .i64 0, .string (bs []), .int .i64 0, .int .i64 0] := Bk.set_ k 4 _
    have k : Bk ((((((w2.setCell ⟨(w.heap.size + 2), 0, none⟩ (.int .i64 0)).setCell ⟨(w.heap.size + 2), 1, none⟩ (.slice none 0 0)).setCell ⟨(w.heap.size + 2), 2, none⟩ (.string (bs []))).setCell ⟨(w.heap.size + 2), 3, none⟩ (.int .i64 0)).setCell ⟨(w.heap.size + 2), 4, none⟩ (.int .i64 0)).setCell ⟨(w.heap.size + 2), 5, none⟩ (.int .i64 0)) (w.heap.size + 2) 57 #[.int .i64 0, .slice none 0 0, .string (bs []), .int .i64 0, .int .i64 0, .int .i64 0, .int .i64 0, .int .i64 0, .string (bs []), .int .i64 0, .int .i64 0] := Bk.set_ k 5 _
    have k : Bk (((((((w2.setCell ⟨(w.heap.size + 2), 0, none⟩ (.int .i64 0)).setCell ⟨(w.heap.size + 2), 1, none⟩ (.slice none 0 0)).setCell ⟨(w.heap.size + 2), 2, none⟩ (.string (bs []))).setCell ⟨(w.heap.size + 2), 3, none⟩ (.int .i64 0)).setCell ⟨(w.heap.size + 2), 4, none⟩ (.int .i64 0)).setCell ⟨(w.heap.size + 2), 5, none⟩ (.int .i64 0)).setCell ⟨(w.heap.size + 2), 6, none⟩ (.int .i64 0)) (w.heap.size + 2) 57 #[.int .i64 0, .slice none 0 0, .string (bs []), .int .i64 0, .int .i64 0, .int .i64 0, .int .i64 0, .int .i64 0, .string (bs []), .int .i64 0, .int .i64 0] := Bk.set_ k 6 _
    have k : Bk ((((((((w2.setCell ⟨(w.heap.size + 2), 0, none⟩ (.int .i64 0)).setCell ⟨(w.heap.size + 2), 1, none⟩ (.slice none 0 0)).setCell ⟨(w.heap.size + 2), 2, none⟩ (.string (bs []))).setCell ⟨(w.heap.size + 2), 3, none⟩ (.int .i64 0)).setCell ⟨(w.heap.size + 2), 4, none⟩ (.int .i64 0)).setCell ⟨(w.heap.size + 2), 5, none⟩ (.int .i64 0)).setCell ⟨(w.heap.size + 2), 6, none⟩ (.int .i64 0)).setCell ⟨(w.heap.size + 2), 7, none⟩ (.int .i64 0)) (w.heap.size + 2) 57 #[.int .i64 0, .slice none 0 0, .string (bs []), .int .i64 0, .int .i64 0, .int .i64 0, .int .i64 0, .int .i64 0, .string (bs []), .int .i64 0, .int .i64 0] := Bk.set_ k 7 _
    have k : Bk (((((((((w2.setCell ⟨(w.heap.size + 2), 0, none⟩ (.int .i64 0)).setCell ⟨(w.heap.size + 2), 1, none⟩ (.slice none 0 0)).setCell ⟨(w.heap.size + 2), 2, none⟩ (.string (bs []))).setCell ⟨(w.heap.size + 2), 3, none⟩ (.int .i64 0)).setCell ⟨(w.heap.size + 2), 4, none⟩ (.int .i64 0)).setCell ⟨(w.heap.size + 2), 5, none⟩ (.int .i64 0)).setCell ⟨(w.heap.size + 2), 6, none⟩ (.int .i64 0)).setCell ⟨(w.heap.size + 2), 7, none⟩ (.int .i64 0)).setCell ⟨(w.heap.size + 2), 8, none⟩ (.string (bs []))) (w.heap.size + 2) 57 #[.int .i64 0, .slice none 0 0, .string (bs []), .int .i64 0, .int .i64 0, .int .i64 0, .int .i64 0, .int .i64 0, .string (bs []), .int .i64 0, .int .i64 0] := Bk.set_ k 8 _
    have k : Bk ((((((((((w2.setCell ⟨(w.heap.size + 2), 0, none⟩ (.int .i64 0)).setCell ⟨(w.heap.size + 2), 1, none⟩ (.slice none 0 0)).setCell ⟨(w.heap.size + 2), 2, none⟩ (.string (bs []))).setCell ⟨(w.heap.size + 2), 3, none⟩ (.int .i64 0)).setCell ⟨(w.heap.size + 2), 4, none⟩ (.int .i64 0)).setCell ⟨(w.heap.size + 2), 5, none⟩ (.int .i64 0)).setCell ⟨(w.heap.size + 2), 6, none⟩ (.int .i64 0)).setCell ⟨(w.heap.size + 2), 7, none⟩ (.int .i64 0)).setCell ⟨(w.heap.size + 2), 8, none⟩ (.string (bs []))).setCell ⟨(w.heap.size + 2), 9, none⟩ (.int .i64 0)) (w.heap.size + 2) 57 #[.int .i64 0, .slice none 0 0, .string (bs []), .int .i64 0, .int .i64 0, .int .i64 0, .int .i64 0, .int .i64 0, .string (bs []), .int .i64 0, .int .i64 0] := Bk.set_ k 9 _
    have k : Bk (((((((((((w2.setCell ⟨(w.heap.size + 2), 0, none⟩ (.int .i64 0)).setCell ⟨(w.heap.size + 2), 1, none⟩ (.slice none 0 0)).setCell ⟨(w.heap.size + 2), 2, none⟩ (.string (bs []))).setCell ⟨(w.heap.size + 2), 3, none⟩ (.int .i64 0)).setCell ⟨(w.heap.size + 2), 4, none⟩ (.int .i64 0)).setCell ⟨(w.heap.size + 2), 5, none⟩ (.int .i64 0)).setCell ⟨(w.heap.size + 2), 6, none⟩ (.int .i64 0)).setCell ⟨(w.heap.size + 2), 7, none⟩ (.int .i64 0)).setCell ⟨(w.heap.size + 2), 8, none⟩ (.string (bs []))).setCell ⟨(w.heap.size + 2), 9, none⟩ (.int .i64 0)).setCell ⟨(w.heap.size + 2), 10, none⟩ (.int .i64 0)) (w.heap.size + 2) 57 #[.int .i64 0, .slice none 0 0, .string (bs []), .int .i64 0, .int .i64 0, .int .i64 0, .int .i64 0, .int .i64 0, .string (bs []), .int .i64 0, .int .i64 0] := Bk.set_ k 10 _
    exact k
  have HK := HS _ HZ.out.1
  have HR : Hid ((((((((((((w1.setCell ⟨(w.heap.size + 2), 0, none⟩ (.int .i64 0)).setCell ⟨(w.heap.size + 2), 1, none⟩ (.slice none 0 0)).setCell ⟨(w.heap.size + 2), 2, none⟩ (.string (bs []))).setCell ⟨(w.heap.size + 2), 3, none⟩ (.int .i64 0)).setCell ⟨(w.heap.size + 2), 4, none⟩ (.int .i64 0)).setCell ⟨(w.heap.size + 2), 5, none⟩ (.int .i64 0)).setCell ⟨(w.heap.size + 2), 6, none⟩ (.int .i64 0)).setCell ⟨(w.heap.size + 2), 7, none⟩ (.int .i64 0)).setCell ⟨(w.heap.size + 2), 8, none⟩ (.string (bs []))).setCell ⟨(w.heap.size + 2), 9, none⟩ (.int .i64 0)).setCell ⟨(w.heap.size + 2), 10, none⟩ (.int .i64 0)).cell? ⟨w.heap.size + 2, 0, none⟩ = some (.int .i64 0) ∧ (((((((((((w1.setCell ⟨(w.heap.size + 2), 0, none⟩ (.int .i64 0)).setCell ⟨(w.heap.size + 2), 1, none⟩ (.slice none 0 0)).setCell ⟨(w.heap.size + 2), 2, none⟩ (.string (bs []))).setCell ⟨(w.heap.size + 2), 3, none⟩ (.int .i64 0)).setCell ⟨(w.heap.size + 2), 4, none⟩ (.int .i64 0)).setCell ⟨(w.heap.size + 2), 5, none⟩ (.int .i64 0)).setCell ⟨(w.heap.size + 2), 6, none⟩ (.int .i64 0)).setCell ⟨(w.heap.size + 2), 7, none⟩ (.int .i64 0)).setCell ⟨(w.heap.size + 2), 8, none⟩ (.string (bs []))).setCell ⟨(w.heap.size + 2), 9, none⟩ (.int .i64 0)).setCell ⟨(w.heap.size + 2), 10, none⟩ (.int .i64 0)).cell? ⟨w.heap.size + 2, 1, none⟩ = some (.slice none 0 0) ∧ (((((((((((w1.setCell ⟨(w.heap.size + 2), 0, none⟩ (.int .i64 0)).setCell ⟨(w.heap.size + 2), 1, none⟩ (.slice none 0 0)).setCell ⟨(w.heap.size + 2), 2, none⟩ (.string (bs []))).setCell ⟨(w.heap.size + 2), 3, none⟩ (.int .i64 0)).setCell ⟨(w.heap.size + 2), 4, none⟩ (.int .i64 0)).setCell ⟨(w.heap.size + 2), 5, none⟩ (.int .i64 0)).setCell ⟨(w.heap.size + 2), 6, none⟩ (.int .i64 0)).setCell ⟨(w.heap.size + 2), 7, none⟩ (.int .i64 0)).setCell ⟨(w.heap.size + 2), 8, none⟩ (.string (bs []))).setCell ⟨(w.heap.size + 2), 9, none⟩ (.int .i64 0)).setCell ⟨(w.heap.size + 2), 10, none⟩ (.int .i64 0)).cell? ⟨w.heap.size + 2, 2, none⟩ = some (.string (bs [])) ∧ (((((((((((w1.setCell ⟨(w.heap.size + 2), 0, none⟩ (.int .i64 0)).setCell ⟨(w.heap.size + 2), 1, none⟩ (.slice none 0 0)).setCell ⟨(w.heap.size + 2), 2, none⟩ (.string (bs []))).setCell ⟨(w.heap.size + 2), 3, none⟩ (.int .i64 0)).setCell ⟨(w.heap.size + 2), 4, none⟩ (.int .i64 0)).setCell ⟨(w.heap.size + 2), 5, none⟩ (.int .i64 0)).setCell ⟨(w.heap.size + 2), 6, none⟩ (.int .i64 0)).setCell ⟨(w.heap.size + 2), 7, none⟩ (.int .i64 0)).setCell ⟨(w.heap.size + 2), 8, none⟩ (.string (bs []))).setCell ⟨(w.heap.size + 2), 9, none⟩ (.int .i64 0)).setCell ⟨(w.heap.size + 2), 10, none⟩ (.int .i64 0)).cell? ⟨w.heap.size + 2, 3, none⟩ = some (.int .i64 0) ∧ (((((((((((w1.setCell ⟨(w.heap.size + 2), 0, none⟩ (.int .i64 0)).setCell ⟨(w.heap.size + 2), 1, none⟩ (.slice none 0 0)).setCell ⟨(w.heap.size + 2), 2, none⟩ (.string (bs []))).setCell ⟨(w.heap.size + 2), 3, none⟩ (.int .i64 0)).setCell ⟨(w.heap.size + 2), 4, none⟩ (.int .i64 0)).setCell ⟨(w.heap.size + 2), 5, none⟩ (.int .i64 0)).setCell ⟨(w.heap.size + 2), 6, none⟩ (.int .i64 0)).setCell ⟨(w.heap.size + 2), 7, none⟩ (.int .i64 0)).setCell ⟨(w.heap.size + 2), 8, none⟩ (.string (bs []))).setCell ⟨(w.heap.size + 2), 9, none⟩ (.int .i64 0)).setCell ⟨(w.heap.size + 2), 10, none⟩ (.int .i64 0)).cell? ⟨w.heap.size + 2, 4, none⟩ = some (.int .i64 0) ∧ (((((((((((w1.setCell ⟨(w.heap.size + 2), 0, none⟩ (.int .i64 0)).setCell ⟨(w.heap.size + 2), 1, none⟩ (.slice none 0 0)).setCell ⟨(w.heap.size + 2), 2, none⟩ (.string (bs []))).setCell ⟨(w.heap.size + 2), 3, none⟩ (.int .i64 0)).setCell ⟨(w.heap.size + 2), 4, none⟩ (.int .i64 0)).setCell ⟨(w.heap.size + 2), 5, none⟩ (.int .i64 0)).setCell ⟨(w.heap.size + 2), 6, none⟩ (.int .i64 0)).setCell ⟨(w.heap.size + 2), 7, none⟩ (.int .i64 0)).setCell ⟨(w.heap.size + 2), 8, none⟩ (.string (bs []))).setCell ⟨(w.heap.size + 2), 9, none⟩ (.int .i64 0)).setCell ⟨(w.heap.size + 2), 10, none⟩ (.int .i64 0)).cell? ⟨w.heap.size + 2, 5, none⟩ = some (.int .i64 0) ∧ (((((((((((w1.setCell ⟨(w.heap.size + 2), 0, none⟩ (.int .i64 0)).setCell ⟨(w.heap.size + 2), 1, none⟩ (.slice none 0 0)).setCell ⟨(w.heap.size + 2), 2, none⟩ (.string (bs []))).setCell ⟨(w.heap.size + 2), 3, none⟩ (.int .i64 0)).setCell ⟨(w.heap.size + 2), 4, none⟩ (.int .i64 0)).setCell ⟨(w.heap.size + 2), 5, none⟩ (.int .i64 0)).setCell ⟨(w.heap.size + 2), 6, none⟩ (.int .i64 0)).setCell ⟨(w.heap.size + 2), 7, none⟩ (.int .i64 0)).setCell ⟨(w.heap.size + 2), 8, none⟩ (.string (bs []))).setCell ⟨(w.heap.size + 2), 9, none⟩ (.int .i64 0)).setCell ⟨(w.heap.size + 2), 10, none⟩ (.int .i64 0)).cell? ⟨w.heap.size + 2, 6, none⟩ = some (.int .i64 0) ∧ (((((((((((w1.setCell ⟨(w.heap.size + 2), 0, none⟩ (.int .i64 0)).setCell ⟨(w.heap.size + 2), 1, none⟩ (.slice none 0 0)).setCell ⟨(w.heap.size + 2), 2, none⟩ (.string (bs []))).setCell ⟨(w.heap.size + 2), 3, none⟩ (.int .i64 0)).setCell ⟨(w.heap.size + 2), 4, none⟩ (.int .i64 0)).setCell ⟨(w.heap.size + 2), 5, none⟩ (.int .i64 0)).setCell ⟨(w.heap.size + 2), 6, none⟩ (.int .i64 0)).setCell ⟨(w.heap.size + 2), 7, none⟩ (.int .i64 0)).setCell ⟨(w.heap.size + 2), 8, none⟩ (.string (bs []))).setCell ⟨(w.heap.size + 2), 9, none⟩ (.int .i64 0)).setCell ⟨(w.heap.size + 2), 10, none⟩ (.int .i64 0)).cell? ⟨w.heap.size + 2, 7, none⟩ = some (.int .i64 0) ∧ (((((((((((w1.setCell ⟨(w.heap.size + 2), 0, none⟩ (.int .i64 0)).setCell ⟨(w.heap.size + 2), 1, none⟩ (.slice none 0 0)).setCell ⟨(w.heap.size + 2), 2, none⟩ (.string (bs []))).setCell ⟨(w.heap.size + 2), 3, none⟩ (.int .i64 0)).setCell ⟨(w.heap.size + 2), 4, none⟩ (.int .i64 0)).setCell ⟨(w.heap.size + 2), 5, none⟩ (.int .i64 0)).setCell ⟨(w.heap.size + 2), 6, none⟩ (.int .i64 0)).setCell ⟨(w.heap.size + 2), 7, none⟩ (.int .i64 0)).setCell ⟨(w.heap.size + 2), 8, none⟩ (.string (bs []))).setCell ⟨(w.heap.size + 2), 9, none⟩ (.int .i64 0)).setCell ⟨(w.heap.size + 2), 10, none⟩ (.int .i64 0)).cell? ⟨w.heap.size + 2, 8, none⟩ = some (.string (bs [])) ∧ (((((((((((w1.setCell ⟨(w.heap.size + 2), 0, none⟩ (.int .i64 0)).setCell ⟨(w.heap.size + 2), 1, none⟩ (.slice none 0 0)).setCell ⟨(w.heap.size + 2), 2, none⟩ (.string (bs []))).setCell ⟨(w.heap.size + 2), 3, none⟩ (.int .i64 0)).setCell ⟨(w.heap.size + 2), 4, none⟩ (.int .i64 0)).setCell ⟨(w.heap.size + 2), 5, none⟩ (.int .i64 0)).setCell ⟨(w.heap.size + 2), 6, none⟩ (.int .i64 0)).setCell ⟨(w.heap.size + 2), 7, none⟩ (.int .i64 0)).setCell ⟨(w.heap.size + 2), 8, none⟩ (.string (bs []))).setCell ⟨(w.heap.size + 2), 9, none⟩ (.int .i64 0)).setCell ⟨(w.heap.size + 2), 10, none⟩ (.int .i64 0)).cell? ⟨w.heap.size + 2, 9, none⟩ = some (.int .i64 0) ∧ (((((((((((w1.setCell ⟨(w.heap.size + 2), 0, none⟩ (.int .i64 0)).setCell ⟨(w.heap.size + 2), 1, none⟩ (.slice none 0 0)).setCell ⟨(w.heap.size + 2), 2, none⟩ (.string (bs []))).setCell ⟨(w.heap.size + 2), 3, none⟩ (.int .i64 0)).setCell ⟨(w.heap.size + 2), 4, none⟩ (.int .i64 0)).setCell ⟨(w.heap.size + 2), 5, none⟩ (.int .i64 0)).setCell ⟨(w.heap.size + 2), 6, none⟩ (.int .i64 0)).setCell ⟨(w.heap.size + 2), 7, none⟩ (.int .i64 0)).setCell ⟨(w.heap.size + 2), 8, none⟩ (.string (bs []))).setCell ⟨(w.heap.size + 2), 9, none⟩ (.int .i64 0)).setCell ⟨(w.heap.size + 2), 10, none⟩ (.int .i64 0)).cell? ⟨w.heap.size + 2, 10, none⟩ = some (.int .i64 0)) := hid ⟨Bk.cell HK 0, Bk.cell HK 1, Bk.cell HK 2, Bk.cell HK 3, Bk.cell HK 4, Bk.cell HK 5, Bk.cell HK 6, Bk.cell HK 7, Bk.cell HK 8, Bk.cell HK 9, Bk.cell HK 10⟩
  have HBB := hid (below_set11 HZ.out.2 (w.heap.size + 2) hgs (.int .i64 0) (.slice none 0 0) (.string (bs [])) (.int .i64 0) (.int .i64 0) (.int .i64 0) (.int .i64 0) (.int .i64 0) (.string (bs [])) (.int .i64 0) (.int .i64 0))
  clear HS HK
  go_wp2_with fail
  (try simp only [Exit.inBlock, Exit.then])
  refine bodyPost_ret (v := .tuple #[.agg #[.int .i64 0, .slice none 0 0, .string (bs []), .int .i64 0, .int .i64 0, .int .i64 0, .int .i64 0, .int .i64 0, .string (bs []), .int .i64 0, .int .i64 0], .bool false]) (by simp [results, Try.results27, go_sem, HR.out.1, HR.out.2.1, HR.out.2.2.1, HR.out.2.2.2.1, HR.out.2.2.2.2.1, HR.out.2.2.2.2.2.1, HR.out.2.2.2.2.2.2.1, HR.out.2.2.2.2.2.2.2.1, HR.out.2.2.2.2.2.2.2.2.1, HR.out.2.2.2.2.2.2.2.2.2.1, HR.out.2.2.2.2.2.2.2.2.2.2]; try rfl) rfl ?_
  exact ⟨rfl, HBB.out⟩
set_option maxRecDepth 100000 in
set_option maxHeartbeats 8000000 in
theorem find_yes (v : Int) (y : Value) (f : List UInt8) (U : List Ru) (m h p b : List UInt8) (x : Value) (L : List Hd) (w : World) (hy : RV w y U) (hx : HV w x L) (hL : L.length ≤ 1000000) {k : Nat} {u : Ru} (H : Hid (lkI (fun u => allE u.ps m h p L) U = (k : Int))) (HU : Hid (U[k]? = some u)) :
    Calls Try.prog 27 #[.agg #[.int .i64 v, y, .string (bs f)], .agg #[.string (bs m), .string (bs h), .string (bs p), x, .string (bs b)]] w fun e w' => e = .returned (.tuple #[.agg #[.int .i64 u.rank, .slice u.xa u.xn u.xc, .string (bs u.tg), .int .i64 u.ap, .int .i64 u.st, .int .i64 u.dp, .int .i64 u.dt, .int .i64 u.mp, .string (bs u.mi), .int .i64 u.sm, .int .i64 (k : Int)], .bool true]) ∧ Below w.heap.size w w' := by
  have c4 : (ByteArray.mk #[]) = bs [] := rfl
  have hb1 := enew w (.cells #[.int .i64 v, y, .string (bs f)] 33)
  have hb2 := enew (w.alloc (.cells #[.int .i64 v, y, .string (bs f)] 33)) (.cells #[.string (bs m), .string (bs h), .string (bs p), x, .string (bs b)] 36)
  have hb3 := enew ((w.alloc (.cells #[.int .i64 v, y, .string (bs f)] 33)).alloc (.cells #[.string (bs m), .string (bs h), .string (bs p), x, .string (bs b)] 36)) (.cells #[.int .i64 0, .slice none 0 0, .string (bs []), .int .i64 0, .int .i64 0, .int .i64 0, .int .i64 0, .int .i64 0, .string (bs []), .int .i64 0, .int .i64 0] 57)
  have ht := (BT.new w v y f).up (estep hb2 hb3)
  have hq := (BQ.new (w.alloc (.cells #[.int .i64 v, y, .string (bs f)] 33)) m h p x b).up hb3
  have hr := Bk.new ((w.alloc (.cells #[.int .i64 v, y, .string (bs f)] 33)).alloc (.cells #[.string (bs m), .string (bs h), .string (bs p), x, .string (bs b)] 36)) 57 #[.int .i64 0, .slice none 0 0, .string (bs []), .int .i64 0, .int .i64 0, .int .i64 0, .int .i64 0, .int .i64 0, .string (bs []), .int .i64 0, .int .i64 0]
  simp only [World.size_alloc] at hq hr
  have hb0 := estep hb1 (estep hb2 hb3)
  have HB0 := hid hb0
  have HC := hid (lookup_any v y f U m h p b x L (((w.alloc (.cells #[.int .i64 v, y, .string (bs f)] 33)).alloc (.cells #[.string (bs m), .string (bs h), .string (bs p), x, .string (bs b)] 36)).alloc (.cells #[.int .i64 0, .slice none 0 0, .string (bs []), .int .i64 0, .int .i64 0, .int .i64 0, .int .i64 0, .int .i64 0, .string (bs []), .int .i64 0, .int .i64 0] 57)) (hy.up hb0) (hx.up hb0) hL H)
  have HY := hid (hy.up hb0)
  have hgs : w.heap.size ≤ w.heap.size + 2 := by omega
  clear hb1 hb2 hb3 hb0 hy hx hL
  go_enter Try.func27, Try.ntmps27
  go_upto_region 1 with (fail)
  generalize ((w.alloc (.cells #[.int .i64 v, y, .string (bs f)] 33)).alloc (.cells #[.string (bs m), .string (bs h), .string (bs p), x, .string (bs b)] 36)).alloc (.cells #[.int .i64 0, .slice none 0 0, .string (bs []), .int .i64 0, .int .i64 0, .int .i64 0, .int .i64 0, .int .i64 0, .string (bs []), .int .i64 0, .int .i64 0] 57) = v0 at *
  obtain ⟨t0, t1, t2⟩ := ht.cells
  obtain ⟨q0, q1, q2, q3, q4⟩ := hq.cells
  have HT := hid (And.intro ht hr)
  clear ht hq hr
  go_wp2_with fail
  refine HC.out.mono ?_
  rintro e w1 ⟨rfl, hb1⟩
  have ht := HT.out.1.up hb1
  have hr := HT.out.2.up hb1
  have HB1 := hid (estep HB0.out hb1)
  have HY1 := hid (HY.out.up hb1)
  clear t0 t1 t2 q0 q1 q2 q3 q4 hb1 HT
  have hk := (List.getElem?_eq_some_iff.1 HU.out).1
  obtain ⟨A, c, rfl, hgx, -, -, -, hl9⟩ := id HY1.out
  obtain ⟨bb, oo, rfl, -⟩ := hgx.some_of hk
  obtain ⟨r0, r1, r2, r3, r4, r5, r6, r7, r8, r9⟩ := rank_cell hgx HU.out
  have hk0 : ¬ (k : Int) < 0 := by omega
  have hk1 : (k : Int) < (U.length : Int) := by omega
  generalize U.length = n at *
  obtain ⟨t0, t1, t2⟩ := ht.cells
  have HZ := hid (And.intro hr HB1.out)
  have z0 := Bk.cell hr 0
  have f0 := Bk.frozen hr 0
  have z1 := Bk.cell hr 1
  have f1 := Bk.frozen hr 1
  have z2 := Bk.cell hr 2
  have f2 := Bk.frozen hr 2
  have z3 := Bk.cell hr 3
  have f3 := Bk.frozen hr 3
  have z4 := Bk.cell hr 4
  have f4 := Bk.frozen hr 4
  have z5 := Bk.cell hr 5
  have f5 := Bk.frozen hr 5
  have z6 := Bk.cell hr 6
  have f6 := Bk.frozen hr 6
  have z7 := Bk.cell hr 7
  have f7 := Bk.frozen hr 7
  have z8 := Bk.cell hr 8
  have f8 := Bk.frozen hr 8
  have z9 := Bk.cell hr 9
  have f9 := Bk.frozen hr 9
  have z10 := Bk.cell hr 10
  have f10 := Bk.frozen hr 10
  have HR := hid (hr.hit11 u (k : Int)).cells
  have HBB := hid (below_set11 HZ.out.2 (w.heap.size + 2) hgs (.int .i64 u.rank) (.slice u.xa u.xn u.xc) (.string (bs u.tg)) (.int .i64 u.ap) (.int .i64 u.st) (.int .i64 u.dp) (.int .i64 u.dt) (.int .i64 u.mp) (.string (bs u.mi)) (.int .i64 u.sm) (.int .i64 (k : Int)))
  clear hr ht hgx HZ HY HY1
  go_wp2_with fail
  (try simp only [Exit.inBlock, Exit.then])
  refine bodyPost_ret (v := .tuple #[.agg #[.int .i64 u.rank, .slice u.xa u.xn u.xc, .string (bs u.tg), .int .i64 u.ap, .int .i64 u.st, .int .i64 u.dp, .int .i64 u.dt, .int .i64 u.mp, .string (bs u.mi), .int .i64 u.sm, .int .i64 (k : Int)], .bool true]) (by simp [results, Try.results27, go_sem, HR.out.1, HR.out.2.1, HR.out.2.2.1, HR.out.2.2.2.1, HR.out.2.2.2.2.1, HR.out.2.2.2.2.2.1, HR.out.2.2.2.2.2.2.1, HR.out.2.2.2.2.2.2.2.1, HR.out.2.2.2.2.2.2.2.2.1, HR.out.2.2.2.2.2.2.2.2.2.1, HR.out.2.2.2.2.2.2.2.2.2.2]; try rfl) rfl ?_
  exact ⟨rfl, HBB.out⟩
end Go.Proofs.Ytgkegpdmidcmoaa
namespace Go.Proofs.Ytgkegpdmidcmoaa
set_option linter.unusedVariables false
set_option linter.unusedSimpArgs false
open Go.RowKit Go.Joins

/-- An action. -/
structure Ac where
  k : Int
  r : Int
  tg : List UInt8
  st : Int
  dl : Int
  mi : List UInt8
  deriving DecidableEq
def noA : Ac := ⟨0, -1, [], 404, 0, []⟩
def ofU (u : Ru) (z d0 d1 d2 : Int) (sh : Bool) : Ac :=
  if sh = true then ⟨2, z, u.tg, 0, 0, []⟩ else if fireB d0 u.ap = true then ⟨1, z, u.tg, u.st, 0, []⟩ else ⟨2, z, u.tg, 0, pDl u d1, pMi u d2⟩
def ofA (hit : Ru → Bool) (U : List Ru) (d0 d1 d2 : Int) (sh : Bool) : Ac :=
  if lkI hit U < 0 then noA else match U[(lkI hit U).toNat]? with
    | some u => ofU u (lkI hit U) d0 d1 d2 sh
    | none => noA
def smA (hit : Ru → Bool) (U : List Ru) (d : Int) : Bool :=
  if lkI hit U < 0 then false else match U[(lkI hit U).toNat]? with
    | some u => fireB d u.sm
    | none => false
theorem lkI_cases (hit : Ru → Bool) (U : List Ru) : lkI hit U = -1 ∨ ∃ (k : Nat) (u : Ru), lkI hit U = (k : Int) ∧ U[k]? = some u := by
  unfold lkI
  split
  · exact Or.inr ⟨_, _, rfl, List.getElem?_eq_getElem (by assumption)⟩
  · exact Or.inl rfl
theorem ofA_no {hit : Ru → Bool} {U : List Ru} (h : lkI hit U = -1) (d0 d1 d2 : Int) (sh : Bool) : ofA hit U d0 d1 d2 sh = noA := by rw [ofA, if_pos (by rw [h]; decide)]
theorem ofA_yes {hit : Ru → Bool} {U : List Ru} {k : Nat} {u : Ru} (h : lkI hit U = (k : Int)) (hu : U[k]? = some u) (d0 d1 d2 : Int) (sh : Bool) : ofA hit U d0 d1 d2 sh = ofU u (k : Int) d0 d1 d2 sh := by
  rw [ofA, h, if_neg (by omega), Int.toNat_natCast, hu]
theorem smA_no {hit : Ru → Bool} {U : List Ru} (h : lkI hit U = -1) (d : Int) : smA hit U d = false := by rw [smA, if_pos (by rw [h]; decide)]
theorem smA_yes {hit : Ru → Bool} {U : List Ru} {k : Nat} {u : Ru} (h : lkI hit U = (k : Int)) (hu : U[k]? = some u) (d : Int) : smA hit U d = fireB d u.sm := by
  rw [smA, h, if_neg (by omega), Int.toNat_natCast, hu]
/-- The fields of an action, told one by one. -/
theorem ac_eqs {a : Ac} {k r st dl : Int} {tg mi : List UInt8} (h : a = ⟨k, r, tg, st, dl, mi⟩) : a.k = k ∧ a.r = r ∧ a.tg = tg ∧ a.st = st ∧ a.dl = dl ∧ a.mi = mi := by subst h; exact ⟨rfl, rfl, rfl, rfl, rfl, rfl⟩
set_option maxRecDepth 100000 in
set_option maxHeartbeats 16000000 in
theorem of_any (v : Int) (y : Value) (f : List UInt8) (U : List Ru) (m h p b : List UInt8) (x : Value) (L : List Hd) (d0 d1 d2 : Int) (sh : Bool) (w : World) (hy : RV w y U) (hx : HV w x L) (hL : L.length ≤ 1000000) (h0 : -9223372036854775808 ≤ d0 ∧ d0 ≤ 9223372036854775807) (h1 : -9223372036854775808 ≤ d1 ∧ d1 ≤ 9223372036854775807) (h2 : -9223372036854775808 ≤ d2 ∧ d2 ≤ 9223372036854775807) {a : Ac} (H : Hid (ofA (fun u => allE u.ps m h p L) U d0 d1 d2 sh = a)) :
    Calls Try.prog 19 #[.agg #[.int .i64 v, y, .string (bs f)], .agg #[.string (bs m), .string (bs h), .string (bs p), x, .string (bs b)], .agg #[.int .i64 d0, .int .i64 d1, .int .i64 d2], .bool sh] w fun e w' => e = .returned (.agg #[.int .i64 a.k, .int .i64 a.r, .string (bs a.tg), .int .i64 a.st, .int .i64 a.dl, .string (bs a.mi)]) ∧ Below w.heap.size w w' := by
  have H0 := hid h0
  have H1 := hid h1
  have H2 := hid h2
  have c4 : (ByteArray.mk #[]) = bs [] := rfl
  have hnot := enot
  have hb1 := enew w (.cells #[.int .i64 v, y, .string (bs f)] 33)
  have hb2 := enew (w.alloc (.cells #[.int .i64 v, y, .string (bs f)] 33)) (.cells #[.string (bs m), .string (bs h), .string (bs p), x, .string (bs b)] 36)
  have hb3 := enew ((w.alloc (.cells #[.int .i64 v, y, .string (bs f)] 33)).alloc (.cells #[.string (bs m), .string (bs h), .string (bs p), x, .string (bs b)] 36)) (.cells #[.int .i64 d0, .int .i64 d1, .int .i64 d2] 25)
  have hb4 := enew (((w.alloc (.cells #[.int .i64 v, y, .string (bs f)] 33)).alloc (.cells #[.string (bs m), .string (bs h), .string (bs p), x, .string (bs b)] 36)).alloc (.cells #[.int .i64 d0, .int .i64 d1, .int .i64 d2] 25)) (.cells #[.int .i64 0, .int .i64 0, .string (bs []), .int .i64 0, .int .i64 0, .string (bs [])] 40)
  have ht := (BT.new w v y f).up (estep hb2 (estep hb3 hb4))
  have hq := (BQ.new (w.alloc (.cells #[.int .i64 v, y, .string (bs f)] 33)) m h p x b).up (estep hb3 hb4)
  have hd := (BA.new ((w.alloc (.cells #[.int .i64 v, y, .string (bs f)] 33)).alloc (.cells #[.string (bs m), .string (bs h), .string (bs p), x, .string (bs b)] 36)) d0 d1 d2).up hb4
  have hr := BY.new (((w.alloc (.cells #[.int .i64 v, y, .string (bs f)] 33)).alloc (.cells #[.string (bs m), .string (bs h), .string (bs p), x, .string (bs b)] 36)).alloc (.cells #[.int .i64 d0, .int .i64 d1, .int .i64 d2] 25)) 0 0 [] 0 0 []
  simp only [World.size_alloc] at hq hr hd
  have hb0 := estep hb1 (estep hb2 (estep hb3 hb4))
  have HB0 := hid hb0
  rcases lkI_cases (fun u => allE u.ps m h p L) U with hz | ⟨k, u, hz, hu⟩
  · have HC := hid (find_no v y f U m h p b x L ((((w.alloc (.cells #[.int .i64 v, y, .string (bs f)] 33)).alloc (.cells #[.string (bs m), .string (bs h), .string (bs p), x, .string (bs b)] 36)).alloc (.cells #[.int .i64 d0, .int .i64 d1, .int .i64 d2] 25)).alloc (.cells #[.int .i64 0, .int .i64 0, .string (bs []), .int .i64 0, .int .i64 0, .string (bs [])] 40)) (hy.up hb0) (hx.up hb0) hL (hid hz))
    have HE := hid (ac_eqs (H.out.symm.trans (ofA_no hz d0 d1 d2 sh)))
    clear hz H hy hx hL h0 h1 h2 H0 H1 H2
    have hgs : w.heap.size ≤ w.heap.size + 3 := by omega
    clear hb1 hb2 hb3 hb4 hb0
    go_enter Try.func19, Try.ntmps19
    go_upto_region 1 with (fail)
    generalize (((w.alloc (.cells #[.int .i64 v, y, .string (bs f)] 33)).alloc (.cells #[.string (bs m), .string (bs h), .string (bs p), x, .string (bs b)] 36)).alloc (.cells #[.int .i64 d0, .int .i64 d1, .int .i64 d2] 25)).alloc (.cells #[.int .i64 0, .int .i64 0, .string (bs []), .int .i64 0, .int .i64 0, .string (bs [])] 40) = v0 at *
    obtain ⟨t0, t1, t2⟩ := ht.cells
    obtain ⟨q0, q1, q2, q3, q4⟩ := hq.cells
    have HT := hid (And.intro hd hr)
    clear ht hq hr hd
    go_wp2_with fail
    refine HC.out.mono ?_
    rintro e w1 ⟨rfl, hb1⟩
    have hh := Bk.new w1 57 #[.int .i64 0, .slice none 0 0, .string (bs []), .int .i64 0, .int .i64 0, .int .i64 0, .int .i64 0, .int .i64 0, .string (bs []), .int .i64 0, .int .i64 0]
    have hb2 := enew w1 (.cells #[.int .i64 0, .slice none 0 0, .string (bs []), .int .i64 0, .int .i64 0, .int .i64 0, .int .i64 0, .int .i64 0, .string (bs []), .int .i64 0, .int .i64 0] 57)
    have hbb := estep hb1 hb2
    have hd := HT.out.1.up hbb
    have HY9 := hid (And.intro (HT.out.2.up hbb) (estep HB0.out hbb))
    clear t0 t1 t2 q0 q1 q2 q3 q4 hb1 hb2 hbb HT
    go_upto_region 2 with (fail)
    generalize w1.alloc (.cells #[.int .i64 0, .slice none 0 0, .string (bs []), .int .i64 0, .int .i64 0, .int .i64 0, .int .i64 0, .int .i64 0, .string (bs []), .int .i64 0, .int .i64 0] 57) = v1 at *
    generalize w1.heap.size = g4 at *
    clear hh hd
    obtain ⟨r0, r1, r2, r3, r4, r5⟩ := HY9.out.1.cells
    obtain ⟨f0, f1, f2, f3, f4, f5⟩ := HY9.out.1.froz
    have HR := hid (HY9.out.1.set6 (0) (-1) [] (404) (0) []).cells
    have HBB := hid (below_set6 HY9.out.2 (w.heap.size + 3) hgs (.int .i64 (0)) (.int .i64 (-1)) (.string (bs [])) (.int .i64 (404)) (.int .i64 (0)) (.string (bs [])))
    go_wp2_with fail
    (try simp only [Exit.inBlock, Exit.then])
    refine bodyPost_ret (v := .agg #[.int .i64 (0), .int .i64 (-1), .string (bs []), .int .i64 (404), .int .i64 (0), .string (bs [])]) (by simp [results, Try.results19, go_sem, HR.out.1, HR.out.2.1, HR.out.2.2.1, HR.out.2.2.2.1, HR.out.2.2.2.2.1, HR.out.2.2.2.2.2]; try rfl) rfl ?_
    exact ⟨by rw [HE.out.1, HE.out.2.1, HE.out.2.2.1, HE.out.2.2.2.1, HE.out.2.2.2.2.1, HE.out.2.2.2.2.2], HBB.out⟩
  · have HC := hid (find_yes v y f U m h p b x L ((((w.alloc (.cells #[.int .i64 v, y, .string (bs f)] 33)).alloc (.cells #[.string (bs m), .string (bs h), .string (bs p), x, .string (bs b)] 36)).alloc (.cells #[.int .i64 d0, .int .i64 d1, .int .i64 d2] 25)).alloc (.cells #[.int .i64 0, .int .i64 0, .string (bs []), .int .i64 0, .int .i64 0, .string (bs [])] 40)) (hy.up hb0) (hx.up hb0) hL (hid hz) (hid hu))
    have HE0 := hid (H.out.symm.trans (ofA_yes hz hu d0 d1 d2 sh))
    clear hz hu H hy hx hL h0 h1 h2
    have hgs : w.heap.size ≤ w.heap.size + 3 := by omega
    clear hb1 hb2 hb3 hb4 hb0
    go_enter Try.func19, Try.ntmps19
    go_upto_region 1 with (fail)
    generalize (((w.alloc (.cells #[.int .i64 v, y, .string (bs f)] 33)).alloc (.cells #[.string (bs m), .string (bs h), .string (bs p), x, .string (bs b)] 36)).alloc (.cells #[.int .i64 d0, .int .i64 d1, .int .i64 d2] 25)).alloc (.cells #[.int .i64 0, .int .i64 0, .string (bs []), .int .i64 0, .int .i64 0, .string (bs [])] 40) = v0 at *
    obtain ⟨t0, t1, t2⟩ := ht.cells
    obtain ⟨q0, q1, q2, q3, q4⟩ := hq.cells
    have HT := hid (And.intro hd hr)
    clear ht hq hr hd
    go_wp2_with fail
    refine HC.out.mono ?_
    rintro e w1 ⟨rfl, hb1⟩
    have hh := BH.new w1 u (k : Int)
    have hb2 := enew w1 (.cells #[.int .i64 u.rank, .slice u.xa u.xn u.xc, .string (bs u.tg), .int .i64 u.ap, .int .i64 u.st, .int .i64 u.dp, .int .i64 u.dt, .int .i64 u.mp, .string (bs u.mi), .int .i64 u.sm, .int .i64 (k : Int)] 57)
    have hbb := estep hb1 hb2
    have hd := HT.out.1.up hbb
    have HY9 := hid (And.intro (HT.out.2.up hbb) (estep HB0.out hbb))
    clear t0 t1 t2 q0 q1 q2 q3 q4 hb1 hb2 hbb HT
    go_upto_region 2 with (fail)
    generalize w1.alloc (.cells #[.int .i64 u.rank, .slice u.xa u.xn u.xc, .string (bs u.tg), .int .i64 u.ap, .int .i64 u.st, .int .i64 u.dp, .int .i64 u.dt, .int .i64 u.mp, .string (bs u.mi), .int .i64 u.sm, .int .i64 (k : Int)] 57) = v1 at *
    generalize w1.heap.size = g4 at *
    obtain ⟨a0, a1, a2, a3, a4, a5, a6, a7, a8, a9, a10⟩ := hh.cells
    obtain ⟨d0c, d1c, d2c⟩ := hd.cells
    have HH := hid (And.intro hh hd)
    clear hh hd
    generalize (k : Int) = z at *
    cases sh with
    | true =>
      have HE := hid (ac_eqs (HE0.out.trans (by rw [ofU, if_pos rfl])))
      go_wp2_with fail
      refine (action_any u z 2 _).mono ?_
      rintro e w2 ⟨rfl, hb2⟩
      clear a0 a1 a2 a3 a4 a5 a6 a7 a8 a9 a10 d0c d1c d2c
      have HY8 := hid (And.intro (HY9.out.1.up hb2) (estep HY9.out.2 hb2))
      clear HY9
      have HY9 := hid HY8.out
      clear HY8
      clear hb2
      obtain ⟨r0, r1, r2, r3, r4, r5⟩ := HY9.out.1.cells
      obtain ⟨f0, f1, f2, f3, f4, f5⟩ := HY9.out.1.froz
      have HR := hid (HY9.out.1.set6 (2) (z) u.tg (0) (0) []).cells
      have HBB := hid (below_set6 HY9.out.2 (w.heap.size + 3) hgs (.int .i64 (2)) (.int .i64 (z)) (.string (bs u.tg)) (.int .i64 (0)) (.int .i64 (0)) (.string (bs [])))
      go_wp2_with fail
      (try simp only [Exit.inBlock, Exit.then])
      refine bodyPost_ret (v := .agg #[.int .i64 (2), .int .i64 (z), .string (bs u.tg), .int .i64 (0), .int .i64 (0), .string (bs [])]) (by simp [results, Try.results19, go_sem, HR.out.1, HR.out.2.1, HR.out.2.2.1, HR.out.2.2.2.1, HR.out.2.2.2.2.1, HR.out.2.2.2.2.2]; try rfl) rfl ?_
      exact ⟨by rw [HE.out.1, HE.out.2.1, HE.out.2.2.1, HE.out.2.2.2.1, HE.out.2.2.2.2.1, HE.out.2.2.2.2.2], HBB.out⟩
    | false =>
      obtain ⟨b0, hb0⟩ : ∃ b, fireB d0 u.ap = b := ⟨_, rfl⟩
      have HF := hid hb0
      clear hb0
      go_wp2_with fail
      refine (aborts_any u z d0 d1 d2 _ H0.out HF).mono ?_
      rintro e w2 ⟨rfl, hb2⟩
      have HY8 := hid (And.intro (HY9.out.1.up hb2) (estep HY9.out.2 hb2))
      clear HY9
      have HY9 := hid HY8.out
      clear HY8
      have hh : BH w2 g4 u z := HH.out.1.up hb2
      have hd : BA w2 (w.heap.size + 2) d0 d1 d2 := HH.out.2.up hb2
      clear a0 a1 a2 a3 a4 a5 a6 a7 a8 a9 a10 d0c d1c d2c
      clear hb2 HH
      obtain ⟨a0, a1, a2, a3, a4, a5, a6, a7, a8, a9, a10⟩ := hh.cells
      obtain ⟨d0c, d1c, d2c⟩ := hd.cells
      clear hh hd
      cases b0
      · have HE := hid (ac_eqs (HE0.out.trans (by rw [ofU, if_neg (by decide), if_neg (by rw [HF.out]; decide)])))
        go_wp2_with fail
        refine (pass_any u z d0 d1 d2 _ H1.out H2.out (hid rfl) (hid rfl)).mono ?_
        rintro e w3 ⟨rfl, hb3⟩
        clear a0 a1 a2 a3 a4 a5 a6 a7 a8 a9 a10 d0c d1c d2c
        have HY8 := hid (And.intro (HY9.out.1.up hb3) (estep HY9.out.2 hb3))
        clear HY9
        have HY9 := hid HY8.out
        clear HY8
        clear hb3
        generalize pDl u d1 = pd at *
        generalize pMi u d2 = pm at *
        obtain ⟨r0, r1, r2, r3, r4, r5⟩ := HY9.out.1.cells
        obtain ⟨f0, f1, f2, f3, f4, f5⟩ := HY9.out.1.froz
        have HR := hid (HY9.out.1.set6 (2) (z) u.tg (0) (pd) pm).cells
        have HBB := hid (below_set6 HY9.out.2 (w.heap.size + 3) hgs (.int .i64 (2)) (.int .i64 (z)) (.string (bs u.tg)) (.int .i64 (0)) (.int .i64 (pd)) (.string (bs pm)))
        go_wp2_with fail
        (try simp only [Exit.inBlock, Exit.then])
        refine bodyPost_ret (v := .agg #[.int .i64 (2), .int .i64 (z), .string (bs u.tg), .int .i64 (0), .int .i64 (pd), .string (bs pm)]) (by simp [results, Try.results19, go_sem, HR.out.1, HR.out.2.1, HR.out.2.2.1, HR.out.2.2.2.1, HR.out.2.2.2.2.1, HR.out.2.2.2.2.2]; try rfl) rfl ?_
        exact ⟨by rw [HE.out.1, HE.out.2.1, HE.out.2.2.1, HE.out.2.2.2.1, HE.out.2.2.2.2.1, HE.out.2.2.2.2.2], HBB.out⟩
      · have HE := hid (ac_eqs (HE0.out.trans (by rw [ofU, if_neg (by decide), if_pos HF.out])))
        go_wp2_with fail
        refine (abort_any u z _).mono ?_
        rintro e w3 ⟨rfl, hb3⟩
        clear a0 a1 a2 a3 a4 a5 a6 a7 a8 a9 a10 d0c d1c d2c
        have HY8 := hid (And.intro (HY9.out.1.up hb3) (estep HY9.out.2 hb3))
        clear HY9
        have HY9 := hid HY8.out
        clear HY8
        clear hb3
        obtain ⟨r0, r1, r2, r3, r4, r5⟩ := HY9.out.1.cells
        obtain ⟨f0, f1, f2, f3, f4, f5⟩ := HY9.out.1.froz
        have HR := hid (HY9.out.1.set6 (1) (z) u.tg (u.st) (0) []).cells
        have HBB := hid (below_set6 HY9.out.2 (w.heap.size + 3) hgs (.int .i64 (1)) (.int .i64 (z)) (.string (bs u.tg)) (.int .i64 (u.st)) (.int .i64 (0)) (.string (bs [])))
        go_wp2_with fail
        (try simp only [Exit.inBlock, Exit.then])
        refine bodyPost_ret (v := .agg #[.int .i64 (1), .int .i64 (z), .string (bs u.tg), .int .i64 (u.st), .int .i64 (0), .string (bs [])]) (by simp [results, Try.results19, go_sem, HR.out.1, HR.out.2.1, HR.out.2.2.1, HR.out.2.2.2.1, HR.out.2.2.2.2.1, HR.out.2.2.2.2.2]; try rfl) rfl ?_
        exact ⟨by rw [HE.out.1, HE.out.2.1, HE.out.2.2.1, HE.out.2.2.2.1, HE.out.2.2.2.2.1, HE.out.2.2.2.2.2], HBB.out⟩
set_option maxRecDepth 100000 in
set_option maxHeartbeats 8000000 in
theorem sampled_any (v : Int) (y : Value) (f : List UInt8) (U : List Ru) (m h p b : List UInt8) (x : Value) (L : List Hd) (d : Int) (w : World) (hy : RV w y U) (hx : HV w x L) (hL : L.length ≤ 1000000) (hd : -9223372036854775808 ≤ d ∧ d ≤ 9223372036854775807) {s : Bool} (H : Hid (smA (fun u => allE u.ps m h p L) U d = s)) :
    Calls Try.prog 21 #[.agg #[.int .i64 v, y, .string (bs f)], .agg #[.string (bs m), .string (bs h), .string (bs p), x, .string (bs b)], .int .i64 d] w fun e w' => e = .returned (.bool s) ∧ Below w.heap.size w w' := by
  have c4 : (ByteArray.mk #[]) = bs [] := rfl
  have hb1 := enew w (.cells #[.int .i64 v, y, .string (bs f)] 33)
  have hb2 := enew (w.alloc (.cells #[.int .i64 v, y, .string (bs f)] 33)) (.cells #[.string (bs m), .string (bs h), .string (bs p), x, .string (bs b)] 36)
  have ht := (BT.new w v y f).up hb2
  have hq := BQ.new (w.alloc (.cells #[.int .i64 v, y, .string (bs f)] 33)) m h p x b
  simp only [World.size_alloc] at hq
  have hb0 := estep hb1 hb2
  have HB0 := hid hb0
  have HD := hid hd
  rcases lkI_cases (fun u => allE u.ps m h p L) U with hz | ⟨k, u, hz, hu⟩
  · have HC := hid (find_no v y f U m h p b x L ((w.alloc (.cells #[.int .i64 v, y, .string (bs f)] 33)).alloc (.cells #[.string (bs m), .string (bs h), .string (bs p), x, .string (bs b)] 36)) (hy.up hb0) (hx.up hb0) hL (hid hz))
    obtain rfl := H.out.symm.trans (smA_no hz d)
    clear hz hy hx hL hb0 hb1 hb2 hd H
    go_enter Try.func21, Try.ntmps21
    go_upto_region 1 with (fail)
    generalize (w.alloc (.cells #[.int .i64 v, y, .string (bs f)] 33)).alloc (.cells #[.string (bs m), .string (bs h), .string (bs p), x, .string (bs b)] 36) = v0 at *
    obtain ⟨t0, t1, t2⟩ := ht.cells
    obtain ⟨q0, q1, q2, q3, q4⟩ := hq.cells
    clear ht hq
    go_wp2_with fail
    refine HC.out.mono ?_
    rintro e w1 ⟨rfl, hb1⟩
    have HB1 := hid (estep HB0.out (estep hb1 (enew w1 (.cells #[.int .i64 0, .slice none 0 0, .string (bs []), .int .i64 0, .int .i64 0, .int .i64 0, .int .i64 0, .int .i64 0, .string (bs []), .int .i64 0, .int .i64 0] 57))))
    clear t0 t1 t2 q0 q1 q2 q3 q4 hb1
    go_wp2_with fail
    go_returns
    exact ⟨rfl, HB1.out⟩
  · have HC := hid (find_yes v y f U m h p b x L ((w.alloc (.cells #[.int .i64 v, y, .string (bs f)] 33)).alloc (.cells #[.string (bs m), .string (bs h), .string (bs p), x, .string (bs b)] 36)) (hy.up hb0) (hx.up hb0) hL (hid hz) (hid hu))
    have HE := hid ((smA_yes hz hu d).symm.trans H.out)
    clear hz hu hy hx hL hb0 hb1 hb2 hd H
    go_enter Try.func21, Try.ntmps21
    go_upto_region 1 with (fail)
    generalize (w.alloc (.cells #[.int .i64 v, y, .string (bs f)] 33)).alloc (.cells #[.string (bs m), .string (bs h), .string (bs p), x, .string (bs b)] 36) = v0 at *
    obtain ⟨t0, t1, t2⟩ := ht.cells
    obtain ⟨q0, q1, q2, q3, q4⟩ := hq.cells
    clear ht hq
    go_wp2_with fail
    refine HC.out.mono ?_
    rintro e w1 ⟨rfl, hb1⟩
    have HB1 := hid (estep HB0.out (estep hb1 (enew w1 (.cells #[.int .i64 u.rank, .slice u.xa u.xn u.xc, .string (bs u.tg), .int .i64 u.ap, .int .i64 u.st, .int .i64 u.dp, .int .i64 u.dt, .int .i64 u.mp, .string (bs u.mi), .int .i64 u.sm, .int .i64 (k : Int)] 57))))
    have hh := BH.new w1 u (k : Int)
    clear t0 t1 t2 q0 q1 q2 q3 q4 hb1
    go_upto_region 2 with (fail)
    generalize w1.alloc (.cells #[.int .i64 u.rank, .slice u.xa u.xn u.xc, .string (bs u.tg), .int .i64 u.ap, .int .i64 u.st, .int .i64 u.dp, .int .i64 u.dt, .int .i64 u.mp, .string (bs u.mi), .int .i64 u.sm, .int .i64 (k : Int)] 57) = v1 at *
    obtain ⟨a0, a1, a2, a3, a4, a5, a6, a7, a8, a9, a10⟩ := hh.cells
    go_wp2_with fail
    refine (samples_any u (k : Int) d _ HD.out HE).mono ?_
    rintro e w2 ⟨rfl, hb2⟩
    have HB2 := hid (estep HB1.out hb2)
    clear hb2
    go_wp2_with fail
    go_returns
    exact ⟨rfl, HB2.out⟩
end Go.Proofs.Ytgkegpdmidcmoaa
namespace Go.Proofs.Ytgkegpdmidcmoaa
set_option linter.unusedVariables false
set_option linter.unusedSimpArgs false
open Go.RowKit Go.Joins

/-- What the definition's Of knows behind the look-up: the draws, the rule, the action so far, and the result (empty). -/
def QSt (w wx : World) (g4 g5 : Nat) (u : Ru) (z d0 d1 d2 dl : Int) (mi : List UInt8) : Prop :=
  BA wx (w.heap.size + 2) d0 d1 d2 ∧ BR wx g4 u ∧ BY wx (w.heap.size + 3) 0 0 [] 0 0 [] ∧ w.heap.size + 3 < g4 ∧ g4 < g5 ∧ BY wx g5 2 z u.tg 0 dl mi ∧ Below w.heap.size w wx
theorem QSt.setDl {w wx : World} {g4 g5 : Nat} {u : Ru} {z d0 d1 d2 dl : Int} {mi : List UInt8} (h : QSt w wx g4 g5 u z d0 d1 d2 dl mi) (x : Int) : QSt w (wx.setCell ⟨g5, 4, none⟩ (.int .i64 x)) g4 g5 u z d0 d1 d2 x mi :=
  have hg := h.2.2.2.1
  have hg2 := h.2.2.2.2.1
  ⟨Bk.set_other h.1 (by omega) _ _, Bk.set_other h.2.1 (by omega) _ _, Bk.set_other h.2.2.1 (by omega) _ _, hg, hg2, h.2.2.2.2.2.1.setDl x, h.2.2.2.2.2.2.setCell (p := ⟨g5, 4, none⟩) (by show _ ≤ g5; omega) _⟩
theorem QSt.setMi {w wx : World} {g4 g5 : Nat} {u : Ru} {z d0 d1 d2 dl : Int} {mi : List UInt8} (h : QSt w wx g4 g5 u z d0 d1 d2 dl mi) (x : List UInt8) : QSt w (wx.setCell ⟨g5, 5, none⟩ (.string (bs x))) g4 g5 u z d0 d1 d2 dl x :=
  have hg := h.2.2.2.1
  have hg2 := h.2.2.2.2.1
  ⟨Bk.set_other h.1 (by omega) _ _, Bk.set_other h.2.1 (by omega) _ _, Bk.set_other h.2.2.1 (by omega) _ _, hg, hg2, h.2.2.2.2.2.1.setMi x, h.2.2.2.2.2.2.setCell (p := ⟨g5, 5, none⟩) (by show _ ≤ g5; omega) _⟩
set_option maxRecDepth 100000 in
set_option maxHeartbeats 32000000 in
theorem rof_any (v : Int) (y : Value) (f : List UInt8) (U : List Ru) (m h p b : List UInt8) (x : Value) (L : List Hd) (d0 d1 d2 : Int) (sh : Bool) (w : World) (hy : RV w y U) (hx : HV w x L) (hL : L.length ≤ 1000000) (hS : ∀ u ∈ U, smallP u.ps) (hpl : p.length ≤ 140737488351232) (h0 : -9223372036854775808 ≤ d0 ∧ d0 ≤ 9223372036854775807) (h1 : -9223372036854775808 ≤ d1 ∧ d1 ≤ 9223372036854775807) (h2 : -9223372036854775808 ≤ d2 ∧ d2 ≤ 9223372036854775807) {a : Ac} (H : Hid (ofA (fun u => allE u.ps m h p L) U d0 d1 d2 sh = a)) :
    Calls Try.prog 20 #[.agg #[.int .i64 v, y, .string (bs f)], .agg #[.string (bs m), .string (bs h), .string (bs p), x, .string (bs b)], .agg #[.int .i64 d0, .int .i64 d1, .int .i64 d2], .bool sh] w fun e w' => e = .returned (.agg #[.int .i64 a.k, .int .i64 a.r, .string (bs a.tg), .int .i64 a.st, .int .i64 a.dl, .string (bs a.mi)]) ∧ Below w.heap.size w w' := by
  have H0 := hid h0
  have H1 := hid h1
  have H2 := hid h2
  have c4 : (ByteArray.mk #[]) = bs [] := rfl
  have hnot := enot
  have hb1 := enew w (.cells #[.int .i64 v, y, .string (bs f)] 33)
  have hb2 := enew (w.alloc (.cells #[.int .i64 v, y, .string (bs f)] 33)) (.cells #[.string (bs m), .string (bs h), .string (bs p), x, .string (bs b)] 36)
  have hb3 := enew ((w.alloc (.cells #[.int .i64 v, y, .string (bs f)] 33)).alloc (.cells #[.string (bs m), .string (bs h), .string (bs p), x, .string (bs b)] 36)) (.cells #[.int .i64 d0, .int .i64 d1, .int .i64 d2] 25)
  have hb4 := enew (((w.alloc (.cells #[.int .i64 v, y, .string (bs f)] 33)).alloc (.cells #[.string (bs m), .string (bs h), .string (bs p), x, .string (bs b)] 36)).alloc (.cells #[.int .i64 d0, .int .i64 d1, .int .i64 d2] 25)) (.cells #[.int .i64 0, .int .i64 0, .string (bs []), .int .i64 0, .int .i64 0, .string (bs [])] 40)
  have ht := (BT.new w v y f).up (estep hb2 (estep hb3 hb4))
  have hq := (BQ.new (w.alloc (.cells #[.int .i64 v, y, .string (bs f)] 33)) m h p x b).up (estep hb3 hb4)
  have hd := (BA.new ((w.alloc (.cells #[.int .i64 v, y, .string (bs f)] 33)).alloc (.cells #[.string (bs m), .string (bs h), .string (bs p), x, .string (bs b)] 36)) d0 d1 d2).up hb4
  have hr := BY.new (((w.alloc (.cells #[.int .i64 v, y, .string (bs f)] 33)).alloc (.cells #[.string (bs m), .string (bs h), .string (bs p), x, .string (bs b)] 36)).alloc (.cells #[.int .i64 d0, .int .i64 d1, .int .i64 d2] 25)) 0 0 [] 0 0 []
  simp only [World.size_alloc] at hq hr hd
  have hb0 := estep hb1 (estep hb2 (estep hb3 hb4))
  have HB0 := hid hb0
  rcases lkI_cases (fun u => allE u.ps m h p L) U with hz | ⟨k, u, hz, hu⟩
  · have HC := hid (rlookup_any v y f U m h p b x L ((((w.alloc (.cells #[.int .i64 v, y, .string (bs f)] 33)).alloc (.cells #[.string (bs m), .string (bs h), .string (bs p), x, .string (bs b)] 36)).alloc (.cells #[.int .i64 d0, .int .i64 d1, .int .i64 d2] 25)).alloc (.cells #[.int .i64 0, .int .i64 0, .string (bs []), .int .i64 0, .int .i64 0, .string (bs [])] 40)) (hy.up hb0) hS hpl (hx.up hb0) hL (hid hz))
    have HE := hid (ac_eqs (H.out.symm.trans (ofA_no hz d0 d1 d2 sh)))
    clear hz H hy hx hL h0 h1 h2 H0 H1 H2 hS hpl
    have hgs : w.heap.size ≤ w.heap.size + 3 := by omega
    clear hb1 hb2 hb3 hb4 hb0
    go_enter Try.func20, Try.ntmps20
    go_upto_region 1 with (fail)
    generalize (((w.alloc (.cells #[.int .i64 v, y, .string (bs f)] 33)).alloc (.cells #[.string (bs m), .string (bs h), .string (bs p), x, .string (bs b)] 36)).alloc (.cells #[.int .i64 d0, .int .i64 d1, .int .i64 d2] 25)).alloc (.cells #[.int .i64 0, .int .i64 0, .string (bs []), .int .i64 0, .int .i64 0, .string (bs [])] 40) = v0 at *
    obtain ⟨t0, t1, t2⟩ := ht.cells
    obtain ⟨q0, q1, q2, q3, q4⟩ := hq.cells
    have HT := hid (And.intro hd hr)
    clear ht hq hr hd
    go_wp2_with fail
    refine HC.out.mono ?_
    rintro e w1 ⟨rfl, hb1⟩
    have HY9 := hid (And.intro (HT.out.2.up hb1) (estep HB0.out hb1))
    clear t0 t1 t2 q0 q1 q2 q3 q4 hb1 HT
    obtain ⟨r0, r1, r2, r3, r4, r5⟩ := HY9.out.1.cells
    obtain ⟨f0, f1, f2, f3, f4, f5⟩ := HY9.out.1.froz
    have HR := hid (HY9.out.1.set6 (0) (-1) [] (404) (0) []).cells
    have HBB := hid (below_set6 HY9.out.2 (w.heap.size + 3) hgs (.int .i64 (0)) (.int .i64 (-1)) (.string (bs [])) (.int .i64 (404)) (.int .i64 (0)) (.string (bs [])))
    go_wp2_with fail
    (try simp only [Exit.inBlock, Exit.then])
    refine bodyPost_ret (v := .agg #[.int .i64 (0), .int .i64 (-1), .string (bs []), .int .i64 (404), .int .i64 (0), .string (bs [])]) (by simp [results, Try.results20, go_sem, HR.out.1, HR.out.2.1, HR.out.2.2.1, HR.out.2.2.2.1, HR.out.2.2.2.2.1, HR.out.2.2.2.2.2]; try rfl) rfl ?_
    exact ⟨by rw [HE.out.1, HE.out.2.1, HE.out.2.2.1, HE.out.2.2.2.1, HE.out.2.2.2.2.1, HE.out.2.2.2.2.2], HBB.out⟩
  · have HC := hid (rlookup_any v y f U m h p b x L ((((w.alloc (.cells #[.int .i64 v, y, .string (bs f)] 33)).alloc (.cells #[.string (bs m), .string (bs h), .string (bs p), x, .string (bs b)] 36)).alloc (.cells #[.int .i64 d0, .int .i64 d1, .int .i64 d2] 25)).alloc (.cells #[.int .i64 0, .int .i64 0, .string (bs []), .int .i64 0, .int .i64 0, .string (bs [])] 40)) (hy.up hb0) hS hpl (hx.up hb0) hL (hid hz))
    have HE0 := hid (H.out.symm.trans (ofA_yes hz hu d0 d1 d2 sh))
    have HU := hid hu
    have HYR := hid (hy.up hb0)
    clear hz hu H hy hx hL h0 h1 h2 hS hpl
    have hgs : w.heap.size ≤ w.heap.size + 3 := by omega
    clear hb1 hb2 hb3 hb4 hb0
    go_enter Try.func20, Try.ntmps20
    go_upto_region 1 with (fail)
    generalize (((w.alloc (.cells #[.int .i64 v, y, .string (bs f)] 33)).alloc (.cells #[.string (bs m), .string (bs h), .string (bs p), x, .string (bs b)] 36)).alloc (.cells #[.int .i64 d0, .int .i64 d1, .int .i64 d2] 25)).alloc (.cells #[.int .i64 0, .int .i64 0, .string (bs []), .int .i64 0, .int .i64 0, .string (bs [])] 40) = v0 at *
    obtain ⟨t0, t1, t2⟩ := ht.cells
    obtain ⟨q0, q1, q2, q3, q4⟩ := hq.cells
    have HT := hid (And.intro hd (And.intro hr ht))
    clear ht hq hr hd
    go_wp2_with fail
    refine HC.out.mono ?_
    rintro e w1 ⟨rfl, hb1⟩
    have hk := (List.getElem?_eq_some_iff.1 HU.out).1
    obtain ⟨A, c, rfl, hgx, -, -, -, hl9⟩ := id (HYR.out.up hb1)
    obtain ⟨bb, oo, rfl, -⟩ := hgx.some_of hk
    obtain ⟨r0, r1, r2, r3, r4, r5, r6, r7, r8, r9⟩ := rank_cell hgx HU.out
    have hk0 : ¬ (k : Int) < 0 := by omega
    have hk1 : (k : Int) < (U.length : Int) := by omega
    have ht := HT.out.2.2.up hb1
    clear t0 t1 t2 q0 q1 q2 q3 q4 hgx
    obtain ⟨t0, t1, t2⟩ := ht.cells
    have hbr := enew w1 (.cells #[.int .i64 u.rank, .slice u.xa u.xn u.xc, .string (bs u.tg), .int .i64 u.ap, .int .i64 u.st, .int .i64 u.dp, .int .i64 u.dt, .int .i64 u.mp, .string (bs u.mi), .int .i64 u.sm] 47)
    have hbb := estep hb1 hbr
    have HH := hid (And.intro (HT.out.1.up hbb) (And.intro (BR.new w1 u) trivial))
    have HY9 := hid (And.intro (HT.out.2.1.up hbb) (estep HB0.out hbb))
    have HG := hid (show w.heap.size + 3 < w1.heap.size from Nat.lt_of_lt_of_le (Bk.lt HT.out.2.1) hb1.size)
    clear hb1 hbr hbb ht HT HYR HU HC HB0
    generalize U.length = n at *
    go_upto_region 5 with (fail)
    clear t0 t1 t2 r0 r1 r2 r3 r4 r5 r6 r7 r8 r9
    generalize w1.alloc (.cells #[.int .i64 u.rank, .slice u.xa u.xn u.xc, .string (bs u.tg), .int .i64 u.ap, .int .i64 u.st, .int .i64 u.dp, .int .i64 u.dt, .int .i64 u.mp, .string (bs u.mi), .int .i64 u.sm] 47) = v1 at *
    generalize w1.heap.size = g4 at *
    generalize (k : Int) = z at *
    obtain ⟨d0c, d1c, d2c⟩ := HH.out.1.cells
    obtain ⟨a0, a1, a2, a3, a4, a5, a6, a7, a8, a9⟩ := HH.out.2.1.cells
    cases sh with
    | true =>
      have HE := hid (ac_eqs (HE0.out.trans (by rw [ofU, if_pos rfl])))
      have hb2 := enew v1 (.cells #[.int .i64 2, .int .i64 z, .string (bs u.tg), .int .i64 0, .int .i64 0, .string (bs [])] 40)
      have HP : Hid (QSt w _ g4 v1.heap.size u z d0 d1 d2 0 []) := hid ⟨HH.out.1.up hb2, HH.out.2.1.up hb2, HY9.out.1.up hb2, HG.out, Bk.lt HH.out.2.1, BY.new v1 2 z u.tg 0 0 [], estep HY9.out.2 hb2⟩
      go_upto_region 8 with (fail)
      generalize v1.alloc (.cells #[.int .i64 2, .int .i64 z, .string (bs u.tg), .int .i64 0, .int .i64 0, .string (bs [])] 40) = v2 at *
      generalize v1.heap.size = g5 at *
      clear d0c d1c d2c a0 a1 a2 a3 a4 a5 a6 a7 a8 a9 hb2 HH HY9
      go_upto_region 12 with (fail)
      have HY9 := hid (And.intro HP.out.2.2.1 HP.out.2.2.2.2.2.2)
      obtain ⟨l0, l1, l2, l3, l4, l5⟩ := HP.out.2.2.2.2.2.1.cells
      obtain ⟨r0, r1, r2, r3, r4, r5⟩ := HY9.out.1.cells
      obtain ⟨f0, f1, f2, f3, f4, f5⟩ := HY9.out.1.froz
      have HR := hid (HY9.out.1.set6 (2) (z) u.tg (0) (0) []).cells
      have HBB := hid (below_set6 HY9.out.2 (w.heap.size + 3) hgs (.int .i64 (2)) (.int .i64 (z)) (.string (bs u.tg)) (.int .i64 (0)) (.int .i64 (0)) (.string (bs [])))
      go_wp2_with fail
      (try simp only [Exit.inBlock, Exit.then])
      refine bodyPost_ret (v := .agg #[.int .i64 (2), .int .i64 (z), .string (bs u.tg), .int .i64 (0), .int .i64 (0), .string (bs [])]) (by simp [results, Try.results20, go_sem, HR.out.1, HR.out.2.1, HR.out.2.2.1, HR.out.2.2.2.1, HR.out.2.2.2.2.1, HR.out.2.2.2.2.2]; try rfl) rfl ?_
      exact ⟨by rw [HE.out.1, HE.out.2.1, HE.out.2.2.1, HE.out.2.2.2.1, HE.out.2.2.2.2.1, HE.out.2.2.2.2.2], HBB.out⟩
    | false =>
      have HFA := hid (fun w2 => rfires_any d0 u.ap w2 H0.out)
      have HFD := hid (fun w2 => rfires_any d1 u.dp w2 H1.out)
      have HFM := hid (fun w2 => rfires_any d2 u.mp w2 H2.out)
      obtain ⟨b0, hb⟩ : ∃ b, fireB d0 u.ap = b := ⟨_, rfl⟩
      have HF := hid hb
      rw [hb] at HFA
      clear hb
      obtain ⟨b1, hb⟩ : ∃ b, fireB d1 u.dp = b := ⟨_, rfl⟩
      have HD := hid hb
      rw [hb] at HFD
      clear hb
      obtain ⟨b2, hb⟩ : ∃ b, fireB d2 u.mp = b := ⟨_, rfl⟩
      have HM := hid hb
      rw [hb] at HFM
      clear hb
      go_wp2_with fail
      refine (HFA.out _).mono ?_
      rintro e w2 ⟨rfl, rfl⟩
      cases b0
      · have HE2 := hid (HE0.out.trans (show _ = (⟨2, z, u.tg, 0, pDl u d1, pMi u d2⟩ : Ac) by rw [ofU, if_neg (by decide), if_neg (by rw [HF.out]; decide)]))
        have hb2 := enew v1 (.cells #[.int .i64 2, .int .i64 z, .string (bs u.tg), .int .i64 0, .int .i64 0, .string (bs [])] 40)
        have HP : Hid (QSt w _ g4 v1.heap.size u z d0 d1 d2 0 []) := hid ⟨HH.out.1.up hb2, HH.out.2.1.up hb2, HY9.out.1.up hb2, HG.out, Bk.lt HH.out.2.1, BY.new v1 2 z u.tg 0 0 [], estep HY9.out.2 hb2⟩
        go_upto_region 8 with (fail)
        generalize v1.alloc (.cells #[.int .i64 2, .int .i64 z, .string (bs u.tg), .int .i64 0, .int .i64 0, .string (bs [])] 40) = v2 at *
        generalize v1.heap.size = g5 at *
        clear d0c d1c d2c a0 a1 a2 a3 a4 a5 a6 a7 a8 a9 hb2 HH HY9
        obtain ⟨d0c, d1c, d2c⟩ := HP.out.1.cells
        obtain ⟨a0, a1, a2, a3, a4, a5, a6, a7, a8, a9⟩ := HP.out.2.1.cells
        cases b1
        · go_wp2_with fail
          refine (HFD.out _).mono ?_
          rintro e w3 ⟨rfl, rfl⟩
          clear d0c d1c d2c a0 a1 a2 a3 a4 a5 a6 a7 a8 a9
          have HE1 := hid (HE2.out.trans (show _ = (⟨2, z, u.tg, 0, 0, pMi u d2⟩ : Ac) by rw [pDl, if_neg (by rw [HD.out]; decide)]))
          go_upto_region 10 with (fail)
          obtain ⟨d0c, d1c, d2c⟩ := HP.out.1.cells
          obtain ⟨a0, a1, a2, a3, a4, a5, a6, a7, a8, a9⟩ := HP.out.2.1.cells
          cases b2
          · go_wp2_with fail
            refine (HFM.out _).mono ?_
            rintro e w5 ⟨rfl, rfl⟩
            clear d0c d1c d2c a0 a1 a2 a3 a4 a5 a6 a7 a8 a9
            have HE := hid (ac_eqs (HE1.out.trans (by rw [pMi, if_neg (by rw [HM.out]; decide)])))
            go_upto_region 12 with (fail)
            have HY9 := hid (And.intro HP.out.2.2.1 HP.out.2.2.2.2.2.2)
            obtain ⟨l0, l1, l2, l3, l4, l5⟩ := HP.out.2.2.2.2.2.1.cells
            obtain ⟨r0, r1, r2, r3, r4, r5⟩ := HY9.out.1.cells
            obtain ⟨f0, f1, f2, f3, f4, f5⟩ := HY9.out.1.froz
            have HR := hid (HY9.out.1.set6 (2) (z) u.tg (0) (0) []).cells
            have HBB := hid (below_set6 HY9.out.2 (w.heap.size + 3) hgs (.int .i64 (2)) (.int .i64 (z)) (.string (bs u.tg)) (.int .i64 (0)) (.int .i64 (0)) (.string (bs [])))
            go_wp2_with fail
            (try simp only [Exit.inBlock, Exit.then])
            refine bodyPost_ret (v := .agg #[.int .i64 (2), .int .i64 (z), .string (bs u.tg), .int .i64 (0), .int .i64 (0), .string (bs [])]) (by simp [results, Try.results20, go_sem, HR.out.1, HR.out.2.1, HR.out.2.2.1, HR.out.2.2.2.1, HR.out.2.2.2.2.1, HR.out.2.2.2.2.2]; try rfl) rfl ?_
            exact ⟨by rw [HE.out.1, HE.out.2.1, HE.out.2.2.1, HE.out.2.2.2.1, HE.out.2.2.2.2.1, HE.out.2.2.2.2.2], HBB.out⟩
          · go_wp2_with fail
            refine (HFM.out _).mono ?_
            rintro e w5 ⟨rfl, rfl⟩
            clear d0c d1c d2c a0 a1 a2 a3 a4 a5 a6 a7 a8 a9
            have HE := hid (ac_eqs (HE1.out.trans (by rw [pMi, if_pos HM.out])))
            obtain ⟨a0, a1, a2, a3, a4, a5, a6, a7, a8, a9⟩ := HP.out.2.1.cells
            obtain ⟨l0, l1, l2, l3, l4, l5⟩ := HP.out.2.2.2.2.2.1.cells
            obtain ⟨f0, f1, f2, f3, f4, f5⟩ := HP.out.2.2.2.2.2.1.froz
            go_upto_region 12 with (fail)
            have HQ := hid (HP.out.setMi u.mi)
            clear a0 a1 a2 a3 a4 a5 a6 a7 a8 a9 l0 l1 l2 l3 l4 l5 f0 f1 f2 f3 f4 f5 HP
            have HP := hid HQ.out
            clear HQ
            generalize v2.setCell ⟨g5, 5, none⟩ (.string (bs u.mi)) = v2m at *
            have HY9 := hid (And.intro HP.out.2.2.1 HP.out.2.2.2.2.2.2)
            obtain ⟨l0, l1, l2, l3, l4, l5⟩ := HP.out.2.2.2.2.2.1.cells
            obtain ⟨r0, r1, r2, r3, r4, r5⟩ := HY9.out.1.cells
            obtain ⟨f0, f1, f2, f3, f4, f5⟩ := HY9.out.1.froz
            have HR := hid (HY9.out.1.set6 (2) (z) u.tg (0) (0) u.mi).cells
            have HBB := hid (below_set6 HY9.out.2 (w.heap.size + 3) hgs (.int .i64 (2)) (.int .i64 (z)) (.string (bs u.tg)) (.int .i64 (0)) (.int .i64 (0)) (.string (bs u.mi)))
            go_wp2_with fail
            (try simp only [Exit.inBlock, Exit.then])
            refine bodyPost_ret (v := .agg #[.int .i64 (2), .int .i64 (z), .string (bs u.tg), .int .i64 (0), .int .i64 (0), .string (bs u.mi)]) (by simp [results, Try.results20, go_sem, HR.out.1, HR.out.2.1, HR.out.2.2.1, HR.out.2.2.2.1, HR.out.2.2.2.2.1, HR.out.2.2.2.2.2]; try rfl) rfl ?_
            exact ⟨by rw [HE.out.1, HE.out.2.1, HE.out.2.2.1, HE.out.2.2.2.1, HE.out.2.2.2.2.1, HE.out.2.2.2.2.2], HBB.out⟩
        · go_wp2_with fail
          refine (HFD.out _).mono ?_
          rintro e w3 ⟨rfl, rfl⟩
          clear d0c d1c d2c a0 a1 a2 a3 a4 a5 a6 a7 a8 a9
          have HE1 := hid (HE2.out.trans (show _ = (⟨2, z, u.tg, 0, u.dt, pMi u d2⟩ : Ac) by rw [pDl, if_pos HD.out]))
          obtain ⟨a0, a1, a2, a3, a4, a5, a6, a7, a8, a9⟩ := HP.out.2.1.cells
          obtain ⟨l0, l1, l2, l3, l4, l5⟩ := HP.out.2.2.2.2.2.1.cells
          obtain ⟨f0, f1, f2, f3, f4, f5⟩ := HP.out.2.2.2.2.2.1.froz
          go_upto_region 10 with (fail)
          have HQ := hid (HP.out.setDl u.dt)
          clear a0 a1 a2 a3 a4 a5 a6 a7 a8 a9 l0 l1 l2 l3 l4 l5 f0 f1 f2 f3 f4 f5 HP
          have HP := hid HQ.out
          clear HQ
          generalize v2.setCell ⟨g5, 4, none⟩ (.int .i64 u.dt) = v3 at *
          obtain ⟨d0c, d1c, d2c⟩ := HP.out.1.cells
          obtain ⟨a0, a1, a2, a3, a4, a5, a6, a7, a8, a9⟩ := HP.out.2.1.cells
          cases b2
          · go_wp2_with fail
            refine (HFM.out _).mono ?_
            rintro e w5 ⟨rfl, rfl⟩
            clear d0c d1c d2c a0 a1 a2 a3 a4 a5 a6 a7 a8 a9
            have HE := hid (ac_eqs (HE1.out.trans (by rw [pMi, if_neg (by rw [HM.out]; decide)])))
            go_upto_region 12 with (fail)
            have HY9 := hid (And.intro HP.out.2.2.1 HP.out.2.2.2.2.2.2)
            obtain ⟨l0, l1, l2, l3, l4, l5⟩ := HP.out.2.2.2.2.2.1.cells
            obtain ⟨r0, r1, r2, r3, r4, r5⟩ := HY9.out.1.cells
            obtain ⟨f0, f1, f2, f3, f4, f5⟩ := HY9.out.1.froz
            have HR := hid (HY9.out.1.set6 (2) (z) u.tg (0) (u.dt) []).cells
            have HBB := hid (below_set6 HY9.out.2 (w.heap.size + 3) hgs (.int .i64 (2)) (.int .i64 (z)) (.string (bs u.tg)) (.int .i64 (0)) (.int .i64 (u.dt)) (.string (bs [])))
            go_wp2_with fail
            (try simp only [Exit.inBlock, Exit.then])
            refine bodyPost_ret (v := .agg #[.int .i64 (2), .int .i64 (z), .string (bs u.tg), .int .i64 (0), .int .i64 (u.dt), .string (bs [])]) (by simp [results, Try.results20, go_sem, HR.out.1, HR.out.2.1, HR.out.2.2.1, HR.out.2.2.2.1, HR.out.2.2.2.2.1, HR.out.2.2.2.2.2]; try rfl) rfl ?_
            exact ⟨by rw [HE.out.1, HE.out.2.1, HE.out.2.2.1, HE.out.2.2.2.1, HE.out.2.2.2.2.1, HE.out.2.2.2.2.2], HBB.out⟩
          · go_wp2_with fail
            refine (HFM.out _).mono ?_
            rintro e w5 ⟨rfl, rfl⟩
            clear d0c d1c d2c a0 a1 a2 a3 a4 a5 a6 a7 a8 a9
            have HE := hid (ac_eqs (HE1.out.trans (by rw [pMi, if_pos HM.out])))
            obtain ⟨a0, a1, a2, a3, a4, a5, a6, a7, a8, a9⟩ := HP.out.2.1.cells
            obtain ⟨l0, l1, l2, l3, l4, l5⟩ := HP.out.2.2.2.2.2.1.cells
            obtain ⟨f0, f1, f2, f3, f4, f5⟩ := HP.out.2.2.2.2.2.1.froz
            go_upto_region 12 with (fail)
            have HQ := hid (HP.out.setMi u.mi)
            clear a0 a1 a2 a3 a4 a5 a6 a7 a8 a9 l0 l1 l2 l3 l4 l5 f0 f1 f2 f3 f4 f5 HP
            have HP := hid HQ.out
            clear HQ
            generalize v3.setCell ⟨g5, 5, none⟩ (.string (bs u.mi)) = v3m at *
            have HY9 := hid (And.intro HP.out.2.2.1 HP.out.2.2.2.2.2.2)
            obtain ⟨l0, l1, l2, l3, l4, l5⟩ := HP.out.2.2.2.2.2.1.cells
            obtain ⟨r0, r1, r2, r3, r4, r5⟩ := HY9.out.1.cells
            obtain ⟨f0, f1, f2, f3, f4, f5⟩ := HY9.out.1.froz
            have HR := hid (HY9.out.1.set6 (2) (z) u.tg (0) (u.dt) u.mi).cells
            have HBB := hid (below_set6 HY9.out.2 (w.heap.size + 3) hgs (.int .i64 (2)) (.int .i64 (z)) (.string (bs u.tg)) (.int .i64 (0)) (.int .i64 (u.dt)) (.string (bs u.mi)))
            go_wp2_with fail
            (try simp only [Exit.inBlock, Exit.then])
            refine bodyPost_ret (v := .agg #[.int .i64 (2), .int .i64 (z), .string (bs u.tg), .int .i64 (0), .int .i64 (u.dt), .string (bs u.mi)]) (by simp [results, Try.results20, go_sem, HR.out.1, HR.out.2.1, HR.out.2.2.1, HR.out.2.2.2.1, HR.out.2.2.2.2.1, HR.out.2.2.2.2.2]; try rfl) rfl ?_
            exact ⟨by rw [HE.out.1, HE.out.2.1, HE.out.2.2.1, HE.out.2.2.2.1, HE.out.2.2.2.2.1, HE.out.2.2.2.2.2], HBB.out⟩
      · have HE := hid (ac_eqs (HE0.out.trans (by rw [ofU, if_neg (by decide), if_pos HF.out])))
        obtain ⟨r0, r1, r2, r3, r4, r5⟩ := HY9.out.1.cells
        obtain ⟨f0, f1, f2, f3, f4, f5⟩ := HY9.out.1.froz
        have HR := hid (HY9.out.1.set6 (1) (z) u.tg (u.st) (0) []).cells
        have HBB := hid (below_set6 HY9.out.2 (w.heap.size + 3) hgs (.int .i64 (1)) (.int .i64 (z)) (.string (bs u.tg)) (.int .i64 (u.st)) (.int .i64 (0)) (.string (bs [])))
        go_wp2_with fail
        (try simp only [Exit.inBlock, Exit.then])
        refine bodyPost_ret (v := .agg #[.int .i64 (1), .int .i64 (z), .string (bs u.tg), .int .i64 (u.st), .int .i64 (0), .string (bs [])]) (by simp [results, Try.results20, go_sem, HR.out.1, HR.out.2.1, HR.out.2.2.1, HR.out.2.2.2.1, HR.out.2.2.2.2.1, HR.out.2.2.2.2.2]; try rfl) rfl ?_
        exact ⟨by rw [HE.out.1, HE.out.2.1, HE.out.2.2.1, HE.out.2.2.2.1, HE.out.2.2.2.2.1, HE.out.2.2.2.2.2], HBB.out⟩
set_option maxRecDepth 100000 in
set_option maxHeartbeats 8000000 in
theorem rsampled_any (v : Int) (y : Value) (f : List UInt8) (U : List Ru) (m h p b : List UInt8) (x : Value) (L : List Hd) (d : Int) (w : World) (hy : RV w y U) (hx : HV w x L) (hL : L.length ≤ 1000000) (hS : ∀ u ∈ U, smallP u.ps) (hpl : p.length ≤ 140737488351232) (hd : -9223372036854775808 ≤ d ∧ d ≤ 9223372036854775807) {s : Bool} (H : Hid (smA (fun u => allE u.ps m h p L) U d = s)) :
    Calls Try.prog 22 #[.agg #[.int .i64 v, y, .string (bs f)], .agg #[.string (bs m), .string (bs h), .string (bs p), x, .string (bs b)], .int .i64 d] w fun e w' => e = .returned (.bool s) ∧ Below w.heap.size w w' := by
  have hb1 := enew w (.cells #[.int .i64 v, y, .string (bs f)] 33)
  have hb2 := enew (w.alloc (.cells #[.int .i64 v, y, .string (bs f)] 33)) (.cells #[.string (bs m), .string (bs h), .string (bs p), x, .string (bs b)] 36)
  have ht := (BT.new w v y f).up hb2
  have hq := BQ.new (w.alloc (.cells #[.int .i64 v, y, .string (bs f)] 33)) m h p x b
  simp only [World.size_alloc] at hq
  have hb0 := estep hb1 hb2
  have HB0 := hid hb0
  have HD := hid hd
  rcases lkI_cases (fun u => allE u.ps m h p L) U with hz | ⟨k, u, hz, hu⟩
  · have HC := hid (rlookup_any v y f U m h p b x L ((w.alloc (.cells #[.int .i64 v, y, .string (bs f)] 33)).alloc (.cells #[.string (bs m), .string (bs h), .string (bs p), x, .string (bs b)] 36)) (hy.up hb0) hS hpl (hx.up hb0) hL (hid hz))
    obtain rfl := H.out.symm.trans (smA_no hz d)
    clear hz hy hx hL hb0 hb1 hb2 hd H hS hpl
    go_enter Try.func22, Try.ntmps22
    go_upto_region 1 with (fail)
    generalize (w.alloc (.cells #[.int .i64 v, y, .string (bs f)] 33)).alloc (.cells #[.string (bs m), .string (bs h), .string (bs p), x, .string (bs b)] 36) = v0 at *
    obtain ⟨t0, t1, t2⟩ := ht.cells
    obtain ⟨q0, q1, q2, q3, q4⟩ := hq.cells
    clear ht hq
    go_wp2_with fail
    refine HC.out.mono ?_
    rintro e w1 ⟨rfl, hb1⟩
    have HB1 := hid (estep HB0.out hb1)
    clear t0 t1 t2 q0 q1 q2 q3 q4 hb1
    go_wp2_with fail
    go_returns
    exact ⟨rfl, HB1.out⟩
  · have HC := hid (rlookup_any v y f U m h p b x L ((w.alloc (.cells #[.int .i64 v, y, .string (bs f)] 33)).alloc (.cells #[.string (bs m), .string (bs h), .string (bs p), x, .string (bs b)] 36)) (hy.up hb0) hS hpl (hx.up hb0) hL (hid hz))
    have HE := hid ((smA_yes hz hu d).symm.trans H.out)
    have HU := hid hu
    have HYR := hid (hy.up hb0)
    clear hz hu hy hx hL hb0 hb1 hb2 hd H hS hpl
    go_enter Try.func22, Try.ntmps22
    go_upto_region 1 with (fail)
    generalize (w.alloc (.cells #[.int .i64 v, y, .string (bs f)] 33)).alloc (.cells #[.string (bs m), .string (bs h), .string (bs p), x, .string (bs b)] 36) = v0 at *
    obtain ⟨t0, t1, t2⟩ := ht.cells
    obtain ⟨q0, q1, q2, q3, q4⟩ := hq.cells
    have HT := hid ht
    clear ht hq
    go_wp2_with fail
    refine HC.out.mono ?_
    rintro e w1 ⟨rfl, hb1⟩
    have HB1 := hid (estep HB0.out hb1)
    have hk := (List.getElem?_eq_some_iff.1 HU.out).1
    obtain ⟨A, c, rfl, hgx, -, -, -, hl9⟩ := id (HYR.out.up hb1)
    obtain ⟨bb, oo, rfl, -⟩ := hgx.some_of hk
    obtain ⟨r0, r1, r2, r3, r4, r5, r6, r7, r8, r9⟩ := rank_cell hgx HU.out
    have hk0 : (0 : Int) ≤ (k : Int) := by omega
    have hk1 : (k : Int) < (U.length : Int) := by omega
    have ht := HT.out.up hb1
    clear t0 t1 t2 q0 q1 q2 q3 q4 hgx hb1
    obtain ⟨t0, t1, t2⟩ := ht.cells
    have HF := hid (fun w2 => rfires_any d u.sm w2 HD.out)
    rw [HE.out] at HF
    clear ht HT HYR HU HC
    generalize U.length = n at *
    go_wp2_with fail
    refine (HF.out _).mono ?_
    rintro e w2 ⟨rfl, rfl⟩
    go_wp2_with fail
    go_returns
    exact ⟨rfl, HB1.out⟩
end Go.Proofs.Ytgkegpdmidcmoaa
namespace Go.Proofs.Ytgkegpdmidcmoaa
set_option linter.unusedVariables false
set_option linter.unusedSimpArgs false
open Go.RowKit Go.Joins

def k14a : Ru := ⟨1, none, 0, 0, [], [97], 0, 0, 0, 0, 0, [], 0⟩
def k14b (g : Nat) : Ru := ⟨2, some ⟨g, 0, none⟩, 1, 1, [⟨2, [], [120]⟩], [98], 0, 0, 0, 0, 0, [], 0⟩
def k14U (g : Nat) : List Ru := [k14a, k14b g]
def k14C (g : Nat) : Array Value := #[.int .i64 1, .slice none 0 0, .string (bs [97]), .int .i64 0, .int .i64 0, .int .i64 0, .int .i64 0, .int .i64 0, .string (bs []), .int .i64 0, .int .i64 2, .slice (some ⟨g, 0, none⟩) 1 1, .string (bs [98]), .int .i64 0, .int .i64 0, .int .i64 0, .int .i64 0, .int .i64 0, .string (bs []), .int .i64 0]
theorem k14_row (g i j : Nat) (hi : i < 2) (hj : j < 10) : (k14C g)[i * 10 + j]? = (encR ((k14U g)[i]'hi))[j]? := by
  match i, hi, j, hj with
  | 0, _, 0, _ => rfl
  | 0, _, 1, _ => rfl
  | 0, _, 2, _ => rfl
  | 0, _, 3, _ => rfl
  | 0, _, 4, _ => rfl
  | 0, _, 5, _ => rfl
  | 0, _, 6, _ => rfl
  | 0, _, 7, _ => rfl
  | 0, _, 8, _ => rfl
  | 0, _, 9, _ => rfl
  | 1, _, 0, _ => rfl
  | 1, _, 1, _ => rfl
  | 1, _, 2, _ => rfl
  | 1, _, 3, _ => rfl
  | 1, _, 4, _ => rfl
  | 1, _, 5, _ => rfl
  | 1, _, 6, _ => rfl
  | 1, _, 7, _ => rfl
  | 1, _, 8, _ => rfl
  | 1, _, 9, _ => rfl
theorem k14_rv (w : World) (g gp : Nat) (h : Bk w g 47 (k14C gp)) (hp : Bk w gp 69 #[.int .i64 2, .string (bs []), .string (bs [120])]) (hg : g < w.heap.size) (hgp : gp < w.heap.size) : RV w (.slice (some ⟨g, 0, none⟩) 2 2) (k14U gp) := by
  refine ⟨some ⟨g, 0, none⟩, 2, rfl, fun i hi => ⟨g, 0, rfl, hg, fun j hj => ?_⟩, fun u hu => ?_, by simp, by simp [k14U], by simp [k14U]⟩
  · rw [Nat.zero_add, Bk.cell h]
    exact k14_row gp i j hi hj
  · simp only [k14U, List.mem_cons, List.mem_nil_iff, or_false] at hu
    rcases hu with rfl | rfl
    · exact PV.nil _ _
    · refine ⟨some ⟨gp, 0, none⟩, 1, rfl, fun k hk => ?_, by simp, by simp [k14b], by simp [k14b]⟩
      match k, hk with
      | 0, _ => exact ⟨gp, 0, rfl, hgp, Bk.cell hp 0, Bk.cell hp 1, Bk.cell hp 2⟩
theorem k14_ok (g : Nat) : ∀ u ∈ k14U g, okRs u.sem := fun u hu => by
  simp only [k14U, List.mem_cons, List.mem_nil_iff, or_false] at hu
  rcases hu with rfl | rfl <;> exact ⟨by simp [smallP, k14a, k14b, Ru.sem], by simp [k14a, k14b, Ru.sem], by simp [k14a, k14b, Ru.sem], by simp [k14a, k14b, Ru.sem]⟩
theorem k14_comp (g : Nat) : compT 7 [] ((k14U g).map Ru.sem) [[97], [98]] = (0, (7, [], [(k14b 0).sem, k14a.sem])) := by
  show compT 7 [] [k14a.sem, (k14b 0).sem] [[97], [98]] = _
  decide +kernel
theorem k14_chk (g : Nat) : chkC (chkR · [[97]]) [] ((k14U g).map Ru.sem) = 7 := by
  show chkC (chkR · [[97]]) [] [k14a.sem, (k14b 0).sem] = 7
  decide +kernel
theorem k14_whole1 : wholeB 7 [] [(k14b 0).sem, k14a.sem] [[97], [98]] = true := by decide +kernel
theorem k14_whole2 : wholeB 7 [] [(k14b 0).sem, k14a.sem] [[97]] = false := by decide +kernel
theorem tx_one (w : World) (t : TypeId) (a : List UInt8) (h : a.length ≤ 1000) : TX (w.alloc (.cells #[.string (bs a)] t)) (· < (w.alloc (.cells #[.string (bs a)] t)).heap.size) (.slice (some ⟨w.heap.size, 0, none⟩) 1 1) [a] := by
  refine ⟨some ⟨w.heap.size, 0, none⟩, 1, rfl, fun k hk => ?_, by simp [maxLen], by simp [maxLen]; omega⟩
  match k, hk with
  | 0, _ => exact ⟨_, rfl, by simp, Bk.cell (Bk.new w t #[.string (bs a)]) 0⟩
theorem tx_two (w : World) (t : TypeId) (a b : List UInt8) (h : a.length ≤ 1000 ∧ b.length ≤ 1000) : TX (w.alloc (.cells #[.string (bs a), .string (bs b)] t)) (· < (w.alloc (.cells #[.string (bs a), .string (bs b)] t)).heap.size) (.slice (some ⟨w.heap.size, 0, none⟩) 2 2) [a, b] := by
  refine ⟨some ⟨w.heap.size, 0, none⟩, 2, rfl, fun k hk => ?_, by simp [maxLen], by simp [maxLen]; omega⟩
  match k, hk with
  | 0, _ => exact ⟨_, rfl, by simp, Bk.cell (Bk.new w t #[.string (bs a), .string (bs b)]) 0⟩
  | 1, _ => exact ⟨_, rfl, by simp, Bk.cell (Bk.new w t #[.string (bs a), .string (bs b)]) 1⟩
theorem hv_none (w : World) : HV w (.slice none 0 0) [] := ⟨none, 0, rfl, fun k hk => absurd hk (by simp)⟩
theorem two_of {V : List Ru} {a b : Rs} (h : V.map Ru.sem = [a, b]) : ∃ x y, V = [x, y] ∧ x.sem = a ∧ y.sem = b := by
  match V, h with
  | [x, y], h => simp at h; exact ⟨x, y, rfl, h.1, h.2⟩
  | [], h => simp at h
  | [_], h => simp at h
  | _ :: _ :: _ :: _, h => simp at h
end Go.Proofs.Ytgkegpdmidcmoaa
namespace Go.Proofs.Ytgkegpdmidcmoaa
set_option linter.unusedVariables false
set_option linter.unusedSimpArgs false
open Go.RowKit Go.Joins

theorem ac_guard (op : BinOp) (x y : Operand) (xs ys : Array Value) (w : World) : (eqGuard op 40 x y (.agg xs) (.agg ys)).run Try.prog w = .ok () w := run_eqGuard_agg w op _ x y xs ys (by kernel_rfl)
theorem ac_eqIn (w : World) (k r : Int) (tg : List UInt8) (st dl : Int) (mi : List UInt8) : (Op.equalIn 10000 40 (.agg #[.int .i64 k, .int .i64 r, .string (bs tg), .int .i64 st, .int .i64 dl, .string (bs mi)]) (.agg #[.int .i64 k, .int .i64 r, .string (bs tg), .int .i64 st, .int .i64 dl, .string (bs mi)])).run Try.prog w = .ok true w := by
  have us2 := Try.underlying3
  have as2 := Try.isAgg3
  have zs2 := Try.sizeOf3
  have us4 := Try.underlying9
  have as4 := Try.isAgg9
  have zs4 := Try.sizeOf9
  rw [show (10000 : Nat) = 9999 + 1 from rfl, run_equalIn_agg w 9999 _ _ _ (by kernel_rfl) (by kernel_rfl)]
  simp only [Program.fieldsOf, Try.underlying40]
  go_simp
theorem ac_eql (w : World) (k r : Int) (tg : List UInt8) (st dl : Int) (mi : List UInt8) : (binOp .eql 40 (.agg #[.int .i64 k, .int .i64 r, .string (bs tg), .int .i64 st, .int .i64 dl, .string (bs mi)]) (.agg #[.int .i64 k, .int .i64 r, .string (bs tg), .int .i64 st, .int .i64 dl, .string (bs mi)])).run Try.prog w = .ok (.bool true) w := by
  rw [run_eql_struct, ac_eqIn]; rfl
def k16u : Ru := ⟨0, none, 0, 0, [], [98], 50, 503, 100, 4, 50, [99], 10⟩
theorem k16_row (j : Nat) (hj : j < 10) : (#[.int .i64 0, .slice none 0 0, .string (bs [98]), .int .i64 50, .int .i64 503, .int .i64 100, .int .i64 4, .int .i64 50, .string (bs [99]), .int .i64 10] : Array Value)[j]? = (encR k16u)[j]? := by
  match j, hj with
  | 0, _ => rfl
  | 1, _ => rfl
  | 2, _ => rfl
  | 3, _ => rfl
  | 4, _ => rfl
  | 5, _ => rfl
  | 6, _ => rfl
  | 7, _ => rfl
  | 8, _ => rfl
  | 9, _ => rfl
theorem k16_rv (w : World) : RV (w.alloc (.cells #[.int .i64 0, .slice none 0 0, .string (bs [98]), .int .i64 50, .int .i64 503, .int .i64 100, .int .i64 4, .int .i64 50, .string (bs [99]), .int .i64 10] 47)) (.slice (some ⟨w.heap.size, 0, none⟩) 1 1) [k16u] := by
  have h := Bk.new w 47 #[.int .i64 0, .slice none 0 0, .string (bs [98]), .int .i64 50, .int .i64 503, .int .i64 100, .int .i64 4, .int .i64 50, .string (bs [99]), .int .i64 10]
  refine ⟨some ⟨w.heap.size, 0, none⟩, 1, rfl, fun i hi => ⟨w.heap.size, 0, rfl, by simp, fun j hj => ?_⟩, fun u hu => ?_, by simp, by simp, by simp⟩
  · match i, hi with
    | 0, _ =>
      rw [Nat.zero_add, Bk.cell h, Nat.zero_mul, Nat.zero_add]
      exact k16_row j hj
  · simp only [List.mem_cons, List.mem_nil_iff, or_false] at hu
    subst hu
    exact PV.nil _ _
set_option maxRecDepth 100000 in
set_option maxHeartbeats 16000000 in
theorem known16_any (w : World) : Calls Try.prog 18 #[] w fun e w' => e = .returned (.bool true) ∧ Below w.heap.size w w' := by
  have hnot := enot
  have hg := ac_guard
  have c0 : (ByteArray.mk #[]) = bs [] := rfl
  have c2 : (ByteArray.mk #[98]) = bs [98] := rfl
  have c3 : (ByteArray.mk #[99]) = bs [99] := rfl
  have he1 : ∀ w : World, (binOp .eql 40 (.agg #[.int .i64 1, .int .i64 0, .string (bs [98]), .int .i64 503, .int .i64 0, .string (bs [])]) (.agg #[.int .i64 1, .int .i64 0, .string (bs [98]), .int .i64 503, .int .i64 0, .string (bs [])])).run Try.prog w = .ok (.bool true) w := fun w => ac_eql w _ _ _ _ _ _
  have he2 : ∀ w : World, (binOp .eql 40 (.agg #[.int .i64 2, .int .i64 0, .string (bs [98]), .int .i64 0, .int .i64 4, .string (bs [99])]) (.agg #[.int .i64 2, .int .i64 0, .string (bs [98]), .int .i64 0, .int .i64 4, .string (bs [99])])).run Try.prog w = .ok (.bool true) w := fun w => ac_eql w _ _ _ _ _ _
  have he3 : ∀ w : World, (binOp .eql 40 (.agg #[.int .i64 2, .int .i64 0, .string (bs [98]), .int .i64 0, .int .i64 0, .string (bs [])]) (.agg #[.int .i64 2, .int .i64 0, .string (bs [98]), .int .i64 0, .int .i64 0, .string (bs [])])).run Try.prog w = .ok (.bool true) w := fun w => ac_eql w _ _ _ _ _ _
  have he4 : ∀ w : World, (binOp .eql 40 (.agg #[.int .i64 0, .int .i64 (-1), .string (bs []), .int .i64 404, .int .i64 0, .string (bs [])]) (.agg #[.int .i64 0, .int .i64 (-1), .string (bs []), .int .i64 404, .int .i64 0, .string (bs [])])).run Try.prog w = .ok (.bool true) w := fun w => ac_eql w _ _ _ _ _ _
  have hb1 := enew w (.cells #[.int .i64 0, .slice none 0 0, .string (bs [98]), .int .i64 50, .int .i64 503, .int .i64 100, .int .i64 4, .int .i64 50, .string (bs [99]), .int .i64 10] 47)
  have hb2 := enew (w.alloc (.cells #[.int .i64 0, .slice none 0 0, .string (bs [98]), .int .i64 50, .int .i64 503, .int .i64 100, .int .i64 4, .int .i64 50, .string (bs [99]), .int .i64 10] 47)) (.cells #[.int .i64 1, .slice (some ⟨w.heap.size, 0, none⟩) 1 1, .string (bs [])] 33)
  have hb3 := enew ((w.alloc (.cells #[.int .i64 0, .slice none 0 0, .string (bs [98]), .int .i64 50, .int .i64 503, .int .i64 100, .int .i64 4, .int .i64 50, .string (bs [99]), .int .i64 10] 47)).alloc (.cells #[.int .i64 1, .slice (some ⟨w.heap.size, 0, none⟩) 1 1, .string (bs [])] 33)) (.cells #[.string (bs []), .string (bs []), .string (bs []), .slice none 0 0, .string (bs [])] 36)
  have ht := (BT.new (w.alloc (.cells #[.int .i64 0, .slice none 0 0, .string (bs [98]), .int .i64 50, .int .i64 503, .int .i64 100, .int .i64 4, .int .i64 50, .string (bs [99]), .int .i64 10] 47)) 1 (.slice (some ⟨w.heap.size, 0, none⟩) 1 1) []).up hb3
  have hq := BQ.new ((w.alloc (.cells #[.int .i64 0, .slice none 0 0, .string (bs [98]), .int .i64 50, .int .i64 503, .int .i64 100, .int .i64 4, .int .i64 50, .string (bs [99]), .int .i64 10] 47)).alloc (.cells #[.int .i64 1, .slice (some ⟨w.heap.size, 0, none⟩) 1 1, .string (bs [])] 33)) [] [] [] (.slice none 0 0) []
  have hv := (k16_rv w).up (estep hb2 hb3)
  simp only [World.size_alloc] at ht hq
  have HB := hid (estep hb1 (estep hb2 hb3))
  clear hb1 hb2 hb3
  go_enter Try.func18, Try.ntmps18
  go_upto_region 3 with (fail)
  generalize ((w.alloc (.cells #[.int .i64 0, .slice none 0 0, .string (bs [98]), .int .i64 50, .int .i64 503, .int .i64 100, .int .i64 4, .int .i64 50, .string (bs [99]), .int .i64 10] 47)).alloc (.cells #[.int .i64 1, .slice (some ⟨w.heap.size, 0, none⟩) 1 1, .string (bs [])] 33)).alloc (.cells #[.string (bs []), .string (bs []), .string (bs []), .slice none 0 0, .string (bs [])] 36) = v2 at *
  have HV := hid hv
  have HT := hid ht
  have HQ := hid hq
  clear hv
  have HO1 : Hid (∀ (w2 : World), Below v2.heap.size v2 w2 → Calls Try.prog 19 #[.agg #[.int .i64 1, .slice (some ⟨w.heap.size, 0, none⟩) 1 1, .string (bs [])], .agg #[.string (bs []), .string (bs []), .string (bs []), .slice none 0 0, .string (bs [])], .agg #[.int .i64 49, .int .i64 0, .int .i64 0], .bool false] w2 fun e w' => e = .returned (.agg #[.int .i64 1, .int .i64 0, .string (bs [98]), .int .i64 503, .int .i64 0, .string (bs [])]) ∧ Below w2.heap.size w2 w') := hid fun w2 h2 => of_any 1 (.slice (some ⟨w.heap.size, 0, none⟩) 1 1) [] [k16u] [] [] [] [] (.slice none 0 0) [] 49 0 0 false w2 (HV.out.up h2) (hv_none _) (by simp) ⟨by decide, by decide⟩ ⟨by decide, by decide⟩ ⟨by decide, by decide⟩ (a := ⟨1, 0, [98], 503, 0, []⟩) (hid (by decide +kernel))
  have HO2 : Hid (∀ (w2 : World), Below v2.heap.size v2 w2 → Calls Try.prog 19 #[.agg #[.int .i64 1, .slice (some ⟨w.heap.size, 0, none⟩) 1 1, .string (bs [])], .agg #[.string (bs []), .string (bs []), .string (bs []), .slice none 0 0, .string (bs [])], .agg #[.int .i64 50, .int .i64 99, .int .i64 49], .bool false] w2 fun e w' => e = .returned (.agg #[.int .i64 2, .int .i64 0, .string (bs [98]), .int .i64 0, .int .i64 4, .string (bs [99])]) ∧ Below w2.heap.size w2 w') := hid fun w2 h2 => of_any 1 (.slice (some ⟨w.heap.size, 0, none⟩) 1 1) [] [k16u] [] [] [] [] (.slice none 0 0) [] 50 99 49 false w2 (HV.out.up h2) (hv_none _) (by simp) ⟨by decide, by decide⟩ ⟨by decide, by decide⟩ ⟨by decide, by decide⟩ (a := ⟨2, 0, [98], 0, 4, [99]⟩) (hid (by decide +kernel))
  have HO3 : Hid (∀ (w2 : World), Below v2.heap.size v2 w2 → Calls Try.prog 19 #[.agg #[.int .i64 1, .slice (some ⟨w.heap.size, 0, none⟩) 1 1, .string (bs [])], .agg #[.string (bs []), .string (bs []), .string (bs []), .slice none 0 0, .string (bs [])], .agg #[.int .i64 0, .int .i64 0, .int .i64 0], .bool true] w2 fun e w' => e = .returned (.agg #[.int .i64 2, .int .i64 0, .string (bs [98]), .int .i64 0, .int .i64 0, .string (bs [])]) ∧ Below w2.heap.size w2 w') := hid fun w2 h2 => of_any 1 (.slice (some ⟨w.heap.size, 0, none⟩) 1 1) [] [k16u] [] [] [] [] (.slice none 0 0) [] 0 0 0 true w2 (HV.out.up h2) (hv_none _) (by simp) ⟨by decide, by decide⟩ ⟨by decide, by decide⟩ ⟨by decide, by decide⟩ (a := ⟨2, 0, [98], 0, 0, []⟩) (hid (by decide +kernel))
  have HO4 : Hid (∀ (w2 : World), Below v2.heap.size v2 w2 → Calls Try.prog 19 #[.agg #[.int .i64 0, .slice none 0 0, .string (bs [])], .agg #[.string (bs []), .string (bs []), .string (bs []), .slice none 0 0, .string (bs [])], .agg #[.int .i64 0, .int .i64 0, .int .i64 0], .bool false] w2 fun e w' => e = .returned (.agg #[.int .i64 0, .int .i64 (-1), .string (bs []), .int .i64 404, .int .i64 0, .string (bs [])]) ∧ Below w2.heap.size w2 w') := hid fun w2 h2 => of_any 0 (.slice none 0 0) [] [] [] [] [] [] (.slice none 0 0) [] 0 0 0 false w2 (rv_none _) (hv_none _) (by simp) ⟨by decide, by decide⟩ ⟨by decide, by decide⟩ ⟨by decide, by decide⟩ (a := ⟨0, (-1), [], 404, 0, []⟩) (hid (by decide +kernel))
  have HS1 : Hid (∀ (w2 : World), Below v2.heap.size v2 w2 → Calls Try.prog 21 #[.agg #[.int .i64 1, .slice (some ⟨w.heap.size, 0, none⟩) 1 1, .string (bs [])], .agg #[.string (bs []), .string (bs []), .string (bs []), .slice none 0 0, .string (bs [])], .int .i64 9] w2 fun e w' => e = .returned (.bool true) ∧ Below w2.heap.size w2 w') := hid fun w2 h2 => sampled_any 1 (.slice (some ⟨w.heap.size, 0, none⟩) 1 1) [] [k16u] [] [] [] [] (.slice none 0 0) [] 9 w2 (HV.out.up h2) (hv_none _) (by simp) ⟨by decide, by decide⟩ (s := true) (hid (by decide +kernel))
  have HS2 : Hid (∀ (w2 : World), Below v2.heap.size v2 w2 → Calls Try.prog 21 #[.agg #[.int .i64 1, .slice (some ⟨w.heap.size, 0, none⟩) 1 1, .string (bs [])], .agg #[.string (bs []), .string (bs []), .string (bs []), .slice none 0 0, .string (bs [])], .int .i64 10] w2 fun e w' => e = .returned (.bool false) ∧ Below w2.heap.size w2 w') := hid fun w2 h2 => sampled_any 1 (.slice (some ⟨w.heap.size, 0, none⟩) 1 1) [] [k16u] [] [] [] [] (.slice none 0 0) [] 10 w2 (HV.out.up h2) (hv_none _) (by simp) ⟨by decide, by decide⟩ (s := false) (hid (by decide +kernel))
  have HB0 := hid (Below.refl v2.heap.size v2)
  obtain ⟨t0, t1, t2⟩ := ht.cells
  obtain ⟨q0, q1, q2, q3, q4⟩ := hq.cells
  clear ht hq
  go_wp2_with fail
  refine (HO1.out _ HB0.out).mono ?_
  rintro e w3 ⟨rfl, hb⟩
  have HB1 := hid (estep HB0.out hb)
  clear hb t0 t1 t2 q0 q1 q2 q3 q4
  obtain ⟨t0, t1, t2⟩ := (HT.out.up HB1.out).cells
  obtain ⟨q0, q1, q2, q3, q4⟩ := (HQ.out.up HB1.out).cells
  go_wp2_with fail
  refine (HO2.out _ HB1.out).mono ?_
  rintro e w4 ⟨rfl, hb⟩
  have HB2 := hid (estep HB1.out hb)
  clear hb t0 t1 t2 q0 q1 q2 q3 q4
  obtain ⟨t0, t1, t2⟩ := (HT.out.up HB2.out).cells
  obtain ⟨q0, q1, q2, q3, q4⟩ := (HQ.out.up HB2.out).cells
  go_wp2_with fail
  refine (HO3.out _ HB2.out).mono ?_
  rintro e w5 ⟨rfl, hb⟩
  have HB3 := hid (estep HB2.out hb)
  clear hb t0 t1 t2 q0 q1 q2 q3 q4
  obtain ⟨t0, t1, t2⟩ := (HT.out.up HB3.out).cells
  obtain ⟨q0, q1, q2, q3, q4⟩ := (HQ.out.up HB3.out).cells
  go_wp2_with fail
  refine (HO4.out _ HB3.out).mono ?_
  rintro e w6 ⟨rfl, hb⟩
  have HB4 := hid (estep HB3.out hb)
  clear hb t0 t1 t2 q0 q1 q2 q3 q4
  obtain ⟨t0, t1, t2⟩ := (HT.out.up HB4.out).cells
  obtain ⟨q0, q1, q2, q3, q4⟩ := (HQ.out.up HB4.out).cells
  go_wp2_with fail
  refine (HS1.out _ HB4.out).mono ?_
  rintro e w7 ⟨rfl, hb⟩
  have HB5 := hid (estep HB4.out hb)
  clear hb t0 t1 t2 q0 q1 q2 q3 q4
  obtain ⟨t0, t1, t2⟩ := (HT.out.up HB5.out).cells
  obtain ⟨q0, q1, q2, q3, q4⟩ := (HQ.out.up HB5.out).cells
  go_wp2_with fail
  refine (HS2.out _ HB5.out).mono ?_
  rintro e w8 ⟨rfl, hb⟩
  have HB6 := hid (estep HB5.out hb)
  clear hb t0 t1 t2 q0 q1 q2 q3 q4
  obtain ⟨t0, t1, t2⟩ := (HT.out.up HB6.out).cells
  obtain ⟨q0, q1, q2, q3, q4⟩ := (HQ.out.up HB6.out).cells
  go_wp2_with fail
  go_returns
  exact ⟨rfl, estep HB.out HB6.out⟩
end Go.Proofs.Ytgkegpdmidcmoaa
namespace Go.Proofs.Ytgkegpdmidcmoaa
set_option linter.unusedVariables false
set_option linter.unusedSimpArgs false
open Go.RowKit Go.Joins Go.ChangeShapes Go.WideShapes Go.Deep

section
variable {H : Type} {enc : TypeId × Value → H} {P : Program} {w : World} {base : Nat}
theorem arr_three {cs : Array Value} (h : cs.size = 3) : ∃ a b c, cs = #[a, b, c] := by
  obtain ⟨l⟩ := cs
  match l, h with
  | [a, b, c], _ => exact ⟨a, b, c, rfl⟩
theorem open_ARK {r : Reach} {b0 : Nat} {t e : TypeId} {kd : IntKind} {v : Value} {d : DataW H} {p : List MemPlace} (ht : P.underlying t = some (.array 3 e)) (he : P.underlying e = some (.int kd)) (hce : P.cellsOf e = 1) (hC : P.cellsOf t = 3)
    (hv : Value.okWide P w r b0 t v) (h : DataW.Trod enc P w base (fun _ => true) true t v d p) :
    ∃ a b c : Int, v = .agg #[.int kd a, .int kd b, .int kd c] ∧ (Lit.int kd a).wf = true ∧ (Lit.int kd b).wf = true ∧ (Lit.int kd c).wf = true := by
  obtain ⟨cs, rfl, hsz⟩ := okWide_arr ht hv
  obtain ⟨c0, c1, c2, rfl⟩ := arr_three (hsz.trans hC)
  obtain ⟨fuel, hf⟩ := h
  obtain ⟨xs, m, _, _, _, hl, hi⟩ := DataW.trod_array ht hf
  have h0 := hi 0 (by omega)
  have h1 := hi 1 (by omega)
  have h2 := hi 2 (by omega)
  rw [List.getElem?_eq_getElem (by omega)] at h0 h1 h2
  simp only [hce, Value.cells] at h0 h1 h2
  obtain ⟨n0, e0, _, w0⟩ := DataW.trod_int he h0
  obtain ⟨n1, e1, _, w1⟩ := DataW.trod_int he h1
  obtain ⟨n2, e2, _, w2⟩ := DataW.trod_int he h2
  have e0' : c0 = .int kd n0 := by simpa using e0
  have e1' : c1 = .int kd n1 := by simpa using e1
  have e2' : c2 = .int kd n2 := by simpa using e2
  exact ⟨n0, n1, n2, by rw [e0', e1', e2'], w0, w1, w2⟩
theorem open_AR3 {r : Reach} {b0 : Nat} {t e : TypeId} {v : Value} {d : DataW H} {p : List MemPlace} (ht : P.underlying t = some (.array 3 e)) (he : P.underlying e = some (.int .i64)) (hce : P.cellsOf e = 1) (hC : P.cellsOf t = 3)
    (hv : Value.okWide P w r b0 t v) (h : DataW.Trod enc P w base (fun _ => true) true t v d p) :
    ∃ a b c : Int, v = .agg #[.int .i64 a, .int .i64 b, .int .i64 c] ∧ (-9223372036854775808 ≤ a ∧ a ≤ 9223372036854775807) ∧ (-9223372036854775808 ≤ b ∧ b ≤ 9223372036854775807) ∧ (-9223372036854775808 ≤ c ∧ c ≤ 9223372036854775807) := by
  obtain ⟨a, b, c, e1, w0, w1, w2⟩ := open_ARK ht he hce hC hv h
  exact ⟨a, b, c, e1, bounds_i64 w0, bounds_i64 w1, bounds_i64 w2⟩
theorem bounds_i8 {n : Int} (h : (Lit.int .i8 n).wf = true) : -128 ≤ n ∧ n ≤ 127 := by
  simp [Lit.wf, IntKind.min, IntKind.max, IntKind.signed, IntKind.bits] at h
  omega
theorem open_AR3b {r : Reach} {b0 : Nat} {t e : TypeId} {v : Value} {d : DataW H} {p : List MemPlace} (ht : P.underlying t = some (.array 3 e)) (he : P.underlying e = some (.int .i8)) (hce : P.cellsOf e = 1) (hC : P.cellsOf t = 3)
    (hv : Value.okWide P w r b0 t v) (h : DataW.Trod enc P w base (fun _ => true) true t v d p) :
    ∃ a b c : Int, v = .agg #[.int .i8 a, .int .i8 b, .int .i8 c] ∧ (-128 ≤ a ∧ a ≤ 127) ∧ (-128 ≤ b ∧ b ≤ 127) ∧ (-128 ≤ c ∧ c ≤ 127) := by
  obtain ⟨a, b, c, e1, w0, w1, w2⟩ := open_ARK ht he hce hC hv h
  exact ⟨a, b, c, e1, bounds_i8 w0, bounds_i8 w1, bounds_i8 w2⟩
end
set_option maxRecDepth 100000 in
set_option maxHeartbeats 16000000 in
theorem decideSays_walk (v : Int) (y : Value) (f : List UInt8) (U : List Ru) (mU : ∀ u ∈ U, okRs u.sem) (hf : f.length ≤ 140737488351232) (m h p b : List UInt8) (x : Value) (L : List Hd) (hL : L.length ≤ 9223372036854775807) (hs : ∀ h ∈ L, h.1.length ≤ 140737488351232 ∧ h.2.length ≤ 140737488351232) (s0 : m.length ≤ 140737488351232) (s1 : h.length ≤ 140737488351232) (s2 : p.length ≤ 140737488351232) (s3 : b.length ≤ 140737488351232) (d0 d1 d2 : Int) (sh : Bool) (h0 : Hid (-9223372036854775808 ≤ d0 ∧ d0 ≤ 9223372036854775807)) (h1 : Hid (-9223372036854775808 ≤ d1 ∧ d1 ≤ 9223372036854775807)) (h2' : Hid (-9223372036854775808 ≤ d2 ∧ d2 ≤ 9223372036854775807)) (w : World) (hy : RV w y U) (hx : HV w x L) :
    Calls Try.prog 6 #[.agg #[.int .i64 v, y, .string (bs f)], .agg #[.string (bs m), .string (bs h), .string (bs p), x, .string (bs b)], .agg #[.int .i64 d0, .int .i64 d1, .int .i64 d2], .bool sh] w fun e w' => e = .returned (.bool true) ∧ Below w.heap.size w w' := by
  obtain ⟨⟨ak, ar, atg, ast, adl, ami⟩, ha⟩ : ∃ a, ofA (fun u => allE u.ps m h p L) U d0 d1 d2 sh = a := ⟨_, rfl⟩
  obtain ⟨s, hsm⟩ : ∃ s, smA (fun u => allE u.ps m h p L) U d0 = s := ⟨_, rfl⟩
  have HA := hid ha
  have HS := hid hsm
  clear ha hsm
  have hnot := enot
  have hg := ac_guard
  have hb1 := enew w (.cells #[.int .i64 v, y, .string (bs f)] 33)
  have hb2 := enew (w.alloc (.cells #[.int .i64 v, y, .string (bs f)] 33)) (.cells #[.string (bs m), .string (bs h), .string (bs p), x, .string (bs b)] 36)
  have hb3 := enew ((w.alloc (.cells #[.int .i64 v, y, .string (bs f)] 33)).alloc (.cells #[.string (bs m), .string (bs h), .string (bs p), x, .string (bs b)] 36)) (.cells #[.int .i64 d0, .int .i64 d1, .int .i64 d2] 25)
  have ht := (BT.new w v y f).up (estep hb2 hb3)
  have hq := (BQ.new (w.alloc (.cells #[.int .i64 v, y, .string (bs f)] 33)) m h p x b).up hb3
  have hd := BA.new ((w.alloc (.cells #[.int .i64 v, y, .string (bs f)] 33)).alloc (.cells #[.string (bs m), .string (bs h), .string (bs p), x, .string (bs b)] 36)) d0 d1 d2
  simp only [World.size_alloc] at hq hd
  have hb0 := estep hb1 (estep hb2 hb3)
  have H0 := hid (And.intro (hy.up hb0) (And.intro (hx.up hb0) hb0))
  obtain ⟨zf, hzf⟩ : ∃ z, fewC f (U.map Ru.sem) = z := ⟨_, rfl⟩
  obtain ⟨zq, hzq⟩ : ∃ z, fewR m h p L b = z := ⟨_, rfl⟩
  have HZ := hid hzq
  have HFT := hid (fun w2 (h1 : RV w2 y U) => tfew_any v y f U w2 h1 mU hf (hid hzf))
  have HFQ := hid (fun w2 (h1 : HV w2 x L) => rfew_any m h p b x L w2 h1 hL hs s0 s1 s2 s3 (hid hzq))
  have HSM := hid (fun u (hu : u ∈ U) => (mU u hu).1)
  have HPL := hid s2
  clear hzf hzq mU hf hL hs s0 s1 s2 s3 hb1 hb2 hb3 hb0 hy hx
  go_enter Try.func6, Try.ntmps6
  go_upto_region 1 with (fail)
  generalize ((w.alloc (.cells #[.int .i64 v, y, .string (bs f)] 33)).alloc (.cells #[.string (bs m), .string (bs h), .string (bs p), x, .string (bs b)] 36)).alloc (.cells #[.int .i64 d0, .int .i64 d1, .int .i64 d2] 25) = v0 at *
  obtain ⟨t0, t1, t2⟩ := ht.cells
  go_wp2_with fail
  refine (HFT.out _ H0.out.1).mono ?_
  rintro e w1 ⟨rfl, hb1⟩
  clear t0 t1 t2
  have H1 := hid (And.intro (H0.out.1.up hb1) (And.intro (H0.out.2.1.up hb1) hb1))
  clear hb1
  cases zf
  · go_wp2_with fail
    refine (known16_any _).mono ?_
    rintro e w2 ⟨rfl, hb2⟩
    go_wp2_with fail
    go_returns
    exact ⟨rfl, estep H0.out.2.2 (estep H1.out.2.2 hb2)⟩
  obtain ⟨q0, q1, q2, q3, q4⟩ := (hq.up H1.out.2.2).cells
  go_wp2_with fail
  refine (HFQ.out _ H1.out.2.1).mono ?_
  rintro e w3 ⟨rfl, hb3⟩
  clear q0 q1 q2 q3 q4
  have H3 := hid (And.intro (H1.out.1.up hb3) (And.intro (H1.out.2.1.up hb3) (estep H1.out.2.2 hb3)))
  clear hb3
  cases zq
  · go_wp2_with fail
    refine (known16_any _).mono ?_
    rintro e w4 ⟨rfl, hb4⟩
    go_wp2_with fail
    go_returns
    exact ⟨rfl, estep H0.out.2.2 (estep H3.out.2.2 hb4)⟩
  have HLH := hid (show L.length ≤ 1000000 by have := fewR_len HZ.out; omega)
  clear HZ HFT HFQ
  have ha := HA.out
  have hsm := HS.out
  have HO : Hid (∀ (w2 : World), Below w3.heap.size w3 w2 → Calls Try.prog 19 #[.agg #[.int .i64 v, y, .string (bs f)], .agg #[.string (bs m), .string (bs h), .string (bs p), x, .string (bs b)], .agg #[.int .i64 d0, .int .i64 d1, .int .i64 d2], .bool sh] w2 fun e w' => e = .returned (.agg #[.int .i64 ak, .int .i64 ar, .string (bs atg), .int .i64 ast, .int .i64 adl, .string (bs ami)]) ∧ Below w2.heap.size w2 w') := hid fun w2 h2 => of_any v y f U m h p b x L d0 d1 d2 sh w2 (H3.out.1.up h2) (H3.out.2.1.up h2) HLH.out h0.out h1.out h2'.out (a := ⟨ak, ar, atg, ast, adl, ami⟩) (hid ha)
  have HRO : Hid (∀ (w2 : World), Below w3.heap.size w3 w2 → Calls Try.prog 20 #[.agg #[.int .i64 v, y, .string (bs f)], .agg #[.string (bs m), .string (bs h), .string (bs p), x, .string (bs b)], .agg #[.int .i64 d0, .int .i64 d1, .int .i64 d2], .bool sh] w2 fun e w' => e = .returned (.agg #[.int .i64 ak, .int .i64 ar, .string (bs atg), .int .i64 ast, .int .i64 adl, .string (bs ami)]) ∧ Below w2.heap.size w2 w') := hid fun w2 h2 => rof_any v y f U m h p b x L d0 d1 d2 sh w2 (H3.out.1.up h2) (H3.out.2.1.up h2) HLH.out HSM.out HPL.out h0.out h1.out h2'.out (a := ⟨ak, ar, atg, ast, adl, ami⟩) (hid ha)
  have HSA : Hid (∀ (w2 : World), Below w3.heap.size w3 w2 → Calls Try.prog 21 #[.agg #[.int .i64 v, y, .string (bs f)], .agg #[.string (bs m), .string (bs h), .string (bs p), x, .string (bs b)], .int .i64 d0] w2 fun e w' => e = .returned (.bool s) ∧ Below w2.heap.size w2 w') := hid fun w2 h2 => sampled_any v y f U m h p b x L d0 w2 (H3.out.1.up h2) (H3.out.2.1.up h2) HLH.out h0.out (hid hsm)
  have HRS : Hid (∀ (w2 : World), Below w3.heap.size w3 w2 → Calls Try.prog 22 #[.agg #[.int .i64 v, y, .string (bs f)], .agg #[.string (bs m), .string (bs h), .string (bs p), x, .string (bs b)], .int .i64 d0] w2 fun e w' => e = .returned (.bool s) ∧ Below w2.heap.size w2 w') := hid fun w2 h2 => rsampled_any v y f U m h p b x L d0 w2 (H3.out.1.up h2) (H3.out.2.1.up h2) HLH.out HSM.out HPL.out h0.out (hid hsm)
  clear ha hsm HA HS
  have he : ∀ w : World, (binOp .eql 40 (.agg #[.int .i64 ak, .int .i64 ar, .string (bs atg), .int .i64 ast, .int .i64 adl, .string (bs ami)]) (.agg #[.int .i64 ak, .int .i64 ar, .string (bs atg), .int .i64 ast, .int .i64 adl, .string (bs ami)])).run Try.prog w = .ok (.bool true) w := fun w => ac_eql w _ _ _ _ _ _
  obtain ⟨t0, t1, t2⟩ := (ht.up H3.out.2.2).cells
  obtain ⟨q0, q1, q2, q3, q4⟩ := (hq.up H3.out.2.2).cells
  obtain ⟨dc0, dc1, dc2⟩ := (hd.up H3.out.2.2).cells
  have K0 := BW.cell t0
  have K1 := BW.cell t1
  have K2 := BW.cell t2
  have K3 := BW.cell q0
  have K4 := BW.cell q1
  have K5 := BW.cell q2
  have K6 := BW.cell q3
  have K7 := BW.cell q4
  have K8 := BW.cell dc0
  have K9 := BW.cell dc1
  have K10 := BW.cell dc2
  clear t0 t1 t2 q0 q1 q2 q3 q4 dc0 dc1 dc2 ht hq hd
  go_upto_region 3 with (fail)
  refine wp_region_bw (by kernel_rfl) (by kernel_rfl) ?_
  repeat (go_big_quiet_step ((first
    | (go_at_call 19; with_reducible exact calls_bw (HO.out _ (BW.h _)))
    | (go_at_call 20; with_reducible exact calls_bw (HRO.out _ (BW.h _)))
    | (go_at_call 21; with_reducible exact calls_bw (HSA.out _ (BW.h _)))
    | (go_at_call 22; with_reducible exact calls_bw (HRS.out _ (BW.h _)))
    | (go_at_call 18; with_reducible exact calls_bw (known16_any _)))))
  refine wpQuiet_nil ?_
  rintro _ ⟨pq, rfl⟩
  clear K0 K1 K2 K3 K4 K5 K6 K7 K8 K9 K10
  have HB9 := hid (estep H0.out.2.2 (estep H3.out.2.2 pq.h))
  go_wp2_with fail
  go_returns
  exact ⟨rfl, HB9.out⟩
end Go.Proofs.Ytgkegpdmidcmoaa
