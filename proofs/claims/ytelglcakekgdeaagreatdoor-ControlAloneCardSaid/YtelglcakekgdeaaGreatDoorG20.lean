/- Texts put together: Rw Rx Rz Rm Rn Ry. -/
import Derived.Test.YtelglcakekgdeaaGreatDoorG01
import Derived.Test.YtelglcakekgdeaaGreatDoorG17
import Derived.Shelf.SlicesQ.Load
import Derived.Shelf.SlSortCmp.QuietGrown
import Derived.Deep.LoopGhost
import Derived.Deep.Cut
namespace Go.Proofs.YtelglcakekgdeaaGreatDoor
set_option linter.unusedVariables false
set_option linter.unusedSimpArgs false
open Go.RowKit Go.Sort Go.Proofs

/-- Nothing that was is another, but block g. -/
structure Onl (g : Nat) (w w' : World) : Prop where
  os : w'.os = w.os
  tape : w'.tape = w.tape
  output : w'.output = w.output
  size : w.heap.size ≤ w'.heap.size
  block : ∀ k, k < w.heap.size → k ≠ g → w'.heap[k]? = w.heap[k]?
theorem Onl.refl (g : Nat) (w : World) : Onl g w w := ⟨rfl, rfl, rfl, Nat.le_refl _, fun _ _ _ => rfl⟩
theorem Onl.trans {g : Nat} {a b c : World} (h : Onl g a b) (k : Onl g b c) : Onl g a c :=
  ⟨k.os.trans h.os, k.tape.trans h.tape, k.output.trans h.output, Nat.le_trans h.size k.size, fun j hj hn => (k.block j (Nat.lt_of_lt_of_le hj h.size) hn).trans (h.block j hj hn)⟩
theorem Onl.drew {g : Nat} {a b : World} (h : Onl g a b) : Onl g a b.drew := ⟨h.os, h.tape, h.output, h.size, h.block⟩
theorem Onl.drewN {g : Nat} {a b : World} (h : Onl g a b) (n : Nat) : Onl g a (b.drewN n) := ⟨h.os, h.tape, h.output, h.size, h.block⟩
theorem Onl.grow {g : Nat} {a b : World} (h : Onl g a b) (os : Array Obj) : Onl g a (Sort.grow b os) :=
  h.trans ⟨rfl, rfl, rfl, by rw [size_grow]; omega, fun k hk _ => by
    show (b.heap ++ os)[k]? = b.heap[k]?
    rw [Array.getElem?_append_left hk]⟩
theorem Onl.sets {g : Nat} {a b : World} (h : Onl g a b) (o : Nat) (vs : List Value) : Onl g a (b.setCells g o vs) := by
  have hkp := World.keptBut_setCells g (may := fun _ => True) vs o b (fun _ _ => trivial)
  have : ∀ (vs : List Value) (o : Nat) (b : World), (b.setCells g o vs).heap.size = b.heap.size ∧ (b.setCells g o vs).tape = b.tape ∧ (b.setCells g o vs).os = b.os ∧ (b.setCells g o vs).output = b.output ∧ ∀ k, k ≠ g → (b.setCells g o vs).heap[k]? = b.heap[k]? := by
    intro vs
    induction vs with
    | nil => intro o b; exact ⟨rfl, rfl, rfl, rfl, fun _ _ => rfl⟩
    | cons v r ih =>
      intro o b
      obtain ⟨i1, i2, i3, i4, i5⟩ := ih (o + 1) (b.setCell ⟨g, o, none⟩ v)
      refine ⟨by rw [World.setCells, i1, World.size_setCell], by rw [World.setCells, i2]; rfl, by rw [World.setCells, i3]; rfl, by rw [World.setCells, i4]; rfl, fun k hk => ?_⟩
      rw [World.setCells, i5 k hk]
      exact Below.heap_setCell b ⟨g, o, none⟩ v k hk
  obtain ⟨i1, i2, i3, i4, i5⟩ := this vs o b
  exact h.trans ⟨i3, i2, i4, by omega, fun k _ hn => i5 k hn⟩
theorem Onl.of_below {g B : Nat} {a b : World} (h : Below B a b) (hB : a.heap.size ≤ B) : Onl g a b := ⟨h.os, h.tape, h.output, h.size, fun k hk _ => h.block k (by omega)⟩
section
variable {α : Type} (enc : α → List Value) (k : Nat)
/-- The row: block g, from o on, holds L. -/
def GW (w : World) (g o : Nat) (L : List α) : Prop := g < w.heap.size ∧ ∀ t, t < L.length * k → w.cell? ⟨g, o + t, none⟩ = (gvals enc L)[t]? ∧ w.frozen? ⟨g, o + t, none⟩ = false
end
section
variable {α : Type} {enc : α → List Value} {k : Nat}
theorem GW.drewN {w : World} {g o : Nat} {L : List α} (h : GW enc k w g o L) (n : Nat) : GW enc k (w.drewN n) g o L := h
theorem GW.drew {w : World} {g o : Nat} {L : List α} (h : GW enc k w g o L) : GW enc k w.drew g o L := h
theorem GW.same {w w' : World} {g o : Nat} {L : List α} (h : GW enc k w g o L) (hs : w'.heap[g]? = w.heap[g]?) (hz : w.heap.size ≤ w'.heap.size) : GW enc k w' g o L :=
  ⟨Nat.lt_of_lt_of_le h.1 hz, fun t ht => ⟨(World.cell?_of_block (a := ⟨g, o + t, none⟩) hs).trans (h.2 t ht).1, (World.frozen?_of_block (a := ⟨g, o + t, none⟩) hs).trans (h.2 t ht).2⟩⟩
theorem GW.grow {w : World} {g o : Nat} {L : List α} (h : GW enc k w g o L) (os : Array Obj) : GW enc k (Sort.grow w os) g o L :=
  h.same (by show (w.heap ++ os)[g]? = w.heap[g]?; rw [Array.getElem?_append_left h.1]) (by rw [size_grow]; omega)
theorem GW.grown {w : World} {g o : Nat} {L : List α} (h : GW enc k w g o L) (n : Nat) (os : Array Obj) : GW enc k (Sort.grow (w.drewN n) os) g o L := (h.drewN n).grow os
theorem GW.cells {w : World} {g o : Nat} {L : List α} (hk : ∀ x, (enc x).length = k) (h : GW enc k w g o L) {i : Nat} {x : α} (hx : L[i]? = some x) :
    ∀ c v, (enc x)[c]? = some v → w.cell? ((⟨g, o + i * k, none⟩ : Addr).add c) = some v := fun c v hv => by
  obtain ⟨hi, rfl⟩ := List.getElem?_eq_some_iff.1 hx
  have hc : c < k := by have := (List.getElem?_eq_some_iff.1 hv).1; rwa [hk] at this
  have hlt : i * k + c < L.length * k := by
    have := Nat.mul_le_mul_right k (show i + 1 ≤ L.length from hi); rw [Nat.add_mul, Nat.one_mul] at this; omega
  rw [Addr.add_lit, Nat.add_assoc, (h.2 _ hlt).1, gvals_at enc k hk L i hi c hc, hv]
theorem GW.load {P : Program} {w : World} {g o : Nat} {L : List α} (hk : ∀ x, (enc x).length = k) (h : GW enc k w g o L) {i : Nat} {x : α} (hx : L[i]? = some x) :
    Sem.run P (loadCellsFrom ⟨g, o + i * k, none⟩ 0 k #[]) w = .ok (enc x).toArray w := run_loadCellsFrom_list P _ _ _ k (hk x) (h.cells hk hx)
theorem idx_lt {L : List α} {i t : Nat} (hi : i < L.length) (ht : t < k) : i * k + t < L.length * k := by
  have := Nat.mul_le_mul_right k (show i + 1 ≤ L.length from hi); rw [Nat.add_mul, Nat.one_mul] at this; omega
theorem GW.store {P : Program} {w : World} {g o : Nat} {L : List α} (hk : ∀ x, (enc x).length = k) (h1 : ∀ x, ∀ v ∈ enc x, v.oneCell' = true) (h : GW enc k w g o L) {i : Nat} (hi : i < L.length) (x : α) :
    Sem.run P (storeCells ⟨g, o + i * k, none⟩ (enc x) 0) w = .ok () (w.setCells g (o + i * k) (enc x)) := by
  have := run_storeCells_cells (P := P) g (o + i * k) (enc x) 0 w (fun c hc => by
    rw [hk] at hc
    have hlt := idx_lt (k := k) hi hc
    rw [Nat.add_zero, Nat.add_assoc, (h.2 _ hlt).1, List.getElem?_eq_getElem (by rw [gvals_len enc k hk]; exact hlt)]; rfl) (fun c hc => by
    rw [hk] at hc
    rw [Nat.add_zero, Nat.add_assoc]; exact (h.2 _ (idx_lt (k := k) hi hc)).2) (h1 x)
  rwa [Nat.add_zero] at this
theorem sets_size (g : Nat) : ∀ (vs : List Value) (o : Nat) (w : World), (w.setCells g o vs).heap.size = w.heap.size
  | [], _, _ => rfl
  | v :: r, o, w => by rw [World.setCells, sets_size g r, World.size_setCell]
theorem GW.set_ {w : World} {g o : Nat} {L : List α} (hk : ∀ x, (enc x).length = k) (h : GW enc k w g o L) {i : Nat} (hi : i < L.length) (x : α) : GW enc k (w.setCells g (o + i * k) (enc x)) g o (L.set i x) := by
  refine ⟨by rw [sets_size]; exact h.1, fun t ht => ?_⟩
  rw [List.length_set] at ht
  rw [World.frozen?_setCells, gvals_set enc k hk L i hi x t ht]
  refine ⟨?_, (h.2 t ht).2⟩
  by_cases hin : i * k ≤ t ∧ t < i * k + k
  · rw [if_pos hin]
    have := World.cell?_setCells_in g (enc x) (o + i * k) w (fun j hj => by
      rw [hk] at hj
      have hlt := idx_lt (k := k) hi hj
      rw [Nat.add_assoc, (h.2 _ hlt).1, List.getElem?_eq_getElem (by rw [gvals_len enc k hk]; exact hlt)]; rfl) (t - i * k) (by rw [hk]; omega)
    rw [show o + i * k + (t - i * k) = o + t by omega] at this
    rw [this, List.getElem?_eq_getElem (by rw [hk]; omega)]
  · rw [if_neg hin, World.cell?_setCells_out g (enc x) (o + i * k) w ⟨g, o + t, none⟩ (fun _ _ => by
      rw [hk]
      show o + t < o + i * k ∨ o + i * k + k ≤ o + t
      omega)]
    exact (h.2 t ht).1
/-- The types and bodies that the sort names, in a program that is a variable. -/
structure SortP (P : Program) (k : Nat) : Prop where
  mixed : P.follows .mixedOrders = true
  t0 : P.underlying 0 = some (TypeDesc.tuple #[])
  a0 : ∀ w, (isAgg 0).run P w = .ok false w
  z0 : ∀ w, (Go.sizeOf 0).run P w = .ok 1 w
  v0 : ∀ w, (zeroValue 0).run P w = .ok (Value.tuple #[]) w
  t3 : P.underlying 3 = some (TypeDesc.int IntKind.i64)
  a3 : ∀ w, (isAgg 3).run P w = .ok false w
  z3 : ∀ w, (Go.sizeOf 3).run P w = .ok 1 w
  v3 : ∀ w, (zeroValue 3).run P w = .ok (Value.int IntKind.i64 0) w
  t4 : P.underlying 4 = some (TypeDesc.bool)
  a4 : ∀ w, (isAgg 4).run P w = .ok false w
  z4 : ∀ w, (Go.sizeOf 4).run P w = .ok 1 w
  v4 : ∀ w, (zeroValue 4).run P w = .ok (Value.bool false) w
  t22 : P.underlying 30 = some (TypeDesc.slice 72)
  a22 : ∀ w, (isAgg 30).run P w = .ok false w
  z22 : ∀ w, (Go.sizeOf 30).run P w = .ok 1 w
  v22 : ∀ w, (zeroValue 30).run P w = .ok (Value.slice none 0 0) w
  t25 : P.underlying 86 = some (TypeDesc.func #[72, 72] #[3] false)
  a25 : ∀ w, (isAgg 86).run P w = .ok false w
  z25 : ∀ w, (Go.sizeOf 86).run P w = .ok 1 w
  v25 : ∀ w, (zeroValue 86).run P w = .ok (Value.nilFunc) w
  tu : P.underlying 130 = some (TypeDesc.int IntKind.u64)
  au : ∀ w, (isAgg 130).run P w = .ok false w
  zu : ∀ w, (Go.sizeOf 130).run P w = .ok 1 w
  vu : ∀ w, (zeroValue 130).run P w = .ok (Value.int IntKind.u64 0) w
  aE : ∀ w, (isAgg 72).run P w = .ok true w
  zE : ∀ w, (Go.sizeOf 72).run P w = .ok k w
theorem sortP : SortP Tryz.prog 10 where
  mixed := by kernel_rfl
  t0 := Tryz.underlying0
  a0 := Tryz.isAgg0
  z0 := Tryz.sizeOf0
  v0 := Tryz.zeroValue0
  t3 := Tryz.underlying3
  a3 := Tryz.isAgg3
  z3 := Tryz.sizeOf3
  v3 := Tryz.zeroValue3
  t4 := Tryz.underlying4
  a4 := Tryz.isAgg4
  z4 := Tryz.sizeOf4
  v4 := Tryz.zeroValue4
  t22 := Tryz.underlying30
  a22 := Tryz.isAgg30
  z22 := Tryz.sizeOf30
  v22 := Tryz.zeroValue30
  t25 := Tryz.underlying86
  a25 := Tryz.isAgg86
  z25 := Tryz.sizeOf86
  v25 := Tryz.zeroValue86
  tu := Tryz.underlying130
  au := Tryz.isAgg130
  zu := Tryz.sizeOf130
  vu := Tryz.zeroValue130
  aE := Tryz.isAgg72
  zE := Tryz.sizeOf72
end
end Go.Proofs.YtelglcakekgdeaaGreatDoor
namespace Go.Proofs.YtelglcakekgdeaaGreatDoor
set_option linter.unusedVariables false
set_option linter.unusedSimpArgs false
open Go.RowKit Go.Sort Go.Proofs
variable {P : Program} {α : Type} {enc : α → List Value} {k : Nat}

set_option maxHeartbeats 4000000 in
set_option maxRecDepth 1000000 in
theorem swapRange_any (S : SortP P k) (F : P.funcs[102]? = some Tryz.f102) (hk : ∀ x, (enc x).length = k) (h1 : ∀ x, ∀ v ∈ enc x, v.oneCell' = true)
    (g o cap n a b c : Nat) (fv : Value) (pre X M Y post : List α) (hXY : X.length = Y.length) (ha : a = pre.length) (hb : b = pre.length + X.length + M.length) (hc : c = X.length) (hn : n = pre.length + X.length + M.length + Y.length + post.length) (hsz : n ≤ 1000000)
    (w : World) (hW : GW enc k w g o (pre ++ X ++ M ++ Y ++ post)) :
    Calls P 102 #[.slice (some ⟨g, o, none⟩) n cap, .int .i64 a, .int .i64 b, .int .i64 c, fv] w fun e w' => e = .returned (.tuple #[]) ∧ GW enc k w' g o (pre ++ Y ++ M ++ X ++ post) ∧ Onl g w w' := by
  have mixed := S.mixed; have t0 := S.t0; have a0 := S.a0; have z0 := S.z0; have v0 := S.v0; have t3 := S.t3; have a3 := S.a3; have z3 := S.z3; have v3 := S.v3; have t4 := S.t4; have a4 := S.a4; have z4 := S.z4; have v4 := S.v4; have t22 := S.t22; have a22 := S.a22; have z22 := S.z22; have v22 := S.v22; have t25 := S.t25; have a25 := S.a25; have z25 := S.z25; have v25 := S.v25; have aE := S.aE; have zE := S.zE
  have und := run_underlying S.t22
  have H0 : Hid (X.length = Y.length ∧ a = pre.length ∧ b = pre.length + X.length + M.length ∧ c = X.length ∧ n = pre.length + X.length + M.length + Y.length + post.length) := ⟨hXY, ha, hb, hc, hn⟩
  have hbn : b + c ≤ n := by omega
  have han : a + c ≤ b := by omega
  have HK : Hid (∀ x, (enc x).length = k) := hk
  have H1 : Hid (∀ x, ∀ v ∈ enc x, v.oneCell' = true) := h1
  have HW : Hid (GW enc k w g o (pre ++ X ++ M ++ Y ++ post)) := hW
  clear hXY ha hb hc hn hk h1 hW
  go_enter F, Tryz.ntmps102
  go_wp2
  go_loopg [10] c (fun g1 vi wr => ∃ i : Nat, vi = .int .i64 i ∧ i ≤ c ∧ c - i ≤ g1 ∧ Hid (GW enc k wr g o (pre ++ Y.take i ++ X.drop i ++ M ++ X.take i ++ Y.drop i ++ post) ∧ Onl g w wr))
  case atStart => exact ⟨0, rfl, by omega, by omega, ⟨by simpa using HW.out, Onl.refl _ _⟩⟩
  case round =>
    obtain ⟨i, rfl, hic, hg1, HI⟩ := hrel
    by_cases hlt : i < c
    · obtain ⟨e1, e2, e3, e4, e5⟩ := H0.out
      have hx : i < X.length := by omega
      have hy : i < Y.length := by omega
      obtain ⟨x, hxx⟩ : ∃ x, X[i] = x := ⟨_, rfl⟩
      obtain ⟨y, hyy⟩ : ∃ y, Y[i] = y := ⟨_, rfl⟩
      have dX : X.drop i = x :: X.drop (i + 1) := by rw [← hxx]; exact List.drop_eq_getElem_cons hx
      have dY : Y.drop i = y :: Y.drop (i + 1) := by rw [← hyy]; exact List.drop_eq_getElem_cons hy
      have tX : X.take (i + 1) = X.take i ++ [x] := by rw [← hxx]; exact List.take_succ_eq_append_getElem hx
      have tY : Y.take (i + 1) = Y.take i ++ [y] := by rw [← hyy]; exact List.take_succ_eq_append_getElem hy
      have hC : pre ++ Y.take i ++ X.drop i ++ M ++ X.take i ++ Y.drop i ++ post = (pre ++ Y.take i) ++ x :: (X.drop (i + 1) ++ M ++ X.take i) ++ y :: (Y.drop (i + 1) ++ post) := by
        rw [dX, dY]; simp
      have hC2 : (pre ++ Y.take i) ++ y :: (X.drop (i + 1) ++ M ++ X.take i) ++ x :: (Y.drop (i + 1) ++ post) = pre ++ Y.take (i + 1) ++ X.drop (i + 1) ++ M ++ X.take (i + 1) ++ Y.drop (i + 1) ++ post := by
        rw [tX, tY]; simp
      have la : (pre ++ Y.take i).length = a + i := by simp; omega
      have lb : (pre ++ Y.take i).length + 1 + (X.drop (i + 1) ++ M ++ X.take i).length = b + i := by simp; omega
      have hG := HI.out.1
      rw [hC] at hG
      have hlen : ((pre ++ Y.take i) ++ x :: (X.drop (i + 1) ++ M ++ X.take i) ++ y :: (Y.drop (i + 1) ++ post)).length = n := by simp; omega
      have hgm := get_mid (pre ++ Y.take i) (X.drop (i + 1) ++ M ++ X.take i) (Y.drop (i + 1) ++ post) x y
      have hsm := swap_mid (pre ++ Y.take i) (X.drop (i + 1) ++ M ++ X.take i) (Y.drop (i + 1) ++ post) x y
      rw [lb, la] at hsm
      rw [lb, la] at hgm
      rw [hC2] at hsm
      generalize (pre ++ Y.take i) ++ x :: (X.drop (i + 1) ++ M ++ X.take i) ++ y :: (Y.drop (i + 1) ++ post) = C at *
      have hGd := hG.drew
      have la1 : Sem.run P (loadCellsFrom ⟨g, o + (a + i) * k, none⟩ 0 k #[]) wr.drew = .ok (enc x).toArray wr.drew := hGd.load HK.out hgm.1
      have lb1 : Sem.run P (loadCellsFrom ⟨g, o + (b + i) * k, none⟩ 0 k #[]) wr.drew = .ok (enc y).toArray wr.drew := hGd.load HK.out hgm.2
      have s1 : Sem.run P (storeCells ⟨g, o + (a + i) * k, none⟩ (enc y) 0) wr.drew = .ok () (wr.drew.setCells g (o + (a + i) * k) (enc y)) := hGd.store HK.out H1.out (by omega) y
      have hG1 := hGd.set_ HK.out (i := a + i) (by omega) y
      have s2 : Sem.run P (storeCells ⟨g, o + (b + i) * k, none⟩ (enc x) 0) (wr.drew.setCells g (o + (a + i) * k) (enc y)) = .ok () ((wr.drew.setCells g (o + (a + i) * k) (enc y)).setCells g (o + (b + i) * k) (enc x)) := hG1.store HK.out H1.out (by rw [List.length_set]; omega) x
      have hG2 := hG1.set_ HK.out (i := b + i) (by rw [List.length_set]; omega) x
      rw [hsm] at hG2
      have HG2 : Hid _ := hG2
      have hsX : (enc x).length = k := HK.out _
      have hsY : (enc y).length = k := HK.out _
      obtain ⟨cx, hcx⟩ : ∃ c, c = enc x := ⟨_, rfl⟩
      obtain ⟨cy, hcy⟩ : ∃ c, c = enc y := ⟨_, rfl⟩
      rw [← hcx] at la1 hsX s2
      rw [← hcy] at lb1 hsY s1 s2
      rw [← hcx, ← hcy] at HG2
      have q1 : (a : Int) + (i : Int) < (n : Int) := by omega
      have q2 : (b : Int) + (i : Int) < (n : Int) := by omega
      have q3 : (0 : Int) ≤ (a : Int) + (i : Int) := by omega
      have q4 : (0 : Int) ≤ (b : Int) + (i : Int) := by omega
      have q5 : ((a : Int) + (i : Int)).toNat = a + i := by omega
      have q6 : ((b : Int) + (i : Int)).toNat = b + i := by omega
      have hltz : (i : Int) < (c : Int) := by omega
      clear hC hC2 la lb dX dY tX tY hxx hyy hG hlen hgm hsm hGd hG1 hG2 hcx hcy e1 e2 e3 e4 e5 hx hy
      go_wp2_with fail
      go_big_region_o
      all_goals go_wp2
      go_roundg (c - (i + 1))
      case measure => omega
      case rel => exact ⟨i + 1, by go_num, by omega, by omega, ⟨HG2.out, ((HI.out.2.drew).sets _ _).sets _ _⟩⟩
    · have hltz : ¬ (i : Int) < (c : Int) := by omega
      obtain rfl : i = c := by omega
      have hfin : pre ++ Y.take i ++ X.drop i ++ M ++ X.take i ++ Y.drop i ++ post = pre ++ Y ++ M ++ X ++ post := by
        obtain ⟨e1, e2, e3, e4, e5⟩ := H0.out
        rw [List.take_of_length_le (l := Y) (by omega), List.drop_of_length_le (l := X) (by omega), List.take_of_length_le (l := X) (by omega), List.drop_of_length_le (l := Y) (by omega)]; simp
      have HF : Hid _ := hfin
      clear hfin
      go_wp2
      go_end0
      have hfw := HI.out.1
      rw [HF.out] at hfw
      exact ⟨rfl, by simpa [List.append_assoc] using hfw, HI.out.2⟩
end Go.Proofs.YtelglcakekgdeaaGreatDoor
namespace Go.Proofs.YtelglcakekgdeaaGreatDoor
set_option linter.unusedVariables false
set_option linter.unusedSimpArgs false
open Go.RowKit Go.Sort Go.Proofs
variable {P : Program} {α : Type} {enc : α → List Value} {k : Nat} {key : α → Int}

/-- A comparison that is handed on: below zero just if the first one goes ahead of the second one; it may make boxes. -/
structure CmpP (P : Program) (enc : α → List Value) (key : α → Int) (f : FuncId) (cf : α → α → Int) : Prop where
  e : ∀ args w, (callFunc f args).run P w = .ok (.enter f args) w
  c : ∀ (W : World) (x y : α), Calls P f #[.agg (enc x).toArray, .agg (enc y).toArray] W fun e w' => e = .returned (.int .i64 (cf x y)) ∧ ∃ q os, w' = Sort.grow (W.drewN q) os
  lt : ∀ x y, cf x y < 0 ↔ key y < key x
theorem ins_plain {U V : List α} {x : α} (hZ : Srt key (U ++ V)) (hV : ∀ y ∈ V, key y < key x) (hU : ∀ y ∈ U, key x ≤ key y) {T : List α} (hT : Eqv key T (U ++ V)) : Srt key (U ++ x :: V) ∧ Eqv key (T ++ [x]) (U ++ x :: V) := by
  obtain ⟨s1, s2, s3⟩ := srt_append.1 hZ
  refine ⟨srt_append.2 ⟨s1, List.pairwise_cons.2 ⟨fun y hy => by have := hV y hy; omega, s2⟩, fun y hy z hz => ?_⟩, ?_⟩
  · rcases List.mem_cons.1 hz with rfl | hz
    · exact hU y hy
    · exact s3 y hy z hz
  · have h1 : Eqv key (T ++ [x]) ((U ++ V) ++ [x]) := hT.append (Eqv.refl _)
    have h2 : Eqv key (V ++ [x]) ([x] ++ V) := Eqv.swap fun y hy z hz => by
      have h3 := hV y hy
      have h4 : z = x := by simpa using hz
      subst h4; omega
    have h5 := (Eqv.refl (key := key) U).append h2
    rw [← List.append_assoc] at h5
    exact h1.trans h5
set_option maxHeartbeats 8000000 in
set_option maxRecDepth 1000000 in
theorem insertion_any (S : SortP P k) (F : P.funcs[69]? = some Tryz.f69) (hk : ∀ x, (enc x).length = k) (h1 : ∀ x, ∀ v ∈ enc x, v.oneCell' = true)
    {f : FuncId} {cf : α → α → Int} (C : CmpP P enc key f cf) (g o cap n a b : Nat) (pre X post : List α) (ha : a = pre.length) (hb : b = pre.length + X.length) (hn : n = pre.length + X.length + post.length) (hsz : n ≤ 1000000)
    (w : World) (hW : GW enc k w g o (pre ++ X ++ post)) :
    Calls P 69 #[.slice (some ⟨g, o, none⟩) n cap, .int .i64 a, .int .i64 b, .func (.func f) #[] #[]] w fun e w' => e = .returned (.tuple #[]) ∧ ∃ Z : List α, (Z.length = X.length ∧ Srt key Z ∧ Eqv key X Z) ∧ GW enc k w' g o (pre ++ Z ++ post) ∧ Onl g w w' := by
  have mixed := S.mixed; have t0 := S.t0; have a0 := S.a0; have z0 := S.z0; have v0 := S.v0; have t3 := S.t3; have a3 := S.a3; have z3 := S.z3; have v3 := S.v3; have t4 := S.t4; have a4 := S.a4; have z4 := S.z4; have v4 := S.v4; have t22 := S.t22; have a22 := S.a22; have z22 := S.z22; have v22 := S.v22; have t25 := S.t25; have a25 := S.a25; have z25 := S.z25; have v25 := S.v25; have aE := S.aE; have zE := S.zE
  have und := run_underlying S.t22
  have hab : a ≤ b := by omega
  have hbn : b ≤ n := by omega
  have eg := C.e
  have HC := hid C
  have H0 : Hid (a = pre.length ∧ b = pre.length + X.length ∧ n = pre.length + X.length + post.length) := ⟨ha, hb, hn⟩
  have HK : Hid (∀ x, (enc x).length = k) := hk
  have H1 : Hid (∀ x, ∀ v ∈ enc x, v.oneCell' = true) := h1
  have HW : Hid (GW enc k w g o (pre ++ X ++ post)) := hW
  clear ha hb hn hk h1 hW C
  go_enter F, Tryz.ntmps69
  go_wp2
  go_loopg [8] (b - a) (fun g1 vi wr => ∃ (i : Nat) (Z : List α), vi = .int .i64 i ∧ a < i ∧ i ≤ b + 1 ∧ b + 1 - i ≤ g1 + 1 ∧ Hid (Z.length = (X.take (i - a)).length ∧ Srt key Z ∧ Eqv key (X.take (i - a)) Z ∧ GW enc k wr g o (pre ++ Z ++ (X.drop (i - a) ++ post)) ∧ Onl g w wr))
  case atStart =>
    refine ⟨a + 1, X.take 1, by go_num, by omega, by omega, by omega, ?_⟩
    rw [show a + 1 - a = 1 by omega]
    refine ⟨rfl, ?_, Eqv.refl _, ?_, Onl.refl _ _⟩
    · match X with
      | [] => exact srt_nil
      | [x] => exact srt_one x
      | x :: y :: r => exact srt_one x
    · have := HW.out
      have e : pre ++ X.take 1 ++ (X.drop 1 ++ post) = pre ++ X ++ post := by
        rw [← List.append_assoc, List.append_assoc pre, List.take_append_drop]
      rw [e]; exact this
  case round =>
    obtain ⟨i, Z, rfl, hai, hib, hg1, HO⟩ := hrel
    by_cases hlt : i < b
    · have hltz : (i : Int) < (b : Int) := by omega
      obtain ⟨d1, d2, d3⟩ := H0.out
      have hxi : i - a < X.length := by omega
      obtain ⟨x, hxx⟩ : ∃ x, X[i - a] = x := ⟨_, rfl⟩
      have dX : X.drop (i - a) = x :: X.drop (i + 1 - a) := by rw [← hxx, show i + 1 - a = (i - a) + 1 by omega]; exact List.drop_eq_getElem_cons hxi
      have tX : X.take (i + 1 - a) = X.take (i - a) ++ [x] := by rw [← hxx, show i + 1 - a = (i - a) + 1 by omega]; exact List.take_succ_eq_append_getElem hxi
      have hZl : Z.length = i - a := by have := HO.out.1; rw [List.length_take] at this; omega
      have HX := hid (And.intro dX (And.intro tX hZl))
      have hstart : GW enc k wr g o (pre ++ Z ++ x :: ([] ++ (X.drop (i + 1 - a) ++ post))) := by
        have := HO.out.2.2.2.1
        rw [dX] at this
        simpa [List.append_assoc] using this
      have HST := hid hstart
      have HR := hid (show n = pre.length + Z.length + 1 + (X.drop (i + 1 - a) ++ post).length by simp; omega)
      clear dX tX hxx hxi hstart d1 d2 d3
      generalize hrest : X.drop (i + 1 - a) ++ post = rest at *
      have HREST := hid hrest
      clear hrest
      go_wp2
      go_loopg [9] i (fun g2 vj wr2 => ∃ (j : Nat) (U V : List α), vj = .int .i64 j ∧ a ≤ j ∧ j ≤ i ∧ j ≤ g2 ∧ Hid (Z = U ++ V ∧ j = pre.length + U.length ∧ (∀ y ∈ V, key y < key x) ∧ GW enc k wr2 g o (pre ++ U ++ x :: (V ++ rest)) ∧ Onl g w wr2))
      case atStart =>
        refine ⟨i, Z, [], rfl, by omega, Nat.le_refl _, Nat.le_refl _, ⟨by simp, ?_, by simp, HST.out, HO.out.2.2.2.2⟩⟩
        have := H0.out.1; omega
      case round =>
        obtain ⟨j, U, V, rfl, haj, hji, hg2, HI⟩ := hrel
        by_cases hja : a < j
        · have hjaz : (a : Int) < (j : Int) := by omega
          obtain ⟨jp, rfl⟩ : ∃ jp, j = jp + 1 := ⟨j - 1, by omega⟩
          obtain ⟨f1, f2, f3, f4, f5⟩ := HI.out
          have hUne : U ≠ [] := by
            rintro rfl
            have := H0.out.1
            simp at f2; omega
          obtain ⟨U', u, rfl⟩ : ∃ U' u, U = U' ++ [u] := ⟨U.dropLast, U.getLast hUne, (List.dropLast_concat_getLast hUne).symm⟩
          have hCl : pre ++ (U' ++ [u]) ++ x :: (V ++ rest) = (pre ++ U') ++ u :: [] ++ x :: (V ++ rest) := by simp
          have hCs : (pre ++ U') ++ x :: [] ++ u :: (V ++ rest) = pre ++ U' ++ x :: ((u :: V) ++ rest) := by simp
          have lp : (pre ++ U').length = jp := by simp at f2 ⊢; omega
          have lq : (pre ++ U').length + 1 + ([] : List α).length = jp + 1 := by simp at f2 ⊢; omega
          have hgm := get_mid (pre ++ U') [] (V ++ rest) u x
          have hsm := swap_mid' (pre ++ U') [] (V ++ rest) u x
          have hlen : ((pre ++ U') ++ u :: [] ++ x :: (V ++ rest)).length = n := by
            have h2 := HR.out
            have h3 := congrArg List.length f1
            simp at h3 h2 ⊢; omega
          rw [lq, lp] at hsm
          rw [lq, lp] at hgm
          rw [hCs] at hsm
          rw [hCl] at f4
          generalize hCC : (pre ++ U') ++ u :: [] ++ x :: (V ++ rest) = CC at *
          have hwp : IntKind.i64.wrap (jp : Int) = (jp : Int) := by rw [IntKind.wrap_i64]; omega
          have jz : (jp : Int) + 1 < (n : Int) := by omega
          have jz1 : (jp : Int) < (n : Int) := by omega
          have hjaz' : (a : Int) < (jp : Int) + 1 := by omega
          have p0 : (0 : Int) ≤ (jp : Int) + 1 := by omega
          have e0 : ((jp : Int) + 1).toNat = jp + 1 := by omega
          have lj : ∀ n' os', Sem.run P (loadCellsFrom ⟨g, o + (jp + 1) * k, none⟩ 0 k #[]) (Sort.grow (wr.drewN n') os') = .ok (enc x).toArray (Sort.grow (wr.drewN n') os') := fun n' os' => (f4.grown n' os').load HK.out hgm.2
          have lp1 : ∀ n' os', Sem.run P (loadCellsFrom ⟨g, o + jp * k, none⟩ 0 k #[]) (Sort.grow (wr.drewN n') os') = .ok (enc u).toArray (Sort.grow (wr.drewN n') os') := fun n' os' => (f4.grown n' os').load HK.out hgm.1
          have hcg : ∀ n' os', Calls P f #[.agg (enc x).toArray, .agg (enc u).toArray] (Sort.grow (wr.drewN n') os') fun e w' => e = .returned (.int .i64 (cf x u)) ∧ ∃ q os'', w' = Sort.grow ((Sort.grow (wr.drewN n') os').drewN q) os'' := fun n' os' => HC.out.c _ x u
          have HF := hid (And.intro f1 (And.intro f2 (And.intro f3 (And.intro f4 f5))))
          have HG := hid (And.intro hgm (And.intro hsm (And.intro hlen hCC)))
          clear f1 f2 f3 f4 f5 hgm hsm hlen lp lq hCl hCs hUne HI hCC
          by_cases hlv : cf x u < 0
          · have HLT := hid ((HC.out.lt x u).1 hlv)
            go_wp2_with fail
            go_quiet_grown (first | (go_at_fn f; refine Calls.grown_of (hcg _ _)))
            go_wp2_with fail
            have hGd : GW enc k (Sort.grow (wr.drewN nq) osq).drew g o CC := (HF.out.2.2.2.1.grown nq osq).drew
            have hOn : Onl g w (Sort.grow (wr.drewN nq) osq).drew := ((HF.out.2.2.2.2.drewN nq).grow osq).drew
            clear lj lp1 hcg
            generalize (Sort.grow (wr.drewN nq) osq) = wq2 at hGd hOn ⊢
            have hgm := HG.out.1
            have lj2 : Sem.run P (loadCellsFrom ⟨g, o + (jp + 1) * k, none⟩ 0 k #[]) wq2.drew = .ok (enc x).toArray wq2.drew := hGd.load HK.out hgm.2
            have lp2 : Sem.run P (loadCellsFrom ⟨g, o + jp * k, none⟩ 0 k #[]) wq2.drew = .ok (enc u).toArray wq2.drew := hGd.load HK.out hgm.1
            have s1 : Sem.run P (storeCells ⟨g, o + (jp + 1) * k, none⟩ (enc u) 0) wq2.drew = .ok () (wq2.drew.setCells g (o + (jp + 1) * k) (enc u)) := hGd.store HK.out H1.out (by have := HG.out.2.2.1; omega) u
            have hG1 := hGd.set_ HK.out (i := jp + 1) (by have := HG.out.2.2.1; omega) u
            have s2 : Sem.run P (storeCells ⟨g, o + jp * k, none⟩ (enc x) 0) (wq2.drew.setCells g (o + (jp + 1) * k) (enc u)) = .ok () ((wq2.drew.setCells g (o + (jp + 1) * k) (enc u)).setCells g (o + jp * k) (enc x)) := hG1.store HK.out H1.out (by have := HG.out.2.2.1; rw [List.length_set]; omega) x
            have hG2 := hG1.set_ HK.out (i := jp) (by have := HG.out.2.2.1; rw [List.length_set]; omega) x
            rw [HG.out.2.1] at hG2
            have HG2 : Hid _ := hG2
            have HON := hid hOn
            have hsX : (enc x).length = k := HK.out _
            have hsY : (enc u).length = k := HK.out _
            obtain ⟨cx, hcx⟩ : ∃ c, c = enc x := ⟨_, rfl⟩
            obtain ⟨cy, hcy⟩ : ∃ c, c = enc u := ⟨_, rfl⟩
            rw [← hcx] at lj2 hsX s2
            rw [← hcy] at lp2 hsY s1 s2
            rw [← hcx, ← hcy] at HG2
            clear hgm hGd hG1 hG2 hcx hcy hOn
            go_big_region_o
            all_goals go_wp2
            go_roundg jp
            case measure => omega
            case rel =>
              obtain ⟨f1, f2, f3, f4, f5⟩ := HF.out
              refine ⟨jp, U', u :: V, by first | rfl | go_num | (congr 1; omega), by omega, by omega, Nat.le_refl _, ⟨by rw [f1]; simp, by simp at f2; omega, fun y hy => ?_, HG2.out, (HON.out.sets _ _).sets _ _⟩⟩
              rcases List.mem_cons.1 hy with rfl | hy
              · exact HLT.out
              · exact f3 y hy
          · have HLT := hid (show key x ≤ key u by
              have := HC.out.lt x u
              by_cases h : key u < key x
              · exact absurd (this.2 h) hlv
              · omega)
            go_wp2_with fail
            go_quiet_grown (first | (go_at_fn f; refine Calls.grown_of (hcg _ _)))
            go_wp2
            go_roundg (b - (i + 1))
            case measure => omega
            case rel =>
              obtain ⟨f1, f2, f3, f4, f5⟩ := HF.out
              obtain ⟨o1, o2, o3, o4, o5⟩ := HO.out
              obtain ⟨x1, x2, x3⟩ := HX.out
              have hp := ins_plain (x := x) (f1 ▸ o2) f3 (fun y hy => by
                have hs := f1 ▸ o2
                have hsu := (srt_append.1 hs).1
                rcases List.mem_append.1 hy with hy | hy
                · have := (srt_append.1 hsu).2.2 y hy u (by simp)
                  have := HLT.out; omega
                · have : y = u := by simpa using hy
                  rw [this]; exact HLT.out) (f1 ▸ o3)
              refine ⟨i + 1, (U' ++ [u]) ++ x :: V, by go_num, by omega, by omega, by omega, ⟨?_, hp.1, by rw [x2]; exact hp.2, ?_, (f5.drewN _).grow _⟩⟩
              · have h3 := congrArg List.length f1
                rw [x2]
                simp at h3 o1 ⊢; omega
              · have hgg := f4.grown nq osq
                rw [← HG.out.2.2.2] at hgg
                rw [HREST.out]
                simpa [List.append_assoc] using hgg
        · have hjaz : decide ((j : Int) > (a : Int)) = false := decide_eq_false (by omega)
          have hjaz' : ¬ (a : Int) < (j : Int) := by omega
          have HW2 := hid (And.intro HI.out.2.2.2.1.drew HI.out.2.2.2.2.drew)
          have HII := hid (And.intro HI.out.1 (And.intro HI.out.2.1 HI.out.2.2.1))
          clear HI
          go_wp2_with fail
          go_big_region_o
          all_goals go_wp2
          go_roundg (b - (i + 1))
          case measure => omega
          case rel =>
            obtain ⟨f1, f2, f3⟩ := HII.out
            obtain ⟨o1, o2, o3, o4, o5⟩ := HO.out
            obtain ⟨x1, x2, x3⟩ := HX.out
            have hU0 : U = [] := List.eq_nil_of_length_eq_zero (by have := H0.out.1; omega)
            subst hU0
            have hp := ins_plain (x := x) (U := []) (f1 ▸ o2) f3 (by simp) (f1 ▸ o3)
            refine ⟨i + 1, x :: V, by go_num, by omega, by omega, by omega, ⟨?_, hp.1, by rw [x2]; exact hp.2, ?_, HW2.out.2⟩⟩
            · have h3 := congrArg List.length f1
              rw [x2]
              simp at h3 o1 ⊢; omega
            · have hgg := HW2.out.1
              rw [HREST.out]
              simpa [List.append_assoc] using hgg
    · have hltz : ¬ (i : Int) < (b : Int) := by omega
      go_wp2
      go_end0
      obtain ⟨o1, o2, o3, o4, o5⟩ := HO.out
      obtain ⟨d1, d2, d3⟩ := H0.out
      rw [List.take_of_length_le (by omega)] at o1 o3
      rw [List.drop_of_length_le (by omega), List.nil_append] at o4
      exact ⟨rfl, Z, ⟨o1, o2, o3⟩, by simpa [List.append_assoc] using o4, o5⟩
end Go.Proofs.YtelglcakekgdeaaGreatDoor
namespace Go.Proofs.YtelglcakekgdeaaGreatDoor
set_option linter.unusedVariables false
set_option linter.unusedSimpArgs false
open Go.RowKit Go.Sort Go.Proofs
variable {P : Program} {α : Type} {enc : α → List Value} {k : Nat} {key : α → Int}

theorem ins_front {U V : List α} {x : α} (hZ : Srt key (U ++ V)) (hU : ∀ y ∈ U, key x < key y) (hV : ∀ y ∈ V, key y ≤ key x) : Srt key (U ++ x :: V) ∧ Eqv key (x :: (U ++ V)) (U ++ x :: V) := by
  obtain ⟨s1, s2, s3⟩ := srt_append.1 hZ
  refine ⟨srt_append.2 ⟨s1, List.pairwise_cons.2 ⟨fun y hy => hV y hy, s2⟩, fun y hy z hz => ?_⟩, ?_⟩
  · rcases List.mem_cons.1 hz with rfl | hz
    · have := hU y hy; omega
    · exact s3 y hy z hz
  · have h2 : Eqv key ([x] ++ U) (U ++ [x]) := Eqv.swap fun z hz y hy => by
      have h3 := hU y hy
      have h4 : z = x := by simpa using hz
      subst h4; omega
    have := h2.append (Eqv.refl (key := key) V)
    simpa using this
theorem half_lt {i j : Nat} (h : i < j) : i ≤ (i + j) / 2 ∧ (i + j) / 2 < j := by omega
set_option maxHeartbeats 8000000 in
set_option maxRecDepth 1000000 in
theorem symMerge_one (S : SortP P k) (F : P.funcs[70]? = some Tryz.f70) (hk : ∀ x, (enc x).length = k) (h1 : ∀ x, ∀ v ∈ enc x, v.oneCell' = true)
    {f : FuncId} {cf : α → α → Int} (C : CmpP P enc key f cf) (g o cap n a m b : Nat) (pre Y post : List α) (x : α) (ha : a = pre.length) (hm : m = a + 1) (hb : b = m + Y.length) (hn : n = b + post.length) (hsz : n ≤ 1000000) (hY : Srt key Y)
    (w : World) (hW : GW enc k w g o (pre ++ [x] ++ Y ++ post)) :
    Calls P 70 #[.slice (some ⟨g, o, none⟩) n cap, .int .i64 a, .int .i64 m, .int .i64 b, .func (.func f) #[] #[]] w fun e w' => e = .returned (.tuple #[]) ∧ ∃ Z : List α, (Z.length = 1 + Y.length ∧ Srt key Z ∧ Eqv key ([x] ++ Y) Z) ∧ GW enc k w' g o (pre ++ Z ++ post) ∧ Onl g w w' := by
  have mixed := S.mixed; have t0 := S.t0; have a0 := S.a0; have z0 := S.z0; have v0 := S.v0; have t3 := S.t3; have a3 := S.a3; have z3 := S.z3; have v3 := S.v3; have t4 := S.t4; have a4 := S.a4; have z4 := S.z4; have v4 := S.v4; have t22 := S.t22; have a22 := S.a22; have z22 := S.z22; have v22 := S.v22; have t25 := S.t25; have a25 := S.a25; have z25 := S.z25; have v25 := S.v25; have aE := S.aE; have zE := S.zE; have tu := S.tu; have au := S.au; have zu := S.zu; have vu := S.vu
  have und := run_underlying S.t22
  have undu := run_underlying S.tu
  have und3 := run_underlying S.t3
  have hma : (((m : Int) - (a : Int)) == 1) = true := by rw [beq_iff_eq]; omega
  have hmb : m ≤ b := by omega
  have hbn : b ≤ n := by omega
  have ham : a < m := by omega
  have eg := C.e
  have HC := hid C
  have H0 : Hid (a = pre.length ∧ m = a + 1 ∧ b = m + Y.length ∧ n = b + post.length) := ⟨ha, hm, hb, hn⟩
  have HK : Hid (∀ x, (enc x).length = k) := hk
  have H1 : Hid (∀ x, ∀ v ∈ enc x, v.oneCell' = true) := h1
  have HW : Hid (GW enc k w g o (pre ++ [x] ++ Y ++ post)) := hW
  have HS : Hid (Srt key Y) := hY
  clear ha hm hb hn hk h1 hW C hY
  go_enter F, Tryz.ntmps70
  go_wp2_with fail
  go_loopg [10, 11] (b - m) (fun g1 vi vj wr => ∃ (i j : Nat), vi = .int .i64 i ∧ vj = .int .i64 j ∧ m ≤ i ∧ i ≤ j ∧ j ≤ b ∧ j - i ≤ g1 ∧ Hid ((i = m ∨ key x < kat key Y (i - 1 - m)) ∧ (j = b ∨ kat key Y (j - m) ≤ key x) ∧ GW enc k wr g o (pre ++ [x] ++ Y ++ post) ∧ Onl g w wr))
  case atStart => exact ⟨m, b, rfl, rfl, by omega, by omega, by omega, by omega, ⟨Or.inl rfl, Or.inl rfl, HW.out, Onl.refl _ _⟩⟩
  case round =>
    obtain ⟨i, j, rfl, rfl, hmi, hij, hjb, hg1, HI⟩ := hrel
    by_cases hlt : i < j
    · have hltz : (i : Int) < (j : Int) := by omega
      obtain ⟨h, hh, hih, hhj⟩ : ∃ h : Nat, ((i : Int) + (j : Int)) / 2 = (h : Int) ∧ i ≤ h ∧ h < j := ⟨(i + j) / 2, by omega, by omega, by omega⟩
      obtain ⟨d1, d2, d3, d4⟩ := H0.out
      have hYh : h - m < Y.length := by omega
      obtain ⟨y, hyy⟩ : ∃ y, Y[h - m]? = some y := ⟨_, List.getElem?_eq_getElem hYh⟩
      have hky := kat_eq (key := key) hyy
      have ga : (pre ++ [x] ++ Y ++ post)[a]? = some x := by
        rw [List.append_assoc, List.append_assoc, List.getElem?_append_right (by omega), d1, Nat.sub_self]; simp
      have gh : (pre ++ [x] ++ Y ++ post)[h]? = some y := by
        rw [List.append_assoc, List.getElem?_append_right (by simp; omega), List.getElem?_append_left (by simp; omega)]
        rw [← hyy]; congr 1; simp; omega
      have hG := HI.out.2.2.1
      have HWO := hid (And.intro hG HI.out.2.2.2)
      have la : ∀ n' os', Sem.run P (loadCellsFrom ⟨g, o + a * k, none⟩ 0 k #[]) (Sort.grow (wr.drewN n') os') = .ok (enc x).toArray (Sort.grow (wr.drewN n') os') := fun n' os' => (hG.grown n' os').load HK.out ga
      have lh : ∀ n' os', Sem.run P (loadCellsFrom ⟨g, o + h * k, none⟩ 0 k #[]) (Sort.grow (wr.drewN n') os') = .ok (enc y).toArray (Sort.grow (wr.drewN n') os') := fun n' os' => (hG.grown n' os').load HK.out gh
      have hcg : ∀ n' os', Calls P f #[.agg (enc y).toArray, .agg (enc x).toArray] (Sort.grow (wr.drewN n') os') fun e w' => e = .returned (.int .i64 (cf y x)) ∧ ∃ q os'', w' = Sort.grow ((Sort.grow (wr.drewN n') os').drewN q) os'' := fun n' os' => HC.out.c _ y x
      have HKY := hid hky
      have HB := hid (And.intro HI.out.1 HI.out.2.1)
      have qa : (a : Int) < (n : Int) := by omega
      have qh : (h : Int) < (n : Int) := by omega
      clear d1 d2 d3 d4 hYh hyy hky ga gh hG HI
      go_upto_region 5 with (fail)
      clear hh
      by_cases hlv : cf y x < 0
      · have HLT := hid ((HC.out.lt y x).1 hlv)
        go_wp2_with fail
        go_quiet_grown (first | (go_at_fn f; refine Calls.grown_of (hcg _ _)))
        go_wp2_with fail
        go_roundg (j - (h + 1))
        case measure => omega
        case rel =>
          refine ⟨h + 1, j, by go_num, rfl, by omega, by omega, hjb, by omega, ⟨Or.inr ?_, HB.out.2, HWO.out.1.grown _ _, (HWO.out.2.drewN _).grow _⟩⟩
          rw [show h + 1 - 1 - m = h - m by omega, HKY.out]; exact HLT.out
      · have HLT := hid (show key y ≤ key x by
          have := HC.out.lt y x
          by_cases h : key x < key y
          · exact absurd (this.2 h) hlv
          · omega)
        go_wp2_with fail
        go_quiet_grown (first | (go_at_fn f; refine Calls.grown_of (hcg _ _)))
        go_wp2_with fail
        go_roundg (h - i)
        case measure => omega
        case rel =>
          refine ⟨i, h, rfl, rfl, hmi, by omega, by omega, by omega, ⟨HB.out.1, Or.inr ?_, HWO.out.1.grown _ _, (HWO.out.2.drewN _).grow _⟩⟩
          rw [HKY.out]; exact HLT.out
    · obtain rfl : i = j := by omega
      have hltz : ¬ (i : Int) < (i : Int) := by omega
      obtain ⟨t, rfl⟩ : ∃ t, i = m + t := ⟨i - m, by omega⟩
      obtain ⟨d1, d2, d3, d4⟩ := H0.out
      have ht : t ≤ Y.length := by omega
      have hx0 : kat key [x] 0 = key x := rfl
      have f2 := split_lt (key := key) (X := [x]) (Y := Y) (srt_one x) HS.out (s := 0) (e := t) (by simp) ht (by
        rcases HI.out.1 with h | h
        · exact Or.inr (Or.inl (by omega))
        · by_cases h0 : t = 0
          · exact Or.inr (Or.inl h0)
          · exact Or.inr (Or.inr ⟨by simp, by rw [hx0]; rwa [show m + t - 1 - m = t - 1 by omega] at h⟩))
      have f1 := split_ge (key := key) (X := [x]) (Y := Y) (srt_one x) HS.out (s := 1) (e := t) (by simp) ht (by
        rcases HI.out.2.1 with h | h
        · exact Or.inr (Or.inl (by omega))
        · by_cases h0 : t = Y.length
          · exact Or.inr (Or.inl h0)
          · exact Or.inr (Or.inr ⟨by omega, by rw [show 1 - 1 = 0 from rfl, hx0]; rwa [show m + t - m = t by omega] at h⟩))
      have hYs : Y = Y.take t ++ Y.drop t := (List.take_append_drop _ _).symm
      have l1 : (Y.take t).length = t := by simp; omega
      have hZ := ins_front (x := x) (U := Y.take t) (V := Y.drop t) (by rw [← hYs]; exact HS.out) (fun y hy => f2 x (by simp) y hy) (fun y hy => f1 x (by simp) y hy)
      have hG := HI.out.2.2.1
      have hO := HI.out.2.2.2
      rw [hYs] at hG
      rw [← hYs] at hZ
      have HZ := hid hZ
      have HL := hid (show (Y.take t).length + (Y.drop t).length = Y.length by simp; omega)
      generalize Y.take t = U at *
      generalize Y.drop t = V at *
      have HW2 := hid (And.intro hG hO)
      have hmt : m + t ≤ b := by omega
      clear HI f1 f2 hYs hZ hG hO hx0 ht
      have HLU := hid l1
      clear l1 d1 d2 d3 d4
      go_wp2_with fail
      go_loopg [13] t (fun g1 vi wr => ∃ c : Nat, vi = .int .i64 ((a + c : Nat) : Int) ∧ c ≤ t ∧ t - c ≤ g1 ∧ Hid (GW enc k wr g o (pre ++ U.take c ++ x :: (U.drop c ++ V ++ post)) ∧ Onl g w wr))
      case atStart => exact ⟨0, rfl, by omega, by omega, ⟨by simpa [List.append_assoc] using HW2.out.1, HW2.out.2⟩⟩
      case round =>
        obtain ⟨c, rfl, hct, hg2, HI⟩ := hrel
        have hwm : (m : Int) + (t : Int) - 1 = ((a + t : Nat) : Int) := by have := H0.out.2.1; omega
        by_cases hlt2 : c < t
        · obtain ⟨y, hyy⟩ : ∃ y, U[c]'(by have := HLU.out; omega) = y := ⟨_, rfl⟩
          have dU : U.drop c = y :: U.drop (c + 1) := by rw [← hyy]; exact List.drop_eq_getElem_cons _
          have tU : U.take (c + 1) = U.take c ++ [y] := by rw [← hyy]; exact List.take_succ_eq_append_getElem _
          have hG := HI.out.1
          rw [dU] at hG
          have hCl : pre ++ U.take c ++ x :: (y :: U.drop (c + 1) ++ V ++ post) = (pre ++ U.take c) ++ x :: [] ++ y :: (U.drop (c + 1) ++ V ++ post) := by simp
          have hCs : (pre ++ U.take c) ++ y :: [] ++ x :: (U.drop (c + 1) ++ V ++ post) = pre ++ U.take (c + 1) ++ x :: (U.drop (c + 1) ++ V ++ post) := by rw [tU]; simp
          have lp : (pre ++ U.take c).length = a + c := by have := HLU.out; have := H0.out.1; simp; omega
          have lq : (pre ++ U.take c).length + 1 + ([] : List α).length = a + c + 1 := by rw [lp]; rfl
          have hgm := get_mid (pre ++ U.take c) [] (U.drop (c + 1) ++ V ++ post) x y
          have hsm := swap_mid (pre ++ U.take c) [] (U.drop (c + 1) ++ V ++ post) x y
          have hlen : ((pre ++ U.take c) ++ x :: [] ++ y :: (U.drop (c + 1) ++ V ++ post)).length = n := by
            have h3 := HL.out; have h4 := HLU.out
            obtain ⟨d1, d2, d3, d4⟩ := H0.out
            simp; omega
          rw [lq, lp] at hsm
          rw [lq, lp] at hgm
          rw [hCs] at hsm
          rw [hCl] at hG
          generalize (pre ++ U.take c) ++ x :: [] ++ y :: (U.drop (c + 1) ++ V ++ post) = CC at *
          have hGd := hG.drew
          have la1 : Sem.run P (loadCellsFrom ⟨g, o + (a + c) * k, none⟩ 0 k #[]) wr.drew = .ok (enc x).toArray wr.drew := hGd.load HK.out hgm.1
          have lb1 : Sem.run P (loadCellsFrom ⟨g, o + (a + c + 1) * k, none⟩ 0 k #[]) wr.drew = .ok (enc y).toArray wr.drew := hGd.load HK.out hgm.2
          have s1 : Sem.run P (storeCells ⟨g, o + (a + c) * k, none⟩ (enc y) 0) wr.drew = .ok () (wr.drew.setCells g (o + (a + c) * k) (enc y)) := hGd.store HK.out H1.out (by omega) y
          have hG1 := hGd.set_ HK.out (i := a + c) (by omega) y
          have s2 : Sem.run P (storeCells ⟨g, o + (a + c + 1) * k, none⟩ (enc x) 0) (wr.drew.setCells g (o + (a + c) * k) (enc y)) = .ok () ((wr.drew.setCells g (o + (a + c) * k) (enc y)).setCells g (o + (a + c + 1) * k) (enc x)) := hG1.store HK.out H1.out (by rw [List.length_set]; omega) x
          have hG2 := hG1.set_ HK.out (i := a + c + 1) (by rw [List.length_set]; omega) x
          rw [hsm] at hG2
          have HG2 : Hid _ := hG2
          have hsX : (enc x).length = k := HK.out _
          have hsY : (enc y).length = k := HK.out _
          obtain ⟨cx, hcx⟩ : ∃ c, c = enc x := ⟨_, rfl⟩
          obtain ⟨cy, hcy⟩ : ∃ c, c = enc y := ⟨_, rfl⟩
          rw [← hcx] at la1 hsX s2
          rw [← hcy] at lb1 hsY s1 s2
          rw [← hcx, ← hcy] at HG2
          have HON := hid HI.out.2
          generalize hac : a + c = ac at *
          have q1 : (ac : Int) + 1 < (n : Int) := by omega
          have q2 : (ac : Int) < (n : Int) := by omega
          have q3 : (0 : Int) ≤ (ac : Int) + 1 := by omega
          have q5 : ((ac : Int) + 1).toNat = ac + 1 := by omega
          have hltz : (ac : Int) < (m : Int) + (t : Int) - 1 := by omega
          clear hyy dU tU hCl hCs lp lq hgm hsm hlen hGd hG hG1 hG2 hcx hcy HI
          go_wp2_with fail
          go_big_region_o
          all_goals go_wp2
          go_roundg (t - (c + 1))
          case measure => omega
          case rel => exact ⟨c + 1, by first | go_num | (congr 1; omega), by omega, by omega, ⟨HG2.out, ((HON.out.drew).sets _ _).sets _ _⟩⟩
        · obtain rfl : c = t := by omega
          have hltz : ¬ ((a + c : Nat) : Int) < (m : Int) + (c : Int) - 1 := by omega
          have hfin := HI.out.1
          rw [List.take_of_length_le (by have := HLU.out; omega), List.drop_of_length_le (by have := HLU.out; omega)] at hfin
          have HF := hid hfin
          clear hfin
          go_wp2
          go_returns
          exact ⟨rfl, U ++ x :: V, ⟨by have := HL.out; simp; omega, HZ.out.1, by simpa using HZ.out.2⟩, by simpa [List.append_assoc] using HF.out, HI.out.2⟩
end Go.Proofs.YtelglcakekgdeaaGreatDoor
namespace Go.Proofs.YtelglcakekgdeaaGreatDoor
set_option linter.unusedVariables false
set_option linter.unusedSimpArgs false
open Go.RowKit Go.Sort Go.Proofs
variable {P : Program} {α : Type} {enc : α → List Value} {k : Nat} {key : α → Int}

set_option maxHeartbeats 8000000 in
set_option maxRecDepth 1000000 in
theorem symMerge_two (S : SortP P k) (F : P.funcs[70]? = some Tryz.f70) (hk : ∀ x, (enc x).length = k) (h1 : ∀ x, ∀ v ∈ enc x, v.oneCell' = true)
    {f : FuncId} {cf : α → α → Int} (C : CmpP P enc key f cf) (g o cap n a m b : Nat) (pre X post : List α) (y : α) (ha : a = pre.length) (hm : m = a + X.length) (hX2 : 1 < X.length) (hb : b = m + 1) (hn : n = b + post.length) (hsz : n ≤ 1000000) (hX : Srt key X)
    (w : World) (hW : GW enc k w g o (pre ++ X ++ [y] ++ post)) :
    Calls P 70 #[.slice (some ⟨g, o, none⟩) n cap, .int .i64 a, .int .i64 m, .int .i64 b, .func (.func f) #[] #[]] w fun e w' => e = .returned (.tuple #[]) ∧ ∃ Z : List α, (Z.length = X.length + 1 ∧ Srt key Z ∧ Eqv key (X ++ [y]) Z) ∧ GW enc k w' g o (pre ++ Z ++ post) ∧ Onl g w w' := by
  have mixed := S.mixed; have t0 := S.t0; have a0 := S.a0; have z0 := S.z0; have v0 := S.v0; have t3 := S.t3; have a3 := S.a3; have z3 := S.z3; have v3 := S.v3; have t4 := S.t4; have a4 := S.a4; have z4 := S.z4; have v4 := S.v4; have t22 := S.t22; have a22 := S.a22; have z22 := S.z22; have v22 := S.v22; have t25 := S.t25; have a25 := S.a25; have z25 := S.z25; have v25 := S.v25; have aE := S.aE; have zE := S.zE; have tu := S.tu; have au := S.au; have zu := S.zu; have vu := S.vu
  have und := run_underlying S.t22
  have undu := run_underlying S.tu
  have und3 := run_underlying S.t3
  have enot2 : ∀ (x : Bool) (w : World), (Op.unary .not (.bool x)).run P w = .ok (.bool (!x)) w := fun _ _ => rfl
  have hma : (((m : Int) - (a : Int)) == 1) = false := by rw [beq_eq_false_iff_ne]; omega
  have hmb : (((b : Int) - (m : Int)) == 1) = true := by rw [beq_iff_eq]; omega
  have hbn : b ≤ n := by omega
  have hm_b : m < b := by omega
  have ham : a < m := by omega
  have eg := C.e
  have HC := hid C
  have H0 : Hid (a = pre.length ∧ m = a + X.length ∧ b = m + 1 ∧ n = b + post.length) := ⟨ha, hm, hb, hn⟩
  have HK : Hid (∀ x, (enc x).length = k) := hk
  have H1 : Hid (∀ x, ∀ v ∈ enc x, v.oneCell' = true) := h1
  have HW : Hid (GW enc k w g o (pre ++ X ++ [y] ++ post)) := hW
  have HS : Hid (Srt key X) := hX
  clear ha hm hb hn hk h1 hW C hX hX2
  go_enter F, Tryz.ntmps70
  go_wp2_with fail
  go_loopg [14, 15] (m - a) (fun g1 vi vj wr => ∃ (i j : Nat), vi = .int .i64 i ∧ vj = .int .i64 j ∧ a ≤ i ∧ i ≤ j ∧ j ≤ m ∧ j - i ≤ g1 ∧ Hid ((i = a ∨ key y ≤ kat key X (i - 1 - a)) ∧ (j = m ∨ kat key X (j - a) < key y) ∧ GW enc k wr g o (pre ++ X ++ [y] ++ post) ∧ Onl g w wr))
  case atStart => exact ⟨a, m, rfl, rfl, by omega, by omega, by omega, by omega, ⟨Or.inl rfl, Or.inl rfl, HW.out, Onl.refl _ _⟩⟩
  case round =>
    obtain ⟨i, j, rfl, rfl, hai, hij, hjm, hg1, HI⟩ := hrel
    by_cases hlt : i < j
    · have hltz : (i : Int) < (j : Int) := by omega
      obtain ⟨h, hh, hih, hhj⟩ : ∃ h : Nat, ((i : Int) + (j : Int)) / 2 = (h : Int) ∧ i ≤ h ∧ h < j := ⟨(i + j) / 2, by omega, by omega, by omega⟩
      obtain ⟨d1, d2, d3, d4⟩ := H0.out
      have hXh : h - a < X.length := by omega
      obtain ⟨x, hxx⟩ : ∃ x, X[h - a]? = some x := ⟨_, List.getElem?_eq_getElem hXh⟩
      have hkx := kat_eq (key := key) hxx
      have gm : (pre ++ X ++ [y] ++ post)[m]? = some y := by
        rw [List.append_assoc, List.getElem?_append_right (by simp; omega)]
        rw [show m - (pre ++ X).length = 0 by simp; omega]; simp
      have gh : (pre ++ X ++ [y] ++ post)[h]? = some x := by
        rw [List.append_assoc, List.getElem?_append_left (by simp; omega), List.getElem?_append_right (by omega)]
        rw [← hxx]; congr 1; omega
      have hG := HI.out.2.2.1
      have HWO := hid (And.intro hG HI.out.2.2.2)
      have la : ∀ n' os', Sem.run P (loadCellsFrom ⟨g, o + m * k, none⟩ 0 k #[]) (Sort.grow (wr.drewN n') os') = .ok (enc y).toArray (Sort.grow (wr.drewN n') os') := fun n' os' => (hG.grown n' os').load HK.out gm
      have lh : ∀ n' os', Sem.run P (loadCellsFrom ⟨g, o + h * k, none⟩ 0 k #[]) (Sort.grow (wr.drewN n') os') = .ok (enc x).toArray (Sort.grow (wr.drewN n') os') := fun n' os' => (hG.grown n' os').load HK.out gh
      have hcg : ∀ n' os', Calls P f #[.agg (enc y).toArray, .agg (enc x).toArray] (Sort.grow (wr.drewN n') os') fun e w' => e = .returned (.int .i64 (cf y x)) ∧ ∃ q os'', w' = Sort.grow ((Sort.grow (wr.drewN n') os').drewN q) os'' := fun n' os' => HC.out.c _ y x
      have HKX := hid hkx
      have HB := hid (And.intro HI.out.1 HI.out.2.1)
      have qm : (m : Int) < (n : Int) := by omega
      have qh : (h : Int) < (n : Int) := by omega
      clear d1 d2 d3 d4 hXh hxx hkx gm gh hG HI
      go_upto_region 17 with (fail)
      clear hh
      by_cases hlv : cf y x < 0
      · have HLT := hid ((HC.out.lt y x).1 hlv)
        go_wp2_with fail
        go_quiet_grown (first | (go_at_fn f; refine Calls.grown_of (hcg _ _)))
        go_wp2_with fail
        go_roundg (h - i)
        case measure => omega
        case rel =>
          refine ⟨i, h, rfl, rfl, hai, by omega, by omega, by omega, ⟨HB.out.1, Or.inr ?_, HWO.out.1.grown _ _, (HWO.out.2.drewN _).grow _⟩⟩
          rw [HKX.out]; exact HLT.out
      · have hdv : (!decide (cf y x < 0)) = true := by rw [decide_eq_false hlv]; rfl
        have HLT := hid (show key y ≤ key x by
          have := HC.out.lt y x
          by_cases h : key x < key y
          · exact absurd (this.2 h) hlv
          · omega)
        go_wp2_with fail
        go_quiet_grown (first | (go_at_fn f; refine Calls.grown_of (hcg _ _)))
        go_wp2_with fail
        go_roundg (j - (h + 1))
        case measure => omega
        case rel =>
          refine ⟨h + 1, j, by go_num, rfl, by omega, by omega, hjm, by omega, ⟨Or.inr ?_, HB.out.2, HWO.out.1.grown _ _, (HWO.out.2.drewN _).grow _⟩⟩
          rw [show h + 1 - 1 - a = h - a by omega, HKX.out]; exact HLT.out
    · obtain rfl : i = j := by omega
      have hltz : ¬ (i : Int) < (i : Int) := by omega
      obtain ⟨s, rfl⟩ : ∃ s, i = a + s := ⟨i - a, by omega⟩
      obtain ⟨d1, d2, d3, d4⟩ := H0.out
      have hs : s ≤ X.length := by omega
      have hy0 : kat key [y] 0 = key y := rfl
      have f1 := split_ge (key := key) (X := X) (Y := [y]) HS.out (srt_one y) (s := s) (e := 0) hs (by simp) (by
        rcases HI.out.1 with h | h
        · exact Or.inl (by omega)
        · by_cases h0 : s = 0
          · exact Or.inl h0
          · exact Or.inr (Or.inr ⟨by simp, by rw [hy0]; rwa [show a + s - 1 - a = s - 1 by omega] at h⟩))
      have f2 := split_lt (key := key) (X := X) (Y := [y]) HS.out (srt_one y) (s := s) (e := 1) hs (by simp) (by
        rcases HI.out.2.1 with h | h
        · exact Or.inl (by omega)
        · by_cases h0 : s = X.length
          · exact Or.inl h0
          · exact Or.inr (Or.inr ⟨by omega, by rw [show 1 - 1 = 0 from rfl, hy0]; rwa [show a + s - a = s by omega] at h⟩))
      have hXs : X = X.take s ++ X.drop s := (List.take_append_drop _ _).symm
      have l1 : (X.take s).length = s := by simp; omega
      have hZ := ins_plain (x := y) (U := X.take s) (V := X.drop s) (by rw [← hXs]; exact HS.out) (fun z hz => f2 z hz y (by simp)) (fun z hz => f1 z hz y (by simp)) (T := X) (by rw [← hXs]; exact Eqv.refl _)
      have hG := HI.out.2.2.1
      have hO := HI.out.2.2.2
      rw [hXs] at hG
      have HZ := hid hZ
      have HL := hid (show (X.take s).length + (X.drop s).length = X.length by simp; omega)
      generalize X.take s = U at *
      generalize X.drop s = V at *
      have HW2 := hid (And.intro hG hO)
      have hst : a + s ≤ m := by omega
      clear HI f1 f2 hXs hZ hG hO hy0 hs
      have HLU := hid l1
      clear l1 d1 d2 d3 d4
      go_wp2_with fail
      go_loopg [17] (m - (a + s)) (fun g1 vi wr => ∃ c : Nat, vi = .int .i64 ((a + s + c : Nat) : Int) ∧ a + s + c ≤ m ∧ c ≤ g1 ∧ Hid (GW enc k wr g o (pre ++ U ++ V.take c ++ y :: (V.drop c ++ post)) ∧ Onl g w wr))
      case atStart =>
        refine ⟨m - (a + s), by congr 1; omega, by omega, by omega, ⟨?_, HW2.out.2⟩⟩
        have := HW2.out.1
        rw [List.take_of_length_le (by have := HL.out; have := HLU.out; have := H0.out.2.1; omega), List.drop_of_length_le (by have := HL.out; have := HLU.out; have := H0.out.2.1; omega)]
        simpa [List.append_assoc] using this
      case round =>
        obtain ⟨c, rfl, hct, hg2, HI⟩ := hrel
        by_cases hlt2 : 0 < c
        · obtain ⟨c, rfl⟩ : ∃ d, c = d + 1 := ⟨c - 1, by omega⟩
          have hcV : c < V.length := by have := HL.out; have := HLU.out; have := H0.out.2.1; omega
          obtain ⟨x, hxx⟩ : ∃ x, V[c] = x := ⟨_, rfl⟩
          have dV : V.drop c = x :: V.drop (c + 1) := by rw [← hxx]; exact List.drop_eq_getElem_cons _
          have tV : V.take (c + 1) = V.take c ++ [x] := by rw [← hxx]; exact List.take_succ_eq_append_getElem _
          have hG := HI.out.1
          rw [tV] at hG
          have hCl : pre ++ U ++ (V.take c ++ [x]) ++ y :: (V.drop (c + 1) ++ post) = (pre ++ U ++ V.take c) ++ x :: [] ++ y :: (V.drop (c + 1) ++ post) := by simp
          have hCs : (pre ++ U ++ V.take c) ++ y :: [] ++ x :: (V.drop (c + 1) ++ post) = pre ++ U ++ V.take c ++ y :: (V.drop c ++ post) := by rw [dV]; simp
          have lp : (pre ++ U ++ V.take c).length = a + s + c := by have := HLU.out; have := H0.out.1; simp; omega
          have lq : (pre ++ U ++ V.take c).length + 1 + ([] : List α).length = a + s + c + 1 := by rw [lp]; rfl
          have hgm := get_mid (pre ++ U ++ V.take c) [] (V.drop (c + 1) ++ post) x y
          have hsm := swap_mid' (pre ++ U ++ V.take c) [] (V.drop (c + 1) ++ post) x y
          have hlen : ((pre ++ U ++ V.take c) ++ x :: [] ++ y :: (V.drop (c + 1) ++ post)).length = n := by
            have h3 := HL.out; have h4 := HLU.out
            obtain ⟨d1, d2, d3, d4⟩ := H0.out
            simp; omega
          rw [lq, lp] at hsm
          rw [lq, lp] at hgm
          rw [hCs] at hsm
          rw [hCl] at hG
          generalize (pre ++ U ++ V.take c) ++ x :: [] ++ y :: (V.drop (c + 1) ++ post) = CC at *
          have hGd := hG.drew
          have la1 : Sem.run P (loadCellsFrom ⟨g, o + (a + s + c) * k, none⟩ 0 k #[]) wr.drew = .ok (enc x).toArray wr.drew := hGd.load HK.out hgm.1
          have lb1 : Sem.run P (loadCellsFrom ⟨g, o + (a + s + c + 1) * k, none⟩ 0 k #[]) wr.drew = .ok (enc y).toArray wr.drew := hGd.load HK.out hgm.2
          have s1 : Sem.run P (storeCells ⟨g, o + (a + s + c + 1) * k, none⟩ (enc x) 0) wr.drew = .ok () (wr.drew.setCells g (o + (a + s + c + 1) * k) (enc x)) := hGd.store HK.out H1.out (by omega) x
          have hG1 := hGd.set_ HK.out (i := a + s + c + 1) (by omega) x
          have s2 : Sem.run P (storeCells ⟨g, o + (a + s + c) * k, none⟩ (enc y) 0) (wr.drew.setCells g (o + (a + s + c + 1) * k) (enc x)) = .ok () ((wr.drew.setCells g (o + (a + s + c + 1) * k) (enc x)).setCells g (o + (a + s + c) * k) (enc y)) := hG1.store HK.out H1.out (by rw [List.length_set]; omega) y
          have hG2 := hG1.set_ HK.out (i := a + s + c) (by rw [List.length_set]; omega) y
          rw [hsm] at hG2
          have HG2 : Hid _ := hG2
          have hsX : (enc x).length = k := HK.out _
          have hsY : (enc y).length = k := HK.out _
          obtain ⟨cx, hcx⟩ : ∃ c, c = enc x := ⟨_, rfl⟩
          obtain ⟨cy, hcy⟩ : ∃ c, c = enc y := ⟨_, rfl⟩
          rw [← hcx] at la1 hsX s1 s2
          rw [← hcy] at lb1 hsY s2
          rw [← hcx, ← hcy] at HG2
          have HON := hid HI.out.2
          have eac : a + s + (c + 1) = (a + s + c) + 1 := by omega
          rw [eac]
          have hac : a + s ≤ a + s + c := by omega
          have hacn : a + s + c + 1 ≤ m := by omega
          have q1 : ((a + s + c : Nat) : Int) + 1 < (n : Int) := by omega
          have q2 : ((a + s + c : Nat) : Int) < (n : Int) := by omega
          have hltz : (a : Int) + (s : Int) < ((a + s + c : Nat) : Int) + 1 := by omega
          have HAC := hid (show a + s + c = a + s + c from rfl)
          obtain ⟨ac, hacd⟩ : ∃ ac, a + s + c = ac := ⟨_, rfl⟩
          rw [hacd] at la1 lb1 s1 s2 HG2 q1 q2 hltz hac hacn ⊢
          have q3 : (0 : Int) ≤ (ac : Int) + 1 := by omega
          have q5 : ((ac : Int) + 1).toNat = ac + 1 := by omega
          have hwp : IntKind.i64.wrap (ac : Int) = (ac : Int) := by rw [IntKind.wrap_i64]; omega
          have HACD := hid hacd
          clear hxx dV tV hCl hCs lp lq hgm hsm hlen hGd hG hG1 hG2 hcx hcy HI eac hacd hcV
          go_wp2_with fail
          go_big_region_o
          all_goals go_wp2
          go_roundg c
          case measure => omega
          case rel => exact ⟨c, by have := HACD.out; first | (congr 1; omega) | go_num, by have := HACD.out; omega, by omega, ⟨HG2.out, ((HON.out.drew).sets _ _).sets _ _⟩⟩
        · obtain rfl : c = 0 := by omega
          have hltz : ¬ (a : Int) + (s : Int) < ((a + s + 0 : Nat) : Int) := by omega
          have hfin := HI.out.1
          rw [List.take_zero, List.drop_zero] at hfin
          have HF := hid hfin
          clear hfin
          go_wp2
          go_returns
          exact ⟨rfl, U ++ y :: V, ⟨by have := HL.out; simp; omega, HZ.out.1, HZ.out.2⟩, by simpa [List.append_assoc] using HF.out, HI.out.2⟩
end Go.Proofs.YtelglcakekgdeaaGreatDoor
namespace Go.Proofs.YtelglcakekgdeaaGreatDoor
set_option linter.unusedVariables false
set_option linter.unusedSimpArgs false
open Go.RowKit Go.Sort Go.Proofs
variable {P : Program} {α : Type} {enc : α → List Value} {k : Nat}

set_option maxHeartbeats 4000000 in
set_option maxRecDepth 1000000 in
theorem rotate_any (S : SortP P k) (F88 : P.funcs[102]? = some Tryz.f102) (e88 : ∀ args w, (callFunc 102 args).run P w = .ok (.enter 102 args) w)
    (F : P.funcs[84]? = some Tryz.f84) (hk : ∀ x, (enc x).length = k) (h1 : ∀ x, ∀ v ∈ enc x, v.oneCell' = true)
    (g o cap n a m b : Nat) (fv : Value) (pre X Y post : List α) (hX : 0 < X.length) (hY : 0 < Y.length) (ha : a = pre.length) (hm : m = pre.length + X.length) (hb : b = pre.length + X.length + Y.length) (hn : n = pre.length + X.length + Y.length + post.length) (hsz : n ≤ 1000000)
    (w : World) (hW : GW enc k w g o (pre ++ X ++ Y ++ post)) :
    Calls P 84 #[.slice (some ⟨g, o, none⟩) n cap, .int .i64 a, .int .i64 m, .int .i64 b, fv] w fun e w' => e = .returned (.tuple #[]) ∧ GW enc k w' g o (pre ++ Y ++ X ++ post) ∧ Onl g w w' := by
  have mixed := S.mixed; have t0 := S.t0; have a0 := S.a0; have z0 := S.z0; have v0 := S.v0; have t3 := S.t3; have a3 := S.a3; have z3 := S.z3; have v3 := S.v3; have t4 := S.t4; have a4 := S.a4; have z4 := S.z4; have v4 := S.v4; have t22 := S.t22; have a22 := S.a22; have z22 := S.z22; have v22 := S.v22; have t25 := S.t25; have a25 := S.a25; have z25 := S.z25; have v25 := S.v25; have aE := S.aE; have zE := S.zE
  have und := run_underlying S.t22
  have hi0 : (m : Int) - (a : Int) = ((X.length : Nat) : Int) := by omega
  have hj0 : (b : Int) - (m : Int) = ((Y.length : Nat) : Int) := by omega
  have hmn : m ≤ n := by omega
  have hbn : b ≤ n := by omega
  have ham : a ≤ m := by omega
  have hmb : m ≤ b := by omega
  have HSW := hid (fun (w2 : World) (a b c : Nat) (pre X M Y post : List α) (hXY : X.length = Y.length) (ha : a = pre.length) (hb : b = pre.length + X.length + M.length) (hc : c = X.length) (hn : n = pre.length + X.length + M.length + Y.length + post.length) (hW : GW enc k w2 g o (pre ++ X ++ M ++ Y ++ post)) => swapRange_any S F88 hk h1 g o cap n a b c fv pre X M Y post hXY ha hb hc hn hsz w2 hW)
  have H0 : Hid (0 < X.length ∧ 0 < Y.length ∧ m = pre.length + X.length ∧ n = pre.length + X.length + Y.length + post.length) := ⟨hX, hY, hm, hn⟩
  have HW : Hid (GW enc k w g o (pre ++ X ++ Y ++ post)) := hW
  clear hX hY ha hm hb hn hk h1 hW
  go_enter F, Tryz.ntmps84
  go_wp2_with fail
  go_loopg [10, 11] (X.length + Y.length) (fun g1 vi vj wr => ∃ (i j : Nat) (p U V q : List α), vi = .int .i64 i ∧ vj = .int .i64 j ∧ 0 < i ∧ 0 < j ∧ i ≤ m ∧ m + j ≤ n ∧ i + j ≤ g1 ∧ Hid (U.length = i ∧ V.length = j ∧ m = p.length + i ∧ n = m + j + q.length ∧ p ++ V ++ U ++ q = pre ++ Y ++ X ++ post ∧ GW enc k wr g o (p ++ U ++ V ++ q) ∧ Onl g w wr))
  case atStart =>
    obtain ⟨e1, e2, e3, e4⟩ := H0.out
    exact ⟨X.length, Y.length, pre, X, Y, post, rfl, rfl, e1, e2, by omega, by omega, by omega, ⟨rfl, rfl, e3, by omega, rfl, HW.out, Onl.refl _ _⟩⟩
  case round =>
    obtain ⟨i, j, p, U, V, q, rfl, rfl, hi, hj, him, hjn, hg1, HI⟩ := hrel
    rcases Nat.lt_trichotomy i j with hlt | rfl | hlt
    · have hne : ((i : Int) != (j : Int)) = true := by simp; omega
      have hgt : decide ((j : Int) < (i : Int)) = false := decide_eq_false (by omega)
      have hgt2 : ¬ (j : Int) < (i : Int) := by omega
      obtain ⟨f1, f2, f3, f4, f5, f6, f7⟩ := HI.out
      have c1 : (m : Int) - (i : Int) = ((m - i : Nat) : Int) := by omega
      have c2 : (m : Int) + (j : Int) - (i : Int) = ((m + j - i : Nat) : Int) := by omega
      have hV : V = V.take (j - i) ++ V.drop (j - i) := (List.take_append_drop _ _).symm
      have l1 : (V.take (j - i)).length = j - i := by simp; omega
      have l2 : (V.drop (j - i)).length = i := by simp; omega
      generalize V.take (j - i) = V1 at *
      generalize V.drop (j - i) = V2 at *
      subst hV
      have hc := HSW.out wr (m - i) (m + j - i) i p U V1 V2 q (by omega) (by omega) (by omega) (by omega) (by omega) (by simpa [List.append_assoc] using f6)
      rw [← c1, ← c2] at hc
      have HC := hid hc
      have HT := hid (show p ++ V1 ++ V2 ++ (U ++ q) = pre ++ Y ++ X ++ post by rw [← f5]; simp)
      have HL := hid (And.intro l1 (And.intro l2 (And.intro f3 (And.intro f1 f4))))
      clear hc c1 c2 f1 f2 f3 f4 f5 f6 l1 l2
      go_wp2_with fail
      refine HC.out.mono ?_
      rintro e w2 ⟨rfl, hg2, ho2⟩
      have H2 := hid (And.intro hg2 (f7.trans ho2))
      clear hg2 ho2 f7
      go_wp2_with fail
      go_roundg (i + (j - i))
      case measure => omega
      case rel =>
        obtain ⟨l1, l2, f3, f1, f4⟩ := HL.out
        exact ⟨i, j - i, p, V2, V1, U ++ q, rfl, by go_num, hi, by omega, him, by omega, by omega, ⟨l2, l1, f3, by simp; omega, HT.out, by simpa [List.append_assoc] using H2.out.1, H2.out.2⟩⟩
    · have hne : ((i : Int) != (i : Int)) = false := by simp
      obtain ⟨f1, f2, f3, f4, f5, f6, f7⟩ := HI.out
      have c1 : (m : Int) - (i : Int) = ((m - i : Nat) : Int) := by omega
      have hc := HSW.out wr (m - i) m i p U [] V q (by omega) (by omega) (by simp; omega) (by omega) (by simp; omega) (by simpa [List.append_assoc] using f6)
      rw [← c1] at hc
      have HC := hid hc
      have HT := hid f5
      clear hc c1 f1 f2 f3 f4 f5 f6
      go_wp2_with fail
      refine HC.out.mono ?_
      rintro e w2 ⟨rfl, hg2, ho2⟩
      have H2 := hid (And.intro hg2 (f7.trans ho2))
      clear hg2 ho2 f7
      go_wp2_with fail
      go_end0
      exact ⟨rfl, by rw [← HT.out]; simpa [List.append_assoc] using H2.out.1, H2.out.2⟩
    · have hne : ((i : Int) != (j : Int)) = true := by simp; omega
      have hgt : decide ((j : Int) < (i : Int)) = true := decide_eq_true (by omega)
      have hgt2 : (j : Int) < (i : Int) := by omega
      obtain ⟨f1, f2, f3, f4, f5, f6, f7⟩ := HI.out
      have c1 : (m : Int) - (i : Int) = ((m - i : Nat) : Int) := by omega
      have hU : U = U.take j ++ U.drop j := (List.take_append_drop _ _).symm
      have l1 : (U.take j).length = j := by simp; omega
      have l2 : (U.drop j).length = i - j := by simp; omega
      generalize U.take j = U1 at *
      generalize U.drop j = U2 at *
      subst hU
      have hc := HSW.out wr (m - i) m j p U1 U2 V q (by omega) (by omega) (by omega) (by omega) (by omega) (by simpa [List.append_assoc] using f6)
      rw [← c1] at hc
      have HC := hid hc
      have HT := hid (show (p ++ V) ++ U1 ++ U2 ++ q = pre ++ Y ++ X ++ post by rw [← f5]; simp)
      have HL := hid (And.intro l1 (And.intro l2 (And.intro f3 (And.intro f2 f4))))
      clear hc c1 f1 f2 f3 f4 f5 f6 l1 l2
      go_wp2_with fail
      refine HC.out.mono ?_
      rintro e w2 ⟨rfl, hg2, ho2⟩
      have H2 := hid (And.intro hg2 (f7.trans ho2))
      clear hg2 ho2 f7
      go_wp2_with fail
      go_roundg ((i - j) + j)
      case measure => omega
      case rel =>
        obtain ⟨l1, l2, f3, f2, f4⟩ := HL.out
        exact ⟨i - j, j, p ++ V, U2, U1, q, by go_num, rfl, by omega, hj, by omega, hjn, by omega, ⟨l2, l1, by simp; omega, by omega, HT.out, by simpa [List.append_assoc] using H2.out.1, H2.out.2⟩⟩
end Go.Proofs.YtelglcakekgdeaaGreatDoor
