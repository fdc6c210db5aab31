/- What merge.py merges: the walks of buffer's laws. -/
import Derived.Test.YtlolnjgcffjfkaaG20
import Derived.Test.YtlolnjgcffjfkaaG02
import Derived.Test.YtlolnjgcffjfkaaG22
import Derived.Test.YtlolnjgcffjfkaaG23
import Derived.Test.YtlolnjgcffjfkaaG24
import Derived.Deep.RegionLaw
import Derived.Deep.RegionHeld3
import Derived.Test.YtlolnjgcffjfkaaG05
namespace Go.Proofs.Ytlolnjgcffjfkaa
set_option linter.unusedVariables false
set_option linter.unusedSimpArgs false
open Go.RowKit Go.Joins

/-- A buffer in block g, what waits in block p, if there is any: how many there is room for. -/
def BfH (w : World) (g : Nat) (p : Option Nat) (room : Nat) (x : Bfr) : Prop :=
  ∃ v, Bk w g 64 #[.int .i64 (room : Int), v, .int .i64 (x.2 : Int)] ∧ GB encSp 11 34 w 0 v x.1 ∧ v.ownBlock = p ∧ x.1.length ≤ room ∧ room ≤ 64 ∧ 1 ≤ room
section
variable {w w' : World} {g room : Nat} {p : Option Nat} {x : Bfr} {S : Nat → Prop}
theorem GB.onS {α : Type} {enc : α → List Value} {k : Nat} {e : TypeId} {base : Nat} {v : Value} {L : List α} (h : GB enc k e w base v L) (ho : OnS S w w') (hn : ∀ q, v.ownBlock = some q → ¬ S q) : GB enc k e w' base v L := by
  refine ⟨h.1, ?_⟩
  rcases h.2 with h2 | ⟨g, cap', cur, e1, e2, e3, e4⟩
  · exact Or.inl h2
  · refine Or.inr ⟨g, cap', cur, e1, e2, ?_, e4⟩
    rw [ho.block g (Array.getElem?_eq_some_iff.1 e3).1 (hn g (by rw [e1]; rfl))]
    exact e3
theorem BfH.up (h : BfH w g p room x) (hb : Below w.heap.size w w') : BfH w' g p room x := by
  obtain ⟨v, h1, h2, h3⟩ := h
  exact ⟨v, h1.up hb, h2.below hb, h3⟩
theorem BfH.onS (h : BfH w g p room x) (ho : OnS S w w') (hg : ¬ S g) (hp : ∀ q, p = some q → ¬ S q) : BfH w' g p room x := by
  obtain ⟨v, h1, h2, h3, h4⟩ := h
  exact ⟨v, h1.onS ho hg, h2.onS ho (fun q hq => hp q (h3 ▸ hq)), h3, h4⟩
theorem BfH.lt (h : BfH w g p room x) : g < w.heap.size ∧ ∀ q, p = some q → q < w.heap.size ∧ g ≠ q := by
  obtain ⟨v, h1, h2, h3, h4⟩ := h
  refine ⟨h1.lt, fun q hq => ⟨(World.ownsRow.lt h2 q (h3.trans hq)).2, fun e => ?_⟩⟩
  subst e
  exact GB.not_bk h2 h1 (by decide) (h3.trans hq).symm
theorem BfH.few (h : BfH w g p room x) : x.1.length ≤ room ∧ room ≤ 64 ∧ 1 ≤ room := by
  obtain ⟨v, h1, h2, h3, h4⟩ := h
  exact h4
end
set_option maxRecDepth 100000 in
set_option maxHeartbeats 4000000 in
theorem bfnew_any (room : Int) (w : World) {c : Nat} (H : Hid (bfRoom room = c)) :
    Calls Try.prog 8 #[.int .i64 room] w fun e w' => ∃ g, e = .returned (.pointer (some ⟨g, 0, none⟩)) ∧ w.heap.size ≤ g ∧ BfH w' g none c ([], 0) ∧ Below w.heap.size w w' := by
  have h1 := bfRoom_pos room
  have hmm : min (max room 1) 64 = (c : Int) := by have := H.out; unfold bfRoom at this; omega
  rw [H.out] at h1
  have HC := hid h1
  clear h1 H
  go_enter Try.func8, Try.ntmps8
  go_wp2_with fail
  go_returns
  exact ⟨w.heap.size, rfl, Nat.le_refl _, ⟨_, Bk.new w _ _, GB.nil _ _, rfl, Nat.zero_le _, HC.out.2, HC.out.1⟩, enew _ _⟩
set_option maxRecDepth 100000 in
set_option maxHeartbeats 4000000 in
theorem bfLen_any (g : Nat) (p : Option Nat) (room : Nat) (x : Bfr) (w : World) (h : BfH w g p room x) {k : Nat} (H : Hid (x.1.length = k)) :
    Calls Try.prog 16 #[.pointer (some ⟨g, 0, none⟩)] w fun e w' => e = .returned (.int .i64 (k : Int)) ∧ Below w.heap.size w w' := by
  obtain ⟨v, h1, h2, -⟩ := h
  obtain ⟨A, c, rfl, -⟩ := GB.reads encSp_len h2
  rw [H.out] at h1
  have h3 : w.cell? ⟨g, 1, none⟩ = some (.slice A k c) := Bk.cell h1 1
  clear h1 h2
  go_enter Try.func16, Try.ntmps16
  go_wp2_with fail
  go_returns
  exact ⟨rfl, Below.refl _ _⟩
set_option maxRecDepth 100000 in
set_option maxHeartbeats 4000000 in
theorem bfLost_any (g : Nat) (p : Option Nat) (room : Nat) (x : Bfr) (w : World) (h : BfH w g p room x) (hx : x.2 ≤ 1099511627776) {k : Nat} (H : Hid (x.2 = k)) :
    Calls Try.prog 17 #[.pointer (some ⟨g, 0, none⟩)] w fun e w' => e = .returned (.int .i64 (k : Int)) ∧ Below w.heap.size w w' := by
  obtain ⟨v, h1, -⟩ := h
  rw [H.out] at h1 hx
  have h2 : w.cell? ⟨g, 2, none⟩ = some (.int .i64 (k : Int)) := Bk.cell h1 2
  have H2 := hid (ncount_any ⟨g, 2, none⟩ k w h2 (by omega) (by omega))
  clear h1 h2
  go_enter Try.func17, Try.ntmps17
  go_wp2_with fail
  refine H2.out.mono ?_
  rintro e w' ⟨rfl, rfl⟩
  go_wp2_with fail
  go_returns
  exact ⟨rfl, Below.refl _ _⟩
set_option maxRecDepth 100000 in
set_option maxHeartbeats 4000000 in
theorem bfAll_any (g : Nat) (p : Option Nat) (room : Nat) (x : Bfr) (w : World) (h : BfH w g p room x) :
    Calls Try.prog 15 #[.pointer (some ⟨g, 0, none⟩)] w fun e w' => ∃ v, e = .returned v ∧ GB encSp 11 34 w' w.heap.size v x.1 ∧ Below w.heap.size w w' := by
  have hf := h.few
  obtain ⟨v, h1, h2, -⟩ := h
  obtain ⟨A, c, rfl, hgx, -⟩ := GB.reads encSp_len h2
  obtain ⟨k, hk⟩ : ∃ k, x.1.length = k := ⟨_, rfl⟩
  have H2 := hid (clonesp_any A k c x.1 w (hgx.imp fun b hb => hb.2) (hid hk) (by omega))
  rw [hk] at h1
  have h3 : w.cell? ⟨g, 1, none⟩ = some (.slice A k c) := Bk.cell h1 1
  clear h1 h2 hgx hk
  go_enter Try.func15, Try.ntmps15
  go_wp2_with fail
  refine H2.out.mono ?_
  rintro e w' ⟨v, rfl, hv, hb⟩
  have HV := hid (And.intro hv hb)
  clear hv hb
  go_wp2_with fail
  go_returns
  exact ⟨_, rfl, HV.out⟩
set_option maxRecDepth 100000 in
theorem bfLen_nil (w : World) : Calls Try.prog 16 #[.pointer none] w fun e w' => e = .returned (.int .i64 0) ∧ Below w.heap.size w w' := by
  go_enter Try.func16, Try.ntmps16
  go_wp2_with fail
  go_returns
  exact ⟨rfl, Below.refl _ _⟩
set_option maxRecDepth 100000 in
theorem bfLost_nil (w : World) : Calls Try.prog 17 #[.pointer none] w fun e w' => e = .returned (.int .i64 0) ∧ Below w.heap.size w w' := by
  go_enter Try.func17, Try.ntmps17
  go_wp2_with fail
  go_returns
  exact ⟨rfl, Below.refl _ _⟩
set_option maxRecDepth 100000 in
theorem bfAll_nil (w : World) : Calls Try.prog 15 #[.pointer none] w fun e w' => e = .returned (.slice none 0 0) ∧ Below w.heap.size w w' := by
  go_enter Try.func15, Try.ntmps15
  go_wp2_with fail
  go_returns
  exact ⟨rfl, Below.refl _ _⟩
set_option maxRecDepth 100000 in
theorem bfTake_nil (n : Int) (w : World) : Calls Try.prog 12 #[.pointer none, .int .i64 n] w fun e w' => e = .returned (.slice none 0 0) ∧ Below w.heap.size w w' := by
  go_enter Try.func12, Try.ntmps12
  go_wp2_with fail
  go_returns
  exact ⟨rfl, Below.refl _ _⟩
set_option maxRecDepth 100000 in
theorem bfPut_nil (cs : Array Value) (w : World) : Calls Try.prog 14 #[.pointer none, .agg cs] w fun e w' => e = .returned (.bool false) ∧ Below w.heap.size w w' := by
  have hb := hid (enew w (.cells cs 34))
  go_enter Try.func14, Try.ntmps14
  go_wp2_with fail
  go_returns
  exact ⟨rfl, hb.out⟩
end Go.Proofs.Ytlolnjgcffjfkaa
namespace Go.Proofs.Ytlolnjgcffjfkaa
set_option linter.unusedVariables false
set_option linter.unusedSimpArgs false
open Go.RowKit Go.Joins

/-- What Put answers, and the buffer behind it. -/
def BfP (w : World) (g : Nat) (p : Option Nat) (room : Nat) (x : Bfr) (ok : Bool) (e : Ending) (w' : World) : Prop := e = .returned (.bool ok) ∧ ∃ p', BfH w' g p' room x ∧ OnS (fun b => b = g ∨ some b = p) w w' ∧ (p' = p ∨ ∃ q, p' = some q ∧ w.heap.size ≤ q)
theorem bfset1 {w : World} {g : Nat} {a b c : Value} (h : Bk w g 64 #[a, b, c]) (u : Value) : Bk (w.setCell ⟨g, 1, none⟩ u) g 64 #[a, u, c] := Bk.set_ h 1 u
theorem bfset2 {w : World} {g : Nat} {a b c : Value} (h : Bk w g 64 #[a, b, c]) (u : Value) : Bk (w.setCell ⟨g, 2, none⟩ u) g 64 #[a, b, u] := Bk.set_ h 2 u
theorem bf_fin {w wA w7 : World} {g room n q m c : Nat} {L : List Sp} {v : Value} {p : Option Nat} (hz : Below w.heap.size w wA) (hk : Bk wA g 64 #[.int .i64 (room : Int), v, .int .i64 (n : Int)]) (hgb : GB encSp 11 34 wA 0 v L) (hp : v.ownBlock = p) {s : Sp}
    (hF : GB encSp 11 34 w7 0 (.slice (some ⟨q, 0, none⟩) m c) (L ++ [s])) (hg : wA.grownBy w7 v.ownBlock) (hl : v.ownBlock = some q ∨ q = wA.heap.size) (hr : L.length < room) (h6 : room ≤ 64) :
    BfP w g p room (L ++ [s], n) true (.returned (.bool true)) (w7.setCell ⟨g, 1, none⟩ (.slice (some ⟨q, 0, none⟩) m c)) := by
  have k7 := hk.grown hgb (by decide) hg
  refine ⟨rfl, some q, ⟨_, bfset1 k7 _, GB.set hF k7 (by decide) 1 _, rfl, by simp; omega, h6, by omega⟩, ?_, ?_⟩
  · exact ((OnS.below hz).trans (OnS.grown hg fun b hb => Or.inr (by rw [← hp, hb]))).cell g 1 _ (Or.inl rfl)
  · rcases hl with h | h
    · exact Or.inl (by rw [← hp, h])
    · exact Or.inr ⟨q, rfl, by have := hz.size; omega⟩
set_option maxRecDepth 100000 in
set_option maxHeartbeats 4000000 in
theorem bfput_room (g : Nat) (p : Option Nat) (room : Nat) (L : List Sp) (n : Nat) (s : Sp) (w : World) (h : BfH w g p room (L, n)) (hr : L.length < room) :
    Calls Try.prog 14 #[.pointer (some ⟨g, 0, none⟩), .agg #[.int .u64 (s.hi : Int), .int .u64 (s.lo : Int), .int .u64 (s.id : Int), .int .u64 (s.up : Int), .string (bs s.name), .int .i64 s.status, .int .i64 s.seq, .int .i64 s.kids, .bool s.shade, .int .i64 s.start, .int .i64 s.fin]] w fun e w' => BfP w g p room (L ++ [s], n) true e w' := by
  obtain ⟨v, h1, h2, h3, h4, h5, h6⟩ := h
  obtain ⟨A, c, rfl, -, -, hkc, -⟩ := GB.reads encSp_len h2
  obtain ⟨k, hk⟩ : ∃ k, L.length = k := ⟨_, rfl⟩
  simp only [hk] at h1 h2 h3 h4 hkc
  have hb0 := enew w (.cells #[.int .u64 (s.hi : Int), .int .u64 (s.lo : Int), .int .u64 (s.id : Int), .int .u64 (s.up : Int), .string (bs s.name), .int .i64 s.status, .int .i64 s.seq, .int .i64 s.kids, .bool s.shade, .int .i64 s.start, .int .i64 s.fin] 34)
  have HS := hid (Bk.new w 34 #[.int .u64 (s.hi : Int), .int .u64 (s.lo : Int), .int .u64 (s.id : Int), .int .u64 (s.up : Int), .string (bs s.name), .int .i64 s.status, .int .i64 s.seq, .int .i64 s.kids, .bool s.shade, .int .i64 s.start, .int .i64 s.fin])
  have HBf := hid (And.intro (h1.up hb0) (And.intro (h2.below hb0) (And.intro h3 (And.intro hk (And.intro hb0 (And.intro hr h5))))))
  have hge : decide ((room : Int) ≤ (k : Int)) = false := decide_eq_false (by omega)
  have hge2 : decide (room ≤ k) = false := decide_eq_false (by omega)
  clear h1 h2 h3 h4 hk hb0 hr
  go_enter Try.func14, Try.ntmps14
  go_upto_region 1 with (fail)
  generalize w.alloc (.cells #[.int .u64 (s.hi : Int), .int .u64 (s.lo : Int), .int .u64 (s.id : Int), .int .u64 (s.up : Int), .string (bs s.name), .int .i64 s.status, .int .i64 s.seq, .int .i64 s.kids, .bool s.shade, .int .i64 s.start, .int .i64 s.fin] 34) = v0 at *
  have q0 : v0.cell? ⟨g, 0, none⟩ = some (.int .i64 (room : Int)) := Bk.cell HBf.out.1 0
  have q1 : v0.cell? ⟨g, 1, none⟩ = some (.slice A k c) := Bk.cell HBf.out.1 1
  have x0 : v0.cell? ⟨w.heap.size, 0, none⟩ = some (.int .u64 (s.hi : Int)) := Bk.cell HS.out 0
  have x1 : v0.cell? ⟨w.heap.size, 1, none⟩ = some (.int .u64 (s.lo : Int)) := Bk.cell HS.out 1
  have x2 : v0.cell? ⟨w.heap.size, 2, none⟩ = some (.int .u64 (s.id : Int)) := Bk.cell HS.out 2
  have x3 : v0.cell? ⟨w.heap.size, 3, none⟩ = some (.int .u64 (s.up : Int)) := Bk.cell HS.out 3
  have x4 : v0.cell? ⟨w.heap.size, 4, none⟩ = some (.string (bs s.name)) := Bk.cell HS.out 4
  have x5 : v0.cell? ⟨w.heap.size, 5, none⟩ = some (.int .i64 s.status) := Bk.cell HS.out 5
  have x6 : v0.cell? ⟨w.heap.size, 6, none⟩ = some (.int .i64 s.seq) := Bk.cell HS.out 6
  have x7 : v0.cell? ⟨w.heap.size, 7, none⟩ = some (.int .i64 s.kids) := Bk.cell HS.out 7
  have x8 : v0.cell? ⟨w.heap.size, 8, none⟩ = some (.bool s.shade) := Bk.cell HS.out 8
  have x9 : v0.cell? ⟨w.heap.size, 9, none⟩ = some (.int .i64 s.start) := Bk.cell HS.out 9
  have x10 : v0.cell? ⟨w.heap.size, 10, none⟩ = some (.int .i64 s.fin) := Bk.cell HS.out 10
  have hz : Below v0.heap.size v0 v0 := Below.refl _ _
  go_wp2_with fail
  go_quiet (fail)
  go_wp2_with fail
  have hzq : Below v0.heap.size v0 (v0.drewN (nq + 1)) := below_drewN hz _
  have hzA : Below v0.heap.size v0 ((v0.drewN (nq + 1)).alloc (.cells #[.int .u64 (s.hi : Int), .int .u64 (s.lo : Int), .int .u64 (s.id : Int), .int .u64 (s.up : Int), .string (bs s.name), .int .i64 s.status, .int .i64 s.seq, .int .i64 s.kids, .bool s.shade, .int .i64 s.start, .int .i64 s.fin] 34)) := hzq.alloc hzq.size _
  have hx := gx_new (M := [s]) encSp_len (Bk.new (v0.drewN (nq + 1)) 34 #[.int .u64 (s.hi : Int), .int .u64 (s.lo : Int), .int .u64 (s.id : Int), .int .u64 (s.up : Int), .string (bs s.name), .int .i64 s.status, .int .i64 s.seq, .int .i64 s.kids, .bool s.shade, .int .i64 s.start, .int .i64 s.fin]) rfl
  have HA := hid (And.intro hzA hx)
  have q1A := (hzA.cell (p := ⟨g, 1, none⟩) (lt_of_cell q1)).trans q1
  clear hzq hzA hx
  go_region_law (
    (refine step_append_gxl rowSp rfl _ _ rfl 0 (.slice A k c) L [s] v0.heap.size 1 (fun b => b = _) rfl (GB.below HBf.out.2.1 HA.out.1) rfl HA.out.2 (by simp) (by have := HBf.out.2.2.2.2.2.1; simp only [List.length_cons, List.length_nil]; omega) (Nat.zero_le _) ?_
     intro b7 c7 w7 m7 hm7 hF hg hl
     have k7 := (HBf.out.1.up HA.out.1).grown (GB.below HBf.out.2.1 HA.out.1) (by decide) hg
     have p1 := Bk.cell k7 1
     have p2 := Bk.frozen k7 1))
  all_goals
    have HF := hid (And.intro hF (And.intro hg hl))
    clear hF hg hl k7 hm7 x0 x1 x2 x3 x4 x5 x6 x7 x8 x9 x10 q0 q1 q1A
    go_wp2_with fail
    go_returns
    obtain ⟨f1, f2, f3, f4, f5, f6, f7⟩ := HBf.out
    exact bf_fin (estep f5 HA.out.1) (f1.up HA.out.1) (GB.below f2 HA.out.1) f3 HF.out.1 HF.out.2.1 HF.out.2.2 f6 f7
set_option maxRecDepth 100000 in
set_option maxHeartbeats 4000000 in
theorem bfput_full (g : Nat) (p : Option Nat) (room : Nat) (L : List Sp) (n : Nat) (s : Sp) (w : World) (h : BfH w g p room (L, n)) (hr : ¬ L.length < room) (hn : n + 1 ≤ 1099511627776) :
    Calls Try.prog 14 #[.pointer (some ⟨g, 0, none⟩), .agg #[.int .u64 (s.hi : Int), .int .u64 (s.lo : Int), .int .u64 (s.id : Int), .int .u64 (s.up : Int), .string (bs s.name), .int .i64 s.status, .int .i64 s.seq, .int .i64 s.kids, .bool s.shade, .int .i64 s.start, .int .i64 s.fin]] w fun e w' => BfP w g p room (L, n + 1) false e w' := by
  obtain ⟨v, h1, h2, h3, h4, h5, h6⟩ := h
  obtain ⟨A, c, rfl, -, -, hkc, -⟩ := GB.reads encSp_len h2
  obtain ⟨k, hk⟩ : ∃ k, L.length = k := ⟨_, rfl⟩
  simp only [hk] at h1 h2 h3 h4 hkc
  have hb0 := enew w (.cells #[.int .u64 (s.hi : Int), .int .u64 (s.lo : Int), .int .u64 (s.id : Int), .int .u64 (s.up : Int), .string (bs s.name), .int .i64 s.status, .int .i64 s.seq, .int .i64 s.kids, .bool s.shade, .int .i64 s.start, .int .i64 s.fin] 34)
  have HBf := hid (And.intro (h1.up hb0) (And.intro (h2.below hb0) (And.intro h3 (And.intro hk (And.intro hb0 (And.intro h4 (And.intro h5 h6)))))))
  have hge : decide ((room : Int) ≤ (k : Int)) = true := decide_eq_true (by omega)
  have hge2 : decide (room ≤ k) = true := decide_eq_true (by omega)
  clear h1 h2 h3 h4 hk hb0 hr
  go_enter Try.func14, Try.ntmps14
  go_upto_region 1 with (fail)
  generalize w.alloc (.cells #[.int .u64 (s.hi : Int), .int .u64 (s.lo : Int), .int .u64 (s.id : Int), .int .u64 (s.up : Int), .string (bs s.name), .int .i64 s.status, .int .i64 s.seq, .int .i64 s.kids, .bool s.shade, .int .i64 s.start, .int .i64 s.fin] 34) = v0 at *
  have q0 : v0.cell? ⟨g, 0, none⟩ = some (.int .i64 (room : Int)) := Bk.cell HBf.out.1 0
  have q1 : v0.cell? ⟨g, 1, none⟩ = some (.slice A k c) := Bk.cell HBf.out.1 1
  have HAd := hid (fun j => nadd_any ⟨g, 2, none⟩ n 1 (v0.drewN j) (Bk.cell HBf.out.1 2) (Bk.frozen HBf.out.1 2) hn)
  have hz : Below v0.heap.size v0 v0 := Below.refl _ _
  go_wp2_with fail
  go_quiet (fail)
  go_wp2_with fail
  refine (HAd.out _).mono ?_
  rintro e w1 ⟨rfl, hw1⟩
  have HW := hid hw1
  clear hw1 q0 q1
  go_wp2_with fail
  go_returns
  obtain ⟨f1, f2, f3, f4, f5, f6, f7⟩ := HBf.out
  have hzq : Below v0.heap.size v0 (v0.drewN nq) := below_drewN hz _
  have k1 := f1.up hzq
  have e1 := HW.out
  subst e1
  refine ⟨rfl, p, ⟨_, bfset2 k1 _, GB.set (GB.below f2 hzq) k1 (by decide) 2 _, f3, by rw [f4]; exact f6, f7⟩, (OnS.below (estep f5 hzq)).cell g 2 _ (Or.inl rfl), Or.inl rfl⟩
theorem bfput_any (g : Nat) (p : Option Nat) (room : Nat) (x : Bfr) (s : Sp) (w : World) (h : BfH w g p room x) (hn : x.2 + 1 ≤ 1099511627776) {y : Bfr} {ok : Bool} (H : Hid (bfPut room x s = (y, ok))) :
    Calls Try.prog 14 #[.pointer (some ⟨g, 0, none⟩), .agg #[.int .u64 (s.hi : Int), .int .u64 (s.lo : Int), .int .u64 (s.id : Int), .int .u64 (s.up : Int), .string (bs s.name), .int .i64 s.status, .int .i64 s.seq, .int .i64 s.kids, .bool s.shade, .int .i64 s.start, .int .i64 s.fin]] w fun e w' => BfP w g p room y ok e w' := by
  obtain ⟨L, n⟩ := x
  have e := H.out
  unfold bfPut at e
  by_cases hr : L.length < room
  · rw [if_pos hr] at e
    simp only [Prod.mk.injEq] at e
    obtain ⟨rfl, rfl⟩ := e
    exact bfput_room g p room L n s w h hr
  · rw [if_neg hr] at e
    simp only [Prod.mk.injEq] at e hn
    obtain ⟨rfl, rfl⟩ := e
    have := bfput_full g p room L n s w h hr hn
    rw [Nat.min_eq_left hn]
    exact this
end Go.Proofs.Ytlolnjgcffjfkaa
namespace Go.Proofs.Ytlolnjgcffjfkaa
set_option linter.unusedVariables false
set_option linter.unusedSimpArgs false
open Go.RowKit Go.Joins

section
variable {α : Type} {enc : α → List Value} {k : Nat} {e : TypeId} {P : Program} {t : TypeId} {z : Value} {bytes : Nat}
/-- append at a step of a region that draws, where there is room: what is appended may lie in the same block. -/
theorem step_append_fit (T : RowT P enc k t e z bytes) {ops : Array Oper} {o : Oper} {a : Act} {K : Act → World → Prop} {Q : Exit → Act → World → Prop} {E : Prop} {w : World} (hgd : o.guard = none) (s x : Operand)
    (ho : o.op = .call { callee := .builtin .append, args := #[s, x], argTypes := #[t, t] }) (base q n cap : Nat) (L M : List α) (ad : Addr) (m c : Nat)
    (hs : a.eval s = .slice (some ⟨q, 0, none⟩) n cap) (hn : L.length = n) (hown : GB enc k e w base (.slice (some ⟨q, 0, none⟩) n cap) L) (hx : a.eval x = .slice (some ad) m c) (hm : M.length = m) (hR : ∀ j u, (gvals enc M)[j]? = some u → w.cell? (ad.add j) = some u)
    (hroom : n + m ≤ cap) (h : ∀ w', GB enc k e w' base (.slice (some ⟨q, 0, none⟩) (n + m) cap) (L ++ M) → w.grownBy w' (some q) → K (a.put o.dst (.slice (some ⟨q, 0, none⟩) (n + m) cap)) w') :
    if Region.wanted o (yielded ops a.tmps) = true then Oper.wp P o a w K Q else E := by
  have hw : Region.wanted o (yielded ops a.tmps) = true := by simp [Region.wanted, hgd]
  rw [if_pos hw]
  subst hn hm
  obtain ⟨i0, hi, hz0, hz1, hz2⟩ := info_parts T.inf
  obtain ⟨w', hr, h2, h3⟩ := run_append_fits (P := P) w base t o.type e i0 k T.ht hi hz1 q L.length cap (gvals enc L) hown ad M.length c (gvals enc M) (gvals_len enc k T.hk M) hR (fun u hu => by
    simp only [gvals, List.mem_flatMap] at hu
    obtain ⟨y, _, hu⟩ := hu
    exact T.h1 y u hu) hroom
  unfold Oper.wp execOp
  simp only [ho, resolve, invoke, builtin, Sem.run_bind, Sem.run_pure, Result.andThen_ok, List.map_toArray, List.map_cons, List.map_nil, hs, hx, hr]
  refine h w' ?_ h3
  unfold GB
  rw [List.length_append, ← gvals_append]
  exact h2
/-- clear of what lies behind a slice's end, in its block. -/
theorem run_clear_gb (T : RowT P enc k t e z bytes) (hz1 : ∀ u ∈ z.cells.toList, u.oneCell' = true) {w : World} {base q n cap : Nat} {L : List α} (ty : TypeId) (hn : L.length = n) (hown : GB enc k e w base (.slice (some ⟨q, 0, none⟩) n cap) L) (m c : Nat) (hm : 0 < m) (hfit : n + m ≤ cap) :
    ∃ w', (Builtin.clear_ #[t] ty #[.slice (some ⟨q, n * k, none⟩) m c]).run P w = .ok (.tuple #[]) w' ∧ GB enc k e w' base (.slice (some ⟨q, 0, none⟩) n cap) L ∧ w.grownBy w' (some q) := by
  subst hn
  obtain ⟨i0, hi, hz0, hs1, hs2⟩ := info_parts T.inf
  have h := hown
  rcases h.2 with ⟨h0, _⟩ | ⟨g, cap', cur, he, e2, e3, e4, e5, e6, e7⟩
  · cases h0
  · simp only [Value.slice.injEq, Option.some.injEq, Addr.mk.injEq, and_true, true_and] at he
    obtain ⟨rfl, rfl⟩ := he
    have hzl : (Builtin.zeroCells z.cells m).toList.length = m * k := by rw [Array.length_toList, size_zeroCells, T.hzs]
    have hz2 : ∀ u ∈ (Builtin.zeroCells z.cells m).toList, u.oneCell' = true := fun u hu => by
      simp only [Builtin.zeroCells, Array.mem_toList_iff, Array.mem_map] at hu
      obtain ⟨i, _, rfl⟩ := hu
      refine hz1 _ ?_
      have h0 : i % z.cells.size < z.cells.size := Nat.mod_lt _ (by rw [T.hzs]; exact T.k0)
      rw [getElem!_pos z.cells _ h0]
      exact Array.mem_toList_iff.2 (Array.getElem_mem h0)
    have hle : L.length * k + m * k ≤ cur.size := by rw [e6, ← Nat.add_mul]; exact Nat.mul_le_mul_right _ hfit
    have hst := run_storeCells_at P q (L.length * k) e (Builtin.zeroCells z.cells m).toList 0 cur w e3 (by rw [hzl]; omega) hz2
    simp only [Nat.add_zero] at hst
    have hv : (zeroValue e).run P w = .ok z w := by
      simp [zeroValue, typeInfo, hi, hz0]
    obtain ⟨m, rfl⟩ : ∃ j, m = j + 1 := ⟨m - 1, by omega⟩
    refine ⟨_, by simp [Builtin.clear_, run_underlying T.ht, hv, hst]; rfl, ⟨hown.1, .inr ⟨q, cap, _, rfl, e2, setRow_heap w q cur _ e _ e3, e4, e5, ?_, ?_⟩⟩, ⟨rfl, rfl, rfl, by simp, fun j _ hj => setRow_other w q j _ (fun e => hj (by simp [e]))⟩⟩
    · simp only [List.size_toArray, List.length_append, List.length_take, List.length_drop, Array.length_toList, size_zeroCells, T.hzs]
      omega
    · show List.take (L.length * k) (List.take (L.length * k) cur.toList ++ (_ ++ _)) = _
      rw [List.take_append_of_le_length (by simp only [List.length_take, Array.length_toList]; omega), List.take_take, Nat.min_self]
      exact e7
theorem wpList_clear_gb (T : RowT P enc k t e z bytes) (hz1 : ∀ u ∈ z.cells.toList, u.oneCell' = true) {ops : Array Oper} {rest : List Oper} {o : Oper} {a : Act} {Q : Exit → Act → World → Prop} {w : World} (hgd : o.guard = none) (x : Operand)
    (ho : o.op = .call { callee := .builtin .clear, args := #[x], argTypes := #[t] }) (base q n cap : Nat) (L : List α) (off m c : Nat) (hx : a.eval x = .slice (some ⟨q, off, none⟩) m c) (ho2 : off = n * k) (hn : L.length = n) (hown : GB enc k e w base (.slice (some ⟨q, 0, none⟩) n cap) L) (hm : 0 < m) (hfit : n + m ≤ cap)
    (h : ∀ w', GB enc k e w' base (.slice (some ⟨q, 0, none⟩) n cap) L → w.grownBy w' (some q) → wpList P ops Q rest (a.put o.dst (.tuple #[])) w') : wpList P ops Q (o :: rest) a w := by
  subst ho2
  obtain ⟨w', hr, h2, h3⟩ := run_clear_gb T hz1 o.type hn hown m c hm hfit
  refine wpList_plain hgd fun K hK => ?_
  unfold Oper.wp execOp
  simp only [ho, resolve, invoke, builtin, Sem.run_bind, Sem.run_pure, Result.andThen_ok, List.map_toArray, List.map_cons, List.map_nil, hx, hr]
  exact hK _ _ (h w' h2 h3)
end
theorem spz_one : ∀ u ∈ (Value.agg #[.int .u64 0, .int .u64 0, .int .u64 0, .int .u64 0, .string ByteArray.empty, .int .i64 0, .int .i64 0, .int .i64 0, .bool false, .int .i64 0, .int .i64 0]).cells.toList, u.oneCell' = true := fun u hu => by
  simp [Value.cells] at hu
  rcases hu with rfl | rfl | rfl | rfl | rfl <;> rfl
end Go.Proofs.Ytlolnjgcffjfkaa
namespace Go.Proofs.Ytlolnjgcffjfkaa
set_option linter.unusedVariables false
set_option linter.unusedSimpArgs false
open Go.RowKit Go.Joins

set_option maxRecDepth 100000 in
set_option maxHeartbeats 4000000 in
theorem spdel_none (A : Option Addr) (n c : Nat) (w : World) (hnc : n ≤ c) :
    Calls Try.prog 24 #[.slice A n c, .int .i64 0, .int .i64 0] w fun e w' => e = .returned (.slice A n c) ∧ Below w.heap.size w w' := by
  have hn0 : (0 : Int) ≤ (n : Int) := by omega
  have hn1 : (n : Int) ≤ (c : Int) := by omega
  go_enter Try.func24, Try.ntmps24
  go_wp2_with fail
  go_returns
  exact ⟨rfl, Below.refl _ _⟩
set_option maxRecDepth 100000 in
set_option maxHeartbeats 4000000 in
theorem spdel_any (q n t c : Nat) (L : List Sp) (w : World) (h : GB encSp 11 34 w 0 (.slice (some ⟨q, 0, none⟩) n c) L) (hn : L.length = n) (ht : t ≤ n) (ht0 : 0 < t) (hl : n ≤ 1000) (hnc : n ≤ c) (hcm : c ≤ maxLen) :
    Calls Try.prog 24 #[.slice (some ⟨q, 0, none⟩) n c, .int .i64 0, .int .i64 (t : Int)] w fun e w' => e = .returned (.slice (some ⟨q, 0, none⟩) (n - t) c) ∧ GB encSp 11 34 w' 0 (.slice (some ⟨q, 0, none⟩) (n - t) c) (L.drop t) ∧ OnS (fun b => b = q) w w' := by
  have HG := hid h
  have HN := hid hn
  have hn0 : (0 : Int) ≤ (n : Int) := by omega
  have hn1 : (n : Int) ≤ (c : Int) := by omega
  have ht1 : (0 : Int) ≤ (t : Int) := by omega
  have ht2 : (t : Int) ≤ (n : Int) := by omega
  have ht3 : (t : Int) ≤ (c : Int) := by omega
  have hte : ((0 : Int) == (t : Int)) = false := by simp; omega
  have hte2 : ¬ (0 : Int) = (t : Int) := by omega
  have hte3 : ¬ t = 0 := by omega
  have hz : Below w.heap.size w w := Below.refl _ _
  obtain ⟨m, hm1⟩ : ∃ m, n - t = m := ⟨_, rfl⟩
  have hm2 : n - m = t := by omega
  have hm3 : (0 : Int) ≤ (m : Int) := by omega
  have hm4 : (m : Int) ≤ (n : Int) := by omega
  have hm5 : (m : Int) ≤ (c : Int) := by omega
  have hcm2 : ¬ c = m := by omega
  obtain ⟨ad, had, hsrc⟩ : ∃ ad : Addr, (if c = t then some (⟨q, 0, none⟩ : Addr) else some ⟨q, t * 11, none⟩) = some ad ∧ ∀ j u, (gvals encSp (L.drop t))[j]? = some u → w.drew.cell? (ad.add j) = some u := by
    obtain ⟨A, c', he, hgx, -⟩ := GB.reads encSp_len h
    simp only [Value.slice.injEq] at he
    obtain ⟨rfl, -, rfl⟩ := he
    by_cases hct : c = t
    · refine ⟨⟨q, 0, none⟩, if_pos hct, fun j u hu => ?_⟩
      have h0 : L.drop t = [] := List.drop_eq_nil_of_le (by omega)
      rw [h0] at hu
      simp [gvals] at hu
    · refine ⟨⟨q, t * 11, none⟩, if_neg hct, fun j u hu => ?_⟩
      have := hgx.drop t
      rw [Nat.zero_add] at this
      exact GX.cell encSp_len this j u hu
  have hown0 : GB encSp 11 34 w.drew 0 (.slice (some ⟨q, 0, none⟩) 0 c) [] := by
    rcases h.2 with ⟨h0, _⟩ | ⟨g, cap', cur, e1, e2, e3, e4, e5, e6, e7⟩
    · cases h0
    · simp only [Value.slice.injEq, Option.some.injEq, Addr.mk.injEq, and_true, true_and] at e1
      obtain ⟨rfl, -, rfl⟩ := e1
      exact ⟨by simp [gvals], Or.inr ⟨q, c, cur, rfl, e2, e3, Nat.zero_le _, e5, e6, by simp [gvals]⟩⟩
  have hdl : (L.drop t).length = m := by rw [List.length_drop]; omega
  have HA := hid (And.intro had (And.intro hsrc (And.intro hown0 hdl)))
  clear h hn had hsrc hown0 hdl
  go_enter Try.func24, Try.ntmps24
  go_wp2_with fail
  go_region_law (
    (refine step_append_fit rowSp rfl _ _ rfl 0 q 0 c [] (L.drop t) ad m (c - t) rfl rfl HA.out.2.2.1 (congrArg (fun z => Value.slice z m (c - t)) HA.out.1) HA.out.2.2.2 HA.out.2.1 (by omega) ?_
     intro w7 hF hg))
  all_goals
    rw [Nat.zero_add, List.nil_append] at hF
    have H7 := hid (And.intro hF hg)
    clear hF hg
    generalize (if c = t then (some (⟨q, 0, none⟩ : Addr)) else some ⟨q, t * 11, none⟩) = A9
    obtain ⟨w8, hr8, hF, hg⟩ := run_clear_gb rowSp spz_one 0 HA.out.2.2.2 H7.out.1 t (c - m) ht0 (by omega)
    have H8 := hid (And.intro hF hg)
    clear hF hg
    go_wp2_with fail
    go_returns
    rw [hm1]
    exact ⟨rfl, H8.out.1, ((OnS.refl _ w).drew.trans (OnS.grown H7.out.2 fun b hb => by injection hb with hb; exact hb.symm)).trans (OnS.grown H8.out.2 fun b hb => by injection hb with hb; exact hb.symm)⟩
end Go.Proofs.Ytlolnjgcffjfkaa
namespace Go.Proofs.Ytlolnjgcffjfkaa
set_option linter.unusedVariables false
set_option linter.unusedSimpArgs false
open Go.RowKit Go.Joins

theorem gb_base {α : Type} {enc : α → List Value} {k : Nat} {e : TypeId} {w : World} {A : Option Addr} {n c base : Nat} {L : List α} (hk : ∀ x, (enc x).length = k) (h : GB enc k e w base (.slice A n c) L) : (A = none ∧ c = 0 ∧ n = 0) ∨ ∃ q, A = some ⟨q, 0, none⟩ ∧ n ≤ c ∧ c ≤ maxLen := by
  rcases GB.form hk h with ⟨h1, -⟩ | ⟨g, cap, h1, -, -, h4, h5, -⟩
  · simp only [Value.slice.injEq] at h1
    exact Or.inl ⟨h1.1, h1.2.2, h1.2.1⟩
  · simp only [Value.slice.injEq] at h1
    obtain ⟨rfl, rfl, rfl⟩ := h1
    exact Or.inr ⟨g, rfl, h4, h5⟩
theorem spdel_u (A : Option Addr) (n t c : Nat) (L : List Sp) (w : World) (h : GB encSp 11 34 w 0 (.slice A n c) L) (hn : Hid (L.length = n)) (ht : t ≤ n) (hl : n ≤ 1000) {m : Nat} (hm : Hid (n - t = m)) :
    Calls Try.prog 24 #[.slice A n c, .int .i64 0, .int .i64 (t : Int)] w fun e w' => e = .returned (.slice A m c) ∧ GB encSp 11 34 w' 0 (.slice A m c) (L.drop t) ∧ OnS (fun b => some b = (Value.slice A n c).ownBlock) w w' := by
  rcases Nat.eq_zero_or_pos t with rfl | h0
  · have hmn : n = m := by have := hm.out; omega
    subst hmn
    refine (spdel_none A n c w ?_).mono ?_
    · rcases gb_base encSp_len h with ⟨-, -, h2⟩ | ⟨q, -, h2, -⟩ <;> omega
    · rintro e w' ⟨rfl, hb⟩
      exact ⟨rfl, h.below hb, OnS.below hb⟩
  · rcases gb_base encSp_len h with ⟨-, -, h2⟩ | ⟨q, rfl, h2, h3⟩
    · omega
    · have hd := spdel_any q n t c L w h hn.out ht h0 hl h2 h3
      rw [hm.out] at hd
      refine hd.mono ?_
      rintro e w' ⟨rfl, h4, h5⟩
      exact ⟨rfl, h4, h5.imp fun b _ hb => by subst hb; rfl⟩
/-- What Take answers, and the buffer behind it. -/
def BfT (w : World) (g : Nat) (p : Option Nat) (room : Nat) (y : Bfr) (out : List Sp) (e : Ending) (w' : World) : Prop := ∃ v, e = .returned v ∧ GB encSp 11 34 w' w.heap.size v out ∧ BfH w' g p room y ∧ OnS (fun b => b = g ∨ some b = p) w w'
set_option maxRecDepth 100000 in
set_option maxHeartbeats 4000000 in
theorem bftake_any (g : Nat) (p : Option Nat) (room : Nat) (x : Bfr) (i : Int) (w : World) (h : BfH w g p room x) {y : Bfr} {out : List Sp} (H : Hid (bfTake x i = (y, out))) :
    Calls Try.prog 12 #[.pointer (some ⟨g, 0, none⟩), .int .i64 i] w fun e w' => BfT w g p room y out e w' := by
  obtain ⟨L, j⟩ := x
  obtain ⟨v, h1, h2, h3, h4, h5, h6⟩ := h
  obtain ⟨A, c, rfl, hgx, -, hkc, -⟩ := GB.reads encSp_len h2
  obtain ⟨n, hn⟩ : ∃ n, L.length = n := ⟨_, rfl⟩
  obtain ⟨t, ht⟩ : ∃ t, bfN (L, j) i = t := ⟨_, rfl⟩
  have e := H.out
  unfold bfTake at e
  simp only [ht, Prod.mk.injEq] at e
  obtain ⟨rfl, rfl⟩ := e
  simp only [hn] at h1 h2 h3 h4 hkc
  have htn : t ≤ n := by have := bfN_le (L, j) i; rw [ht] at this; simp only [hn] at this; exact this
  have hmm : min (max i 0) (n : Int) = (t : Int) := by unfold bfN at ht; simp only [hn] at ht; omega
  obtain ⟨m, hm⟩ : ∃ m, n - t = m := ⟨_, rfl⟩
  have HC := hid (clonesp_any A t c (L.take t) w ((hgx.imp fun b hb => hb.2).take t) (hid (by rw [List.length_take]; omega)) (by omega))
  have HD := hid (fun w2 (hb : Below w.heap.size w w2) => spdel_u A n t c L w2 (h2.below hb) (hid hn) htn (by omega) (hid hm))
  have HX := hid (And.intro h1 (And.intro h2 (And.intro h3 (And.intro hn (And.intro hm (And.intro h4 (And.intro h5 h6)))))))
  have q1 : w.cell? ⟨g, 1, none⟩ = some (.slice A n c) := Bk.cell h1 1
  have ht1 : (0 : Int) ≤ (t : Int) := by omega
  have ht2 : (t : Int) ≤ (c : Int) := by omega
  clear h1 h2 h3 hgx ht H hn hm h4
  go_enter Try.func12, Try.ntmps12
  go_wp2_with fail
  refine HC.out.mono ?_
  rintro e w1 ⟨vt, rfl, hvt, hb1⟩
  have HV := hid (And.intro hvt hb1)
  have q2 : w1.cell? ⟨g, 1, none⟩ = some (.slice A n c) := Bk.cell (HX.out.1.up hb1) 1
  clear hvt hb1 q1 HC
  go_wp2_with fail
  refine (HD.out _ HV.out.2).mono ?_
  rintro e w2 ⟨rfl, hgb, ho⟩
  obtain ⟨f1, f2, f3, f4, f5, f6, f7, f8⟩ := HX.out
  have hng : ¬ (some g = (Value.slice A n c).ownBlock) := fun e => GB.not_bk f2 f1 (by decide) e
  have k2 := (f1.up HV.out.2).onS ho hng
  have q3 := Bk.frozen k2 1
  have q4 := Bk.cell k2 1
  have H2 := hid (And.intro hgb (And.intro ho k2))
  clear hgb ho f1 f2 f3 f4 f5 f6 f7 f8 k2 q2 HD
  go_wp2_with fail
  go_returns
  obtain ⟨f1, f2, f3, f4, f5, f6, f7, f8⟩ := HX.out
  obtain ⟨g1, g2, g3⟩ := H2.out
  have ho3 : OnS (fun b => b = g ∨ some b = p) w1 (w2.setCell ⟨g, 1, none⟩ (.slice A m c)) := (g2.imp (T := fun b => b = g ∨ some b = p) fun b _ hb => Or.inr (hb.trans f3)).cell g 1 _ (Or.inl rfl)
  have hlt := GB.not_bk f2 f1 (by decide)
  refine ⟨vt, rfl, GB.onS HV.out.1 ho3 fun q hq hS => ?_, ⟨_, bfset1 g3 _, GB.set g1 g3 (by decide) 1 _, ?_, ?_, f7, f8⟩, (OnS.below HV.out.2).trans ho3⟩
  · have := (World.ownsRow.lt HV.out.1 q hq).1
    rcases hS with rfl | hS
    · have := f1.lt; omega
    · have := (World.ownsRow.lt f2 q (f3.trans hS.symm)).2; omega
  · rw [← f3]
    cases A <;> rfl
  · simp only [List.length_drop]
    omega
end Go.Proofs.Ytlolnjgcffjfkaa
namespace Go.Proofs.Ytlolnjgcffjfkaa
set_option linter.unusedVariables false
set_option linter.unusedSimpArgs false
open Go.RowKit Go.Joins

/-- The definition's buffer, as a value that can be read. -/
def RfV (w : World) (N : Nat → Prop) (room : Nat) (x : Bfr) (A : Option Addr) (c : Nat) : Prop := GX encSp 11 w N A x.1 ∧ (A = none ∧ c = 0 ∨ ∃ b o, A = some ⟨b, o, none⟩) ∧ x.1.length ≤ c ∧ c ≤ maxLen
theorem bfset3 {w : World} {g : Nat} {t : TypeId} {c0 c1 c2 : Value} (k : Bk w g t #[c0, c1, c2]) (a b c : Value) : Bk (((w.setCell ⟨g, 0, none⟩ a).setCell ⟨g, 1, none⟩ b).setCell ⟨g, 2, none⟩ c) g t #[a, b, c] := by
  have h0 : Bk (w.setCell ⟨g, 0, none⟩ a) g t #[a, c1, c2] := Bk.set_ k 0 a
  have h1 : Bk ((w.setCell ⟨g, 0, none⟩ a).setCell ⟨g, 1, none⟩ b) g t #[a, b, c2] := Bk.set_ h0 1 b
  exact Bk.set_ h1 2 c
theorem bfother {w : World} {g g' i : Nat} {t : TypeId} {cs : Array Value} (k : Bk w g t cs) (hn : g ≠ g') (u : Value) : Bk (w.setCell ⟨g', i, none⟩ u) g t cs := by
  unfold Bk at k ⊢
  rw [Below.heap_setCell w ⟨g', i, none⟩ u g hn]; exact k
set_option maxRecDepth 100000 in
set_option maxHeartbeats 4000000 in
theorem rbnew_any (room : Int) (w : World) {c : Nat} (H : Hid (bfRoom room = c)) :
    Calls Try.prog 9 #[.int .i64 room] w fun e w' => e = .returned (.agg #[.int .i64 (c : Int), .slice none 0 0, .int .i64 0]) ∧ Below w.heap.size w w' := by
  have hmm : max 1 (min room 64) = (c : Int) := by have := H.out; unfold bfRoom at this; omega
  clear H
  have HBb := hid (enew w (.cells #[.int .i64 0, .slice none 0 0, .int .i64 0] 28))
  have k0 := Bk.new w 28 #[.int .i64 0, .slice none 0 0, .int .i64 0]
  have KZ := hid k0
  go_enter Try.func9, Try.ntmps9
  go_upto_region 1 with (fail)
  generalize w.alloc (.cells #[.int .i64 0, .slice none 0 0, .int .i64 0] 28) = v0 at *
  have z0 := Bk.cell KZ.out 0
  have u0 := Bk.frozen KZ.out 0
  have z1 := Bk.cell KZ.out 1
  have u1 := Bk.frozen KZ.out 1
  have z2 := Bk.cell KZ.out 2
  have u2 := Bk.frozen KZ.out 2
  clear k0
  go_wp2_with fail
  have K3 := hid (bfset3 KZ.out (.int .i64 (c : Int)) (.slice none 0 0) (.int .i64 0))
  have c0 := Bk.cell K3.out 0
  have c1 := Bk.cell K3.out 1
  have c2 := Bk.cell K3.out 2
  (try simp only [Exit.inBlock, Exit.then])
  refine bodyPost_ret (v := .agg #[.int .i64 (c : Int), .slice none 0 0, .int .i64 0]) (by simp [results, Try.results9, go_sem, c0, c1, c2]) rfl ?_
  exact ⟨rfl, ((HBb.out.setCell (Nat.le_refl _) _).setCell (Nat.le_refl _) _).setCell (Nat.le_refl _) _⟩
/-- What the definition's Take answers. -/
def RfT (w : World) (N : Nat → Prop) (room : Nat) (y : Bfr) (out : List Sp) (e : Ending) (w' : World) : Prop := ∃ A c A2 k c2 m, e = .returned (.tuple #[.agg #[.int .i64 (room : Int), .slice A m c, .int .i64 (y.2 : Int)], .slice A2 k c2]) ∧ y.1.length = m ∧ out.length = k ∧ RfV w N room y A c ∧ GX encSp 11 w N A2 out ∧ Below w.heap.size w w'
set_option maxRecDepth 100000 in
set_option maxHeartbeats 4000000 in
theorem rbtake_all (N : Nat → Prop) (room : Nat) (L : List Sp) (j : Nat) (A : Option Addr) (t : Nat) (i : Int) (w : World) (hgx : GX encSp 11 w N A L) (hA : A = none ∧ t = 0 ∨ ∃ b o, A = some ⟨b, o, none⟩) (hcm : t ≤ maxLen) (hq0 : L.length = t) (hmm : max 0 (min i (t : Int)) = (t : Int)) :
    Calls Try.prog 10 #[.agg #[.int .i64 (room : Int), .slice A t t, .int .i64 (j : Int)], .int .i64 i] w fun e w' => RfT w N room (L.drop t, j) (L.take t) e w' := by
  have ht1 : (0 : Int) ≤ (t : Int) := by omega
  have ht2 : (t : Int) ≤ (t : Int) := by omega
  have hcm2 : t ≤ 9223372036854775807 := by unfold maxLen at hcm; omega
  have HG := hid (And.intro hgx (And.intro hq0 hcm))
  have hb0 := enew w (.cells #[.int .i64 (room : Int), .slice A t t, .int .i64 (j : Int)] 28)
  have hb1 := enew (w.alloc (.cells #[.int .i64 (room : Int), .slice A t t, .int .i64 (j : Int)] 28)) (.cells #[.int .i64 0, .slice none 0 0, .int .i64 0] 28)
  have kx := (Bk.new w 28 #[.int .i64 (room : Int), .slice A t t, .int .i64 (j : Int)]).up hb1
  have kz := Bk.new (w.alloc (.cells #[.int .i64 (room : Int), .slice A t t, .int .i64 (j : Int)] 28)) 28 #[.int .i64 0, .slice none 0 0, .int .i64 0]
  rw [World.size_alloc] at kz
  have HBb := hid (estep hb0 hb1)
  have KX := hid kx
  have KZ := hid kz
  clear hb0 hb1 kx kz hgx hcm hq0
  go_enter Try.func10, Try.ntmps10
  go_upto_region 1 with (fail)
  generalize (w.alloc (.cells #[.int .i64 (room : Int), .slice A t t, .int .i64 (j : Int)] 28)).alloc (.cells #[.int .i64 0, .slice none 0 0, .int .i64 0] 28) = v0 at *
  have x0 := Bk.cell KX.out 0
  have x1 := Bk.cell KX.out 1
  have x2 := Bk.cell KX.out 2
  have y1 := Bk.frozen KX.out 1
  have z0 := Bk.cell KZ.out 0
  have u0 := Bk.frozen KZ.out 0
  have z1 := Bk.cell KZ.out 1
  have u1 := Bk.frozen KZ.out 1
  have z2 := Bk.cell KZ.out 2
  have u2 := Bk.frozen KZ.out 2
  go_wp2_with fail
  have K3 := hid (bfset3 (bfother (g' := w.heap.size) (i := 1) KZ.out (by omega) (.slice A 0 0)) (.int .i64 (room : Int)) (.slice A 0 0) (.int .i64 (j : Int)))
  have c0 := Bk.cell K3.out 0
  have c1 := Bk.cell K3.out 1
  have c2 := Bk.cell K3.out 2
  (try simp only [Exit.inBlock, Exit.then])
  refine bodyPost_ret (v := .tuple #[.agg #[.int .i64 (room : Int), .slice A 0 0, .int .i64 (j : Int)], .slice A t t]) (by simp [results, Try.results10, go_sem, c0, c1, c2]) rfl ?_
  obtain ⟨hgx, hq0, hcm⟩ := HG.out
  refine ⟨_, _, _, _, _, 0, rfl, by simp only [List.length_drop]; omega, by simp only [List.length_take]; omega, ⟨by rw [List.drop_eq_nil_of_le (by omega)]; exact GX.nil _ _ _, by rcases hA with ⟨h, -⟩ | h; exact Or.inl ⟨h, rfl⟩; exact Or.inr h, by simp only [List.length_drop]; omega, by omega⟩, hgx.take t, ?_⟩
  exact (((HBb.out.setCell (Nat.le_refl _) _).setCell (Nat.le_succ _) _).setCell (Nat.le_succ _) _).setCell (Nat.le_succ _) _
set_option maxRecDepth 100000 in
set_option maxHeartbeats 4000000 in
theorem rbtake_some (N : Nat → Prop) (room : Nat) (L : List Sp) (j : Nat) (b o cap t q m : Nat) (i : Int) (w : World) (hgx : GX encSp 11 w N (some ⟨b, o, none⟩) L) (hct : ¬ cap = t) (hcm : cap ≤ maxLen) (hq0 : L.length = q) (hqc : q ≤ cap) (htq : t ≤ q) (hm : q - t = m) (hmm : max 0 (min i (q : Int)) = (t : Int)) :
    Calls Try.prog 10 #[.agg #[.int .i64 (room : Int), .slice (some ⟨b, o, none⟩) q cap, .int .i64 (j : Int)], .int .i64 i] w fun e w' => RfT w N room (L.drop t, j) (L.take t) e w' := by
  have ht1 : (0 : Int) ≤ (t : Int) := by omega
  have ht2 : (t : Int) ≤ (cap : Int) := by omega
  have ht3 : (t : Int) ≤ (q : Int) := by omega
  have hcm2 : cap ≤ 9223372036854775807 := by unfold maxLen at hcm; omega
  have HG := hid (And.intro hgx (And.intro hq0 hcm))
  have hb0 := enew w (.cells #[.int .i64 (room : Int), .slice (some ⟨b, o, none⟩) q cap, .int .i64 (j : Int)] 28)
  have hb1 := enew (w.alloc (.cells #[.int .i64 (room : Int), .slice (some ⟨b, o, none⟩) q cap, .int .i64 (j : Int)] 28)) (.cells #[.int .i64 0, .slice none 0 0, .int .i64 0] 28)
  have kx := (Bk.new w 28 #[.int .i64 (room : Int), .slice (some ⟨b, o, none⟩) q cap, .int .i64 (j : Int)]).up hb1
  have kz := Bk.new (w.alloc (.cells #[.int .i64 (room : Int), .slice (some ⟨b, o, none⟩) q cap, .int .i64 (j : Int)] 28)) 28 #[.int .i64 0, .slice none 0 0, .int .i64 0]
  rw [World.size_alloc] at kz
  have HBb := hid (estep hb0 hb1)
  have KX := hid kx
  have KZ := hid kz
  clear hb0 hb1 kx kz hgx hcm hq0
  go_enter Try.func10, Try.ntmps10
  go_upto_region 1 with (fail)
  generalize (w.alloc (.cells #[.int .i64 (room : Int), .slice (some ⟨b, o, none⟩) q cap, .int .i64 (j : Int)] 28)).alloc (.cells #[.int .i64 0, .slice none 0 0, .int .i64 0] 28) = v0 at *
  have x0 := Bk.cell KX.out 0
  have x1 := Bk.cell KX.out 1
  have x2 := Bk.cell KX.out 2
  have y1 := Bk.frozen KX.out 1
  have z0 := Bk.cell KZ.out 0
  have u0 := Bk.frozen KZ.out 0
  have z1 := Bk.cell KZ.out 1
  have u1 := Bk.frozen KZ.out 1
  have z2 := Bk.cell KZ.out 2
  have u2 := Bk.frozen KZ.out 2
  go_wp2_with fail
  have K3 := hid (bfset3 (bfother (g' := w.heap.size) (i := 1) KZ.out (by omega) (.slice (some ⟨b, o + t * 11, none⟩) m (cap - t))) (.int .i64 (room : Int)) (.slice (some ⟨b, o + t * 11, none⟩) m (cap - t)) (.int .i64 (j : Int)))
  have c0 := Bk.cell K3.out 0
  have c1 := Bk.cell K3.out 1
  have c2 := Bk.cell K3.out 2
  (try simp only [Exit.inBlock, Exit.then])
  refine bodyPost_ret (v := .tuple #[.agg #[.int .i64 (room : Int), .slice (some ⟨b, o + t * 11, none⟩) m (cap - t), .int .i64 (j : Int)], .slice (some ⟨b, o, none⟩) t cap]) (by simp [results, Try.results10, go_sem, c0, c1, c2]) rfl ?_
  obtain ⟨hgx, hq0, hcm⟩ := HG.out
  refine ⟨_, _, _, _, _, m, rfl, by simp only [List.length_drop]; omega, by simp only [List.length_take]; omega, ⟨hgx.drop t, Or.inr ⟨b, o + t * 11, rfl⟩, by simp only [List.length_drop]; omega, by omega⟩, hgx.take t, ?_⟩
  exact (((HBb.out.setCell (Nat.le_refl _) _).setCell (Nat.le_succ _) _).setCell (Nat.le_succ _) _).setCell (Nat.le_succ _) _
theorem rbtake_any (N : Nat → Prop) (room : Nat) (x : Bfr) (A : Option Addr) (cap q lo : Nat) (i : Int) (w : World) (h : RfV w N room x A cap) (hq : Hid (x.1.length = q)) (hlo : Hid (x.2 = lo)) {y : Bfr} {out : List Sp} (H : Hid (bfTake x i = (y, out))) :
    Calls Try.prog 10 #[.agg #[.int .i64 (room : Int), .slice A q cap, .int .i64 (lo : Int)], .int .i64 i] w fun e w' => RfT w N room y out e w' := by
  obtain ⟨L, j⟩ := x
  obtain ⟨t, ht⟩ : ∃ t, bfN (L, j) i = t := ⟨_, rfl⟩
  have e := H.out
  unfold bfTake at e
  simp only [ht, Prod.mk.injEq] at e
  obtain ⟨rfl, rfl⟩ := e
  have hq0 : L.length = q := hq.out
  have hlo0 : j = lo := hlo.out
  subst hlo0
  obtain ⟨hgx, hA, hlc, hcm⟩ := h
  simp only [hq0] at hlc
  have htq : t ≤ q := by have := bfN_le (L, j) i; rw [ht] at this; simp only [hq0] at this; exact this
  have hmm : max 0 (min i (q : Int)) = (t : Int) := by unfold bfN at ht; simp only [hq0] at ht; omega
  by_cases hct : cap = t
  · obtain rfl : q = t := by omega
    subst hct
    exact rbtake_all N room L j A cap i w hgx hA hcm hq0 hmm
  · rcases hA with ⟨-, hA⟩ | ⟨b, o, rfl⟩
    · omega
    · exact rbtake_some N room L j b o cap t q _ i w hgx hct hcm hq0 hlc htq rfl hmm
end Go.Proofs.Ytlolnjgcffjfkaa
namespace Go.Proofs.Ytlolnjgcffjfkaa
set_option linter.unusedVariables false
set_option linter.unusedSimpArgs false
open Go.RowKit Go.Joins

/-- What the definition's Put answers. -/
def RfP (w : World) (M : Nat → Prop) (room : Nat) (y : Bfr) (ok : Bool) (e : Ending) (w' : World) : Prop := ∃ A c m lo, e = .returned (.tuple #[.agg #[.int .i64 (room : Int), .slice A m c, .int .i64 (lo : Int)], .bool ok]) ∧ y.1.length = m ∧ y.2 = lo ∧ RfV w' (In (fun b => M b ∨ w.heap.size ≤ b) w') room y A c ∧ Below w.heap.size w w'
theorem gbase2 {α : Type} {enc : α → List Value} {k : Nat} {e : TypeId} {w : World} {A : Option Addr} {n c base : Nat} {L : List α} (hk : ∀ x, (enc x).length = k) (h : GB enc k e w base (.slice A n c) L) : (A = none ∧ c = 0) ∨ ∃ q, A = some ⟨q, 0, none⟩ := by
  rcases GB.form hk h with ⟨h1, -⟩ | ⟨g, cap, h1, -⟩
  · simp only [Value.slice.injEq] at h1
    exact Or.inl ⟨h1.1, h1.2.2⟩
  · simp only [Value.slice.injEq] at h1
    exact Or.inr ⟨g, h1.1⟩
set_option maxRecDepth 100000 in
set_option maxHeartbeats 4000000 in
theorem rbput_full (M : Nat → Prop) (room : Nat) (L : List Sp) (A : Option Addr) (cap q lo : Nat) (s : Sp) (w : World) (h : RfV w (In M w) room (L, lo) A cap) (hq : L.length = q) (hr : room ≤ q) (hn : lo + 1 ≤ 1099511627776) :
    Calls Try.prog 13 #[.agg #[.int .i64 (room : Int), .slice A q cap, .int .i64 (lo : Int)], .agg #[.int .u64 (s.hi : Int), .int .u64 (s.lo : Int), .int .u64 (s.id : Int), .int .u64 (s.up : Int), .string (bs s.name), .int .i64 s.status, .int .i64 s.seq, .int .i64 s.kids, .bool s.shade, .int .i64 s.start, .int .i64 s.fin]] w fun e w' => RfP w M room (L, lo + 1) false e w' := by
  have hb1 := enew w (.cells #[.int .i64 (room : Int), .slice A q cap, .int .i64 (lo : Int)] 28)
  have hb2 := enew (w.alloc (.cells #[.int .i64 (room : Int), .slice A q cap, .int .i64 (lo : Int)] 28)) (.cells #[.int .u64 (s.hi : Int), .int .u64 (s.lo : Int), .int .u64 (s.id : Int), .int .u64 (s.up : Int), .string (bs s.name), .int .i64 s.status, .int .i64 s.seq, .int .i64 s.kids, .bool s.shade, .int .i64 s.start, .int .i64 s.fin] 34)
  have hb3 := enew ((w.alloc (.cells #[.int .i64 (room : Int), .slice A q cap, .int .i64 (lo : Int)] 28)).alloc (.cells #[.int .u64 (s.hi : Int), .int .u64 (s.lo : Int), .int .u64 (s.id : Int), .int .u64 (s.up : Int), .string (bs s.name), .int .i64 s.status, .int .i64 s.seq, .int .i64 s.kids, .bool s.shade, .int .i64 s.start, .int .i64 s.fin] 34)) (.cells #[.int .i64 0, .slice none 0 0, .int .i64 0] 28)
  have KX := hid (((Bk.new w 28 #[.int .i64 (room : Int), .slice A q cap, .int .i64 (lo : Int)]).up hb2).up hb3)
  have ks := (Bk.new (w.alloc (.cells #[.int .i64 (room : Int), .slice A q cap, .int .i64 (lo : Int)] 28)) 34 #[.int .u64 (s.hi : Int), .int .u64 (s.lo : Int), .int .u64 (s.id : Int), .int .u64 (s.up : Int), .string (bs s.name), .int .i64 s.status, .int .i64 s.seq, .int .i64 s.kids, .bool s.shade, .int .i64 s.start, .int .i64 s.fin]).up hb3
  have kz := Bk.new ((w.alloc (.cells #[.int .i64 (room : Int), .slice A q cap, .int .i64 (lo : Int)] 28)).alloc (.cells #[.int .u64 (s.hi : Int), .int .u64 (s.lo : Int), .int .u64 (s.id : Int), .int .u64 (s.up : Int), .string (bs s.name), .int .i64 s.status, .int .i64 s.seq, .int .i64 s.kids, .bool s.shade, .int .i64 s.start, .int .i64 s.fin] 34)) 28 #[.int .i64 0, .slice none 0 0, .int .i64 0]
  simp only [World.size_alloc] at ks kz
  have KS := hid ks
  have KZ := hid kz
  have HBb := hid (estep (estep hb1 hb2) hb3)
  clear hb1 hb2 hb3 ks kz
  have HH := hid (And.intro h hq)
  have hge : decide ((room : Int) ≤ (q : Int)) = true := decide_eq_true (by omega)
  have hge2 : decide (room ≤ q) = true := decide_eq_true (by omega)
  have hmin : min ((lo : Int) + 1) 1099511627776 = (lo : Int) + 1 := by omega
  obtain ⟨m, hm⟩ : ∃ m : Nat, (lo : Int) + 1 = (m : Int) := ⟨lo + 1, by omega⟩
  rw [hm] at hmin
  have hw : IntKind.i64.wrap ((lo : Int) + 1) = (m : Int) := by rw [← hm]; exact IntWalk.i64_in _ (by omega)
  have HM := hid hm
  clear hm h hq
  go_enter Try.func13, Try.ntmps13
  go_upto_region 1 with (fail)
  generalize (((w.alloc (.cells #[.int .i64 (room : Int), .slice A q cap, .int .i64 (lo : Int)] 28)).alloc (.cells #[.int .u64 (s.hi : Int), .int .u64 (s.lo : Int), .int .u64 (s.id : Int), .int .u64 (s.up : Int), .string (bs s.name), .int .i64 s.status, .int .i64 s.seq, .int .i64 s.kids, .bool s.shade, .int .i64 s.start, .int .i64 s.fin] 34)).alloc (.cells #[.int .i64 0, .slice none 0 0, .int .i64 0] 28)) = v0 at *
  have x0 := Bk.cell KX.out 0
  have x1 := Bk.cell KX.out 1
  have x2 := Bk.cell KX.out 2
  have y0 := Bk.frozen KX.out 0
  have y1 := Bk.frozen KX.out 1
  have y2 := Bk.frozen KX.out 2
  have z0 := Bk.cell KZ.out 0
  have u0 := Bk.frozen KZ.out 0
  have z1 := Bk.cell KZ.out 1
  have u1 := Bk.frozen KZ.out 1
  have z2 := Bk.cell KZ.out 2
  have u2 := Bk.frozen KZ.out 2
  go_wp2_with fail
  have K3 := hid (bfset3 (bfother (g' := w.heap.size) (i := 2) KZ.out (by omega) (.int .i64 (m : Int))) (.int .i64 (room : Int)) (.slice A q cap) (.int .i64 (m : Int)))
  have c0 := Bk.cell K3.out 0
  have c1 := Bk.cell K3.out 1
  have c2 := Bk.cell K3.out 2
  (try simp only [Exit.inBlock, Exit.then])
  refine bodyPost_ret (v := .tuple #[.agg #[.int .i64 (room : Int), .slice A q cap, .int .i64 (m : Int)], .bool false]) (by simp [results, Try.results13, go_sem, c0, c1, c2]) rfl ?_
  obtain ⟨⟨hgx, hA, hlc, hcm⟩, hq⟩ := HH.out
  have hbf : Below w.heap.size w ((((v0.setCell ⟨w.heap.size, 2, none⟩ (.int .i64 (m : Int))).setCell ⟨w.heap.size + 2, 0, none⟩ (.int .i64 (room : Int))).setCell ⟨w.heap.size + 2, 1, none⟩ (.slice A q cap)).setCell ⟨w.heap.size + 2, 2, none⟩ (.int .i64 (m : Int))) := (((HBb.out.setCell (Nat.le_refl _) _).setCell (Nat.le_add_right _ _) _).setCell (Nat.le_add_right _ _) _).setCell (Nat.le_add_right _ _) _
  refine ⟨_, _, q, m, rfl, hq, by have := HM.out; simp only; omega, ⟨(hgx.inup hbf).imp fun b hb => ⟨hb.1, Or.inl hb.2⟩, hA, hlc, hcm⟩, hbf⟩
set_option maxRecDepth 100000 in
set_option maxHeartbeats 4000000 in
theorem rbput_room (M : Nat → Prop) (room : Nat) (L : List Sp) (A : Option Addr) (cap q lo : Nat) (s : Sp) (w : World) (h : RfV w (In M w) room (L, lo) A cap) (hq : L.length = q) (hr : q < room) (h64 : room ≤ 64) :
    Calls Try.prog 13 #[.agg #[.int .i64 (room : Int), .slice A q cap, .int .i64 (lo : Int)], .agg #[.int .u64 (s.hi : Int), .int .u64 (s.lo : Int), .int .u64 (s.id : Int), .int .u64 (s.up : Int), .string (bs s.name), .int .i64 s.status, .int .i64 s.seq, .int .i64 s.kids, .bool s.shade, .int .i64 s.start, .int .i64 s.fin]] w fun e w' => RfP w M room (L ++ [s], lo) true e w' := by
  have hb1 := enew w (.cells #[.int .i64 (room : Int), .slice A q cap, .int .i64 (lo : Int)] 28)
  have hb2 := enew (w.alloc (.cells #[.int .i64 (room : Int), .slice A q cap, .int .i64 (lo : Int)] 28)) (.cells #[.int .u64 (s.hi : Int), .int .u64 (s.lo : Int), .int .u64 (s.id : Int), .int .u64 (s.up : Int), .string (bs s.name), .int .i64 s.status, .int .i64 s.seq, .int .i64 s.kids, .bool s.shade, .int .i64 s.start, .int .i64 s.fin] 34)
  have hb3 := enew ((w.alloc (.cells #[.int .i64 (room : Int), .slice A q cap, .int .i64 (lo : Int)] 28)).alloc (.cells #[.int .u64 (s.hi : Int), .int .u64 (s.lo : Int), .int .u64 (s.id : Int), .int .u64 (s.up : Int), .string (bs s.name), .int .i64 s.status, .int .i64 s.seq, .int .i64 s.kids, .bool s.shade, .int .i64 s.start, .int .i64 s.fin] 34)) (.cells #[.int .i64 0, .slice none 0 0, .int .i64 0] 28)
  have KX := hid (((Bk.new w 28 #[.int .i64 (room : Int), .slice A q cap, .int .i64 (lo : Int)]).up hb2).up hb3)
  have ks := (Bk.new (w.alloc (.cells #[.int .i64 (room : Int), .slice A q cap, .int .i64 (lo : Int)] 28)) 34 #[.int .u64 (s.hi : Int), .int .u64 (s.lo : Int), .int .u64 (s.id : Int), .int .u64 (s.up : Int), .string (bs s.name), .int .i64 s.status, .int .i64 s.seq, .int .i64 s.kids, .bool s.shade, .int .i64 s.start, .int .i64 s.fin]).up hb3
  have kz := Bk.new ((w.alloc (.cells #[.int .i64 (room : Int), .slice A q cap, .int .i64 (lo : Int)] 28)).alloc (.cells #[.int .u64 (s.hi : Int), .int .u64 (s.lo : Int), .int .u64 (s.id : Int), .int .u64 (s.up : Int), .string (bs s.name), .int .i64 s.status, .int .i64 s.seq, .int .i64 s.kids, .bool s.shade, .int .i64 s.start, .int .i64 s.fin] 34)) 28 #[.int .i64 0, .slice none 0 0, .int .i64 0]
  simp only [World.size_alloc] at ks kz
  have KS := hid ks
  have KZ := hid kz
  have HBb := hid (estep (estep hb1 hb2) hb3)
  clear hb1 hb2 hb3 ks kz
  have HH := hid (And.intro h hq)
  have hge : decide ((room : Int) ≤ (q : Int)) = false := decide_eq_false (by omega)
  have hge2 : decide (room ≤ q) = false := decide_eq_false (by omega)
  have HG := hid (h.1.inup HBb.out)
  have HA := hid (show A = none → cap = 0 from fun e => by
    rcases h.2.1 with ⟨-, e2⟩ | ⟨b, o, e2⟩
    · exact e2
    · rw [e] at e2; cases e2)
  clear h hq
  go_enter Try.func13, Try.ntmps13
  go_upto_region 1 with (fail)
  generalize (((w.alloc (.cells #[.int .i64 (room : Int), .slice A q cap, .int .i64 (lo : Int)] 28)).alloc (.cells #[.int .u64 (s.hi : Int), .int .u64 (s.lo : Int), .int .u64 (s.id : Int), .int .u64 (s.up : Int), .string (bs s.name), .int .i64 s.status, .int .i64 s.seq, .int .i64 s.kids, .bool s.shade, .int .i64 s.start, .int .i64 s.fin] 34)).alloc (.cells #[.int .i64 0, .slice none 0 0, .int .i64 0] 28)) = v0 at *
  have x0 := Bk.cell KX.out 0
  have x1 := Bk.cell KX.out 1
  have x2 := Bk.cell KX.out 2
  have y0 := Bk.frozen KX.out 0
  have y1 := Bk.frozen KX.out 1
  have y2 := Bk.frozen KX.out 2
  go_wp2_with (at_builtin; refine wpList_append_gx (W0 := v0) rowSp rfl _ _ rfl v0.heap.size (.slice none 0 0) [] L A cap _ rfl (GB.nil _ _) (by rw [HH.out.2]; rfl) HG.out HA.out (by have := HH.out.2; simp only [List.length_nil]; omega) (Below.refl _ _) (Nat.le_refl _) ?_)
  intro v1 w1 hown1 hbel1 _
  have H1 := hid (And.intro hown1 hbel1)
  have s0 : w1.cell? ⟨w.heap.size + 1, 0, none⟩ = some (.int .u64 (s.hi : Int)) := Bk.cell (KS.out.up hbel1) 0
  have s1 : w1.cell? ⟨w.heap.size + 1, 1, none⟩ = some (.int .u64 (s.lo : Int)) := Bk.cell (KS.out.up hbel1) 1
  have s2 : w1.cell? ⟨w.heap.size + 1, 2, none⟩ = some (.int .u64 (s.id : Int)) := Bk.cell (KS.out.up hbel1) 2
  have s3 : w1.cell? ⟨w.heap.size + 1, 3, none⟩ = some (.int .u64 (s.up : Int)) := Bk.cell (KS.out.up hbel1) 3
  have s4 : w1.cell? ⟨w.heap.size + 1, 4, none⟩ = some (.string (bs s.name)) := Bk.cell (KS.out.up hbel1) 4
  have s5 : w1.cell? ⟨w.heap.size + 1, 5, none⟩ = some (.int .i64 s.status) := Bk.cell (KS.out.up hbel1) 5
  have s6 : w1.cell? ⟨w.heap.size + 1, 6, none⟩ = some (.int .i64 s.seq) := Bk.cell (KS.out.up hbel1) 6
  have s7 : w1.cell? ⟨w.heap.size + 1, 7, none⟩ = some (.int .i64 s.kids) := Bk.cell (KS.out.up hbel1) 7
  have s8 : w1.cell? ⟨w.heap.size + 1, 8, none⟩ = some (.bool s.shade) := Bk.cell (KS.out.up hbel1) 8
  have s9 : w1.cell? ⟨w.heap.size + 1, 9, none⟩ = some (.int .i64 s.start) := Bk.cell (KS.out.up hbel1) 9
  have s10 : w1.cell? ⟨w.heap.size + 1, 10, none⟩ = some (.int .i64 s.fin) := Bk.cell (KS.out.up hbel1) 10
  have hx1 := gx_new (M := [s]) encSp_len (Bk.new w1 34 #[.int .u64 (s.hi : Int), .int .u64 (s.lo : Int), .int .u64 (s.id : Int), .int .u64 (s.up : Int), .string (bs s.name), .int .i64 s.status, .int .i64 s.seq, .int .i64 s.kids, .bool s.shade, .int .i64 s.start, .int .i64 s.fin]) rfl
  have hbs := enew w1 (.cells #[.int .u64 (s.hi : Int), .int .u64 (s.lo : Int), .int .u64 (s.id : Int), .int .u64 (s.up : Int), .string (bs s.name), .int .i64 s.status, .int .i64 s.seq, .int .i64 s.kids, .bool s.shade, .int .i64 s.start, .int .i64 s.fin] 34)
  have HX1 := hid (And.intro hx1 (And.intro (hown1.below hbs) (hbel1.alloc hbel1.size (.cells #[.int .u64 (s.hi : Int), .int .u64 (s.lo : Int), .int .u64 (s.id : Int), .int .u64 (s.up : Int), .string (bs s.name), .int .i64 s.status, .int .i64 s.seq, .int .i64 s.kids, .bool s.shade, .int .i64 s.start, .int .i64 s.fin] 34))))
  clear hown1 hbel1 x0 x1 x2 hx1 hbs y0 y1 y2
  go_wp2_with (at_builtin; refine wpList_append_gx (W0 := v0) rowSp rfl _ _ rfl v0.heap.size v1 L [s] (some ⟨w1.heap.size, 0, none⟩) 1 (fun b => b = w1.heap.size) rfl HX1.out.2.1 rfl HX1.out.1 (fun h => by cases h) (by have := HH.out.2; simp only [List.length_cons, List.length_nil]; omega) HX1.out.2.2 (Nat.le_refl _) ?_)
  intro v2 w2 hown2 hbel2 _
  clear HX1 s0 s1 s2 s3 s4 s5 s6 s7 s8 s9 s10
  obtain ⟨A2, c2, hv2, hgx, hA2, hlc, hcm⟩ := GB.reads encSp_len hown2
  have hf2 : A2 = none ∧ c2 = 0 ∨ ∃ b o, A2 = some ⟨b, o, none⟩ := by
    rw [hv2] at hown2
    rcases gbase2 encSp_len hown2 with ⟨h1, h2⟩ | ⟨b, h1⟩
    · exact Or.inl ⟨h1, h2⟩
    · exact Or.inr ⟨b, 0, h1⟩
  obtain ⟨k, hk⟩ : ∃ k, (L ++ [s]).length = k := ⟨_, rfl⟩
  rw [hk] at hv2
  subst hv2
  have kx2 := KX.out.up hbel2
  have kz2 := KZ.out.up hbel2
  have H2 := hid (And.intro hgx (And.intro (estep HBb.out hbel2) (And.intro kx2 (And.intro kz2 (And.intro hf2 (And.intro hk (And.intro hlc hcm)))))))
  have hsz : w.heap.size + 2 < v0.heap.size := Bk.lt KZ.out
  have x0 := Bk.cell kx2 0
  have x1 := Bk.cell kx2 1
  have x2 := Bk.cell kx2 2
  have y1 := Bk.frozen kx2 1
  have z0 := Bk.cell kz2 0
  have z1 := Bk.cell kz2 1
  have z2 := Bk.cell kz2 2
  have u0 := Bk.frozen kz2 0
  have u1 := Bk.frozen kz2 1
  have u2 := Bk.frozen kz2 2
  clear hgx hbel2 kx2 kz2 hf2 hk hlc hcm hA2 hown2
  go_wp2_with fail
  have K3 := hid (bfset3 (bfother (g' := w.heap.size) (i := 1) H2.out.2.2.2.1 (by omega) (.slice A2 k c2)) (.int .i64 (room : Int)) (.slice A2 k c2) (.int .i64 (lo : Int)))
  have d0 := Bk.cell K3.out 0
  have d1 := Bk.cell K3.out 1
  have d2 := Bk.cell K3.out 2
  (try simp only [Exit.inBlock, Exit.then])
  refine bodyPost_ret (v := .tuple #[.agg #[.int .i64 (room : Int), .slice A2 k c2, .int .i64 (lo : Int)], .bool true]) (by simp [results, Try.results13, go_sem, d0, d1, d2]) rfl ?_
  obtain ⟨hgx, hb, kx, kz, hf2, hk, hlc, hcm⟩ := H2.out
  have hon : OnS (fun b => b = w.heap.size ∨ b = w.heap.size + 2) w2 ((((w2.setCell ⟨w.heap.size, 1, none⟩ (.slice A2 k c2)).setCell ⟨w.heap.size + 2, 0, none⟩ (.int .i64 (room : Int))).setCell ⟨w.heap.size + 2, 1, none⟩ (.slice A2 k c2)).setCell ⟨w.heap.size + 2, 2, none⟩ (.int .i64 (lo : Int))) := ((((OnS.refl _ w2).cell _ _ _ (Or.inl rfl)).cell _ _ _ (Or.inr rfl)).cell _ _ _ (Or.inr rfl)).cell _ _ _ (Or.inr rfl)
  refine ⟨_, _, k, lo, rfl, hk, rfl, ⟨?_, hf2, hlc, hcm⟩, OnS.to_below hb hon (fun b _ hb => by omega) hb.size⟩
  exact (GX.onS (M := fun b => v0.heap.size ≤ b) (hgx.imp fun b hb => ⟨hb.2, hb.1⟩) hon (fun b hb hS => by omega)).imp fun b hb => ⟨hb.1, Or.inr (by have := hb.2; omega)⟩
theorem rbput_any (M : Nat → Prop) (room : Nat) (x : Bfr) (A : Option Addr) (cap q lo : Nat) (s : Sp) (w : World) (h : RfV w (In M w) room x A cap) (hq : Hid (x.1.length = q)) (hlo : Hid (x.2 = lo)) (h64 : q ≤ room ∧ room ≤ 64) (hn : lo + 1 ≤ 1099511627776) {y : Bfr} {ok : Bool} (H : Hid (bfPut room x s = (y, ok))) :
    Calls Try.prog 13 #[.agg #[.int .i64 (room : Int), .slice A q cap, .int .i64 (lo : Int)], .agg #[.int .u64 (s.hi : Int), .int .u64 (s.lo : Int), .int .u64 (s.id : Int), .int .u64 (s.up : Int), .string (bs s.name), .int .i64 s.status, .int .i64 s.seq, .int .i64 s.kids, .bool s.shade, .int .i64 s.start, .int .i64 s.fin]] w fun e w' => RfP w M room y ok e w' := by
  obtain ⟨L, n⟩ := x
  have hq0 : L.length = q := hq.out
  have hlo0 : n = lo := hlo.out
  subst hlo0
  have e := H.out
  unfold bfPut at e
  by_cases hr : L.length < room
  · rw [if_pos hr] at e
    simp only [Prod.mk.injEq] at e
    obtain ⟨rfl, rfl⟩ := e
    exact rbput_room M room L A cap q n s w h hq0 (by omega) h64.2
  · rw [if_neg hr] at e
    simp only [Prod.mk.injEq] at e
    obtain ⟨rfl, rfl⟩ := e
    rw [Nat.min_eq_left hn]
    exact rbput_full M room L A cap q n s w h hq0 (by omega) hn
end Go.Proofs.Ytlolnjgcffjfkaa
namespace Go.Proofs.Ytlolnjgcffjfkaa
set_option linter.unusedVariables false
set_option linter.unusedSimpArgs false
open Go.RowKit Go.Joins

/-- A span of which the number alone is told. -/
def spI (k : Nat) : Sp := { sp0 with id := k }
theorem spI_row (w : World) (k : Nat) : GX encSp 11 (w.alloc (.cells #[.int .u64 0, .int .u64 0, .int .u64 (k : Int), .int .u64 0, .string (ByteArray.mk #[]), .int .i64 0, .int .i64 0, .int .i64 0, .bool false, .int .i64 0, .int .i64 0] 34)) (fun b => b = w.heap.size) (some ⟨w.heap.size, 0, none⟩) [spI k] :=
  gx_new (M := [spI k]) encSp_len (Bk.new w 34 _) rfl
theorem known25_put (g : Nat) (p : Option Nat) (x : Bfr) (k : Nat) (w : World) (h : BfH w g p 1 x) (hn : x.2 + 1 ≤ 1099511627776) {y : Bfr} {ok : Bool} (H : Hid (bfPut 1 x (spI k) = (y, ok))) :
    Calls Try.prog 14 #[.pointer (some ⟨g, 0, none⟩), .agg #[.int .u64 0, .int .u64 0, .int .u64 (k : Int), .int .u64 0, .string (ByteArray.mk #[]), .int .i64 0, .int .i64 0, .int .i64 0, .bool false, .int .i64 0, .int .i64 0]] w fun e w' => BfP w g p 1 y ok e w' := bfput_any g p 1 x (spI k) w h hn H
theorem known25_same (A : Option Addr) (ca : Nat) (L : List Sp) (k : Nat) (w : World) (hA : GX encSp 11 w (· < w.heap.size) A L) (hL : L = [spI k]) :
    Calls Try.prog 11 #[.slice A 1 ca, .slice (some ⟨w.heap.size, 0, none⟩) 1 1] (w.alloc (.cells #[.int .u64 0, .int .u64 0, .int .u64 (k : Int), .int .u64 0, .string (ByteArray.mk #[]), .int .i64 0, .int .i64 0, .int .i64 0, .bool false, .int .i64 0, .int .i64 0] 34)) fun e w' => e = .returned (.bool true) ∧ Below w.heap.size w w' := by
  have hb := enew w (.cells #[.int .u64 0, .int .u64 0, .int .u64 (k : Int), .int .u64 0, .string (ByteArray.mk #[]), .int .i64 0, .int .i64 0, .int .i64 0, .bool false, .int .i64 0, .int .i64 0] 34)
  subst hL
  refine (spsame_lit A (some ⟨w.heap.size, 0, none⟩) ca 1 1 [spI k] _ (hA.up hb) ((spI_row w k).imp fun b hb => by subst hb; simp) (hid rfl) (by decide)).mono ?_
  rintro e w' ⟨rfl, h⟩
  exact ⟨rfl, estep hb h⟩
/-- What stands behind the fixed calls' beginning. -/
structure K25 (w w' : World) (g : Nat) (p : Option Nat) (x : Bfr) : Prop where
  h : BfH w' g p 1 x
  b : Below w.heap.size w w'
  g0 : w.heap.size ≤ g
  p0 : ∀ q, p = some q → w.heap.size ≤ q
section
variable {w w1 w2 : World} {g : Nat} {p p2 : Option Nat} {x y : Bfr} {ok : Bool} {e : Ending} {out : List Sp}
theorem K25.up (h : K25 w w1 g p x) (hb : Below w1.heap.size w1 w2) : K25 w w2 g p x := ⟨h.h.up hb, estep h.b hb, h.g0, h.p0⟩
theorem K25.put (h : K25 w w1 g p x) (hb : BfP w1 g p 1 y ok e w2) : e = .returned (.bool ok) ∧ ∃ p2, K25 w w2 g p2 y := by
  obtain ⟨rfl, p2, h1, h2, h3⟩ := hb
  refine ⟨rfl, p2, h1, OnS.to_below h.b h2 (fun k _ hk => ?_) h.b.size, h.g0, fun q hq => ?_⟩
  · rcases hk with rfl | hk
    · exact h.g0
    · exact h.p0 k hk.symm
  · rcases h3 with rfl | ⟨q2, h4, h5⟩
    · exact h.p0 q hq
    · rw [h4] at hq; injection hq with hq; have := h.b.size; omega
theorem K25.take (h : K25 w w1 g p x) (h2 : BfH w2 g p 1 y) (ho : OnS (fun b => b = g ∨ some b = p) w1 w2) : K25 w w2 g p y := by
  refine ⟨h2, OnS.to_below h.b ho (fun k _ hk => ?_) h.b.size, h.g0, h.p0⟩
  rcases hk with rfl | hk
  · exact h.g0
  · exact h.p0 k hk.symm
end
set_option maxRecDepth 100000 in
set_option maxHeartbeats 8000000 in
theorem known25_any (w : World) :
    Calls Try.prog 7 #[] w fun e w' => e = .returned (.bool true) ∧ Below w.heap.size w w' := by
  have hnot := enot
  go_enter Try.func7, Try.ntmps7
  go_wp2_with fail
  refine (bfnew_any 1 w (c := 1) (hid rfl)).mono ?_
  rintro e w1 ⟨g, rfl, hg, hR, hb1⟩
  have H1 : Hid (K25 w w1 g none ([], 0)) := hid ⟨hR, hb1, hg, fun q hq => by cases hq⟩
  have HP1 := hid (known25_put g none ([], 0) 1 w1 hR (by decide) (y := ([spI 1], 0)) (ok := true) (hid rfl))
  clear hg hR hb1
  go_wp2_with fail
  refine HP1.out.mono ?_
  intro e w2 hP
  obtain ⟨rfl, p2, h2⟩ := H1.out.put hP
  have H2 := hid h2
  have HP2 := hid (known25_put g p2 ([spI 1], 0) 2 w2 h2.h (by decide) (y := ([spI 1], 1)) (ok := false) (hid rfl))
  clear hP h2 HP1
  go_wp2_with fail
  refine HP2.out.mono ?_
  intro e w3 hP
  obtain ⟨rfl, p3, h3⟩ := H2.out.put hP
  have H3 := hid h3
  clear hP h3 HP2
  go_wp2_with fail
  refine (bfLen_any g p3 1 _ w3 H3.out.h (k := 1) (hid rfl)).mono ?_
  rintro e w4 ⟨rfl, hb⟩
  have H4 := hid (H3.out.up hb)
  clear hb
  go_wp2_with fail
  refine (bfLost_any g p3 1 _ w4 H4.out.h (by decide) (k := 1) (hid rfl)).mono ?_
  rintro e w5 ⟨rfl, hb⟩
  have H5 := hid (H4.out.up hb)
  clear hb
  go_wp2_with fail
  refine (bfAll_any g p3 1 _ w5 H5.out.h).mono ?_
  rintro e w6 ⟨v, rfl, hv, hb⟩
  obtain ⟨A6, c6, rfl, hgx, -⟩ := GB.reads encSp_len hv
  have H6 := hid (H5.out.up hb)
  have HS6 := hid (known25_same A6 c6 [spI 1] 1 w6 (hgx.imp fun b hb => hb.2) rfl)
  clear hb hv hgx
  go_wp2_with fail
  refine HS6.out.mono ?_
  rintro e w7 ⟨rfl, hb⟩
  have H7 := hid (H6.out.up hb)
  clear hb HS6
  go_wp2_with fail
  refine (bftake_any g p3 1 _ 5 w7 H7.out.h (y := ([], 1)) (out := [spI 1]) (hid rfl)).mono ?_
  rintro e w8 ⟨v, rfl, hv, hR, ho⟩
  obtain ⟨A8, c8, rfl, hgx, -⟩ := GB.reads encSp_len hv
  have H8 := hid (H7.out.take hR ho)
  have HS8 := hid (known25_same A8 c8 [spI 1] 1 w8 (hgx.imp fun b hb => hb.2) rfl)
  clear hv hgx hR ho
  go_wp2_with fail
  refine HS8.out.mono ?_
  rintro e w9 ⟨rfl, hb⟩
  have H9 := hid (H8.out.up hb)
  clear hb HS8
  go_wp2_with fail
  refine (bfLen_any g p3 1 _ w9 H9.out.h (k := 0) (hid rfl)).mono ?_
  rintro e wa ⟨rfl, hb⟩
  have HA := hid (estep H9.out.b hb)
  clear hb
  go_wp2_with fail
  refine (bfPut_nil _ wa).mono ?_
  rintro e wb ⟨rfl, hb⟩
  have HBb := hid (estep HA.out hb)
  clear hb
  go_wp2_with fail
  refine (bfTake_nil _ wb).mono ?_
  rintro e wc ⟨rfl, hb⟩
  have HC := hid (estep HBb.out hb)
  clear hb
  go_wp2_with fail
  refine (bfAll_nil wc).mono ?_
  rintro e wd ⟨rfl, hb⟩
  have HD := hid (estep HC.out hb)
  clear hb
  go_wp2_with fail
  refine (bfLen_nil wd).mono ?_
  rintro e we ⟨rfl, hb⟩
  have HE := hid (estep HD.out hb)
  clear hb
  go_wp2_with fail
  refine (bfLost_nil we).mono ?_
  rintro e wf ⟨rfl, hb⟩
  have HF := hid (estep HE.out hb)
  clear hb
  go_wp2_with fail
  go_returns
  exact ⟨rfl, HF.out⟩
end Go.Proofs.Ytlolnjgcffjfkaa
namespace Go.Proofs.Ytlolnjgcffjfkaa
set_option linter.unusedVariables false
set_option linter.unusedSimpArgs false
open Go.RowKit Go.Joins

theorem bfPut_lost (room : Nat) (b : Bfr) (s : Sp) : (bfPut room b s).1.2 ≤ b.2 + 1 := by
  unfold bfPut
  split
  · exact Nat.le_succ _
  · simp only; omega
theorem bfTake_out (b : Bfr) (n : Int) : (bfTake b n).2.length ≤ b.1.length := by
  unfold bfTake
  simp only [List.length_take]
  omega
/-- A buffer's blocks. -/
def BfS (g : Nat) (p : Option Nat) : Nat → Prop := fun b => b = g ∨ some b = p
theorem BfH.in_ {w : World} {g room : Nat} {p : Option Nat} {x : Bfr} (h : BfH w g p room x) {b : Nat} (hb : BfS g p b) : b < w.heap.size := by
  rcases hb with rfl | hb
  · exact h.lt.1
  · exact (h.lt.2 b hb.symm).1
/-- Two buffers, apart. -/
structure BfTwo (w wr : World) (g : Nat) (p : Option Nat) (g2 : Nat) (p2 : Option Nat) (c : Nat) (x y : Bfr) : Prop where
  a : BfH wr g p c x
  b : BfH wr g2 p2 c y
  bel : Below w.heap.size w wr
  apart : ∀ k, BfS g p k → ¬ BfS g2 p2 k
  new : ∀ k, BfS g p k ∨ BfS g2 p2 k → w.heap.size ≤ k
section
variable {w wr w2 : World} {g g2 c B : Nat} {p p2 p' : Option Nat} {x y z : Bfr} {ok : Bool} {e : Ending}
theorem BfTwo.swap (h : BfTwo w wr g p g2 p2 c x y) : BfTwo w wr g2 p2 g p c y x := ⟨h.b, h.a, h.bel, fun k h1 h2 => h.apart k h2 h1, fun k hk => h.new k (Or.comm.1 hk)⟩
theorem BfTwo.up (h : BfTwo w wr g p g2 p2 c x y) (hb : Below wr.heap.size wr w2) : BfTwo w w2 g p g2 p2 c x y := ⟨h.a.up hb, h.b.up hb, estep h.bel hb, h.apart, h.new⟩
theorem BfTwo.far (h : BfTwo w wr g p g2 p2 c x y) (hb : Below B wr w2) (hB : ∀ k, BfS g p k ∨ BfS g2 p2 k → k < B) (hw : w.heap.size ≤ B) : BfTwo w w2 g p g2 p2 c x y := by
  have ho : OnS (fun k => B ≤ k) wr w2 := ⟨hb.os, hb.tape, hb.output, hb.size, fun k _ hk => hb.block k (by omega)⟩
  refine ⟨h.a.onS ho (by have := hB g (Or.inl (Or.inl rfl)); omega) (fun q hq => by have := hB q (Or.inl (Or.inr hq.symm)); omega), h.b.onS ho (by have := hB g2 (Or.inr (Or.inl rfl)); omega) (fun q hq => by have := hB q (Or.inr (Or.inr hq.symm)); omega), ?_, h.apart, h.new⟩
  exact h.bel.trans (hb.mono hw)
theorem BfTwo.start {w w1 w2 : World} (h1 : w.heap.size ≤ g) (hR : BfH w1 g none c ([], 0)) (hb1 : Below w.heap.size w w1) (hg : w1.heap.size ≤ g2) (hR2 : BfH w2 g2 none c ([], 0)) (hb2 : Below w1.heap.size w1 w2) : BfTwo w w2 g none g2 none c ([], 0) ([], 0) := by
  refine ⟨hR.up hb2, hR2, estep hb1 hb2, fun k hk hk2 => ?_, fun k hk => ?_⟩
  · rcases hk with rfl | hk
    · rcases hk2 with rfl | hk2
      · have := hR.lt.1; omega
      · cases hk2
    · cases hk
  · rcases hk with (rfl | hk) | (rfl | hk)
    · exact h1
    · cases hk
    · have := hb1.size; omega
    · cases hk
theorem BfTwo.take (h : BfTwo w wr g p g2 p2 c x y) (hx : BfH w2 g p c z) (ho : OnS (fun b => b = g ∨ some b = p) wr w2) : BfTwo w w2 g p g2 p2 c z y := by
  refine ⟨hx, h.b.onS ho (fun hS => h.apart g2 hS (Or.inl rfl)) (fun q hq hS => h.apart q hS (Or.inr hq.symm)), OnS.to_below h.bel ho (fun k _ hk => h.new k (Or.inl hk)) h.bel.size, h.apart, h.new⟩
theorem BfTwo.put (h : BfTwo w wr g p g2 p2 c x y) (hx : BfP wr g p c z ok e w2) : e = .returned (.bool ok) ∧ ∃ p', BfTwo w w2 g p' g2 p2 c z y := by
  obtain ⟨rfl, p', h1, h2, h3⟩ := hx
  have hT := h.take (z := x) (w2 := w2)
  refine ⟨rfl, p', h1, h.b.onS h2 (fun hS => h.apart g2 hS (Or.inl rfl)) (fun q hq hS => h.apart q hS (Or.inr hq.symm)), OnS.to_below h.bel h2 (fun k _ hk => h.new k (Or.inl hk)) h.bel.size, fun k hk hk2 => ?_, fun k hk => ?_⟩
  · rcases hk with rfl | hk
    · exact h.apart k (Or.inl rfl) hk2
    · rcases h3 with rfl | ⟨q, rfl, h4⟩
      · exact h.apart k (Or.inr hk) hk2
      · have := h.b.in_ hk2
        injection hk with hk
        omega
  · rcases hk with (rfl | hk) | hk
    · exact h.new k (Or.inl (Or.inl rfl))
    · rcases h3 with rfl | ⟨q, rfl, h4⟩
      · exact h.new k (Or.inl (Or.inr hk))
      · have := h.bel.size
        injection hk with hk
        omega
    · exact h.new k (Or.inr hk)
end
theorem keepSp {v w2 : World} {b o i : Nat} {s : Sp} (h : ∀ w', Below v.heap.size v w' → w'.cell? ⟨b, o + i * 11, none⟩ = some (.int .u64 (s.hi : Int)) ∧ w'.cell? ⟨b, o + i * 11 + 1, none⟩ = some (.int .u64 (s.lo : Int)) ∧ w'.cell? ⟨b, o + i * 11 + 2, none⟩ = some (.int .u64 (s.id : Int)) ∧ w'.cell? ⟨b, o + i * 11 + 3, none⟩ = some (.int .u64 (s.up : Int)) ∧ w'.cell? ⟨b, o + i * 11 + 4, none⟩ = some (.string (bs s.name)) ∧ w'.cell? ⟨b, o + i * 11 + 5, none⟩ = some (.int .i64 s.status) ∧ w'.cell? ⟨b, o + i * 11 + 6, none⟩ = some (.int .i64 s.seq) ∧ w'.cell? ⟨b, o + i * 11 + 7, none⟩ = some (.int .i64 s.kids) ∧ w'.cell? ⟨b, o + i * 11 + 8, none⟩ = some (.bool s.shade) ∧ w'.cell? ⟨b, o + i * 11 + 9, none⟩ = some (.int .i64 s.start) ∧ w'.cell? ⟨b, o + i * 11 + 10, none⟩ = some (.int .i64 s.fin)) (hb : Below v.heap.size v w2) : w2.cell? ⟨b, o + i * 11, none⟩ = some (.int .u64 (s.hi : Int)) ∧ w2.cell? ⟨b, o + i * 11 + 1, none⟩ = some (.int .u64 (s.lo : Int)) ∧ w2.cell? ⟨b, o + i * 11 + 2, none⟩ = some (.int .u64 (s.id : Int)) ∧ w2.cell? ⟨b, o + i * 11 + 3, none⟩ = some (.int .u64 (s.up : Int)) ∧ w2.cell? ⟨b, o + i * 11 + 4, none⟩ = some (.string (bs s.name)) ∧ w2.cell? ⟨b, o + i * 11 + 5, none⟩ = some (.int .i64 s.status) ∧ w2.cell? ⟨b, o + i * 11 + 6, none⟩ = some (.int .i64 s.seq) ∧ w2.cell? ⟨b, o + i * 11 + 7, none⟩ = some (.int .i64 s.kids) ∧ w2.cell? ⟨b, o + i * 11 + 8, none⟩ = some (.bool s.shade) ∧ w2.cell? ⟨b, o + i * 11 + 9, none⟩ = some (.int .i64 s.start) ∧ w2.cell? ⟨b, o + i * 11 + 10, none⟩ = some (.int .i64 s.fin) ∧ Below v.heap.size v w2 := by
  obtain ⟨r0, r1, r2, r3, r4, r5, r6, r7, r8, r9, r10⟩ := h w2 hb
  exact ⟨r0, r1, r2, r3, r4, r5, r6, r7, r8, r9, r10, hb⟩
set_option maxRecDepth 100000 in
set_option maxHeartbeats 16000000 in
theorem bufferPieces_walk (room : Int) (v : Value) (L : List Sp) (a0 a1 : Int) (w : World) (hx : RwV encSp 11 w (· < w.heap.size) v L) :
    Calls Try.prog 5 #[.int .i64 room, v, .agg #[.int .i64 a0, .int .i64 a1]] w fun e w' => e = .returned (.bool true) ∧ Below w.heap.size w w' := by
  have hnot := enot
  obtain ⟨A, cap, rfl, hgx, -⟩ := hx
  obtain ⟨n, hn⟩ : ∃ n, L.length = n := ⟨_, rfl⟩
  rw [hn]
  have hb0 := enew w (.cells #[.int .i64 a0, .int .i64 a1] 47)
  have HG := hid hgx
  have HN := hid hn
  have HB0 := hid hb0
  clear hgx hn hb0
  by_cases hc0 : (200 : Int) < (n : Int)
  · have hd0 : decide ((200 : Int) < (n : Int)) = true := decide_eq_true hc0
    have hdn0 : decide (200 < n) = true := decide_eq_true (by omega)
    go_enter Try.func5, Try.ntmps5
    go_wp2_with fail
    refine (known25_any _).mono ?_
    rintro e w1 ⟨rfl, hb1⟩
    go_wp2_with fail
    go_returns
    exact ⟨rfl, estep HB0.out hb1⟩
  have hd0 : decide ((200 : Int) < (n : Int)) = false := decide_eq_false hc0
  have hdn0 : decide (200 < n) = false := decide_eq_false (by omega)
  by_cases hc1 : a0 < 0
  · have hd1 : decide (a0 < 0) = true := decide_eq_true hc1
    go_enter Try.func5, Try.ntmps5
    go_wp2_with fail
    refine (known25_any _).mono ?_
    rintro e w1 ⟨rfl, hb1⟩
    go_wp2_with fail
    go_returns
    exact ⟨rfl, estep HB0.out hb1⟩
  have hd1 : decide (a0 < 0) = false := decide_eq_false hc1
  by_cases hc2 : (1000 : Int) < a0
  · have hd2 : decide ((1000 : Int) < a0) = true := decide_eq_true hc2
    go_enter Try.func5, Try.ntmps5
    go_wp2_with fail
    refine (known25_any _).mono ?_
    rintro e w1 ⟨rfl, hb1⟩
    go_wp2_with fail
    go_returns
    exact ⟨rfl, estep HB0.out hb1⟩
  have hd2 : decide ((1000 : Int) < a0) = false := decide_eq_false hc2
  by_cases hc3 : a1 < 0
  · have hd3 : decide (a1 < 0) = true := decide_eq_true hc3
    go_enter Try.func5, Try.ntmps5
    go_wp2_with fail
    refine (known25_any _).mono ?_
    rintro e w1 ⟨rfl, hb1⟩
    go_wp2_with fail
    go_returns
    exact ⟨rfl, estep HB0.out hb1⟩
  have hd3 : decide (a1 < 0) = false := decide_eq_false hc3
  by_cases hc4 : (1000 : Int) < a1
  · have hd4 : decide ((1000 : Int) < a1) = true := decide_eq_true hc4
    go_enter Try.func5, Try.ntmps5
    go_wp2_with fail
    refine (known25_any _).mono ?_
    rintro e w1 ⟨rfl, hb1⟩
    go_wp2_with fail
    go_returns
    exact ⟨rfl, estep HB0.out hb1⟩
  have hd4 : decide ((1000 : Int) < a1) = false := decide_eq_false hc4
  obtain ⟨c, hc⟩ : ∃ c, bfRoom room = c := ⟨_, rfl⟩
  have HNW := hid (fun w2 => bfnew_any room w2 (hid hc))
  obtain ⟨z, hz⟩ : ∃ z, a0 + a1 = z := ⟨_, rfl⟩
  have hw : IntKind.i64.wrap (a0 + a1) = z := by rw [← hz]; exact IntWalk.i64_in _ (by omega)
  have HZ := hid (And.intro hz (And.intro (show 0 ≤ a0 by omega) (show 0 ≤ a1 by omega)))
  have hn200 : n ≤ 200 := by omega
  clear hc hc0 hc1 hc2 hc3 hc4 hz
  go_enter Try.func5, Try.ntmps5
  go_upto_region 1 with (fail)
  have KB := hid (Bk.new w 47 #[.int .i64 a0, .int .i64 a1])
  generalize w.alloc (.cells #[.int .i64 a0, .int .i64 a1] 47) = v0 at *
  have m0 : v0.cell? ⟨w.heap.size, 0, none⟩ = some (.int .i64 a0) := Bk.cell KB.out 0
  have m1 : v0.cell? ⟨w.heap.size, 1, none⟩ = some (.int .i64 a1) := Bk.cell KB.out 1
  go_wp2_with fail
  refine (HNW.out v0).mono ?_
  rintro e w1 ⟨g, rfl, hg, hR, hb1⟩
  have H1 := hid (And.intro hg (And.intro hR hb1))
  clear hg hR hb1 m0 m1
  go_wp2_with fail
  refine (HNW.out w1).mono ?_
  rintro e w2 ⟨g2, rfl, hg, hR, hb2⟩
  have HT2 := hid (BfTwo.start H1.out.1 H1.out.2.1 H1.out.2.2 hg hR hb2)
  clear hg hR hb2 H1 HNW
  go_wp2_with fail
  go_loopg [9] n (fun g1 vi wr => ∃ (i : Nat) (p p2 : Option Nat) (X : Bfr), vi = .int .i64 i ∧ i ≤ n ∧ n - i ≤ g1 ∧ Hid (BfTwo v0 wr g p g2 p2 c X X ∧ X.2 ≤ i))
  case atStart => exact ⟨0, none, none, ([], 0), rfl, by omega, by omega, hid ⟨HT2.out, Nat.le_refl _⟩⟩
  case round =>
    obtain ⟨i, p, p2, X, rfl, hin, hgk, HI⟩ := hrel
    obtain ⟨wz, hwz⟩ : ∃ wz, wz = wr := ⟨_, rfl⟩
    subst hwz
    by_cases hlt : i < n
    · have hiL : i < L.length := by have := HN.out; omega
      obtain ⟨b, o, rfl, hB, r0, r1, r2, r3, r4, r5, r6, r7, r8, r9, r10⟩ := sp_cells HG.out (List.getElem?_eq_getElem hiL)
      have HCC : Hid (∀ w', Below v0.heap.size v0 w' → w'.cell? ⟨b, o + i * 11, none⟩ = some (.int .u64 (L[i].hi : Int)) ∧ w'.cell? ⟨b, o + i * 11 + 1, none⟩ = some (.int .u64 (L[i].lo : Int)) ∧ w'.cell? ⟨b, o + i * 11 + 2, none⟩ = some (.int .u64 (L[i].id : Int)) ∧ w'.cell? ⟨b, o + i * 11 + 3, none⟩ = some (.int .u64 (L[i].up : Int)) ∧ w'.cell? ⟨b, o + i * 11 + 4, none⟩ = some (.string (bs L[i].name)) ∧ w'.cell? ⟨b, o + i * 11 + 5, none⟩ = some (.int .i64 L[i].status) ∧ w'.cell? ⟨b, o + i * 11 + 6, none⟩ = some (.int .i64 L[i].seq) ∧ w'.cell? ⟨b, o + i * 11 + 7, none⟩ = some (.int .i64 L[i].kids) ∧ w'.cell? ⟨b, o + i * 11 + 8, none⟩ = some (.bool L[i].shade) ∧ w'.cell? ⟨b, o + i * 11 + 9, none⟩ = some (.int .i64 L[i].start) ∧ w'.cell? ⟨b, o + i * 11 + 10, none⟩ = some (.int .i64 L[i].fin)) := hid fun w2 h2 => ⟨((HB0.out.trans (h2.mono HB0.out.size)).cell hB).trans r0, ((HB0.out.trans (h2.mono HB0.out.size)).cell hB).trans r1, ((HB0.out.trans (h2.mono HB0.out.size)).cell hB).trans r2, ((HB0.out.trans (h2.mono HB0.out.size)).cell hB).trans r3, ((HB0.out.trans (h2.mono HB0.out.size)).cell hB).trans r4, ((HB0.out.trans (h2.mono HB0.out.size)).cell hB).trans r5, ((HB0.out.trans (h2.mono HB0.out.size)).cell hB).trans r6, ((HB0.out.trans (h2.mono HB0.out.size)).cell hB).trans r7, ((HB0.out.trans (h2.mono HB0.out.size)).cell hB).trans r8, ((HB0.out.trans (h2.mono HB0.out.size)).cell hB).trans r9, ((HB0.out.trans (h2.mono HB0.out.size)).cell hB).trans r10⟩
      clear hB r0 r1 r2 r3 r4 r5 r6 r7 r8 r9 r10
      generalize L[i] = s at *
      obtain ⟨r0, r1, r2, r3, r4, r5, r6, r7, r8, r9, r10⟩ := HCC.out wz HI.out.1.bel
      obtain ⟨Y, ok, hY⟩ : ∃ Y ok, bfPut c X s = (Y, ok) := ⟨_, _, rfl⟩
      have HY := hid hY
      have HL : Hid (Y.2 ≤ i + 1) := hid (by have := bfPut_lost c X s; rw [hY] at this; have := HI.out.2; simp only at *; omega)
      have HLX : Hid (X.2 + 1 ≤ 1099511627776) := hid (by have := HI.out.2; omega)
      have hltz : (i : Int) < (n : Int) := by omega
      have hltd : decide ((i : Int) < (n : Int)) = true := decide_eq_true hltz
      have hltn : decide (i < n) = true := decide_eq_true hlt
      have hi0 : (0 : Int) ≤ (i : Int) := by omega
      have hadd : IntKind.i64.wrap ((i : Int) + 1) = (i : Int) + 1 := IntWalk.i64_in _ (by omega)
      have hz0 : Below wz.heap.size wz wz.drew := (Below.refl _ _).drew
      have HP1 := hid (fun w2 (hb : Below wz.heap.size wz w2) => bfput_any g p c X s w2 (HI.out.1.up hb).a HLX.out (hid hY))
      have HP2 := hid (fun p' w2 (h : BfTwo v0 w2 g p' g2 p2 c Y X) => bfput_any g2 p2 c X s w2 h.b HLX.out (hid hY))
      clear hY
      go_wp2_with fail
      have hzb : Below v0.heap.size v0 wz.drew := HI.out.1.bel.drew
      go_region_held3 (fun w' => w'.cell? ⟨b, o + i * 11, none⟩ = some (.int .u64 (s.hi : Int)) ∧ w'.cell? ⟨b, o + i * 11 + 1, none⟩ = some (.int .u64 (s.lo : Int)) ∧ w'.cell? ⟨b, o + i * 11 + 2, none⟩ = some (.int .u64 (s.id : Int)) ∧ w'.cell? ⟨b, o + i * 11 + 3, none⟩ = some (.int .u64 (s.up : Int)) ∧ w'.cell? ⟨b, o + i * 11 + 4, none⟩ = some (.string (bs s.name)) ∧ w'.cell? ⟨b, o + i * 11 + 5, none⟩ = some (.int .i64 s.status) ∧ w'.cell? ⟨b, o + i * 11 + 6, none⟩ = some (.int .i64 s.seq) ∧ w'.cell? ⟨b, o + i * 11 + 7, none⟩ = some (.int .i64 s.kids) ∧ w'.cell? ⟨b, o + i * 11 + 8, none⟩ = some (.bool s.shade) ∧ w'.cell? ⟨b, o + i * 11 + 9, none⟩ = some (.int .i64 s.start) ∧ w'.cell? ⟨b, o + i * 11 + 10, none⟩ = some (.int .i64 s.fin) ∧ Below v0.heap.size v0 w') (first | (with_reducible exact keepSp HCC.out hzb)) (first
        | (go_at_call 14
           ((with_reducible refine (HP1.out _ hz0).mono ?_); intro e w5 hP5)
           obtain ⟨rfl, pa, HT5⟩ := (HI.out.1.up hz0).put hP5
           have hzb := HT5.bel)
        | (go_at_call 14
           ((with_reducible refine (HP2.out _ _ HT5).mono ?_); intro e w6 hP6)
           obtain ⟨rfl, pb, HT6⟩ := HT5.swap.put hP6
           have hzb := HT6.bel))
      all_goals
        have HT7 := hid HT6.swap
        clear HT6 HT5 hP5 hP6 HP1 HP2 r0 r1 r2 r3 r4 r5 r6 r7 r8 r9 r10 hz0 hzb
        go_wp2_with fail
        go_roundg (n - (i + 1))
        case measure => omega
        case rel => exact ⟨i + 1, _, _, Y, by first | rfl | go_num | simp, by omega, by omega, hid ⟨HT7.out, HL.out⟩⟩
    · obtain rfl : i = n := by omega
      have hltz : ¬ (i : Int) < (i : Int) := by omega
      obtain ⟨⟨X1, o1⟩, hX1⟩ : ∃ r, bfTake X a0 = r := ⟨_, rfl⟩
      obtain ⟨⟨X2, o2⟩, hX2⟩ : ∃ r, bfTake X1 a1 = r := ⟨_, rfl⟩
      have HE : Hid (bfTake X z = (X2, o1 ++ o2)) := hid (by
        have := bfPieces X a0 a1 HZ.out.2.1 HZ.out.2.2
        rw [HZ.out.1, hX1] at this
        simp only [hX2] at this
        exact Prod.ext this.2.symm this.1.symm)
      have HT := hid (And.intro HI.out.1 HI.out.2)
      have hK0 : wz.cell? ⟨w.heap.size, 0, none⟩ = some (.int .i64 a0) := Bk.cell (KB.out.up HI.out.1.bel) 0
      have HTA := hid (bftake_any g p c X a0 wz HI.out.1.a (hid hX1))
      have HX2 := hid hX2
      have HLN0 : Hid (o1.length ≤ 64) := hid (by have h1 := bfTake_out X a0; rw [hX1] at h1; have := HI.out.1.a.few; simp only at h1; omega)
      clear hX1 hX2 HI
      go_wp2_with fail
      refine HTA.out.mono ?_
      rintro e w3 ⟨v1, rfl, hv1, hR3, ho3⟩
      have HT3 := hid (HT.out.1.take hR3 ho3)
      have HV3 := hid hv1
      have HSZ3 := hid ho3.size
      have hK1 : w3.cell? ⟨w.heap.size, 1, none⟩ = some (.int .i64 a1) := Bk.cell (KB.out.up HT3.out.bel) 1
      have HTB := hid (bftake_any g p c X1 a1 w3 HT3.out.a HX2)
      have HLN : Hid (o1.length ≤ 64 ∧ o2.length ≤ 64) := hid ⟨HLN0.out, by have h1 := bfTake_out X1 a1; rw [HX2.out] at h1; have := HT3.out.a.few; simp only at h1; omega⟩
      clear hv1 hR3 ho3 HTA hK0
      go_wp2_with fail
      refine HTB.out.mono ?_
      rintro e w4 ⟨v2, rfl, hv2, hR4, ho4⟩
      have HT4 := hid (HT3.out.take hR4 ho4)
      have HV4 : Hid (GB encSp 11 34 w4 wz.heap.size v1 o1) := hid (GB.onS HV3.out ho4 fun q hq hS => by
        have h1 := (World.ownsRow.lt HV3.out q hq).1
        have h2 := HT.out.1.a.in_ hS
        omega)
      obtain ⟨A2, c2, rfl, hg2, -⟩ := GB.reads encSp_len hv2
      have hA2 := gbase2 encSp_len hv2
      have HO2 := hid (And.intro (show A2 = none → c2 = 0 from fun e => by rcases hA2 with h | ⟨q, h⟩; exact h.2; rw [e] at h; cases h) (hg2.imp (M := (· < w4.heap.size)) fun b hb => hb.2))
      have HSZ : Hid (wz.heap.size ≤ w4.heap.size) := hid (Nat.le_trans HSZ3.out ho4.size)
      clear hv2 hR4 ho4 HTB hK1 HV3 HT3 hg2 hA2
      go_wp2_with (at_builtin; refine wpList_append_gx (W0 := w4) rowSp rfl _ _ rfl wz.heap.size v1 o1 o2 A2 c2 (· < w4.heap.size) rfl HV4.out rfl HO2.out.2 HO2.out.1 (by have := HLN.out; omega) (Below.refl _ _) HSZ.out ?_)
      intro v5 w5 hown5 hbel5 _
      have HT5 : Hid (BfTwo v0 w5 g p g2 p2 c X2 X) := hid (HT4.out.far hbel5 (fun k hk => by rcases hk with hk | hk; exact HT.out.1.a.in_ hk; exact HT.out.1.b.in_ hk) HT.out.1.bel.size)
      have HV5 := hid hown5
      have hK0 : w5.cell? ⟨w.heap.size, 0, none⟩ = some (.int .i64 a0) := Bk.cell (KB.out.up HT5.out.bel) 0
      have hK1 : w5.cell? ⟨w.heap.size, 1, none⟩ = some (.int .i64 a1) := Bk.cell (KB.out.up HT5.out.bel) 1
      have HTC := hid (bftake_any g2 p2 c X z w5 HT5.out.b HE.out)
      clear hown5 hbel5 HT4 HV4 HO2 HSZ
      go_wp2_with fail
      refine HTC.out.mono ?_
      rintro e w6 ⟨v6, rfl, hv6, hR6, ho6⟩
      have HT6 := hid (HT5.out.swap.take hR6 ho6).swap
      have HV6 := hid hv6
      have HV7 : Hid (GB encSp 11 34 w6 wz.heap.size v5 (o1 ++ o2)) := hid (GB.onS HV5.out ho6 fun q hq hS => by
        have h1 := (World.ownsRow.lt HV5.out q hq).1
        have h2 := HT.out.1.b.in_ hS
        omega)
      obtain ⟨A6, c6, rfl, hg6, -⟩ := GB.reads encSp_len HV6.out
      obtain ⟨A7, c7, rfl, hg7, -⟩ := GB.reads encSp_len HV7.out
      obtain ⟨k, hk⟩ : ∃ k, (o1 ++ o2).length = k := ⟨_, rfl⟩
      have hk9 : k ≤ 1000 := by rw [← hk, List.length_append]; have := HLN.out; omega
      have HSA := hid (spsame_lit A7 A6 c7 c6 k (o1 ++ o2) w6 (hg7.imp fun b hb => hb.2) (hg6.imp fun b hb => hb.2) (hid hk) (by omega))
      rw [hk]
      clear hv6 hR6 ho6 hg6 hg7 hk HV5 HV6 HV7 hK0 hK1 HTC HT5
      go_wp2_with fail
      refine HSA.out.mono ?_
      rintro e w7 ⟨rfl, hb7⟩
      have HT7 := hid (HT6.out.up hb7)
      have HAL := hid (bfAll_any g p c X2 w7 HT7.out.a)
      clear hb7 HT6 HSA
      go_wp2_with fail
      refine HAL.out.mono ?_
      rintro e w8 ⟨v8, rfl, hv8, hb8⟩
      have HT8 := hid (HT7.out.up hb8)
      have HV8 := hid hv8
      have HAM := hid (bfAll_any g2 p2 c X2 w8 HT8.out.b)
      clear hv8 hb8 HT7 HAL
      go_wp2_with fail
      refine HAM.out.mono ?_
      rintro e w9 ⟨v9, rfl, hv9, hb9⟩
      have HT9 := hid (HT8.out.up hb9)
      obtain ⟨A8, c8, rfl, hg8, -⟩ := GB.reads encSp_len (HV8.out.below hb9)
      obtain ⟨A9, c9, rfl, hg9, -⟩ := GB.reads encSp_len hv9
      obtain ⟨k2, hk2⟩ : ∃ k, X2.1.length = k := ⟨_, rfl⟩
      have hk29 : k2 ≤ 1000 := by have := HT8.out.a.few; omega
      have HSB := hid (spsame_lit A8 A9 c8 c9 k2 X2.1 w9 (hg8.imp fun b hb => hb.2) (hg9.imp fun b hb => hb.2) (hid hk2) (by omega))
      rw [hk2]
      clear hv9 hb9 hg8 hg9 hk2 HV8 HT8 HAM
      go_wp2_with fail
      refine HSB.out.mono ?_
      rintro e wa ⟨rfl, hba⟩
      have HTa := hid (HT9.out.up hba)
      clear hba HSB
      go_wp2_with fail
      refine (known25_any _).mono ?_
      rintro e wb ⟨rfl, hbb⟩
      go_wp2_with fail
      go_returns
      exact ⟨rfl, HB0.out.trans ((estep HTa.out.bel hbb).mono HB0.out.size)⟩
end Go.Proofs.Ytlolnjgcffjfkaa
namespace Go.Proofs.Ytlolnjgcffjfkaa
set_option linter.unusedVariables false
set_option linter.unusedSimpArgs false
open Go.RowKit Go.Joins

/-- append of a row that a call has made, to one of the call's own: where the row lies then. -/
theorem wpList_append_gxw {α : Type} {enc : α → List Value} {k : Nat} {e : TypeId} {P : Program} {t : TypeId} {z : Value} {bytes : Nat} (T : RowT P enc k t e z bytes) {ops : Array Oper} {rest : List Oper} {o : Oper} {a : Act} {Q : Exit → Act → World → Prop} {w : World} (hgd : o.guard = none) (s x : Operand)
    (ho : o.op = .call { callee := .builtin .append, args := #[s, x], argTypes := #[t, t] }) (base base2 : Nat) (v y : Value) (L M : List α)
    (hs : a.eval s = v) (hown : GB enc k e w base v L) (hx : a.eval x = y) (hR : GB enc k e w base2 y M)
    (hl : L.length + M.length ≤ 10000000) (hbase : base ≤ w.heap.size) (K : ∀ v' w', GB enc k e w' base v' (L ++ M) → w.grownBy w' v.ownBlock → (v'.ownBlock = v.ownBlock ∨ v'.ownBlock = some w.heap.size) → wpList P ops Q rest (a.put o.dst v') w') : wpList P ops Q (o :: rest) a w := by
  obtain ⟨i0, hi, hz0, hz1, hz2⟩ := info_parts T.inf
  have hrefl : w.grownBy w v.ownBlock := ⟨rfl, rfl, rfl, Nat.le_refl _, fun _ _ _ => rfl⟩
  have hyf := GB.form T.hk hR
  obtain ⟨A, cap, hye, hgx, -⟩ := GB.reads T.hk hR
  subst hx
  rcases hyf with ⟨hy, rfl⟩ | ⟨q, c, hy, -⟩
  · exact wpList_append_own_none hgd s x t ho base e i0 k T.ht hi v L.length (gvals enc L) hs hown hy (K v w (by simpa using hown) hrefl (Or.inl rfl))
  · rw [hye] at hy
    simp only [Value.slice.injEq, true_and] at hy
    obtain ⟨rfl, rfl⟩ := hy
    rcases Nat.eq_zero_or_pos M.length with h0 | h0
    · have hM : M = [] := List.eq_nil_of_length_eq_zero h0
      subst hM
      rcases GB.form T.hk hown with ⟨hv, hL⟩ | ⟨g, c', hv, -, -, h4, -⟩
      · refine wpList_append_own w hgd s x t ho base e i0 z k bytes T.ht hi hz0 hz1 hz2 T.hzs T.k0 v L.length (gvals enc L) hs hown ⟨q, 0, none⟩ 0 cap [] hye (by simp) (by intro j u hj; simp at hj) (by simp) (by unfold maxLen; omega) (by have := Nat.le_trans (Nat.mul_le_mul hl T.hb) (show 10000000 * 1000 ≤ 140737488355328 by omega); simpa using this) hbase fun v' w' h1 h2 h3 => K v' w' (by simpa [GB, gvals] using h1) h2 (Or.inl ?_)
        rw [h3.2 ⟨hv, rfl⟩, hv]
      · subst hv
        obtain ⟨w', hr, h2, h3⟩ := run_append_fits (P := P) w base t o.type e i0 k T.ht hi hz1 g L.length c' (gvals enc L) hown ⟨q, 0, none⟩ 0 cap [] (by simp) (by intro j u hj; simp at hj) (by simp) h4
        refine wpList_plain hgd fun K2 hK => ?_
        unfold Oper.wp execOp
        have hye2 : a.eval x = .slice (some ⟨q, 0, none⟩) 0 cap := hye
        simp only [ho, resolve, invoke, builtin, Sem.run_bind, Sem.run_pure, Result.andThen_ok, List.map_toArray, List.map_cons, List.map_nil, hs, hye2, hr]
        exact hK _ _ (K _ w' (by simpa [GB, gvals] using h2) h3 (Or.inl rfl))
    · refine wpList_append_gxl T hgd s x ho base v L M q cap _ hs hown hye hgx h0 hl hbase fun g c w' m hm h1 h2 h3 => K _ w' h1 h2 ?_
      rcases h3 with h3 | h3
      · exact Or.inl h3.symm
      · exact Or.inr (by rw [h3]; rfl)
/-- The cells of one move. -/
theorem bm_cells {w : World} {N : Nat → Prop} {A : Option Addr} {L : List (Sp × Int)} (h : GX encBM 12 w N A L) {i : Nat} {m : Sp × Int} (hu : L[i]? = some m) : ∃ b p, A = some ⟨b, p, none⟩ ∧ N b ∧
    w.cell? ⟨b, p + i * 12, none⟩ = some (.int .u64 (m.1.hi : Int)) ∧ w.cell? ⟨b, p + i * 12 + 1, none⟩ = some (.int .u64 (m.1.lo : Int)) ∧ w.cell? ⟨b, p + i * 12 + 2, none⟩ = some (.int .u64 (m.1.id : Int)) ∧ w.cell? ⟨b, p + i * 12 + 3, none⟩ = some (.int .u64 (m.1.up : Int)) ∧ w.cell? ⟨b, p + i * 12 + 4, none⟩ = some (.string (bs m.1.name)) ∧ w.cell? ⟨b, p + i * 12 + 5, none⟩ = some (.int .i64 m.1.status) ∧ w.cell? ⟨b, p + i * 12 + 6, none⟩ = some (.int .i64 m.1.seq) ∧ w.cell? ⟨b, p + i * 12 + 7, none⟩ = some (.int .i64 m.1.kids) ∧ w.cell? ⟨b, p + i * 12 + 8, none⟩ = some (.bool m.1.shade) ∧ w.cell? ⟨b, p + i * 12 + 9, none⟩ = some (.int .i64 m.1.start) ∧ w.cell? ⟨b, p + i * 12 + 10, none⟩ = some (.int .i64 m.1.fin) ∧ w.cell? ⟨b, p + i * 12 + 11, none⟩ = some (.int .i64 m.2) := by
  obtain ⟨hi, rfl⟩ := List.getElem?_eq_some_iff.1 hu
  obtain ⟨b, p, e, h1, h2⟩ := h i hi
  exact ⟨b, p, e, h1, h2 0 (by omega), h2 1 (by omega), h2 2 (by omega), h2 3 (by omega), h2 4 (by omega), h2 5 (by omega), h2 6 (by omega), h2 7 (by omega), h2 8 (by omega), h2 9 (by omega), h2 10 (by omega), h2 11 (by omega)⟩
/-- What BufferOnce's loop knows: the buffer, what was put, what was taken. -/
structure BfO (w wr : World) (g : Nat) (p : Option Nat) (c : Nat) (X : Bfr) (vi : Value) (inn : List Sp) (vo : Value) (out : List Sp) : Prop where
  h : BfH wr g p c X
  gi : GB encSp 11 34 wr w.heap.size vi inn
  go : GB encSp 11 34 wr w.heap.size vo out
  bel : Below w.heap.size w wr
  ai : ∀ k, vi.ownBlock = some k → ¬ BfS g p k
  ao : ∀ k, vo.ownBlock = some k → ¬ BfS g p k
  io : ∀ k, vi.ownBlock = some k → vo.ownBlock ≠ some k
  new : ∀ k, BfS g p k → w.heap.size ≤ k
section
variable {w wr w2 : World} {g c : Nat} {p : Option Nat} {X Y : Bfr} {vi vo v' : Value} {inn out l : List Sp} {ok : Bool} {e : Ending}
theorem BfO.up (h : BfO w wr g p c X vi inn vo out) (hb : Below wr.heap.size wr w2) : BfO w w2 g p c X vi inn vo out := ⟨h.h.up hb, h.gi.below hb, h.go.below hb, estep h.bel hb, h.ai, h.ao, h.io, h.new⟩
theorem BfO.take (h : BfO w wr g p c X vi inn vo out) (hx : BfH w2 g p c Y) (ho : OnS (fun b => b = g ∨ some b = p) wr w2) : BfO w w2 g p c Y vi inn vo out :=
  ⟨hx, GB.onS h.gi ho h.ai, GB.onS h.go ho h.ao, OnS.to_below h.bel ho (fun k _ hk => h.new k hk) h.bel.size, h.ai, h.ao, h.io, h.new⟩
theorem BfO.put (h : BfO w wr g p c X vi inn vo out) (hx : BfP wr g p c Y ok e w2) : e = .returned (.bool ok) ∧ ∃ p', BfO w w2 g p' c Y vi inn vo out := by
  obtain ⟨rfl, p', h1, h2, h3⟩ := hx
  have hap : ∀ (v : Value) (l : List Sp), GB encSp 11 34 wr w.heap.size v l → (∀ k, v.ownBlock = some k → ¬ BfS g p k) → ∀ k, v.ownBlock = some k → ¬ BfS g p' k := fun v l hg hh k hk hS => by
    rcases hS with rfl | hS
    · exact hh k hk (Or.inl rfl)
    · rcases h3 with rfl | ⟨q, rfl, h4⟩
      · exact hh k hk (Or.inr hS)
      · have := (World.ownsRow.lt hg k hk).2
        injection hS with hS
        omega
  refine ⟨rfl, p', h1, GB.onS h.gi h2 h.ai, GB.onS h.go h2 h.ao, OnS.to_below h.bel h2 (fun k _ hk => h.new k hk) h.bel.size, hap vi inn h.gi h.ai, hap vo out h.go h.ao, h.io, fun k hk => ?_⟩
  rcases hk with rfl | hk
  · exact h.new k (Or.inl rfl)
  · rcases h3 with rfl | ⟨q, rfl, h4⟩
    · exact h.new k (Or.inr hk)
    · have := h.bel.size
      injection hk with hk
      omega
theorem BfO.outs (h : BfO w wr g p c X vi inn vo out) (hG : GB encSp 11 34 w2 w.heap.size v' l) (hg : wr.grownBy w2 vo.ownBlock) (hl : v'.ownBlock = vo.ownBlock ∨ v'.ownBlock = some wr.heap.size) : BfO w w2 g p c X vi inn v' l := by
  have ho : OnS (fun b => some b = vo.ownBlock) wr w2 := OnS.grown hg fun b hb => hb.symm
  have hlt := h.h.lt
  refine ⟨h.h.onS ho (fun hS => h.ao g hS.symm (Or.inl rfl)) (fun q hq hS => h.ao q hS.symm (Or.inr hq.symm)), GB.onS h.gi ho (fun q hq hS => h.io q hq hS.symm), hG, OnS.to_below h.bel ho (fun k _ hk => (World.ownsRow.lt h.go k hk.symm).1) h.bel.size, h.ai, fun k hk hS => ?_, fun k hk hk2 => ?_, h.new⟩
  · rcases hl with hl | hl
    · exact h.ao k (hl.symm.trans hk) hS
    · rw [hl] at hk; injection hk with hk
      have := h.h.in_ hS
      omega
  · rcases hl with hl | hl
    · exact h.io k hk (hl.symm.trans hk2)
    · rw [hl] at hk2; injection hk2 with hk2
      have := (World.ownsRow.lt h.gi k hk).2
      omega
theorem BfO.start (hg : w.heap.size ≤ g) (hR : BfH wr g none c ([], 0)) (hb : Below w.heap.size w wr) : BfO w wr g none c ([], 0) (.slice none 0 0) [] (.slice none 0 0) [] := by
  refine ⟨hR, GB.nil _ _, GB.nil _ _, hb, fun k hk => (by cases hk), fun k hk => (by cases hk), fun k hk => (by cases hk), fun k hk => ?_⟩
  rcases hk with rfl | hk
  · exact hg
  · cases hk
theorem BfO.swap (h : BfO w wr g p c X vi inn vo out) : BfO w wr g p c X vo out vi inn := ⟨h.h, h.go, h.gi, h.bel, h.ao, h.ai, fun k h1 h2 => h.io k h2 h1, h.new⟩
end
theorem keepBm {v w2 : World} {b p i : Nat} {m : Sp × Int} (h : ∀ w', Below v.heap.size v w' → w'.cell? ⟨b, p + i * 12, none⟩ = some (.int .u64 (m.1.hi : Int)) ∧ w'.cell? ⟨b, p + i * 12 + 1, none⟩ = some (.int .u64 (m.1.lo : Int)) ∧ w'.cell? ⟨b, p + i * 12 + 2, none⟩ = some (.int .u64 (m.1.id : Int)) ∧ w'.cell? ⟨b, p + i * 12 + 3, none⟩ = some (.int .u64 (m.1.up : Int)) ∧ w'.cell? ⟨b, p + i * 12 + 4, none⟩ = some (.string (bs m.1.name)) ∧ w'.cell? ⟨b, p + i * 12 + 5, none⟩ = some (.int .i64 m.1.status) ∧ w'.cell? ⟨b, p + i * 12 + 6, none⟩ = some (.int .i64 m.1.seq) ∧ w'.cell? ⟨b, p + i * 12 + 7, none⟩ = some (.int .i64 m.1.kids) ∧ w'.cell? ⟨b, p + i * 12 + 8, none⟩ = some (.bool m.1.shade) ∧ w'.cell? ⟨b, p + i * 12 + 9, none⟩ = some (.int .i64 m.1.start) ∧ w'.cell? ⟨b, p + i * 12 + 10, none⟩ = some (.int .i64 m.1.fin) ∧ w'.cell? ⟨b, p + i * 12 + 11, none⟩ = some (.int .i64 m.2)) (hb : Below v.heap.size v w2) : w2.cell? ⟨b, p + i * 12, none⟩ = some (.int .u64 (m.1.hi : Int)) ∧ w2.cell? ⟨b, p + i * 12 + 1, none⟩ = some (.int .u64 (m.1.lo : Int)) ∧ w2.cell? ⟨b, p + i * 12 + 2, none⟩ = some (.int .u64 (m.1.id : Int)) ∧ w2.cell? ⟨b, p + i * 12 + 3, none⟩ = some (.int .u64 (m.1.up : Int)) ∧ w2.cell? ⟨b, p + i * 12 + 4, none⟩ = some (.string (bs m.1.name)) ∧ w2.cell? ⟨b, p + i * 12 + 5, none⟩ = some (.int .i64 m.1.status) ∧ w2.cell? ⟨b, p + i * 12 + 6, none⟩ = some (.int .i64 m.1.seq) ∧ w2.cell? ⟨b, p + i * 12 + 7, none⟩ = some (.int .i64 m.1.kids) ∧ w2.cell? ⟨b, p + i * 12 + 8, none⟩ = some (.bool m.1.shade) ∧ w2.cell? ⟨b, p + i * 12 + 9, none⟩ = some (.int .i64 m.1.start) ∧ w2.cell? ⟨b, p + i * 12 + 10, none⟩ = some (.int .i64 m.1.fin) ∧ w2.cell? ⟨b, p + i * 12 + 11, none⟩ = some (.int .i64 m.2) ∧ Below v.heap.size v w2 := by
  obtain ⟨r0, r1, r2, r3, r4, r5, r6, r7, r8, r9, r10, r11⟩ := h w2 hb
  exact ⟨r0, r1, r2, r3, r4, r5, r6, r7, r8, r9, r10, r11, hb⟩
set_option maxRecDepth 100000 in
set_option maxHeartbeats 16000000 in
theorem bufferOnce_walk (room : Int) (v : Value) (L : List (Sp × Int)) (w : World) (hx : RwV encBM 12 w (· < w.heap.size) v L) :
    Calls Try.prog 4 #[.int .i64 room, v] w fun e w' => e = .returned (.bool true) ∧ Below w.heap.size w w' := by
  have hnot := enot
  obtain ⟨A, cap, rfl, hgx, -⟩ := hx
  obtain ⟨n, hn⟩ : ∃ n, L.length = n := ⟨_, rfl⟩
  rw [hn]
  have HG := hid hgx
  have HN := hid hn
  clear hgx hn
  by_cases hc0 : (300 : Int) < (n : Int)
  · have hd0 : decide ((300 : Int) < (n : Int)) = true := decide_eq_true hc0
    have hdn0 : decide (300 < n) = true := decide_eq_true (by omega)
    go_enter Try.func4, Try.ntmps4
    go_wp2_with fail
    refine (known25_any _).mono ?_
    rintro e w1 ⟨rfl, hb1⟩
    go_wp2_with fail
    go_returns
    exact ⟨rfl, hb1⟩
  have hd0 : decide ((300 : Int) < (n : Int)) = false := decide_eq_false hc0
  have hdn0 : decide (300 < n) = false := decide_eq_false (by omega)
  obtain ⟨c, hc⟩ : ∃ c, bfRoom room = c := ⟨_, rfl⟩
  have HNW := hid (fun w2 => bfnew_any room w2 (hid hc))
  have hmm : max 1 (min room 64) = (c : Int) := by unfold bfRoom at hc; omega
  have hn300 : n ≤ 300 := by omega
  clear hc hc0
  go_enter Try.func4, Try.ntmps4
  go_wp2_with fail
  refine (HNW.out w).mono ?_
  rintro e w1 ⟨g, rfl, hg, hR, hb1⟩
  have HT1 := hid (BfO.start hg hR hb1)
  clear hg hR hb1 HNW
  go_wp2_with fail
  go_loopg [6, 7, 8, 9] n (fun g1 vi vo vl vn wr => ∃ (i : Nat) (p : Option Nat) (X : Bfr) (inn out : List Sp), vn = .int .i64 i ∧ vl = .int .i64 (X.2 : Int) ∧ i ≤ n ∧ n - i ≤ g1 ∧ Hid (BfO w wr g p c X vi inn vo out ∧ bfOnce c X inn out X.2 ∧ X.2 ≤ i ∧ inn.length ≤ i))
  case atStart => exact ⟨0, none, ([], 0), [], [], rfl, rfl, by omega, by omega, hid ⟨HT1.out, bfOnce_new c, Nat.le_refl _, Nat.le_refl _⟩⟩
  case round =>
    obtain ⟨i, p, X, inn, out, rfl, rfl, hin, hgk, HI⟩ := hrel
    obtain ⟨wz, hwz⟩ : ∃ wz, wz = wr := ⟨_, rfl⟩
    subst hwz
    obtain ⟨lo, hlo⟩ : ∃ lo, X.2 = lo := ⟨_, rfl⟩
    have HLO := hid hlo
    rw [hlo]
    have hlo9 : lo ≤ 300 := by have := HI.out.2.2.1; omega
    clear hlo
    by_cases hlt : i < n
    · have hiL : i < L.length := by have := HN.out; omega
      obtain ⟨b, o, rfl, hB, r0, r1, r2, r3, r4, r5, r6, r7, r8, r9, r10, r11⟩ := bm_cells HG.out (List.getElem?_eq_getElem hiL)
      have HCC : Hid (∀ w', Below w.heap.size w w' → w'.cell? ⟨b, o + i * 12, none⟩ = some (.int .u64 (L[i].1.hi : Int)) ∧ w'.cell? ⟨b, o + i * 12 + 1, none⟩ = some (.int .u64 (L[i].1.lo : Int)) ∧ w'.cell? ⟨b, o + i * 12 + 2, none⟩ = some (.int .u64 (L[i].1.id : Int)) ∧ w'.cell? ⟨b, o + i * 12 + 3, none⟩ = some (.int .u64 (L[i].1.up : Int)) ∧ w'.cell? ⟨b, o + i * 12 + 4, none⟩ = some (.string (bs L[i].1.name)) ∧ w'.cell? ⟨b, o + i * 12 + 5, none⟩ = some (.int .i64 L[i].1.status) ∧ w'.cell? ⟨b, o + i * 12 + 6, none⟩ = some (.int .i64 L[i].1.seq) ∧ w'.cell? ⟨b, o + i * 12 + 7, none⟩ = some (.int .i64 L[i].1.kids) ∧ w'.cell? ⟨b, o + i * 12 + 8, none⟩ = some (.bool L[i].1.shade) ∧ w'.cell? ⟨b, o + i * 12 + 9, none⟩ = some (.int .i64 L[i].1.start) ∧ w'.cell? ⟨b, o + i * 12 + 10, none⟩ = some (.int .i64 L[i].1.fin) ∧ w'.cell? ⟨b, o + i * 12 + 11, none⟩ = some (.int .i64 L[i].2)) := hid fun w2 h2 => ⟨(h2.cell hB).trans r0, (h2.cell hB).trans r1, (h2.cell hB).trans r2, (h2.cell hB).trans r3, (h2.cell hB).trans r4, (h2.cell hB).trans r5, (h2.cell hB).trans r6, (h2.cell hB).trans r7, (h2.cell hB).trans r8, (h2.cell hB).trans r9, (h2.cell hB).trans r10, (h2.cell hB).trans r11⟩
      clear hB r0 r1 r2 r3 r4 r5 r6 r7 r8 r9 r10 r11
      generalize L[i] = m at *
      obtain ⟨s, tk⟩ := m
      simp only at HCC
      obtain ⟨r0, r1, r2, r3, r4, r5, r6, r7, r8, r9, r10, r11⟩ := HCC.out wz HI.out.1.bel
      have hltz : (i : Int) < (n : Int) := by omega
      have hltd : decide ((i : Int) < (n : Int)) = true := decide_eq_true hltz
      have hltn : decide (i < n) = true := decide_eq_true hlt
      have hi0 : (0 : Int) ≤ (i : Int) := by omega
      have hadd : IntKind.i64.wrap ((i : Int) + 1) = (i : Int) + 1 := IntWalk.i64_in _ (by omega)
      by_cases htk : -1 < tk
      · have hdt : decide (-1 < tk) = true := decide_eq_true htk
        obtain ⟨⟨Y, o1⟩, hY⟩ : ∃ r, bfTake X tk = r := ⟨_, rfl⟩
        have HTA := hid (bftake_any g p c X tk wz HI.out.1.h (hid hY))
        have HON : Hid (bfOnce c Y inn (out ++ o1) lo) := hid (by
          have := bfOnce_take tk HI.out.2.1
          rw [hY] at this
          rw [← HLO.out]
          exact this)
        have HL1 : Hid (Y.2 = lo ∧ o1.length ≤ 64) := hid (by
          have h1 := bfTake_out X tk
          rw [hY] at h1
          have h2 : Y.2 = X.2 := by have := congrArg (fun r => r.1.2) hY; exact this.symm
          have h3 := HI.out.1.h.few
          simp only at h1
          exact ⟨h2.trans HLO.out, by omega⟩)
        have HLE : Hid (out.length ≤ 300) := hid (by
          have h1 := congrArg List.length HI.out.2.1.1
          rw [List.length_append] at h1
          have := HI.out.2.2.2
          omega)
        clear hY
        go_wp2_with fail
        refine HTA.out.mono ?_
        rintro e w3 ⟨v3, rfl, hv3, hR3, ho3⟩
        have HT3 := hid (HI.out.1.take hR3 ho3)
        have HV3 := hid hv3
        clear hv3 hR3 ho3 HTA r0 r1 r2 r3 r4 r5 r6 r7 r8 r9 r10 r11
        go_wp2_with (at_builtin; refine wpList_append_gxw rowSp rfl _ _ rfl w.heap.size wz.heap.size _ v3 out o1 rfl HT3.out.go rfl HV3.out (by have := HL1.out; have := HLE.out; omega) HT3.out.bel.size ?_)
        intro v4 w4 hG4 hg4 hl4
        have HT4 := hid (HT3.out.outs hG4 hg4 hl4)
        clear hG4 hg4 hl4 HV3 HT3
        obtain ⟨k, hk⟩ : ∃ k, Y.1.length = k := ⟨_, rfl⟩
        have HLN := hid (bfLen_any g p c Y w4 HT4.out.h (hid hk))
        have hkc : k ≤ c := by have := HT4.out.h.few; omega
        have hdk : decide ((c : Int) < (k : Int)) = false := decide_eq_false (by omega)
        have hdk2 : decide (c < k) = false := decide_eq_false (by omega)
        clear hk
        go_wp2_with fail
        refine HLN.out.mono ?_
        rintro e w5 ⟨rfl, hb5⟩
        have HT5 := hid (HT4.out.up hb5)
        clear hb5 HLN HT4
        go_wp2_with fail
        go_roundg (n - (i + 1))
        case measure => omega
        case rel => exact ⟨i + 1, p, Y, inn, out ++ o1, by first | rfl | go_num | simp, by rw [HL1.out.1], by omega, by omega, hid ⟨HT5.out, by rw [HL1.out.1]; exact HON.out, by rw [HL1.out.1]; have := HI.out.2.2.1; have := HLO.out; omega, by have := HI.out.2.2.2; omega⟩⟩
      · have hdt : decide (-1 < tk) = false := decide_eq_false htk
        obtain ⟨Y, ok, hY⟩ : ∃ Y ok, bfPut c X s = (Y, ok) := ⟨_, _, rfl⟩
        have HPA := hid (bfput_any g p c X s wz HI.out.1.h (by have := HI.out.2.2.1; omega) (hid hY))
        have HYY := hid hY
        clear hY
        by_cases hr : X.1.length < c
        · have HB1 := hid (bfOnce_put s HI.out.2.1 hr)
          rw [HYY.out] at HB1
          obtain rfl : ok = true := HB1.out.1
          have HL1 : Hid (Y.2 = lo) := hid (HB1.out.2.2.1.trans HLO.out)
          go_wp2_with fail
          refine HPA.out.mono ?_
          intro e w3 hP3
          obtain ⟨rfl, p3, h3⟩ := HI.out.1.put hP3
          have HT3 := hid h3
          obtain ⟨r0, r1, r2, r3, r4, r5, r6, r7, r8, r9, r10, r11⟩ := HCC.out w3 HT3.out.bel
          have hx1 := gx_new (M := [s]) encSp_len (Bk.new w3 34 #[.int .u64 (s.hi : Int), .int .u64 (s.lo : Int), .int .u64 (s.id : Int), .int .u64 (s.up : Int), .string (bs s.name), .int .i64 s.status, .int .i64 s.seq, .int .i64 s.kids, .bool s.shade, .int .i64 s.start, .int .i64 s.fin]) rfl
          have hbs := enew w3 (.cells #[.int .u64 (s.hi : Int), .int .u64 (s.lo : Int), .int .u64 (s.id : Int), .int .u64 (s.up : Int), .string (bs s.name), .int .i64 s.status, .int .i64 s.seq, .int .i64 s.kids, .bool s.shade, .int .i64 s.start, .int .i64 s.fin] 34)
          have HX1 := hid (And.intro hx1 (HT3.out.up hbs))
          clear hx1 hbs h3 hP3 HPA
          go_wp2_with (at_builtin; refine wpList_append_gxl rowSp rfl _ _ rfl w.heap.size _ inn [s] w3.heap.size 1 (fun b => b = w3.heap.size) rfl HX1.out.2.gi rfl HX1.out.1 (by simp) (by have := HI.out.2.2.2; simp only [List.length_cons, List.length_nil]; omega) HX1.out.2.bel.size ?_)
          intro q4 c4 w4 m4 hm4 hG4 hg4 hl4
          have HT4 := hid (HX1.out.2.swap.outs hG4 hg4 (by rcases hl4 with h | h; exact Or.inl h.symm; exact Or.inr (by rw [h]; simp [Value.ownBlock]))).swap
          clear hG4 hg4 hl4 hm4 HX1 HT3 r0 r1 r2 r3 r4 r5 r6 r7 r8 r9 r10 r11
          obtain ⟨k, hk⟩ : ∃ k, Y.1.length = k := ⟨_, rfl⟩
          have HLN := hid (bfLen_any g p3 c Y w4 HT4.out.h (hid hk))
          have hkc : k ≤ c := by have := HT4.out.h.few; omega
          have hdk : decide ((c : Int) < (k : Int)) = false := decide_eq_false (by omega)
          have hdk2 : decide (c < k) = false := decide_eq_false (by omega)
          clear hk
          go_wp2_with fail
          refine HLN.out.mono ?_
          rintro e w5 ⟨rfl, hb5⟩
          have HT5 := hid (HT4.out.up hb5)
          clear hb5 HLN HT4
          go_wp2_with fail
          go_roundg (n - (i + 1))
          case measure => omega
          case rel => exact ⟨i + 1, p3, Y, inn ++ [s], out, by first | rfl | go_num | simp, by rw [HL1.out], by omega, by omega, hid ⟨HT5.out, by rw [HL1.out, ← HLO.out]; exact HB1.out.2, by rw [HL1.out]; have := HI.out.2.2.1; have := HLO.out; omega, by have := HI.out.2.2.2; simp; omega⟩⟩
        · have HB1 := hid (bfOnce_lost s HI.out.2.1 hr (by have := HLO.out; omega))
          rw [HYY.out] at HB1
          obtain rfl : ok = false := HB1.out.1
          have HL1 : Hid (Y.2 = lo + 1) := hid (by have h : Y.2 = X.2 + 1 := HB1.out.2.2.1; have := HLO.out; omega)
          have hadl : IntKind.i64.wrap ((lo : Int) + 1) = (lo : Int) + 1 := IntWalk.i64_in _ (by omega)
          go_wp2_with fail
          refine HPA.out.mono ?_
          intro e w3 hP3
          obtain ⟨rfl, p3, h3⟩ := HI.out.1.put hP3
          have HT4 := hid h3
          clear h3 hP3 HPA r0 r1 r2 r3 r4 r5 r6 r7 r8 r9 r10 r11
          obtain ⟨k, hk⟩ : ∃ k, Y.1.length = k := ⟨_, rfl⟩
          have HLN := hid (fun w2 (hb : Below w3.heap.size w3 w2) => bfLen_any g p3 c Y w2 (HT4.out.up hb).h (hid hk))
          have hkc : k ≤ c := by have := HT4.out.h.few; omega
          have hdk : decide ((c : Int) < (k : Int)) = false := decide_eq_false (by omega)
          have hdk2 : decide (c < k) = false := decide_eq_false (by omega)
          clear hk
          go_wp2_with fail
          refine (HLN.out _ (Below.refl _ _)).mono ?_
          rintro e w5 ⟨rfl, hb5⟩
          have HT5 := hid (HT4.out.up hb5)
          clear hb5 HLN HT4
          go_wp2_with fail
          go_roundg (n - (i + 1))
          case measure => omega
          case rel => exact ⟨i + 1, p3, Y, inn, out, by first | rfl | go_num | simp, by first | (rw [HL1.out]; rfl) | (rw [HL1.out]; simp) | (rw [HL1.out]; push_cast; rfl), by omega, by omega, hid ⟨HT5.out, by rw [HL1.out, ← HLO.out]; exact HB1.out.2, by rw [HL1.out]; have := HI.out.2.2.1; have := HLO.out; omega, by have := HI.out.2.2.2; omega⟩⟩
    · obtain rfl : i = n := by omega
      have hltz : ¬ (i : Int) < (i : Int) := by omega
      have HAL := hid (bfAll_any g p c X wz HI.out.1.h)
      have HON := hid HI.out.2.1
      have HLE : Hid (out.length + X.1.length ≤ 300) := hid (by
        have h1 := congrArg List.length HI.out.2.1.1
        rw [List.length_append] at h1
        have := HI.out.2.2.2
        omega)
      have HT := hid HI.out.1
      clear HI
      go_wp2_with fail
      refine HAL.out.mono ?_
      rintro e w3 ⟨v3, rfl, hv3, hb3⟩
      have HT3 := hid (HT.out.up hb3)
      have HV3 := hid hv3
      clear hv3 hb3 HAL HT
      go_wp2_with (at_builtin; refine wpList_append_gxw rowSp rfl _ _ rfl w.heap.size wz.heap.size _ v3 out X.1 rfl HT3.out.go rfl HV3.out (by have := HLE.out; omega) HT3.out.bel.size ?_)
      intro v4 w4 hG4 hg4 hl4
      have HT4 := hid (HT3.out.outs hG4 hg4 hl4)
      clear hG4 hg4 hl4 HV3 HT3
      obtain ⟨A4, c4, hv4, hg4, -⟩ := GB.reads encSp_len HT4.out.go
      obtain ⟨A5, c5, hv5, hg5, -⟩ := GB.reads encSp_len HT4.out.gi
      obtain ⟨k, hk⟩ : ∃ k, inn.length = k := ⟨_, rfl⟩
      have hk3 : (out ++ X.1).length = k := by rw [HON.out.1]; exact hk
      have hk9 : k ≤ 300 := by rw [← hk3, List.length_append]; exact HLE.out
      rw [hk3] at hv4
      rw [hk] at hv5
      rw [HON.out.1] at hg4
      have HSA := hid (spsame_lit A4 A5 c4 c5 k inn w4 (hg4.imp fun b hb => hb.2) (hg5.imp fun b hb => hb.2) (hid hk) (by omega))
      subst hv4
      subst hv5
      clear hg4 hg5 hk hk3
      go_wp2_with fail
      refine HSA.out.mono ?_
      rintro e w5 ⟨rfl, hb5⟩
      have HT5 := hid (HT4.out.up hb5)
      have HLS := hid (bfLost_any g p c X w5 HT5.out.h (by have := HLO.out; omega) HLO)
      clear hb5 HSA HT4
      go_wp2_with fail
      refine HLS.out.mono ?_
      rintro e w6 ⟨rfl, hb6⟩
      have HT6 := hid (HT5.out.up hb6)
      clear hb6 HLS HT5
      go_wp2_with fail
      refine (known25_any _).mono ?_
      rintro e w7 ⟨rfl, hb7⟩
      go_wp2_with fail
      go_returns
      exact ⟨rfl, estep HT6.out.bel hb7⟩
end Go.Proofs.Ytlolnjgcffjfkaa
namespace Go.Proofs.Ytlolnjgcffjfkaa
set_option linter.unusedVariables false
set_option linter.unusedSimpArgs false
open Go.RowKit Go.Joins

/-- A variable that holds the definition's buffer. -/
def BRb (w : World) (b c : Nat) (y : Value) (n : Nat) : Prop := Bk w b 28 #[.int .i64 (c : Int), y, .int .i64 (n : Int)]
theorem BRb.cells {w : World} {b c : Nat} {y : Value} {n : Nat} (k : BRb w b c y n) : w.cell? ⟨b, 0, none⟩ = some (.int .i64 (c : Int)) ∧ w.cell? ⟨b, 1, none⟩ = some y ∧ w.cell? ⟨b, 2, none⟩ = some (.int .i64 (n : Int)) := ⟨Bk.cell k 0, Bk.cell k 1, Bk.cell k 2⟩
theorem BRb.up {w w' : World} {b c : Nat} {y : Value} {n : Nat} (k : BRb w b c y n) (hb : Below w.heap.size w w') : BRb w' b c y n := Bk.up k hb
/-- What BufferPlays' loop knows: the buffer, and the definition's. -/
structure BfL (w wr : World) (g : Nat) (p : Option Nat) (bx c : Nat) (X Y : Bfr) (A : Option Addr) (cap : Nat) : Prop where
  h : BfH wr g p c X
  hx : BRb wr bx c (.slice A Y.1.length cap) Y.2
  rv : RfV wr (In (fun b => ¬ BfS g p b ∧ b ≠ bx) wr) c Y A cap
  bel : Below w.heap.size w wr
  ap : ¬ BfS g p bx
  new : ∀ k, BfS g p k ∨ k = bx → w.heap.size ≤ k
section
variable {w wr w2 : World} {g bx c cap cap' : Nat} {p : Option Nat} {X Y Z : Bfr} {A A' : Option Addr} {ok : Bool} {e : Ending} {N M : Nat → Prop} {r : Nat}
theorem RfV.same (h : RfV wr N c Y A cap) (hs : ∀ b, N b → w2.heap[b]? = wr.heap[b]?) : RfV w2 N c Y A cap := ⟨h.1.same hs, h.2⟩
theorem RfV.imp (h : RfV wr N c Y A cap) (hn : ∀ b, N b → M b) : RfV wr M c Y A cap := ⟨h.1.imp hn, h.2⟩
theorem RfV.inup (h : RfV wr (In M wr) c Y A cap) (hb : Below wr.heap.size wr w2) : RfV w2 (In M w2) c Y A cap := ⟨h.1.inup hb, h.2⟩
theorem BfL.up (h : BfL w wr g p bx c X Y A cap) (hb : Below wr.heap.size wr w2) : BfL w w2 g p bx c X Y A cap := ⟨h.h.up hb, h.hx.up hb, h.rv.inup hb, estep h.bel hb, h.ap, h.new⟩
theorem BfL.start (hg : w.heap.size ≤ g) (hR : BfH wr g none c ([], 0)) (hb : Below w.heap.size w wr) (h2 : Below wr.heap.size wr w2) :
    BfL w (w2.alloc (.cells #[.int .i64 (c : Int), .slice none 0 0, .int .i64 ((0 : Nat) : Int)] 28)) g none w2.heap.size c ([], 0) ([], 0) none 0 := by
  have h3 := enew w2 (.cells #[.int .i64 (c : Int), .slice none 0 0, .int .i64 ((0 : Nat) : Int)] 28)
  have hl := hR.lt.1
  have hs1 := hb.size
  have hs2 := h2.size
  refine ⟨(hR.up h2).up h3, Bk.new _ _ _, ⟨GX.nil _ _ _, Or.inl ⟨rfl, rfl⟩, Nat.le_refl _, Nat.zero_le _⟩, estep hb (estep h2 h3), fun hS => ?_, fun k hk => ?_⟩
  · rcases hS with hS | hS
    · omega
    · cases hS
  · rcases hk with (rfl | hk) | rfl
    · exact hg
    · cases hk
    · omega
theorem BfL.take (h : BfL w wr g p bx c X Y A cap) (hR : BfH w2 g p c Z) (ho : OnS (fun b => b = g ∨ some b = p) wr w2) : BfL w w2 g p bx c Z Y A cap :=
  ⟨hR, Bk.onS h.hx ho h.ap, ⟨h.rv.1.onS ho fun b hb hS => hb.1 hS, h.rv.2⟩, OnS.to_below h.bel ho (fun k _ hk => h.new k (Or.inl hk)) h.bel.size, h.ap, h.new⟩
theorem BfL.put (h : BfL w wr g p bx c X Y A cap) (hP : BfP wr g p c Z ok e w2) : e = .returned (.bool ok) ∧ ∃ p', BfL w w2 g p' bx c Z Y A cap := by
  obtain ⟨rfl, p', h1, h2, h3⟩ := hP
  have hbx := Bk.lt h.hx
  refine ⟨rfl, p', h1, Bk.onS h.hx h2 h.ap, ⟨?_, h.rv.2⟩, OnS.to_below h.bel h2 (fun k _ hk => h.new k (Or.inl hk)) h.bel.size, fun hS => ?_, fun k hk => ?_⟩
  · refine (h.rv.1.same fun b hb => h2.block b hb.1 hb.2.1).imp fun b hb => ⟨Nat.lt_of_lt_of_le hb.1 h2.size, fun hS => ?_, hb.2.2⟩
    rcases hS with rfl | hS
    · exact hb.2.1 (Or.inl rfl)
    · rcases h3 with rfl | ⟨q, rfl, h4⟩
      · exact hb.2.1 (Or.inr hS)
      · injection hS with hS; have := hb.1; omega
  · rcases hS with rfl | hS
    · exact h.ap (Or.inl rfl)
    · rcases h3 with rfl | ⟨q, rfl, h4⟩
      · exact h.ap (Or.inr hS)
      · injection hS with hS; omega
  · rcases hk with (rfl | hk) | rfl
    · exact h.new k (Or.inl (Or.inl rfl))
    · rcases h3 with rfl | ⟨q, rfl, h4⟩
      · exact h.new k (Or.inl (Or.inr hk))
      · injection hk with hk; have := h.bel.size; omega
    · exact h.new k (Or.inr rfl)
/-- The definition's buffer is another one now. -/
theorem BfL.set (h : BfL w wr g p bx c X Y A cap) (hb : Below wr.heap.size wr w2) {m lo : Nat} (hm : Z.1.length = m) (hlo : Z.2 = lo) (hv : RfV w2 (In (fun b => (¬ BfS g p b ∧ b ≠ bx) ∨ wr.heap.size ≤ b) w2) c Z A' cap') :
    BfL w (((w2.setCell ⟨bx, 0, none⟩ (.int .i64 (c : Int))).setCell ⟨bx, 1, none⟩ (.slice A' m cap')).setCell ⟨bx, 2, none⟩ (.int .i64 (lo : Int))) g p bx c X Z A' cap' := by
  subst hm hlo
  have hs : OnS (fun b => b = bx) w2 (((w2.setCell ⟨bx, 0, none⟩ (.int .i64 (c : Int))).setCell ⟨bx, 1, none⟩ (.slice A' Z.1.length cap')).setCell ⟨bx, 2, none⟩ (.int .i64 (Z.2 : Int))) := (((OnS.refl (fun b => b = bx) w2).cell bx 0 _ rfl).cell bx 1 _ rfl).cell bx 2 _ rfl
  have h1 := h.up hb
  have hbx := Bk.lt h.hx
  refine ⟨h1.h.onS hs (fun e => h.ap (e ▸ Or.inl rfl)) (fun q hq e => h.ap (e ▸ Or.inr hq.symm)), bfset3 h1.hx _ _ _, ⟨?_, hv.2⟩, OnS.to_below h1.bel hs (fun k _ hk => h.new k (Or.inr hk)) h1.bel.size, h.ap, h.new⟩
  have hv1 : GX encSp 11 w2 (In (fun b => ¬ BfS g p b ∧ b ≠ bx) w2) A' Z.1 := hv.1.imp fun b hB => ⟨hB.1, by
    rcases hB.2 with h5 | h5
    · exact h5
    · exact ⟨fun hS => by have := h.h.in_ hS; omega, by omega⟩⟩
  exact hv1.onS hs fun b hb => hb.2
end
/-- What the definition's Take answers, told of the world that was. -/
def RfT2 (wz w2 : World) (M : Nat → Prop) (room : Nat) (y : Bfr) (out : List Sp) (e : Ending) (w' : World) : Prop := ∃ (A : Option Addr) (c : Nat) (A2 : Option Addr) (k c2 m lo : Nat), e = .returned (.tuple #[.agg #[.int .i64 (room : Int), .slice A m c, .int .i64 (lo : Int)], .slice A2 k c2]) ∧ (y.1.length = m ∧ y.2 = lo) ∧ out.length = k ∧ RfV wz (In M wz) room y A c ∧ GX encSp 11 wz (In M wz) A2 out ∧ Below w2.heap.size w2 w'
theorem rbtake_at {M : Nat → Prop} {room : Nat} {x : Bfr} {A : Option Addr} {cap q lo : Nat} {i : Int} {wz : World} (h : RfV wz (In M wz) room x A cap) (hq : Hid (x.1.length = q ∧ x.2 = lo)) {y : Bfr} {out : List Sp} (H : Hid (bfTake x i = (y, out))) (w2 : World) (hb : Below wz.heap.size wz w2) :
    Calls Try.prog 10 #[.agg #[.int .i64 (room : Int), .slice A q cap, .int .i64 (lo : Int)], .int .i64 i] w2 fun e w' => RfT2 wz w2 M room y out e w' := by
  refine (rbtake_any (In M wz) room x A cap q lo i w2 (h.same fun b hB => hb.block b hB.1) (hid hq.out.1) (hid hq.out.2) H).mono ?_
  rintro e w' ⟨A, c, A2, k, c2, m, rfl, h1, h2, h3, h4, h5⟩
  exact ⟨A, c, A2, k, c2, m, _, rfl, ⟨h1, rfl⟩, h2, h3.same fun b hB => (hb.block b hB.1).symm, h4.same fun b hB => (hb.block b hB.1).symm, h5⟩
/-- What the definition's Put answers, told of the world that was. -/
def RfP2 (wz w2 : World) (M : Nat → Prop) (room : Nat) (y : Bfr) (ok : Bool) (e : Ending) (w' : World) : Prop := ∃ (A : Option Addr) (c m lo : Nat), e = .returned (.tuple #[.agg #[.int .i64 (room : Int), .slice A m c, .int .i64 (lo : Int)], .bool ok]) ∧ (y.1.length = m ∧ y.2 = lo) ∧ RfV w' (fun b => b < w'.heap.size ∧ (M b ∧ b < wz.heap.size ∨ w2.heap.size ≤ b)) room y A c ∧ Below w2.heap.size w2 w'
theorem rbput_at {M : Nat → Prop} {room : Nat} {x : Bfr} {A : Option Addr} {cap q lo : Nat} {s : Sp} {wz : World} (h : RfV wz (In M wz) room x A cap) (hq : Hid (x.1.length = q ∧ x.2 = lo)) (h64 : Hid (lo ≤ 300 ∧ q ≤ room ∧ room ≤ 64)) {y : Bfr} {ok : Bool} (H : Hid (bfPut room x s = (y, ok))) (w2 : World) (hb : Below wz.heap.size wz w2) :
    Calls Try.prog 13 #[.agg #[.int .i64 (room : Int), .slice A q cap, .int .i64 (lo : Int)], .agg #[.int .u64 (s.hi : Int), .int .u64 (s.lo : Int), .int .u64 (s.id : Int), .int .u64 (s.up : Int), .string (bs s.name), .int .i64 s.status, .int .i64 s.seq, .int .i64 s.kids, .bool s.shade, .int .i64 s.start, .int .i64 s.fin]] w2 fun e w' => RfP2 wz w2 M room y ok e w' := by
  have h2 : RfV w2 (In (fun b => M b ∧ b < wz.heap.size) w2) room x A cap := (h.same fun b hB => hb.block b hB.1).imp fun b hB => ⟨Nat.lt_of_lt_of_le hB.1 hb.size, hB.2, hB.1⟩
  refine (rbput_any _ room x A cap q lo s w2 h2 (hid hq.out.1) (hid hq.out.2) h64.out.2 (by have := h64.out.1; omega) H).mono ?_
  rintro e w' ⟨A, c, m, lo, rfl, h1, h2, h3, h5⟩
  exact ⟨A, c, m, y.2, by rw [h2], ⟨h1, rfl⟩, h3.imp fun b hB => ⟨hB.1, hB.2⟩, h5⟩
theorem rfv_old {w6 w7 wz w2 : World} {c : Nat} {Y : Bfr} {A : Option Addr} {cap : Nat} {M : Nat → Prop} (h : RfV w6 (fun b => b < w6.heap.size ∧ (M b ∧ b < wz.heap.size ∨ w2.heap.size ≤ b)) c Y A cap) (hw : wz.heap.size + 1 ≤ w2.heap.size) (ho : OnS (fun b => b = wz.heap.size) w6 w7) : RfV w7 (In (fun b => M b ∨ wz.heap.size ≤ b) w7) c Y A cap := by
  refine (h.same fun b hB => ho.block b hB.1 ?_).imp fun b hB => ⟨Nat.lt_of_lt_of_le hB.1 ho.size, ?_⟩
  · rcases hB.2 with h | h <;> omega
  · rcases hB.2 with h | h
    · exact Or.inl h.1
    · exact Or.inr (by omega)
theorem rfv_new {w6 w7 wz w2 : World} {c : Nat} {Y : Bfr} {A : Option Addr} {cap : Nat} {M : Nat → Prop} (h : RfV w6 (fun b => b < w6.heap.size ∧ (M b ∧ b < wz.heap.size ∨ w2.heap.size ≤ b)) c Y A cap) (hw : wz.heap.size ≤ w2.heap.size) (ho : Below w6.heap.size w6 w7) : RfV w7 (In (fun b => M b ∨ wz.heap.size ≤ b) w7) c Y A cap := by
  refine (h.same fun b hB => ho.block b hB.1).imp fun b hB => ⟨Nat.lt_of_lt_of_le hB.1 ho.size, ?_⟩
  rcases hB.2 with h | h
  · exact Or.inl h.1
  · exact Or.inr (by omega)
theorem bfAlls_lit (g : Nat) (p : Option Nat) (room : Nat) (x : Bfr) (w : World) (h : BfH w g p room x) {k : Nat} (hk : Hid (x.1.length = k)) :
    Calls Try.prog 15 #[.pointer (some ⟨g, 0, none⟩)] w fun e w' => ∃ A c, e = .returned (.slice A k c) ∧ GX encSp 11 w' (· < w'.heap.size) A x.1 ∧ Below w.heap.size w w' := by
  refine (bfAll_any g p room x w h).mono ?_
  rintro e w' ⟨v, rfl, hv, hb⟩
  obtain ⟨A, c, rfl, hg, -⟩ := GB.reads encSp_len hv
  exact ⟨A, c, by rw [hk.out], hg.imp fun b hb => hb.2, hb⟩
theorem keepRb {v w' : World} {bx c : Nat} {A : Option Addr} {cap q n : Nat} (h : BRb v bx c (.slice A q cap) n) (hz : Below v.heap.size v w') : w'.cell? ⟨bx, 1, none⟩ = some (.slice A q cap) ∧ w'.cell? ⟨bx, 2, none⟩ = some (.int .i64 (n : Int)) ∧ Below v.heap.size v w' := ⟨(h.up hz).cells.2.1, (h.up hz).cells.2.2, hz⟩
set_option maxRecDepth 100000 in
set_option maxHeartbeats 16000000 in
theorem bufferPlays_walk (room : Int) (v : Value) (L : List (Sp × Int)) (w : World) (hx : RwV encBM 12 w (· < w.heap.size) v L) :
    Calls Try.prog 3 #[.int .i64 room, v] w fun e w' => e = .returned (.bool true) ∧ Below w.heap.size w w' := by
  have hnot := enot
  obtain ⟨A0, cap0, rfl, hgx, -⟩ := hx
  obtain ⟨n, hn⟩ : ∃ n, L.length = n := ⟨_, rfl⟩
  rw [hn]
  have HG := hid hgx
  have HN := hid hn
  clear hgx hn
  by_cases hc0 : (300 : Int) < (n : Int)
  · have hd0 : decide ((300 : Int) < (n : Int)) = true := decide_eq_true hc0
    have hdn0 : decide (300 < n) = true := decide_eq_true (by omega)
    go_enter Try.func3, Try.ntmps3
    go_wp2_with fail
    refine (known25_any _).mono ?_
    rintro e w1 ⟨rfl, hb1⟩
    go_wp2_with fail
    go_returns
    exact ⟨rfl, hb1⟩
  have hd0 : decide ((300 : Int) < (n : Int)) = false := decide_eq_false hc0
  have hdn0 : decide (300 < n) = false := decide_eq_false (by omega)
  obtain ⟨c, hc⟩ : ∃ c, bfRoom room = c := ⟨_, rfl⟩
  have HNW := hid (fun w2 => bfnew_any room w2 (hid hc))
  have HRN := hid (fun w2 => rbnew_any room w2 (hid hc))
  have hn300 : n ≤ 300 := by omega
  clear hc hc0
  go_enter Try.func3, Try.ntmps3
  go_wp2_with fail
  refine (HNW.out w).mono ?_
  rintro e w1 ⟨g, rfl, hg, hR, hb1⟩
  have H1 := hid (And.intro hg (And.intro hR hb1))
  clear hg hR hb1 HNW
  go_wp2_with fail
  refine (HRN.out w1).mono ?_
  rintro e w2 ⟨rfl, hb2⟩
  have hst := BfL.start H1.out.1 H1.out.2.1 H1.out.2.2 hb2
  obtain ⟨bx, hbx⟩ : ∃ bx, w2.heap.size = bx := ⟨_, rfl⟩
  rw [hbx] at hst
  have HST := hid hst
  clear hst hb2 H1
  go_upto_region 5 with (fail)
  clear hbx
  generalize w2.alloc (.cells #[.int .i64 (c : Int), .slice none 0 0, .int .i64 ((0 : Nat) : Int)] 28) = v1 at *
  go_wp2_with fail
  go_loopg [7] n (fun g1 vi wr => ∃ (i : Nat) (p : Option Nat) (X : Bfr) (A : Option Addr) (cap : Nat), vi = .int .i64 i ∧ i ≤ n ∧ n - i ≤ g1 ∧ Hid (BfL w wr g p bx c X X A cap ∧ X.2 ≤ i))
  case atStart => exact ⟨0, none, ([], 0), none, 0, rfl, by omega, by omega, hid ⟨HST.out, Nat.le_refl _⟩⟩
  case round =>
    obtain ⟨i, p, X, A, cap, rfl, hin, hgk, HI⟩ := hrel
    obtain ⟨wz, hwz⟩ : ∃ wz, wz = wr := ⟨_, rfl⟩
    subst hwz
    by_cases hlt : i < n
    · have hiL : i < L.length := by have := HN.out; omega
      obtain ⟨b, o, rfl, hB, r0, r1, r2, r3, r4, r5, r6, r7, r8, r9, r10, r11⟩ := bm_cells HG.out (List.getElem?_eq_getElem hiL)
      have HCC : Hid (∀ w', Below w.heap.size w w' → w'.cell? ⟨b, o + i * 12, none⟩ = some (.int .u64 (L[i].1.hi : Int)) ∧ w'.cell? ⟨b, o + i * 12 + 1, none⟩ = some (.int .u64 (L[i].1.lo : Int)) ∧ w'.cell? ⟨b, o + i * 12 + 2, none⟩ = some (.int .u64 (L[i].1.id : Int)) ∧ w'.cell? ⟨b, o + i * 12 + 3, none⟩ = some (.int .u64 (L[i].1.up : Int)) ∧ w'.cell? ⟨b, o + i * 12 + 4, none⟩ = some (.string (bs L[i].1.name)) ∧ w'.cell? ⟨b, o + i * 12 + 5, none⟩ = some (.int .i64 L[i].1.status) ∧ w'.cell? ⟨b, o + i * 12 + 6, none⟩ = some (.int .i64 L[i].1.seq) ∧ w'.cell? ⟨b, o + i * 12 + 7, none⟩ = some (.int .i64 L[i].1.kids) ∧ w'.cell? ⟨b, o + i * 12 + 8, none⟩ = some (.bool L[i].1.shade) ∧ w'.cell? ⟨b, o + i * 12 + 9, none⟩ = some (.int .i64 L[i].1.start) ∧ w'.cell? ⟨b, o + i * 12 + 10, none⟩ = some (.int .i64 L[i].1.fin) ∧ w'.cell? ⟨b, o + i * 12 + 11, none⟩ = some (.int .i64 L[i].2)) := hid fun w2 h2 => ⟨(h2.cell hB).trans r0, (h2.cell hB).trans r1, (h2.cell hB).trans r2, (h2.cell hB).trans r3, (h2.cell hB).trans r4, (h2.cell hB).trans r5, (h2.cell hB).trans r6, (h2.cell hB).trans r7, (h2.cell hB).trans r8, (h2.cell hB).trans r9, (h2.cell hB).trans r10, (h2.cell hB).trans r11⟩
      clear hB r0 r1 r2 r3 r4 r5 r6 r7 r8 r9 r10 r11
      generalize L[i] = m at *
      obtain ⟨s, tk⟩ := m
      simp only at HCC
      obtain ⟨r0, r1, r2, r3, r4, r5, r6, r7, r8, r9, r10, r11⟩ := HCC.out wz HI.out.1.bel
      have hltz : (i : Int) < (n : Int) := by omega
      have hltd : decide ((i : Int) < (n : Int)) = true := decide_eq_true hltz
      have hltn : decide (i < n) = true := decide_eq_true hlt
      have hi0 : (0 : Int) ≤ (i : Int) := by omega
      have hadd : IntKind.i64.wrap ((i : Int) + 1) = (i : Int) + 1 := IntWalk.i64_in _ (by omega)
      obtain ⟨q, hq⟩ : ∃ q, X.1.length = q := ⟨_, rfl⟩
      obtain ⟨lo, hlo⟩ : ∃ lo, X.2 = lo := ⟨_, rfl⟩
      have hkx := HI.out.1.hx
      rw [hq, hlo] at hkx
      have HQ := hid (And.intro hq hlo)
      have hca := hkx.cells
      obtain ⟨x0, x1, x2⟩ := hca
      have hz0 : Below wz.heap.size wz wz.drew := (Below.refl _ _).drew
      have HLO : Hid (lo ≤ 300 ∧ q ≤ c ∧ c ≤ 64) := hid (by have := HI.out.2; have := HI.out.1.h.few; omega)
      clear hkx hq hlo
      by_cases htk : -1 < tk
      · have hdt : decide (-1 < tk) = true := decide_eq_true htk
        obtain ⟨⟨Y, o1⟩, hY⟩ : ∃ r, bfTake X tk = r := ⟨_, rfl⟩
        have HTK := hid (rbtake_at HI.out.1.rv (hid HQ.out) (hid hY))
        have HTA := hid (fun w2 (A' : Option Addr) (cap' : Nat) (Y' : Bfr) (h : BfL w w2 g p bx c X Y' A' cap') => bftake_any g p c X tk w2 h.h (hid hY))
        have HL1 : Hid (Y.2 = X.2 ∧ o1.length ≤ 64) := hid (by
          have h1 := bfTake_out X tk
          rw [hY] at h1
          have h2 : Y.2 = X.2 := by have := congrArg (fun r => r.1.2) hY; exact this.symm
          have h3 := HI.out.1.h.few
          simp only at h1
          exact ⟨h2, by omega⟩)
        clear hY
        have hzn := enew wz (.cells #[.int .i64 0, .slice none 0 0, .int .i64 0] 28)
        have r11A := (hzn.cell (p := ⟨b, o + i * 12 + 11, none⟩) (lt_of_cell r11)).trans r11
        have x0A := (hzn.cell (p := ⟨bx, 0, none⟩) (lt_of_cell x0)).trans x0
        have x1A := (hzn.cell (p := ⟨bx, 1, none⟩) (lt_of_cell x1)).trans x1
        have x2A := (hzn.cell (p := ⟨bx, 2, none⟩) (lt_of_cell x2)).trans x2
        go_wp2_with fail
        go_region_law (first
          | (go_simp
             go_at_call 10
             (with_reducible refine (HTK.out _ hz0).mono ?_)
             rintro e w6 ⟨A6, c6, B6, k6, d6, m6, lo6, rfl, hm6, hk6, hv6, hg6, hy6⟩
             have hz6 := hz0.trans (hy6.mono hz0.size))
          | (go_simp
             go_at_call 10
             refine (HTK.out _ (hz0.alloc hz0.size _)).mono ?_
             rintro e w6 ⟨A6, c6, B6, k6, d6, m6, lo6, rfl, hm6, hk6, hv6, hg6, hy6⟩
             have hz6 := (hz0.alloc hz0.size _).trans (hy6.mono (hz0.alloc hz0.size _).size)
             have kt6 : Bk w6 wz.heap.size 28 #[.int .i64 0, .slice none 0 0, .int .i64 0] := (Bk.new wz.drew 28 #[.int .i64 0, .slice none 0 0, .int .i64 0]).up hy6
             have z0 := Bk.cell kt6 0
             have z1 := Bk.cell kt6 1
             have z2 := Bk.cell kt6 2
             have u0 := Bk.frozen kt6 0
             have u1 := Bk.frozen kt6 1
             have u2 := Bk.frozen kt6 2))
        all_goals
          first
          | (have K7 := bfset3 kt6 (.int .i64 (c : Int)) (.slice A6 m6 c6) (.int .i64 (lo6 : Int))
             have B7 := ((hz6.setCell (p := ⟨wz.heap.size, 0, none⟩) (Nat.le_refl _) (.int .i64 (c : Int))).setCell (p := ⟨wz.heap.size, 1, none⟩) (Nat.le_refl _) (.slice A6 m6 c6)).setCell (p := ⟨wz.heap.size, 2, none⟩) (Nat.le_refl _) (.int .i64 (lo6 : Int))
             clear kt6 z0 z1 z2 u0 u1 u2
             generalize ((w6.setCell ⟨wz.heap.size, 0, none⟩ (.int .i64 (c : Int))).setCell ⟨wz.heap.size, 1, none⟩ (.slice A6 m6 c6)).setCell ⟨wz.heap.size, 2, none⟩ (.int .i64 (lo6 : Int)) = w7 at *)
          | (have K7 := Bk.new w6 28 #[.int .i64 (c : Int), .slice A6 m6 c6, .int .i64 (lo6 : Int)]
             have B7 := hz6.alloc hz6.size (.cells #[.int .i64 (c : Int), .slice A6 m6 c6, .int .i64 (lo6 : Int)] 28)
             generalize w6.alloc (.cells #[.int .i64 (c : Int), .slice A6 m6 c6, .int .i64 (lo6 : Int)] 28) = w7 at *)
          have hx7 := HI.out.1.hx.up B7
          have t0 := Bk.cell K7 0
          have t1 := Bk.cell K7 1
          have t2 := Bk.cell K7 2
          have x0 := Bk.cell hx7 0
          have x1 := Bk.cell hx7 1
          have x2 := Bk.cell hx7 2
          have z0 := Bk.frozen hx7 0
          have z1 := Bk.frozen hx7 1
          have z2 := Bk.frozen hx7 2
          have HT8 := hid (HI.out.1.set B7 hm6.1 hm6.2 ((hv6.inup B7).imp fun b hb => ⟨hb.1, Or.inl hb.2⟩))
          have hs8 : OnS (fun b => b = bx) w7 (((w7.setCell ⟨bx, 0, none⟩ (.int .i64 (c : Int))).setCell ⟨bx, 1, none⟩ (.slice A6 m6 c6)).setCell ⟨bx, 2, none⟩ (.int .i64 (lo6 : Int))) := (((OnS.refl (fun b => b = bx) w7).cell bx 0 _ rfl).cell bx 1 _ rfl).cell bx 2 _ rfl
          have H8 := hid (And.intro hk6 (And.intro ((hg6.same fun b hB => B7.block b hB.1).same fun b hB => hs8.block b (Nat.lt_of_lt_of_le hB.1 B7.size) hB.2.2) (Nat.le_trans B7.size hs8.size)))
          clear hs8 K7 B7 hx7 hv6 hg6 hk6 hm6 hy6 hz6 hz0 HTK r0 r1 r2 r3 r4 r5 r6 r7 r8 r9 r10 r11 r11A x0A x1A x2A hzn
          go_upto_region 11 with (fail)
          generalize ((w7.setCell ⟨bx, 0, none⟩ (.int .i64 (c : Int))).setCell ⟨bx, 1, none⟩ (.slice A6 m6 c6)).setCell ⟨bx, 2, none⟩ (.int .i64 (lo6 : Int)) = w8 at *
          obtain ⟨r0, r1, r2, r3, r4, r5, r6, r7, r8, r9, r10, r11⟩ := HCC.out w8 HT8.out.bel
          have HTB := hid (HTA.out w8 A6 c6 Y HT8.out)
          clear t0 t1 t2 x0 x1 x2 z0 z1 z2 HTA
          go_wp2_with fail
          refine HTB.out.mono ?_
          rintro e w9 ⟨v9, rfl, hv9, hR9, ho9⟩
          have HT9 := hid (HT8.out.take hR9 ho9)
          obtain ⟨A9, c9, hv9e, hg9, -⟩ := GB.reads encSp_len hv9
          have HSA := hid (spsame_lit A9 B6 c9 d6 k6 o1 w9 (hg9.imp fun b hb => hb.2) ((H8.out.2.1.same fun b hB => ho9.block b (Nat.lt_of_lt_of_le hB.1 H8.out.2.2) hB.2.1).imp fun b hB => Nat.lt_of_lt_of_le hB.1 (Nat.le_trans H8.out.2.2 ho9.size)) (hid H8.out.1) (by have := HL1.out; have := H8.out.1; omega))
          rw [H8.out.1] at hv9e
          subst hv9e
          clear hv9 hR9 ho9 hg9 HTB HT8 r0 r1 r2 r3 r4 r5 r6 r7 r8 r9 r10 r11
          go_wp2_with fail
          refine HSA.out.mono ?_
          rintro e wy ⟨rfl, hby⟩
          have HQ3 := hid (HT9.out.up hby)
          have HYL : Hid (Y.2 ≤ i + 1) := hid (by have := HL1.out.1; have := HI.out.2; omega)
          clear hby HSA HT9
          obtain ⟨ql, hql⟩ : ∃ q, Y.1.length = q := ⟨_, rfl⟩
          obtain ⟨yn, hyn2⟩ : ∃ yn, Y.2 = yn := ⟨_, rfl⟩
          have hkx := HQ3.out.hx
          rw [hql, hyn2] at hkx
          have hq64 : ql ≤ 64 := by have := HQ3.out.h.few; omega
          have hyn9 : yn ≤ 1000 := by have := HYL.out; omega
          have HAL := hid (fun (w2 : World) (hb : Below wy.heap.size wy w2) => bfAlls_lit g p c Y w2 (HQ3.out.h.up hb) (hid hql))
          have HLN := hid (fun (w2 : World) (hb : Below wy.heap.size wy w2) => bfLen_any g p c Y w2 (HQ3.out.h.up hb) (hid hql))
          have HLS := hid (fun (w2 : World) (hb : Below wy.heap.size wy w2) => bfLost_any g p c Y w2 (HQ3.out.h.up hb) (by omega) (hid hyn2))
          have HTX := hid (fun (w2 : World) (A5 : Option Addr) (c5 : Nat) (hb : Below wy.heap.size wy w2) (h5 : GX encSp 11 w2 (· < w2.heap.size) A5 Y.1) => spsame_lit A5 A6 c5 c6 ql Y.1 w2 h5 ((HQ3.out.rv.inup hb).1.imp fun b hb => hb.1) (hid hql) (by omega))
          obtain ⟨q0, q1, q2⟩ := hkx.cells
          have hz : Below wy.heap.size wy wy.drew := (Below.refl _ _).drew
          clear hyn2 hql
          go_wp2_with fail
          go_region_held3 (fun w' => w'.cell? ⟨bx, 1, none⟩ = some (.slice A6 ql c6) ∧ w'.cell? ⟨bx, 2, none⟩ = some (.int .i64 (yn : Int)) ∧ Below wy.heap.size wy w') (first | (with_reducible exact keepRb hkx hz) | (with_reducible exact keepRb hkx (hz.trans (Below.mono (by assumption) hz.size)))) (first
            | (go_at_call 15
               ((with_reducible refine (HAL.out _ hz).mono ?_); rintro e wa ⟨A5, c5, rfl, hs5, hy⟩)
               have hz := hz.trans (hy.mono hz.size))
            | (go_at_call 11
               ((with_reducible refine (HTX.out _ _ _ hz hs5).mono ?_); rintro e wa ⟨rfl, hy⟩)
               have hz := hz.trans (hy.mono hz.size))
            | (go_at_call 16
               ((with_reducible refine (HLN.out _ hz).mono ?_); rintro e wa ⟨rfl, hy⟩)
               have hz := hz.trans (hy.mono hz.size))
            | (go_at_call 17
               ((with_reducible refine (HLS.out _ hz).mono ?_); rintro e wa ⟨rfl, hy⟩)
               have hz := hz.trans (hy.mono hz.size)))
          all_goals
            have HPZ := hid (HQ3.out.up hz)
            clear q0 q1 q2 hkx HAL HLN HLS HTX
            go_wp2_with fail
            go_roundg (n - (i + 1))
            case measure => omega
            case rel => exact ⟨i + 1, p, Y, A6, c6, by first | rfl | go_num | simp, by omega, by omega, hid ⟨HPZ.out, HYL.out⟩⟩
      · have hdt : decide (-1 < tk) = false := decide_eq_false htk
        obtain ⟨Y, ok, hY⟩ : ∃ Y ok, bfPut c X s = (Y, ok) := ⟨_, _, rfl⟩
        have HTP := hid (rbput_at HI.out.1.rv (hid HQ.out) HLO (hid hY))
        have HTB := hid (fun w2 (A' : Option Addr) (cap' : Nat) (Y' : Bfr) (h : BfL w w2 g p bx c X Y' A' cap') => bfput_any g p c X s w2 h.h (by have := HLO.out; have := HQ.out; omega) (hid hY))
        have HYL : Hid (Y.2 ≤ i + 1) := hid (by have := bfPut_lost c X s; rw [hY] at this; have := HI.out.2; simp only at *; omega)
        clear hY
        have hzn := enew wz (.cells #[.int .i64 0, .slice none 0 0, .int .i64 0] 28)
        have r0A := (hzn.cell (p := ⟨b, o + i * 12, none⟩) (lt_of_cell r0)).trans r0
        have r1A := (hzn.cell (p := ⟨b, o + i * 12 + 1, none⟩) (lt_of_cell r1)).trans r1
        have r2A := (hzn.cell (p := ⟨b, o + i * 12 + 2, none⟩) (lt_of_cell r2)).trans r2
        have r3A := (hzn.cell (p := ⟨b, o + i * 12 + 3, none⟩) (lt_of_cell r3)).trans r3
        have r4A := (hzn.cell (p := ⟨b, o + i * 12 + 4, none⟩) (lt_of_cell r4)).trans r4
        have r5A := (hzn.cell (p := ⟨b, o + i * 12 + 5, none⟩) (lt_of_cell r5)).trans r5
        have r6A := (hzn.cell (p := ⟨b, o + i * 12 + 6, none⟩) (lt_of_cell r6)).trans r6
        have r7A := (hzn.cell (p := ⟨b, o + i * 12 + 7, none⟩) (lt_of_cell r7)).trans r7
        have r8A := (hzn.cell (p := ⟨b, o + i * 12 + 8, none⟩) (lt_of_cell r8)).trans r8
        have r9A := (hzn.cell (p := ⟨b, o + i * 12 + 9, none⟩) (lt_of_cell r9)).trans r9
        have r10A := (hzn.cell (p := ⟨b, o + i * 12 + 10, none⟩) (lt_of_cell r10)).trans r10
        have x0A := (hzn.cell (p := ⟨bx, 0, none⟩) (lt_of_cell x0)).trans x0
        have x1A := (hzn.cell (p := ⟨bx, 1, none⟩) (lt_of_cell x1)).trans x1
        have x2A := (hzn.cell (p := ⟨bx, 2, none⟩) (lt_of_cell x2)).trans x2
        go_wp2_with fail
        go_region_law (first
          | (go_simp
             go_at_call 13
             (with_reducible refine (HTP.out _ hz0).mono ?_)
             rintro e w6 ⟨A6, c6, m6, lo6, rfl, hm6, hv6, hy6⟩
             have hz6 := hz0.trans (hy6.mono hz0.size))
          | (go_simp
             go_at_call 13
             refine (HTP.out _ (hz0.alloc hz0.size _)).mono ?_
             rintro e w6 ⟨A6, c6, m6, lo6, rfl, hm6, hv6, hy6⟩
             have hz6 := (hz0.alloc hz0.size _).trans (hy6.mono (hz0.alloc hz0.size _).size)
             have kt6 : Bk w6 wz.heap.size 28 #[.int .i64 0, .slice none 0 0, .int .i64 0] := (Bk.new wz.drew 28 #[.int .i64 0, .slice none 0 0, .int .i64 0]).up hy6
             have z0 := Bk.cell kt6 0
             have z1 := Bk.cell kt6 1
             have z2 := Bk.cell kt6 2
             have u0 := Bk.frozen kt6 0
             have u1 := Bk.frozen kt6 1
             have u2 := Bk.frozen kt6 2))
        all_goals
          first
          | (have K7 := bfset3 kt6 (.int .i64 (c : Int)) (.slice A6 m6 c6) (.int .i64 (lo6 : Int))
             have B7 := ((hz6.setCell (p := ⟨wz.heap.size, 0, none⟩) (Nat.le_refl _) (.int .i64 (c : Int))).setCell (p := ⟨wz.heap.size, 1, none⟩) (Nat.le_refl _) (.slice A6 m6 c6)).setCell (p := ⟨wz.heap.size, 2, none⟩) (Nat.le_refl _) (.int .i64 (lo6 : Int))
             have hs7 : OnS (fun b => b = wz.heap.size) w6 (((w6.setCell ⟨wz.heap.size, 0, none⟩ (.int .i64 (c : Int))).setCell ⟨wz.heap.size, 1, none⟩ (.slice A6 m6 c6)).setCell ⟨wz.heap.size, 2, none⟩ (.int .i64 (lo6 : Int))) := (((OnS.refl (fun b => b = wz.heap.size) w6).cell wz.heap.size 0 _ rfl).cell wz.heap.size 1 _ rfl).cell wz.heap.size 2 _ rfl
             have V7 := rfv_old hv6 (by simp) hs7
             clear kt6 z0 z1 z2 u0 u1 u2 hs7
             generalize ((w6.setCell ⟨wz.heap.size, 0, none⟩ (.int .i64 (c : Int))).setCell ⟨wz.heap.size, 1, none⟩ (.slice A6 m6 c6)).setCell ⟨wz.heap.size, 2, none⟩ (.int .i64 (lo6 : Int)) = w7 at *)
          | (have K7 := Bk.new w6 28 #[.int .i64 (c : Int), .slice A6 m6 c6, .int .i64 (lo6 : Int)]
             have B7 := hz6.alloc hz6.size (.cells #[.int .i64 (c : Int), .slice A6 m6 c6, .int .i64 (lo6 : Int)] 28)
             have V7 := rfv_new hv6 hz0.size (enew w6 (.cells #[.int .i64 (c : Int), .slice A6 m6 c6, .int .i64 (lo6 : Int)] 28))
             generalize w6.alloc (.cells #[.int .i64 (c : Int), .slice A6 m6 c6, .int .i64 (lo6 : Int)] 28) = w7 at *)
          have hx7 := HI.out.1.hx.up B7
          have t0 := Bk.cell K7 0
          have t1 := Bk.cell K7 1
          have t2 := Bk.cell K7 2
          have x0 := Bk.cell hx7 0
          have x1 := Bk.cell hx7 1
          have x2 := Bk.cell hx7 2
          have z0 := Bk.frozen hx7 0
          have z1 := Bk.frozen hx7 1
          have z2 := Bk.frozen hx7 2
          have HT8 := hid (HI.out.1.set B7 hm6.1 hm6.2 V7)
          clear K7 B7 V7 hx7 hv6 hm6 hy6 hz6 hz0 HTP r0 r1 r2 r3 r4 r5 r6 r7 r8 r9 r10 r11 r0A r1A r2A r3A r4A r5A r6A r7A r8A r9A r10A x0A x1A x2A hzn
          go_upto_region 14 with (fail)
          go_upto_region 15 with (fail)
          generalize ((w7.setCell ⟨bx, 0, none⟩ (.int .i64 (c : Int))).setCell ⟨bx, 1, none⟩ (.slice A6 m6 c6)).setCell ⟨bx, 2, none⟩ (.int .i64 (lo6 : Int)) = w8 at *
          obtain ⟨r0, r1, r2, r3, r4, r5, r6, r7, r8, r9, r10, r11⟩ := HCC.out w8 HT8.out.bel
          have HTC := hid (HTB.out w8 A6 c6 Y HT8.out)
          clear t0 t1 t2 x0 x1 x2 z0 z1 z2 HTB
          go_wp2_with fail
          refine HTC.out.mono ?_
          intro e wy hP9
          obtain ⟨rfl, p9, h9⟩ := HT8.out.put hP9
          have HQ3 := hid h9
          clear h9 hP9 HTC HT8 r0 r1 r2 r3 r4 r5 r6 r7 r8 r9 r10 r11
          obtain ⟨ql, hql⟩ : ∃ q, Y.1.length = q := ⟨_, rfl⟩
          obtain ⟨yn, hyn2⟩ : ∃ yn, Y.2 = yn := ⟨_, rfl⟩
          have hkx := HQ3.out.hx
          rw [hql, hyn2] at hkx
          have hq64 : ql ≤ 64 := by have := HQ3.out.h.few; omega
          have hyn9 : yn ≤ 1000 := by have := HYL.out; omega
          have HAL := hid (fun (w2 : World) (hb : Below wy.heap.size wy w2) => bfAlls_lit g p9 c Y w2 (HQ3.out.h.up hb) (hid hql))
          have HLN := hid (fun (w2 : World) (hb : Below wy.heap.size wy w2) => bfLen_any g p9 c Y w2 (HQ3.out.h.up hb) (hid hql))
          have HLS := hid (fun (w2 : World) (hb : Below wy.heap.size wy w2) => bfLost_any g p9 c Y w2 (HQ3.out.h.up hb) (by omega) (hid hyn2))
          have HTX := hid (fun (w2 : World) (A5 : Option Addr) (c5 : Nat) (hb : Below wy.heap.size wy w2) (h5 : GX encSp 11 w2 (· < w2.heap.size) A5 Y.1) => spsame_lit A5 A6 c5 c6 ql Y.1 w2 h5 ((HQ3.out.rv.inup hb).1.imp fun b hb => hb.1) (hid hql) (by omega))
          obtain ⟨q0, q1, q2⟩ := hkx.cells
          have hz : Below wy.heap.size wy wy.drew := (Below.refl _ _).drew
          clear hyn2 hql
          go_wp2_with fail
          go_region_held3 (fun w' => w'.cell? ⟨bx, 1, none⟩ = some (.slice A6 ql c6) ∧ w'.cell? ⟨bx, 2, none⟩ = some (.int .i64 (yn : Int)) ∧ Below wy.heap.size wy w') (first | (with_reducible exact keepRb hkx hz) | (with_reducible exact keepRb hkx (hz.trans (Below.mono (by assumption) hz.size)))) (first
            | (go_at_call 15
               ((with_reducible refine (HAL.out _ hz).mono ?_); rintro e wa ⟨A5, c5, rfl, hs5, hy⟩)
               have hz := hz.trans (hy.mono hz.size))
            | (go_at_call 11
               ((with_reducible refine (HTX.out _ _ _ hz hs5).mono ?_); rintro e wa ⟨rfl, hy⟩)
               have hz := hz.trans (hy.mono hz.size))
            | (go_at_call 16
               ((with_reducible refine (HLN.out _ hz).mono ?_); rintro e wa ⟨rfl, hy⟩)
               have hz := hz.trans (hy.mono hz.size))
            | (go_at_call 17
               ((with_reducible refine (HLS.out _ hz).mono ?_); rintro e wa ⟨rfl, hy⟩)
               have hz := hz.trans (hy.mono hz.size)))
          all_goals
            have HPZ := hid (HQ3.out.up hz)
            clear q0 q1 q2 hkx HAL HLN HLS HTX
            go_wp2_with fail
            go_roundg (n - (i + 1))
            case measure => omega
            case rel => exact ⟨i + 1, p9, Y, A6, c6, by first | rfl | go_num | simp, by omega, by omega, hid ⟨HPZ.out, HYL.out⟩⟩
    · obtain rfl : i = n := by omega
      have hltz : ¬ (i : Int) < (i : Int) := by omega
      go_wp2_with fail
      refine (known25_any _).mono ?_
      rintro e w3 ⟨rfl, hb3⟩
      go_wp2_with fail
      go_returns
      exact ⟨rfl, estep HI.out.1.bel hb3⟩
end Go.Proofs.Ytlolnjgcffjfkaa
namespace Go.Proofs.Ytlolnjgcffjfkaa
theorem cz_here : True := trivial
end Go.Proofs.Ytlolnjgcffjfkaa
