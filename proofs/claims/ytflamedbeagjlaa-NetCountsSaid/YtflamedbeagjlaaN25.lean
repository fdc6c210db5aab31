/- Texts put together: Em Et Br Bt Hq Hr Hs Ht En Eq Es Ew Hu Hv Ex Hw Ey. -/
import Derived.Test.YtflamedbeagjlaaN02
import Derived.Test.YtflamedbeagjlaaN20
import Derived.Test.YtflamedbeagjlaaN17
import Derived.Test.YtflamedbeagjlaaN22
import Derived.Test.YtflamedbeagjlaaN23
import Derived.Test.YtflamedbeagjlaaN24
import Derived.Laws.StructEq
import Derived.BigQuiet
import Derived.Deep.RegionLaw
import Derived.Deep.RegionHeld3
namespace Go.Proofs.Ytflamedbeagjlaa
set_option linter.unusedVariables false
set_option linter.unusedSimpArgs false
open Go.RowKit Go.ChangeShapes Go.WideShapes Go.Deep Go.Joins

def encLt (l : Ltr) : List Value := [.int .i64 l.no, .int .i64 l.frm, .int .i64 l.to_, .string (bs l.bytes)]
theorem encLt_len (l : Ltr) : (encLt l).length = 4 := rfl
theorem rowLt : RowT Try.prog encLt 4 60 73 (.agg #[.int .i64 0, .int .i64 0, .int .i64 0, .string ByteArray.empty]) 40 where
  ht := Try.underlying60
  inf := by kernel_rfl
  hzs := rfl
  k0 := by decide
  hk := encLt_len
  h1 := fun x u hu => by
    simp [encLt] at hu
    rcases hu with rfl | rfl | rfl | rfl <;> rfl
  hb := by decide
/-- A move: what is done; from where, to where, which bytes; at which place. -/
structure Mv28 where
  kind : Int
  frm : Int
  to_ : Int
  bytes : List UInt8
  k : Int
def encM28 (m : Mv28) : List Value := [.int .i64 m.kind, .int .i64 m.frm, .int .i64 m.to_, .string (bs m.bytes), .int .i64 m.k]
theorem encM28_len (m : Mv28) : (encM28 m).length = 5 := rfl
/-- The cells of one row. -/
theorem lt_cells {w : World} {N : Nat → Prop} {A : Option Addr} {L : List Ltr} (h : GX encLt 4 w N A L) {i : Nat} {l : Ltr} (hu : L[i]? = some l) : ∃ b p, A = some ⟨b, p, none⟩ ∧ N b ∧
    w.cell? ⟨b, p + i * 4, none⟩ = some (.int .i64 l.no) ∧ w.cell? ⟨b, p + i * 4 + 1, none⟩ = some (.int .i64 l.frm) ∧ w.cell? ⟨b, p + i * 4 + 2, none⟩ = some (.int .i64 l.to_) ∧ w.cell? ⟨b, p + i * 4 + 3, none⟩ = some (.string (bs l.bytes)) := by
  obtain ⟨hi, rfl⟩ := List.getElem?_eq_some_iff.1 hu
  obtain ⟨b, p, e, h1, h2⟩ := h i hi
  exact ⟨b, p, e, h1, h2 0 (by omega), h2 1 (by omega), h2 2 (by omega), h2 3 (by omega)⟩
theorem m28_cells {w : World} {N : Nat → Prop} {A : Option Addr} {L : List Mv28} (h : GX encM28 5 w N A L) {i : Nat} {m : Mv28} (hu : L[i]? = some m) : ∃ b p, A = some ⟨b, p, none⟩ ∧ N b ∧
    w.cell? ⟨b, p + i * 5, none⟩ = some (.int .i64 m.kind) ∧ w.cell? ⟨b, p + i * 5 + 1, none⟩ = some (.int .i64 m.frm) ∧ w.cell? ⟨b, p + i * 5 + 2, none⟩ = some (.int .i64 m.to_) ∧ w.cell? ⟨b, p + i * 5 + 3, none⟩ = some (.string (bs m.bytes)) ∧ w.cell? ⟨b, p + i * 5 + 4, none⟩ = some (.int .i64 m.k) := by
  obtain ⟨hi, rfl⟩ := List.getElem?_eq_some_iff.1 hu
  obtain ⟨b, p, e, h1, h2⟩ := h i hi
  exact ⟨b, p, e, h1, h2 0 (by omega), h2 1 (by omega), h2 2 (by omega), h2 3 (by omega), h2 4 (by omega)⟩
end Go.Proofs.Ytflamedbeagjlaa
namespace Go.Proofs.Ytflamedbeagjlaa
set_option linter.unusedVariables false
set_option linter.unusedSimpArgs false
open Go.RowKit Go.ChangeShapes Go.WideShapes Go.Deep Go.Joins

theorem ltr_guard (op : BinOp) (p q : Operand) (xs ys : Array Value) (w : World) : (eqGuard op 73 p q (.agg xs) (.agg ys)).run Try.prog w = .ok () w := run_eqGuard_agg w op _ p q xs ys (by kernel_rfl)
theorem ltr_eqIn (k : Nat) (w : World) (a b c : Int) (s : List UInt8) : (Op.equalIn (k + 2) 73 (.agg #[.int .i64 a, .int .i64 b, .int .i64 c, .string (bs s)]) (.agg #[.int .i64 a, .int .i64 b, .int .i64 c, .string (bs s)])).run Try.prog w = .ok true w := by
  have us2 := Try.underlying3
  have as2 := Try.isAgg3
  have zs2 := Try.sizeOf3
  have us4 := Try.underlying9
  have as4 := Try.isAgg9
  have zs4 := Try.sizeOf9
  rw [run_equalIn_agg w (k + 1) _ _ _ (by kernel_rfl) (by kernel_rfl)]
  simp only [Program.fieldsOf, Try.underlying73]
  go_simp
theorem ltr_eql (w : World) (a b c : Int) (s : List UInt8) : (binOp .eql 73 (.agg #[.int .i64 a, .int .i64 b, .int .i64 c, .string (bs s)]) (.agg #[.int .i64 a, .int .i64 b, .int .i64 c, .string (bs s)])).run Try.prog w = .ok (.bool true) w := by
  rw [run_eql_struct, show (10000 : Nat) = 9998 + 2 from rfl, ltr_eqIn]; rfl
theorem ltr_neq (w : World) (a b c : Int) (s : List UInt8) : (binOp .neq 73 (.agg #[.int .i64 a, .int .i64 b, .int .i64 c, .string (bs s)]) (.agg #[.int .i64 a, .int .i64 b, .int .i64 c, .string (bs s)])).run Try.prog w = .ok (.bool false) w := by
  rw [run_neq_struct, show (10000 : Nat) = 9998 + 2 from rfl, ltr_eqIn]; rfl
set_option maxRecDepth 100000 in
set_option maxHeartbeats 4000000 in
/-- Same of lists that are alike. -/
theorem ltsame_lit (A B : Option Addr) (ca cb n : Nat) (L : List Ltr) (w : World) (hA : GX encLt 4 w (· < w.heap.size) A L) (hB : GX encLt 4 w (· < w.heap.size) B L) (hn : Hid (L.length = n)) (hl0 : n ≤ 1000000) :
    Calls Try.prog 23 #[.slice A n ca, .slice B n cb] w fun e w' => e = .returned (.bool true) ∧ Below w.heap.size w w' := by
  have HA := hid hA
  have HBr := hid hB
  have HNl := hid hn.out
  have hg := ltr_guard
  have hq := ltr_neq
  clear hA hB hn
  go_enter Try.func23, Try.ntmps23
  go_wp2_with fail
  go_loopw [5] (fun i wr => ∃ k : Nat, k ≤ n ∧ i = .int .i64 k ∧ Hid (Below w.heap.size w wr)) (fun i _ => n - (intOf i).toNat)
  case atStart => exact ⟨0, by omega, rfl, hid (Below.refl _ _)⟩
  case round =>
    obtain ⟨k, hk, rfl, HK⟩ := hrel
    by_cases hlt : k < n
    · have hkL : k < L.length := by have := HNl.out; omega
      obtain ⟨b, o, rfl, -, r0, r1, r2, r3⟩ := lt_cells (HA.out.up HK.out) (List.getElem?_eq_getElem hkL)
      obtain ⟨b2, o2, rfl, -, s0, s1, s2, s3⟩ := lt_cells (HBr.out.up HK.out) (List.getElem?_eq_getElem hkL)
      generalize L[k] = s at *
      have hi0 : (0 : Int) ≤ (k : Int) := by omega
      have hi1 : (k : Int) < (n : Int) := by omega
      go_wp2_with fail
      go_quiet (fail)
      go_wp2_with fail
      go_roundw
      case rel => exact ⟨k + 1, by omega, by go_num, hid (below_drewN HK.out _)⟩
      case measure => simp [intOf]; omega
    · obtain rfl : k = n := by omega
      go_wp2_with fail
      go_ret
      exact ⟨rfl, HK.out⟩
theorem lteqnil (a : Option Addr) (n c : Nat) (w : World) : (binOp .eql 60 (.slice a n c) (.slice none 0 0)).run Try.prog w = .ok (.bool a.isNone) w := by
  simp only [binOp]
  simp [run_equal_slice_nil w 60 73 a n c Try.underlying60]
set_option maxRecDepth 100000 in
set_option maxHeartbeats 4000000 in
theorem clonelt_any (A : Option Addr) (n c : Nat) (L : List Ltr) (w : World) (h1 : GX encLt 4 w (· < w.heap.size) A L) (hn : Hid (L.length = n)) (hl : n ≤ 1000000) :
    Calls Try.prog 58 #[.slice A n c] w fun e w' => ∃ v, e = .returned v ∧ GB encLt 4 73 w' w.heap.size v L ∧ Below w.heap.size w w' := by
  have heq := lteqnil
  rcases A with _ | ad
  · have hL0 : L = [] := by
      rcases L with _ | ⟨p, r⟩
      · rfl
      · obtain ⟨b, o, e, _⟩ := h1 0 (by simp)
        cases e
    subst hL0
    have hn0 := hn.out
    clear hn
    go_enter Try.func58, Try.ntmps58
    go_wp2_with fail
    go_returns
    exact ⟨_, rfl, GB.nil _ _, Below.refl _ _⟩
  · have hb0 := enew w (.cells #[] 73)
    have hown0 : GB encLt 4 73 (w.alloc (.cells #[] 73)) w.heap.size (.slice (some ⟨w.heap.size, 0, none⟩) 0 0) [] := by
      have := World.ownsRow_lit (e := 73) (size := 4) w #[] 0 (Nat.le_refl _) (by unfold maxLen; omega) (by simp)
      simpa [GB, gvals] using this
    have H0 := hid (And.intro hb0 (And.intro hown0 (h1.up hb0)))
    clear hb0 hown0 h1
    go_enter Try.func58, Try.ntmps58
    go_wp2_with (at_builtin; refine wpList_append_gx (W0 := w) rowLt rfl _ _ rfl w.heap.size (.slice (some ⟨w.heap.size, 0, none⟩) 0 0) [] L (some ad) c _ rfl H0.out.2.1 (by rw [hn.out]; rfl) H0.out.2.2 (fun h => by cases h) (by have := hn.out; simp; omega) H0.out.1 (Nat.le_refl _) ?_)
    intro v1 w1 hown1 hbel1 _
    have H1 := hid (And.intro hown1 hbel1)
    clear hown1 hbel1
    go_wp2_with fail
    go_returns
    exact ⟨_, rfl, H1.out.1, H1.out.2⟩
section
variable {H : Type} {enc : TypeId × Value → H} {P : Program} {w : World} {base : Nat}
theorem m28_of {mt i u : TypeId} {k0 k1 k2 k3 k4 : Field} (hi : P.underlying i = some (.int .i64)) (hu : P.underlying u = some .string) (ci : P.cellsOf i = 1) (cu : P.cellsOf u = 1) (hmt : P.underlying mt = some (.struct #[k0, k1, k2, k3, k4])) (hC : P.cellsOf mt = 5)
    (hk : k0.type = i ∧ k1.type = i ∧ k2.type = i ∧ k3.type = u ∧ k4.type = i) (ho : k0.offset = 0 ∧ k1.offset = 1 ∧ k2.offset = 2 ∧ k3.offset = 3 ∧ k4.offset = 4) {sp : Nat → Bool} {hd : Bool} {fuel : Nat} {cs : List Value} {x : DataW H × List MemPlace}
    (h : DataW.trod enc P w base sp hd fuel mt cs = some x) : ∃ m : Mv28, cs = encM28 m := by
  obtain ⟨xs, n, _, hx, hl, hlen, hgg⟩ := DataW.trod_struct hmt h
  rw [hC] at hl
  obtain ⟨t0, t1, t2, t3, t4⟩ := hk
  obtain ⟨o0, o1, o2, o3, o4⟩ := ho
  match cs, hl, xs, hlen with
  | [c0, c1, c2, c3, c4], _, [y0, y1, y2, y3, y4], _ =>
    have h0 := hgg 0 k0 rfl
    have h1 := hgg 1 k1 rfl
    have h2 := hgg 2 k2 rfl
    have h3 := hgg 3 k3 rfl
    have h4 := hgg 4 k4 rfl
    rw [t0, o0, ci] at h0
    rw [t1, o1, ci] at h1
    rw [t2, o2, ci] at h2
    rw [t3, o3, cu] at h3
    rw [t4, o4, ci] at h4
    obtain ⟨n0, m0, _, _⟩ := DataW.trod_int hi h0
    obtain ⟨n1, m1, _, _⟩ := DataW.trod_int hi h1
    obtain ⟨n2, m2, _, _⟩ := DataW.trod_int hi h2
    obtain ⟨s, m3, e3, _⟩ := DataW.trod_string hu h3
    obtain ⟨n4, m4, _, _⟩ := DataW.trod_int hi h4
    refine ⟨⟨n0, n1, n2, s.data.toList, n4⟩, ?_⟩
    simp at m0 m1 m2 m3 m4
    simp only [m0, m1, m2, m3, m4, ← bs_of, encM28]
theorem open_M28 {ts mt i u : TypeId} {k0 k1 k2 k3 k4 : Field} (hi : P.underlying i = some (.int .i64)) (hu : P.underlying u = some .string) (ci : P.cellsOf i = 1) (cu : P.cellsOf u = 1) (hmt : P.underlying mt = some (.struct #[k0, k1, k2, k3, k4])) (hC : P.cellsOf mt = 5)
    (hk : k0.type = i ∧ k1.type = i ∧ k2.type = i ∧ k3.type = u ∧ k4.type = i) (ho : k0.offset = 0 ∧ k1.offset = 1 ∧ k2.offset = 2 ∧ k3.offset = 3 ∧ k4.offset = 4) (hts : P.underlying ts = some (.slice mt))
    {A0 : Option Addr} {n0 c0 : Nat} {d : DataW H} {p : List MemPlace} (hz : Sized P ts d) (h : DataW.Trod enc P w base (fun _ => true) true ts (.slice A0 n0 c0) d p) :
    ∃ L : List Mv28, RwV encM28 5 w (· < w.heap.size) (.slice A0 n0 c0) L := by
  haveI : Inhabited Mv28 := ⟨⟨0, 0, 0, [], 0⟩⟩
  obtain ⟨L, h, -⟩ := open_rows (ok := fun _ => True) (by decide) encM28_len hts hC (fun fuel cs x h hz => by
    obtain ⟨m, e⟩ := m28_of hi hu ci cu hmt hC hk ho h
    exact ⟨m, trivial, e⟩) hz h
  exact ⟨L, h⟩
end
end Go.Proofs.Ytflamedbeagjlaa
namespace Go.Proofs.Ytflamedbeagjlaa
set_option linter.unusedVariables false
set_option linter.unusedSimpArgs false
open Go.RowKit Go.Joins

/-- A buffer in block g, what waits in block p, if there is any: how many there is room for. -/
def BfH (w : World) (g : Nat) (p : Option Nat) (room : Nat) (x : Bfr) : Prop :=
  ∃ v, Bk w g 129 #[.int .i64 (room : Int), v, .int .i64 (x.2 : Int)] ∧ GB encSp 11 37 w 0 v x.1 ∧ v.ownBlock = p ∧ x.1.length ≤ room ∧ room ≤ 64 ∧ 1 ≤ room
section
variable {w w' : World} {g room : Nat} {p : Option Nat} {x : Bfr} {S : Nat → Prop}
theorem GB.onS {α : Type} {enc : α → List Value} {k : Nat} {e : TypeId} {base : Nat} {v : Value} {L : List α} (h : GB enc k e w base v L) (ho : OnS S w w') (hn : ∀ q, v.ownBlock = some q → ¬ S q) : GB enc k e w' base v L := by
  refine ⟨h.1, ?_⟩
  rcases h.2 with h2 | ⟨g, cap', cur, e1, e2, e3, e4⟩
  · exact Or.inl h2
  · refine Or.inr ⟨g, cap', cur, e1, e2, ?_, e4⟩
    rw [ho.block g (Array.getElem?_eq_some_iff.1 e3).1 (hn g (by rw [e1]; rfl))]
    exact e3
theorem BfH.up (h : BfH w g p room x) (hb : Below w.heap.size w w') : BfH w' g p room x := by
  obtain ⟨v, h1, h2, h3⟩ := h
  exact ⟨v, h1.up hb, h2.below hb, h3⟩
theorem BfH.onS (h : BfH w g p room x) (ho : OnS S w w') (hg : ¬ S g) (hp : ∀ q, p = some q → ¬ S q) : BfH w' g p room x := by
  obtain ⟨v, h1, h2, h3, h4⟩ := h
  exact ⟨v, h1.onS ho hg, h2.onS ho (fun q hq => hp q (h3 ▸ hq)), h3, h4⟩
theorem BfH.lt (h : BfH w g p room x) : g < w.heap.size ∧ ∀ q, p = some q → q < w.heap.size ∧ g ≠ q := by
  obtain ⟨v, h1, h2, h3, h4⟩ := h
  refine ⟨h1.lt, fun q hq => ⟨(World.ownsRow.lt h2 q (h3.trans hq)).2, fun e => ?_⟩⟩
  subst e
  exact GB.not_bk h2 h1 (by decide) (h3.trans hq).symm
theorem BfH.few (h : BfH w g p room x) : x.1.length ≤ room ∧ room ≤ 64 ∧ 1 ≤ room := by
  obtain ⟨v, h1, h2, h3, h4⟩ := h
  exact h4
end
set_option maxRecDepth 100000 in
set_option maxHeartbeats 4000000 in
theorem bfnew_any (room : Int) (w : World) {c : Nat} (H : Hid (bfRoom room = c)) :
    Calls Try.prog 35 #[.int .i64 room] w fun e w' => ∃ g, e = .returned (.pointer (some ⟨g, 0, none⟩)) ∧ w.heap.size ≤ g ∧ BfH w' g none c ([], 0) ∧ Below w.heap.size w w' := by
  have h1 := bfRoom_pos room
  have hmm : min (max room 1) 64 = (c : Int) := by have := H.out; unfold bfRoom at this; omega
  rw [H.out] at h1
  have HC := hid h1
  clear h1 H
  go_enter Try.func35, Try.ntmps35
  go_wp2_with fail
  go_returns
  exact ⟨w.heap.size, rfl, Nat.le_refl _, ⟨_, Bk.new w _ _, GB.nil _ _, rfl, Nat.zero_le _, HC.out.2, HC.out.1⟩, enew _ _⟩
set_option maxRecDepth 100000 in
set_option maxHeartbeats 4000000 in
theorem bfLen_any (g : Nat) (p : Option Nat) (room : Nat) (x : Bfr) (w : World) (h : BfH w g p room x) {k : Nat} (H : Hid (x.1.length = k)) :
    Calls Try.prog 48 #[.pointer (some ⟨g, 0, none⟩)] w fun e w' => e = .returned (.int .i64 (k : Int)) ∧ Below w.heap.size w w' := by
  obtain ⟨v, h1, h2, -⟩ := h
  obtain ⟨A, c, rfl, -⟩ := GB.reads encSp_len h2
  rw [H.out] at h1
  have h3 : w.cell? ⟨g, 1, none⟩ = some (.slice A k c) := Bk.cell h1 1
  clear h1 h2
  go_enter Try.func48, Try.ntmps48
  go_wp2_with fail
  go_returns
  exact ⟨rfl, Below.refl _ _⟩
set_option maxRecDepth 100000 in
set_option maxHeartbeats 4000000 in
theorem bfLost_any (g : Nat) (p : Option Nat) (room : Nat) (x : Bfr) (w : World) (h : BfH w g p room x) (hx : x.2 ≤ 1099511627776) {k : Nat} (H : Hid (x.2 = k)) :
    Calls Try.prog 51 #[.pointer (some ⟨g, 0, none⟩)] w fun e w' => e = .returned (.int .i64 (k : Int)) ∧ Below w.heap.size w w' := by
  obtain ⟨v, h1, -⟩ := h
  rw [H.out] at h1 hx
  have h2 : w.cell? ⟨g, 2, none⟩ = some (.int .i64 (k : Int)) := Bk.cell h1 2
  have H2 := hid (ncount_any ⟨g, 2, none⟩ k w h2 (by omega) (by omega))
  clear h1 h2
  go_enter Try.func51, Try.ntmps51
  go_wp2_with fail
  refine H2.out.mono ?_
  rintro e w' ⟨rfl, rfl⟩
  go_wp2_with fail
  go_returns
  exact ⟨rfl, Below.refl _ _⟩
set_option maxRecDepth 100000 in
theorem bfLen_nil (w : World) : Calls Try.prog 48 #[.pointer none] w fun e w' => e = .returned (.int .i64 0) ∧ Below w.heap.size w w' := by
  go_enter Try.func48, Try.ntmps48
  go_wp2_with fail
  go_returns
  exact ⟨rfl, Below.refl _ _⟩
set_option maxRecDepth 100000 in
theorem bfLost_nil (w : World) : Calls Try.prog 51 #[.pointer none] w fun e w' => e = .returned (.int .i64 0) ∧ Below w.heap.size w w' := by
  go_enter Try.func51, Try.ntmps51
  go_wp2_with fail
  go_returns
  exact ⟨rfl, Below.refl _ _⟩
set_option maxRecDepth 100000 in
theorem bfTake_nil (n : Int) (w : World) : Calls Try.prog 74 #[.pointer none, .int .i64 n] w fun e w' => e = .returned (.slice none 0 0) ∧ Below w.heap.size w w' := by
  go_enter Try.func74, Try.ntmps74
  go_wp2_with fail
  go_returns
  exact ⟨rfl, Below.refl _ _⟩
set_option maxRecDepth 100000 in
theorem bfPut_nil (cs : Array Value) (w : World) : Calls Try.prog 37 #[.pointer none, .agg cs] w fun e w' => e = .returned (.bool false) ∧ Below w.heap.size w w' := by
  have hb := hid (enew w (.cells cs 37))
  go_enter Try.func37, Try.ntmps37
  go_wp2_with fail
  go_returns
  exact ⟨rfl, hb.out⟩
end Go.Proofs.Ytflamedbeagjlaa
namespace Go.Proofs.Ytflamedbeagjlaa
set_option linter.unusedVariables false
set_option linter.unusedSimpArgs false
open Go.RowKit Go.Joins

section
variable {α : Type} {enc : α → List Value} {k : Nat} {e : TypeId} {P : Program} {t : TypeId} {z : Value} {bytes : Nat}
/-- append at a step of a region that draws, where there is room: what is appended may lie in the same block. -/
theorem step_append_fit (T : RowT P enc k t e z bytes) {ops : Array Oper} {o : Oper} {a : Act} {K : Act → World → Prop} {Q : Exit → Act → World → Prop} {E : Prop} {w : World} (hgd : o.guard = none) (s x : Operand)
    (ho : o.op = .call { callee := .builtin .append, args := #[s, x], argTypes := #[t, t] }) (base q n cap : Nat) (L M : List α) (ad : Addr) (m c : Nat)
    (hs : a.eval s = .slice (some ⟨q, 0, none⟩) n cap) (hn : L.length = n) (hown : GB enc k e w base (.slice (some ⟨q, 0, none⟩) n cap) L) (hx : a.eval x = .slice (some ad) m c) (hm : M.length = m) (hR : ∀ j u, (gvals enc M)[j]? = some u → w.cell? (ad.add j) = some u)
    (hroom : n + m ≤ cap) (h : ∀ w', GB enc k e w' base (.slice (some ⟨q, 0, none⟩) (n + m) cap) (L ++ M) → w.grownBy w' (some q) → K (a.put o.dst (.slice (some ⟨q, 0, none⟩) (n + m) cap)) w') :
    if Region.wanted o (yielded ops a.tmps) = true then Oper.wp P o a w K Q else E := by
  have hw : Region.wanted o (yielded ops a.tmps) = true := by simp [Region.wanted, hgd]
  rw [if_pos hw]
  subst hn hm
  obtain ⟨i0, hi, hz0, hz1, hz2⟩ := info_parts T.inf
  obtain ⟨w', hr, h2, h3⟩ := run_append_fits (P := P) w base t o.type e i0 k T.ht hi hz1 q L.length cap (gvals enc L) hown ad M.length c (gvals enc M) (gvals_len enc k T.hk M) hR (fun u hu => by
    simp only [gvals, List.mem_flatMap] at hu
    obtain ⟨y, _, hu⟩ := hu
    exact T.h1 y u hu) hroom
  unfold Oper.wp execOp
  simp only [ho, resolve, invoke, builtin, Sem.run_bind, Sem.run_pure, Result.andThen_ok, List.map_toArray, List.map_cons, List.map_nil, hs, hx, hr]
  refine h w' ?_ h3
  unfold GB
  rw [List.length_append, ← gvals_append]
  exact h2
/-- clear of what lies behind a slice's end, in its block. -/
theorem run_clear_gb (T : RowT P enc k t e z bytes) (hz1 : ∀ u ∈ z.cells.toList, u.oneCell' = true) {w : World} {base q n cap : Nat} {L : List α} (ty : TypeId) (hn : L.length = n) (hown : GB enc k e w base (.slice (some ⟨q, 0, none⟩) n cap) L) (m c : Nat) (hm : 0 < m) (hfit : n + m ≤ cap) :
    ∃ w', (Builtin.clear_ #[t] ty #[.slice (some ⟨q, n * k, none⟩) m c]).run P w = .ok (.tuple #[]) w' ∧ GB enc k e w' base (.slice (some ⟨q, 0, none⟩) n cap) L ∧ w.grownBy w' (some q) := by
  subst hn
  obtain ⟨i0, hi, hz0, hs1, hs2⟩ := info_parts T.inf
  have h := hown
  rcases h.2 with ⟨h0, _⟩ | ⟨g, cap', cur, he, e2, e3, e4, e5, e6, e7⟩
  · cases h0
  · simp only [Value.slice.injEq, Option.some.injEq, Addr.mk.injEq, and_true, true_and] at he
    obtain ⟨rfl, rfl⟩ := he
    have hzl : (Builtin.zeroCells z.cells m).toList.length = m * k := by rw [Array.length_toList, size_zeroCells, T.hzs]
    have hz2 : ∀ u ∈ (Builtin.zeroCells z.cells m).toList, u.oneCell' = true := fun u hu => by
      simp only [Builtin.zeroCells, Array.mem_toList_iff, Array.mem_map] at hu
      obtain ⟨i, _, rfl⟩ := hu
      refine hz1 _ ?_
      have h0 : i % z.cells.size < z.cells.size := Nat.mod_lt _ (by rw [T.hzs]; exact T.k0)
      rw [getElem!_pos z.cells _ h0]
      exact Array.mem_toList_iff.2 (Array.getElem_mem h0)
    have hle : L.length * k + m * k ≤ cur.size := by rw [e6, ← Nat.add_mul]; exact Nat.mul_le_mul_right _ hfit
    have hst := run_storeCells_at P q (L.length * k) e (Builtin.zeroCells z.cells m).toList 0 cur w e3 (by rw [hzl]; omega) hz2
    simp only [Nat.add_zero] at hst
    have hv : (zeroValue e).run P w = .ok z w := by
      simp [zeroValue, typeInfo, hi, hz0]
    obtain ⟨m, rfl⟩ : ∃ j, m = j + 1 := ⟨m - 1, by omega⟩
    refine ⟨_, by simp [Builtin.clear_, run_underlying T.ht, hv, hst]; rfl, ⟨hown.1, .inr ⟨q, cap, _, rfl, e2, setRow_heap w q cur _ e _ e3, e4, e5, ?_, ?_⟩⟩, ⟨rfl, rfl, rfl, by simp, fun j _ hj => setRow_other w q j _ (fun e => hj (by simp [e]))⟩⟩
    · simp only [List.size_toArray, List.length_append, List.length_take, List.length_drop, Array.length_toList, size_zeroCells, T.hzs]
      omega
    · show List.take (L.length * k) (List.take (L.length * k) cur.toList ++ (_ ++ _)) = _
      rw [List.take_append_of_le_length (by simp only [List.length_take, Array.length_toList]; omega), List.take_take, Nat.min_self]
      exact e7
theorem wpList_clear_gb (T : RowT P enc k t e z bytes) (hz1 : ∀ u ∈ z.cells.toList, u.oneCell' = true) {ops : Array Oper} {rest : List Oper} {o : Oper} {a : Act} {Q : Exit → Act → World → Prop} {w : World} (hgd : o.guard = none) (x : Operand)
    (ho : o.op = .call { callee := .builtin .clear, args := #[x], argTypes := #[t] }) (base q n cap : Nat) (L : List α) (off m c : Nat) (hx : a.eval x = .slice (some ⟨q, off, none⟩) m c) (ho2 : off = n * k) (hn : L.length = n) (hown : GB enc k e w base (.slice (some ⟨q, 0, none⟩) n cap) L) (hm : 0 < m) (hfit : n + m ≤ cap)
    (h : ∀ w', GB enc k e w' base (.slice (some ⟨q, 0, none⟩) n cap) L → w.grownBy w' (some q) → wpList P ops Q rest (a.put o.dst (.tuple #[])) w') : wpList P ops Q (o :: rest) a w := by
  subst ho2
  obtain ⟨w', hr, h2, h3⟩ := run_clear_gb T hz1 o.type hn hown m c hm hfit
  refine wpList_plain hgd fun K hK => ?_
  unfold Oper.wp execOp
  simp only [ho, resolve, invoke, builtin, Sem.run_bind, Sem.run_pure, Result.andThen_ok, List.map_toArray, List.map_cons, List.map_nil, hx, hr]
  exact hK _ _ (h w' h2 h3)
end
theorem spz_one : ∀ u ∈ (Value.agg #[.int .u64 0, .int .u64 0, .int .u64 0, .int .u64 0, .string ByteArray.empty, .int .i64 0, .int .i64 0, .int .i64 0, .bool false, .int .i64 0, .int .i64 0]).cells.toList, u.oneCell' = true := fun u hu => by
  simp [Value.cells] at hu
  rcases hu with rfl | rfl | rfl | rfl | rfl <;> rfl
end Go.Proofs.Ytflamedbeagjlaa
namespace Go.Proofs.Ytflamedbeagjlaa
set_option linter.unusedVariables false
set_option linter.unusedSimpArgs false
open Go.RowKit Go.Joins

/-- A net in block g, its letters in block p, if there is any. -/
def NtP (w : World) (g : Nat) (p : Option Nat) (x : Nts) : Prop :=
  ∃ v, Bk w g 115 #[v, .int .i64 (x.next : Int), .int .i64 (x.lost : Int)] ∧ GB encLt 4 73 w 0 v x.all ∧ v.ownBlock = p ∧ x.all.length ≤ 256
def ntS (g : Nat) (p : Option Nat) : Nat → Prop := fun b => b = g ∨ some b = p
/-- A net, whose blocks are S. -/
def NtH (w : World) (S : Nat → Prop) (v : Value) (x : Nts) : Prop := ∃ g p, v = .pointer (some ⟨g, 0, none⟩) ∧ S = ntS g p ∧ NtP w g p x
section
variable {w w' : World} {g : Nat} {p : Option Nat} {x : Nts} {S T : Nat → Prop} {v : Value}
theorem NtP.up (h : NtP w g p x) (hb : Below w.heap.size w w') : NtP w' g p x := by
  obtain ⟨v, h1, h2, h3⟩ := h
  exact ⟨v, h1.up hb, h2.below hb, h3⟩
theorem NtP.onS (h : NtP w g p x) (ho : OnS S w w') (hg : ¬ S g) (hp : ∀ q, p = some q → ¬ S q) : NtP w' g p x := by
  obtain ⟨v, h1, h2, h3, h4⟩ := h
  exact ⟨v, h1.onS ho hg, h2.onS ho (fun q hq => hp q (h3 ▸ hq)), h3, h4⟩
theorem NtP.lt (h : NtP w g p x) : g < w.heap.size ∧ ∀ q, p = some q → q < w.heap.size ∧ g ≠ q := by
  obtain ⟨v, h1, h2, h3, h4⟩ := h
  refine ⟨h1.lt, fun q hq => ⟨(World.ownsRow.lt h2 q (h3.trans hq)).2, fun e => ?_⟩⟩
  subst e
  exact GB.not_bk h2 h1 (by decide) (h3.trans hq).symm
theorem NtH.up (h : NtH w S v x) (ho : OnS T w w') (hn : ∀ b, S b → ¬ T b) : NtH w' S v x := by
  obtain ⟨g, p, rfl, rfl, h1⟩ := h
  exact ⟨g, p, rfl, rfl, h1.onS ho (hn g (Or.inl rfl)) fun q hq => hn q (Or.inr hq.symm)⟩
theorem NtH.lt (h : NtH w S v x) : ∀ b, S b → b < w.heap.size := by
  obtain ⟨g, p, rfl, rfl, h1⟩ := h
  intro b hb
  rcases hb with rfl | hb
  · exact h1.lt.1
  · exact (h1.lt.2 b hb.symm).1
theorem NtH.few (h : NtH w S v x) : x.all.length ≤ 256 := by
  obtain ⟨g, p, rfl, rfl, v, h1, h2, h3, h4⟩ := h
  exact h4
end
set_option maxRecDepth 100000 in
set_option maxHeartbeats 4000000 in
theorem ntnew_any (w : World) : Calls Try.prog 20 #[] w fun e w' => ∃ v S, e = .returned v ∧ NtH w' S v nt0 ∧ (∀ b, S b → w.heap.size ≤ b) ∧ Below w.heap.size w w' := by
  go_enter Try.func20, Try.ntmps20
  go_wp2_with fail
  go_returns
  refine ⟨_, _, rfl, ⟨w.heap.size, none, rfl, rfl, _, Bk.new w _ _, GB.nil _ _, rfl, Nat.zero_le _⟩, fun b hb => ?_, enew _ _⟩
  rcases hb with rfl | hb
  · exact Nat.le_refl _
  · cases hb
set_option maxRecDepth 100000 in
set_option maxHeartbeats 4000000 in
theorem ntlost_any {w : World} {S : Nat → Prop} {v : Value} {x : Nts} (hx : x.lost ≤ 1099511627776) (h : NtH w S v x) :
    Calls Try.prog 22 #[v] w fun e w' => e = .returned (.int .i64 (x.lost : Int)) ∧ Below w.heap.size w w' := by
  obtain ⟨g, p, rfl, rfl, v, h1, -⟩ := h
  obtain ⟨k, hk⟩ : ∃ k, x.lost = k := ⟨_, rfl⟩
  rw [hk] at h1 hx ⊢
  have h2 : w.cell? ⟨g, 2, none⟩ = some (.int .i64 (k : Int)) := Bk.cell h1 2
  have H2 := hid (ncount_any ⟨g, 2, none⟩ k w h2 (by omega) (by omega))
  clear h1 h2 hk
  go_enter Try.func22, Try.ntmps22
  go_wp2_with fail
  refine H2.out.mono ?_
  rintro e w' ⟨rfl, rfl⟩
  go_wp2_with fail
  go_returns
  exact ⟨rfl, Below.refl _ _⟩
set_option maxRecDepth 100000 in
set_option maxHeartbeats 4000000 in
theorem ntall_any {w : World} {S : Nat → Prop} {v : Value} {x : Nts} (h : NtH w S v x) :
    Calls Try.prog 24 #[v] w fun e w' => ∃ y, e = .returned y ∧ GB encLt 4 73 w' w.heap.size y x.all ∧ Below w.heap.size w w' := by
  obtain ⟨g, p, rfl, rfl, v, h1, h2, h3, h4⟩ := h
  obtain ⟨A, c, rfl, hgx, -⟩ := GB.reads encLt_len h2
  obtain ⟨k, hk⟩ : ∃ k, x.all.length = k := ⟨_, rfl⟩
  have H2 := hid (clonelt_any A k c x.all w (hgx.imp fun b hb => hb.2) (hid hk) (by omega))
  rw [hk] at h1
  have q0 : w.cell? ⟨g, 0, none⟩ = some (.slice A k c) := Bk.cell h1 0
  clear h1 h2 hgx hk h3 h4
  go_enter Try.func24, Try.ntmps24
  go_wp2_with fail
  refine H2.out.mono ?_
  rintro e w' ⟨v, rfl, hv, hb⟩
  have HV := hid (And.intro hv hb)
  clear hv hb
  go_wp2_with fail
  go_returns
  exact ⟨_, rfl, HV.out⟩
set_option maxRecDepth 100000 in
theorem ntlost_nil (w : World) : Calls Try.prog 22 #[.pointer none] w fun e w' => e = .returned (.int .i64 0) ∧ Below w.heap.size w w' := by
  go_enter Try.func22, Try.ntmps22
  go_wp2_with fail
  go_returns
  exact ⟨rfl, Below.refl _ _⟩
set_option maxRecDepth 100000 in
theorem ntall_nil (w : World) : Calls Try.prog 24 #[.pointer none] w fun e w' => e = .returned (.slice none 0 0) ∧ Below w.heap.size w w' := by
  go_enter Try.func24, Try.ntmps24
  go_wp2_with fail
  go_returns
  exact ⟨rfl, Below.refl _ _⟩
set_option maxRecDepth 100000 in
theorem ntsend_nil (f t : Int) (s : ByteArray) (w : World) : Calls Try.prog 25 #[.pointer none, .int .i64 f, .int .i64 t, .string s] w fun e w' => e = .returned (.bool false) ∧ Below w.heap.size w w' := by
  go_enter Try.func25, Try.ntmps25
  go_wp2_with fail
  go_returns
  exact ⟨rfl, Below.refl _ _⟩
/-- One letter is taken out of a row. -/
theorem ltz_one : ∀ u ∈ (Value.agg #[.int .i64 0, .int .i64 0, .int .i64 0, .string ByteArray.empty]).cells.toList, u.oneCell' = true := fun u hu => by
  simp [Value.cells] at hu
  rcases hu with rfl | rfl | rfl | rfl <;> rfl
/-- The first ones of a row are a row. -/
theorem gb_front {α : Type} {enc : α → List Value} {k : Nat} {e : TypeId} {w : World} {base q n c : Nat} {L : List α} (hk : ∀ x, (enc x).length = k) (h : GB enc k e w base (.slice (some ⟨q, 0, none⟩) n c) L) (i : Nat) (hi : i ≤ n) : GB enc k e w base (.slice (some ⟨q, 0, none⟩) i c) (L.take i) := by
  rcases h.2 with ⟨h0, _⟩ | ⟨g, cap', cur, e1, e2, e3, e4, e5, e6, e7⟩
  · cases h0
  · simp only [Value.slice.injEq, Option.some.injEq, Addr.mk.injEq, and_true, true_and] at e1
    obtain ⟨rfl, hn, rfl⟩ := e1
    have hil : (L.take i).length = i := by rw [List.length_take]; omega
    refine ⟨gvals_len enc k hk _, Or.inr ⟨q, c, cur, by rw [hil], e2, e3, by rw [hil]; omega, e5, e6, ?_⟩⟩
    have h9 := congrArg (List.take (i * k)) e7
    rw [List.take_take, Nat.min_eq_left (Nat.mul_le_mul_right _ (by omega))] at h9
    rw [hil, h9]
    have hs : gvals enc L = gvals enc (L.take i) ++ gvals enc (L.drop i) := by rw [gvals_append, List.take_append_drop]
    rw [hs]
    refine List.take_left' ?_
    rw [gvals_len enc k hk, hil]
theorem lt_base {α : Type} {enc : α → List Value} {k : Nat} {e : TypeId} {w : World} {A : Option Addr} {n c base : Nat} {L : List α} (hk : ∀ x, (enc x).length = k) (h : GB enc k e w base (.slice A n c) L) : (A = none ∧ c = 0 ∧ n = 0) ∨ ∃ q, A = some ⟨q, 0, none⟩ ∧ n ≤ c ∧ c ≤ maxLen := by
  rcases GB.form hk h with ⟨h1, -⟩ | ⟨g, cap, h1, -, -, h4, h5, -⟩
  · simp only [Value.slice.injEq] at h1
    exact Or.inl ⟨h1.1, h1.2.2, h1.2.1⟩
  · simp only [Value.slice.injEq] at h1
    obtain ⟨rfl, rfl, rfl⟩ := h1
    exact Or.inr ⟨g, rfl, h4, h5⟩
end Go.Proofs.Ytflamedbeagjlaa
namespace Go.Proofs.Ytflamedbeagjlaa
set_option linter.unusedVariables false
set_option linter.unusedSimpArgs false
open Go.RowKit Go.Joins

set_option maxRecDepth 100000 in
set_option maxHeartbeats 4000000 in
theorem ltdel_any (q n i j c : Nat) (L : List Ltr) (w : World) (h : GB encLt 4 73 w 0 (.slice (some ⟨q, 0, none⟩) n c) L) (hn : L.length = n) (hi : i < n) (hj : i + 1 = j) (hl : n ≤ 1000) (hnc : n ≤ c) (hcm : c ≤ maxLen) {r : Nat} (hr : n - 1 = r) :
    Calls Try.prog 61 #[.slice (some ⟨q, 0, none⟩) n c, .int .i64 (i : Int), .int .i64 (j : Int)] w fun e w' => e = .returned (.slice (some ⟨q, 0, none⟩) r c) ∧ GB encLt 4 73 w' 0 (.slice (some ⟨q, 0, none⟩) r c) (L.eraseIdx i) ∧ OnS (fun b => b = q) w w' := by
  have HG := hid h
  have hn1 : (n : Int) ≤ (c : Int) := by omega
  have hi0 : (0 : Int) ≤ (i : Int) := by omega
  have hi1 : (i : Int) ≤ (j : Int) := by omega
  have hi2 : (j : Int) ≤ (n : Int) := by omega
  have hi3 : (i : Int) ≤ (c : Int) := by omega
  have hi4 : (j : Int) ≤ (c : Int) := by omega
  have hj0 : (0 : Int) ≤ (j : Int) := by omega
  have hte : ((i : Int) == (j : Int)) = false := by simp; omega
  have hte2 : ¬ (i : Int) = (j : Int) := by omega
  have hte3 : ¬ i = j := by omega
  obtain ⟨m, hm1⟩ : ∃ m, n - j = m := ⟨_, rfl⟩
  have him : i + m = r := by omega
  have hr0 : (0 : Int) ≤ (r : Int) := by omega
  have hr1 : (r : Int) ≤ (n : Int) := by omega
  have hr2 : (r : Int) ≤ (c : Int) := by omega
  have hcr : ¬ c = r := by omega
  have hnr : n - r = 1 := by omega
  obtain ⟨ad, had, hsrc⟩ : ∃ ad : Addr, (if c = j then some (⟨q, 0, none⟩ : Addr) else some ⟨q, j * 4, none⟩) = some ad ∧ ∀ k u, (gvals encLt (L.drop j))[k]? = some u → w.drew.cell? (ad.add k) = some u := by
    obtain ⟨A, c', he, hgx, -⟩ := GB.reads encLt_len h
    simp only [Value.slice.injEq] at he
    obtain ⟨rfl, -, rfl⟩ := he
    by_cases hct : c = j
    · refine ⟨⟨q, 0, none⟩, if_pos hct, fun k u hu => ?_⟩
      rw [List.drop_eq_nil_of_le (by omega)] at hu
      simp [gvals] at hu
    · refine ⟨⟨q, j * 4, none⟩, if_neg hct, fun k u hu => ?_⟩
      have := hgx.drop j
      rw [Nat.zero_add] at this
      exact GX.cell encLt_len this k u hu
  have hown0 : GB encLt 4 73 w.drew 0 (.slice (some ⟨q, 0, none⟩) i c) (L.take i) := gb_front encLt_len (h.below (below_drewN (Below.refl _ w) 1)) i (by omega)
  have hdl : (L.drop j).length = m := by rw [List.length_drop]; omega
  have htl : (L.take i).length = i := by rw [List.length_take]; omega
  have hel : L.eraseIdx i = L.take i ++ L.drop j := by rw [List.eraseIdx_eq_take_drop_succ, hj]
  have hen : (L.take i ++ L.drop j).length = r := by rw [List.length_append]; omega
  have HA := hid (And.intro had (And.intro hsrc (And.intro hown0 (And.intro hdl (And.intro htl (And.intro hel hen))))))
  clear h hn had hsrc hown0 hdl htl hel hen
  go_enter Try.func61, Try.ntmps61
  go_wp2_with fail
  go_region_law (
    (refine step_append_fit rowLt rfl _ _ rfl 0 q i c (L.take i) (L.drop j) ad m (c - j) rfl HA.out.2.2.2.2.1 HA.out.2.2.1 (congrArg (fun z => Value.slice z m (c - j)) HA.out.1) HA.out.2.2.2.1 HA.out.2.1 (by omega) ?_
     intro w7 hF hg))
  all_goals
    rw [him] at hF
    have H7 := hid (And.intro hF hg)
    clear hF hg
    generalize (if c = j then (some (⟨q, 0, none⟩ : Addr)) else some ⟨q, j * 4, none⟩) = A9
    obtain ⟨w8, hr8, hF, hg⟩ := run_clear_gb rowLt ltz_one 0 HA.out.2.2.2.2.2.2 H7.out.1 1 (c - r) (by omega) (by omega)
    have H8 := hid (And.intro hF hg)
    clear hF hg
    go_wp2_with fail
    go_returns
    refine ⟨rfl, ?_, ((OnS.refl _ w).drew.trans (OnS.grown H7.out.2 fun b hb => by injection hb with hb; exact hb.symm)).trans (OnS.grown H8.out.2 fun b hb => by injection hb with hb; exact hb.symm)⟩
    rw [HA.out.2.2.2.2.2.1]
    exact H8.out.1
end Go.Proofs.Ytflamedbeagjlaa
namespace Go.Proofs.Ytflamedbeagjlaa
set_option linter.unusedVariables false
set_option linter.unusedSimpArgs false
open Go.RowKit Go.Joins

/-- The net behind a call. -/
def NtE (w : World) (S : Nat → Prop) (v : Value) (y : Nts) (w' : World) : Prop := ∃ S', NtH w' S' v y ∧ OnS S w w' ∧ ∀ b, S' b → S b ∨ w.heap.size ≤ b
theorem ntset0 {w : World} {g : Nat} {a b c : Value} (h : Bk w g 115 #[a, b, c]) (u : Value) : Bk (w.setCell ⟨g, 0, none⟩ u) g 115 #[u, b, c] := Bk.set_ h 0 u
theorem ntset1 {w : World} {g : Nat} {a b c : Value} (h : Bk w g 115 #[a, b, c]) (u : Value) : Bk (w.setCell ⟨g, 1, none⟩ u) g 115 #[a, u, c] := Bk.set_ h 1 u
theorem ntset2 {w : World} {g : Nat} {a b c : Value} (h : Bk w g 115 #[a, b, c]) (u : Value) : Bk (w.setCell ⟨g, 2, none⟩ u) g 115 #[a, b, u] := Bk.set_ h 2 u
theorem nt_fin {w wA w7 : World} {g q m c nx lo : Nat} {L : List Ltr} {v : Value} {p : Option Nat} (hz : Below w.heap.size w wA) (hk : Bk wA g 115 #[v, .int .i64 (nx : Int), .int .i64 (lo : Int)]) (hgb : GB encLt 4 73 wA 0 v L) (hp : v.ownBlock = p) {s : Ltr}
    (hF : GB encLt 4 73 w7 0 (.slice (some ⟨q, 0, none⟩) m c) (L ++ [s])) (hg : wA.grownBy w7 v.ownBlock) (hl : v.ownBlock = some q ∨ q = wA.heap.size) (hr : L.length < 256) :
    NtE w (ntS g p) (.pointer (some ⟨g, 0, none⟩)) ⟨L ++ [s], nx + 1, lo⟩ ((w7.setCell ⟨g, 0, none⟩ (.slice (some ⟨q, 0, none⟩) m c)).setCell ⟨g, 1, none⟩ (.int .i64 ((nx + 1 : Nat) : Int))) := by
  have k7 := hk.grown hgb (by decide) hg
  have k8 := ntset0 k7 (.slice (some ⟨q, 0, none⟩) m c)
  refine ⟨ntS g (some q), ⟨g, some q, rfl, rfl, _, ntset1 k8 _, GB.set (GB.set hF k7 (by decide) 0 _) k8 (by decide) 1 _, rfl, by simp; omega⟩, ?_, fun b hb => ?_⟩
  · have h0 : OnS (ntS g p) w w7 := (OnS.below hz).trans (OnS.grown hg fun b hb => Or.inr (by rw [← hp, hb]))
    exact (h0.cell g 0 _ (Or.inl rfl)).cell g 1 _ (Or.inl rfl)
  · rcases hb with rfl | hb
    · exact Or.inl (Or.inl rfl)
    · injection hb with hb
      subst hb
      rcases hl with h | h
      · exact Or.inl (Or.inr (by rw [← hp, h]))
      · exact Or.inr (by have := hz.size; omega)
set_option maxRecDepth 100000 in
set_option maxHeartbeats 4000000 in
theorem ntsend_room (g : Nat) (p : Option Nat) (L : List Ltr) (nx lo : Nat) (f t : Int) (s : List UInt8) (w : World) (h : NtP w g p ⟨L, nx, lo⟩) (hr : L.length < 256) (hx : nx ≤ 1000000) :
    Calls Try.prog 25 #[.pointer (some ⟨g, 0, none⟩), .int .i64 f, .int .i64 t, .string (bs s)] w fun e w' => e = .returned (.bool true) ∧ NtE w (ntS g p) (.pointer (some ⟨g, 0, none⟩)) ⟨L ++ [⟨(nx : Int), f, t, s⟩], nx + 1, lo⟩ w' := by
  obtain ⟨v, h1, h2, h3, h4⟩ := h
  obtain ⟨A, c, rfl, -, -, hkc, -⟩ := GB.reads encLt_len h2
  obtain ⟨k, hk⟩ : ∃ k, L.length = k := ⟨_, rfl⟩
  simp only [hk] at h1 h2 h3 h4 hkc
  have hge : decide ((256 : Int) ≤ (k : Int)) = false := decide_eq_false (by omega)
  have hge2 : decide (256 ≤ k) = false := decide_eq_false (by omega)
  have hzA : Below w.heap.size w (w.alloc (.cells #[.int .i64 (nx : Int), .int .i64 f, .int .i64 t, .string (bs s)] 73)).drew := (enew w (.cells #[.int .i64 (nx : Int), .int .i64 f, .int .i64 t, .string (bs s)] 73)).drew
  have hx1 := gx_new (M := [(⟨(nx : Int), f, t, s⟩ : Ltr)]) encLt_len (Bk.new w 73 #[.int .i64 (nx : Int), .int .i64 f, .int .i64 t, .string (bs s)]).drew rfl
  have HA := hid (And.intro hzA hx1)
  have HBf := hid (And.intro h1 (And.intro h2 (And.intro h3 (And.intro hk (And.intro hr hx)))))
  have q0 : w.cell? ⟨g, 0, none⟩ = some (.slice A k c) := Bk.cell h1 0
  have q1 : w.cell? ⟨g, 1, none⟩ = some (.int .i64 (nx : Int)) := Bk.cell h1 1
  have q0A : (w.alloc (.cells #[.int .i64 (nx : Int), .int .i64 f, .int .i64 t, .string (bs s)] 73)).cell? ⟨g, 0, none⟩ = some (.slice A k c) := (hzA.cell (p := ⟨g, 0, none⟩) (lt_of_cell q0)).trans q0
  have q1A : (w.alloc (.cells #[.int .i64 (nx : Int), .int .i64 f, .int .i64 t, .string (bs s)] 73)).cell? ⟨g, 1, none⟩ = some (.int .i64 (nx : Int)) := (hzA.cell (p := ⟨g, 1, none⟩) (lt_of_cell q1)).trans q1
  clear h1 h2 h3 h4 hk hr hx hzA hx1
  go_enter Try.func25, Try.ntmps25
  go_wp2_with fail
  go_region_law (
    (refine step_append_gxl rowLt rfl _ _ rfl 0 (.slice A k c) L [(⟨(nx : Int), f, t, s⟩ : Ltr)] w.heap.size 1 (fun b => b = _) rfl (GB.below HBf.out.2.1 HA.out.1) rfl HA.out.2 (by simp) (by have := HBf.out.2.2.2.2.1; simp only [List.length_cons, List.length_nil]; omega) (Nat.zero_le _) ?_
     intro b7 c7 w7 m7 hm7 hF hg hl
     have k7 := (HBf.out.1.up HA.out.1).grown (GB.below HBf.out.2.1 HA.out.1) (by decide) hg
     have p0 := Bk.cell k7 0
     have p1 := Bk.cell k7 1
     have p2 := Bk.frozen k7 0))
  all_goals
    have HF := hid (And.intro hF (And.intro hg hl))
    have k8 := ntset0 k7 (.slice (some ⟨b7, 0, none⟩) m7 c7)
    have d1 := Bk.cell k8 1
    have d2 := Bk.frozen k8 1
    have hw9 : IntKind.i64.wrap ((nx : Int) + 1) = ((nx + 1 : Nat) : Int) := by rw [show (nx : Int) + 1 = ((nx + 1 : Nat) : Int) by omega]; exact IntWalk.i64_in _ (by have := HBf.out.2.2.2.2.2; omega)
    clear hF hg hl k7 k8 hm7 q0 q1 q0A q1A p0 p1 p2
    go_wp2_with fail
    go_returns
    obtain ⟨f1, f2, f3, f4, f5, f6⟩ := HBf.out
    exact ⟨rfl, nt_fin HA.out.1 (f1.up HA.out.1) (GB.below f2 HA.out.1) f3 HF.out.1 HF.out.2.1 HF.out.2.2 f5⟩
set_option maxRecDepth 100000 in
set_option maxHeartbeats 4000000 in
theorem ntsend_full (g : Nat) (p : Option Nat) (L : List Ltr) (nx lo : Nat) (f t : Int) (s : List UInt8) (w : World) (h : NtP w g p ⟨L, nx, lo⟩) (hr : ¬ L.length < 256) (hn : lo + 1 ≤ 1099511627776) :
    Calls Try.prog 25 #[.pointer (some ⟨g, 0, none⟩), .int .i64 f, .int .i64 t, .string (bs s)] w fun e w' => e = .returned (.bool false) ∧ NtE w (ntS g p) (.pointer (some ⟨g, 0, none⟩)) ⟨L, nx, lo + 1⟩ w' := by
  obtain ⟨v, h1, h2, h3, h4⟩ := h
  obtain ⟨A, c, rfl, -, -, hkc, -⟩ := GB.reads encLt_len h2
  obtain ⟨k, hk⟩ : ∃ k, L.length = k := ⟨_, rfl⟩
  simp only [hk] at h1 h2 h3 h4 hkc
  have hge : decide ((256 : Int) ≤ (k : Int)) = true := decide_eq_true (by omega)
  have hge2 : decide (256 ≤ k) = true := decide_eq_true (by omega)
  have HBf := hid (And.intro h1 (And.intro h2 (And.intro h3 (And.intro hk h4))))
  have HAd := hid (nadd_any ⟨g, 2, none⟩ lo 1 w (Bk.cell h1 2) (Bk.frozen h1 2) hn)
  have q0 : w.cell? ⟨g, 0, none⟩ = some (.slice A k c) := Bk.cell h1 0
  clear h1 h2 h3 h4 hk hr hn
  go_enter Try.func25, Try.ntmps25
  go_wp2_with fail
  refine HAd.out.mono ?_
  rintro e w1 ⟨rfl, hw1⟩
  have HW := hid hw1
  clear hw1 q0
  go_wp2_with fail
  go_returns
  obtain ⟨f1, f2, f3, f4, f5⟩ := HBf.out
  have e1 := HW.out
  subst e1
  exact ⟨rfl, _, ⟨g, p, rfl, rfl, _, ntset2 f1 _, GB.set f2 f1 (by decide) 2 _, f3, by rw [f4]; exact f5⟩, (OnS.refl _ _).cell g 2 _ (Or.inl rfl), fun b hb => Or.inl hb⟩
theorem ntsend_any {w : World} {S : Nat → Prop} {v : Value} {x : Nts} (f t : Int) (s : List UInt8) {y : Nts} {ok : Bool} (h : NtH w S v x) (h64 : x.next ≤ 1000000 ∧ x.lost ≤ 1000000) (H : Hid (ntSend x f t s = (y, ok))) :
    Calls Try.prog 25 #[v, .int .i64 f, .int .i64 t, .string (bs s)] w fun e w' => e = .returned (.bool ok) ∧ NtE w S v y w' := by
  obtain ⟨g, p, rfl, rfl, hp⟩ := h
  obtain ⟨L, nx, lo⟩ := x
  have e := H.out
  unfold ntSend ntLose1 at e
  by_cases hr : L.length < 256
  · rw [if_neg (show ¬ 256 ≤ L.length by omega)] at e
    simp only [Prod.mk.injEq] at e
    obtain ⟨rfl, rfl⟩ := e
    exact ntsend_room g p L nx lo f t s w hp hr h64.1
  · rw [if_pos (show 256 ≤ L.length by omega)] at e
    simp only [Prod.mk.injEq] at e
    obtain ⟨rfl, rfl⟩ := e
    have hlo : lo ≤ 1000000 := h64.2
    have := ntsend_full g p L nx lo f t s w hp hr (by omega)
    rw [Nat.min_eq_left (by omega)]
    exact this
set_option maxRecDepth 100000 in
set_option maxHeartbeats 4000000 in
theorem ntat_none (g : Nat) (p : Option Nat) (x : Nts) (k : Int) (fv : Value) (w : World) (h : NtP w g p x) (hk : Hid (ntAt x k = none)) :
    Calls Try.prog 59 #[.pointer (some ⟨g, 0, none⟩), .int .i64 k, fv] w fun e w' => e = .returned (.bool false) ∧ w = w' := by
  obtain ⟨v, h1, h2, h3, h4⟩ := h
  obtain ⟨A, c, rfl, -, -, hkc, -⟩ := GB.reads encLt_len h2
  obtain ⟨n, hn⟩ : ∃ n, x.all.length = n := ⟨_, rfl⟩
  have hk2 := ntAt_none hk.out
  rw [hn] at h1 hk2
  have q0 : w.cell? ⟨g, 0, none⟩ = some (.slice A n c) := Bk.cell h1 0
  clear h1 h2 h3 h4 hn hkc hk
  by_cases hneg : k < 0
  · have hd : decide (k < 0) = true := decide_eq_true hneg
    go_enter Try.func59, Try.ntmps59
    go_wp2_with fail
    go_ret
    exact ⟨rfl, rfl⟩
  · have hd : decide (k < 0) = false := decide_eq_false hneg
    have hd2 : decide ((n : Int) ≤ k) = true := decide_eq_true (by omega)
    go_enter Try.func59, Try.ntmps59
    go_wp2_with fail
    go_ret
    exact ⟨rfl, rfl⟩
set_option maxRecDepth 100000 in
set_option maxHeartbeats 4000000 in
theorem ntat_some (g : Nat) (p : Option Nat) (x : Nts) (i : Nat) (l : Ltr) (F : Nat) (caps : Array Value) (w : World) (Q : Bool → World → Prop) (h : NtP w g p x) (hl : x.all[i]? = some l) (eg : ∀ args w, (callFunc F args).run Try.prog w = .ok (.enter F args) w)
    (hc : Hid (Calls Try.prog F (#[.agg #[.int .i64 l.no, .int .i64 l.frm, .int .i64 l.to_, .string (bs l.bytes)]] ++ caps) w fun e w' => ∃ b, e = .returned (.bool b) ∧ Q b w')) :
    Calls Try.prog 59 #[.pointer (some ⟨g, 0, none⟩), .int .i64 (i : Int), .func (.func F) #[] caps] w fun e w' => ∃ b, e = .returned (.bool b) ∧ Q b w' := by
  obtain ⟨v, h1, h2, h3, h4⟩ := h
  obtain ⟨A, c, rfl, hgx, -, hkc, -⟩ := GB.reads encLt_len h2
  obtain ⟨n, hn⟩ : ∃ n, x.all.length = n := ⟨_, rfl⟩
  rw [hn] at h1
  have q0 : w.cell? ⟨g, 0, none⟩ = some (.slice A n c) := Bk.cell h1 0
  obtain ⟨b, o, rfl, hb, r0, r1, r2, r3⟩ := lt_cells hgx hl
  have hin : i < n := by have := (List.getElem?_eq_some_iff.1 hl).1; omega
  have hd : decide ((i : Int) < 0) = false := decide_eq_false (by omega)
  have hd2 : decide ((n : Int) ≤ (i : Int)) = false := decide_eq_false (by omega)
  have hi0 : (0 : Int) ≤ (i : Int) := by omega
  have hi1 : (i : Int) < (n : Int) := by omega
  clear h1 h2 h3 h4 hn hkc hgx hl hb
  go_enter Try.func59, Try.ntmps59
  go_wp2_with fail
  refine hc.out.mono ?_
  rintro e w' ⟨b9, rfl, hq⟩
  have HQ := hid hq
  clear hq r0 r1 r2 r3 q0
  go_wp2_with fail
  go_returns
  exact ⟨b9, rfl, HQ.out⟩
end Go.Proofs.Ytflamedbeagjlaa
namespace Go.Proofs.Ytflamedbeagjlaa
set_option linter.unusedVariables false
set_option linter.unusedSimpArgs false
open Go.RowKit Go.Joins

theorem ltset4 {w : World} {g : Nat} {t : TypeId} {c0 c1 c2 c3 : Value} (k : Bk w g t #[c0, c1, c2, c3]) (a b c d : Value) : Bk ((((w.setCell ⟨g, 0, none⟩ a).setCell ⟨g, 1, none⟩ b).setCell ⟨g, 2, none⟩ c).setCell ⟨g, 3, none⟩ d) g t #[a, b, c, d] := by
  have h0 : Bk (w.setCell ⟨g, 0, none⟩ a) g t #[a, c1, c2, c3] := Bk.set_ k 0 a
  have h1 : Bk ((w.setCell ⟨g, 0, none⟩ a).setCell ⟨g, 1, none⟩ b) g t #[a, b, c2, c3] := Bk.set_ h0 1 b
  have h2 : Bk (((w.setCell ⟨g, 0, none⟩ a).setCell ⟨g, 1, none⟩ b).setCell ⟨g, 2, none⟩ c) g t #[a, b, c, c3] := Bk.set_ h1 2 c
  exact Bk.set_ h2 3 d
theorem ltons4 (w : World) (g : Nat) (a b c d : Value) : OnS (fun b => b = g) w ((((w.setCell ⟨g, 0, none⟩ a).setCell ⟨g, 1, none⟩ b).setCell ⟨g, 2, none⟩ c).setCell ⟨g, 3, none⟩ d) := ((((OnS.refl (fun b => b = g) w).cell g 0 a rfl).cell g 1 b rfl).cell g 2 c rfl).cell g 3 d rfl
theorem ltdel2 {q n i j c : Nat} {w : World} {Q : Ending → World → Prop} (hjn : (j : Int) = (i : Int) + 1) (h : Calls Try.prog 61 #[.slice (some ⟨q, 0, none⟩) n c, .int .i64 (i : Int), .int .i64 (j : Int)] w Q) : Calls Try.prog 61 #[.slice (some ⟨q, 0, none⟩) n c, .int .i64 (i : Int), .int .i64 ((i : Int) + 1)] w Q := by
  rw [← hjn]
  exact h
/-- Blocks of unlike types are unlike. -/
theorem bk_ne {w : World} {g g' : Nat} {t t' : TypeId} {cs cs' : Array Value} (h : Bk w g t cs) (h' : Bk w g' t' cs') (ht : t ≠ t') : g ≠ g' := fun e => by
  subst e
  have := h.symm.trans h'
  injection this with this
  injection this with _ e
  exact ht e
theorem bk_gb {α : Type} {enc : α → List Value} {k : Nat} {e t : TypeId} {w : World} {b g : Nat} {v : Value} {L : List α} {cs : Array Value} {p : Option Nat} (h : GB enc k e w b v L) (hp : v.ownBlock = p) (hB : Bk w g t cs) (ht : t ≠ e) : ¬ some g = p := fun he => h.not_bk hB ht (he.trans hp.symm)
set_option maxRecDepth 100000 in
set_option maxHeartbeats 8000000 in
theorem nttake1_any (g : Nat) (p : Option Nat) (x : Nts) (i : Nat) (l : Ltr) (gt gn gk : Nat) (a b c0 d : Value) (w : World) (h : NtP w g p x) (hl : x.all[i]? = some l) (ht : Bk w gt 73 #[a, b, c0, d]) (hn : Bk w gn 58 #[.pointer (some ⟨g, 0, none⟩)]) (hk : Bk w gk 3 #[.int .i64 (i : Int)]) (hgp : ¬ some gt = p) :
    Calls Try.prog 60 #[.agg #[.int .i64 l.no, .int .i64 l.frm, .int .i64 l.to_, .string (bs l.bytes)], .pointer (some ⟨gt, 0, none⟩), .pointer (some ⟨gn, 0, none⟩), .pointer (some ⟨gk, 0, none⟩)] w fun e w' => ∃ b, e = .returned (.bool b) ∧ (b = true ∧ NtP w' g p { x with all := x.all.eraseIdx i } ∧ Bk w' gt 73 #[.int .i64 l.no, .int .i64 l.frm, .int .i64 l.to_, .string (bs l.bytes)] ∧ OnS (fun b => b = g ∨ b = gt ∨ some b = p) w w') := by
  obtain ⟨v, h1, h2, h3, h4⟩ := h
  obtain ⟨A, c, rfl, hgx, -, hkc, hcm⟩ := GB.reads encLt_len h2
  obtain ⟨n, hnn⟩ : ∃ n, x.all.length = n := ⟨_, rfl⟩
  have hin : i < n := by have := (List.getElem?_eq_some_iff.1 hl).1; omega
  obtain ⟨q, rfl⟩ : ∃ q, A = some ⟨q, 0, none⟩ := by
    rcases lt_base encLt_len h2 with ⟨-, -, h5⟩ | ⟨q, h5, -⟩
    · omega
    · exact ⟨q, h5⟩
  subst h3
  rw [hnn] at h1 h2 h4 hkc
  obtain ⟨j, hj⟩ : ∃ j, i + 1 = j := ⟨_, rfl⟩
  have hjn : (j : Int) = (i : Int) + 1 := by omega
  have hwj : IntKind.i64.wrap ((i : Int) + 1) = (j : Int) := by rw [← hjn]; exact IntWalk.i64_in _ (by omega)
  have hb1 := enew w (.cells #[.int .i64 l.no, .int .i64 l.frm, .int .i64 l.to_, .string (bs l.bytes)] 73)
  have HY := hid (And.intro hgp hb1)
  have KT := hid (ht.up hb1)
  have HX0 := hid (And.intro (h1.up hb1) (And.intro (h2.below hb1) (And.intro (hn.up hb1) (hk.up hb1))))
  have HR := hid (And.intro hnn (And.intro hin (And.intro h4 (And.intro hkc hcm))))
  have KB := hid (Bk.new w 73 #[.int .i64 l.no, .int .i64 l.frm, .int .i64 l.to_, .string (bs l.bytes)])
  clear h1 h2 ht hn hk hb1 hgx hl hgp hnn h4 hkc hcm
  go_enter Try.func60, Try.ntmps60
  go_upto_region 1 with (fail)
  generalize w.alloc (.cells #[.int .i64 l.no, .int .i64 l.frm, .int .i64 l.to_, .string (bs l.bytes)] 73) = v1 at *
  have b0 := Bk.cell KB.out 0
  have b1 := Bk.cell KB.out 1
  have b2 := Bk.cell KB.out 2
  have b3 := Bk.cell KB.out 3
  have t0 := Bk.cell KT.out 0
  have t1 := Bk.cell KT.out 1
  have t2 := Bk.cell KT.out 2
  have t3 := Bk.cell KT.out 3
  have u0 := Bk.frozen KT.out 0
  have u1 := Bk.frozen KT.out 1
  have u2 := Bk.frozen KT.out 2
  have u3 := Bk.frozen KT.out 3
  go_upto_region 2 with (fail)
  have ho2 := ltons4 v1 gt (.int .i64 l.no) (.int .i64 l.frm) (.int .i64 l.to_) (.string (bs l.bytes))
  have KT2 := hid (ltset4 KT.out (.int .i64 l.no) (.int .i64 l.frm) (.int .i64 l.to_) (.string (bs l.bytes)))
  have HO2 := hid ho2
  have HX := hid (And.intro (HX0.out.1.onS ho2 fun e => bk_ne HX0.out.1 KT.out (by decide) e) (And.intro (HX0.out.2.1.onS ho2 fun q hq e => HY.out.1 (by subst e; exact hq.symm)) HR.out))
  have HN2 := hid (HX0.out.2.2.1.onS ho2 fun e => bk_ne HX0.out.2.2.1 KT.out (by decide) e)
  have HK2 := hid (HX0.out.2.2.2.onS ho2 fun e => bk_ne HX0.out.2.2.2 KT.out (by decide) e)
  clear ho2 b0 b1 b2 b3 t0 t1 t2 t3 u0 u1 u2 u3 HX0 KB
  generalize (((v1.setCell ⟨gt, 0, none⟩ (.int .i64 l.no)).setCell ⟨gt, 1, none⟩ (.int .i64 l.frm)).setCell ⟨gt, 2, none⟩ (.int .i64 l.to_)).setCell ⟨gt, 3, none⟩ (.string (bs l.bytes)) = v2 at *
  have q0 := Bk.cell HX.out.1 0
  have f0 := Bk.cell HN2.out 0
  have j0 := Bk.cell HK2.out 0
  have HD := hid (fun w2 (hb : Below v2.heap.size v2 w2) => ltdel2 hjn <| ltdel_any q n i j c x.all w2 (HX.out.2.1.below hb) HX.out.2.2.1 HX.out.2.2.2.1 hj (by have := HX.out.2.2.2.2.1; omega) HX.out.2.2.2.2.2.1 HX.out.2.2.2.2.2.2 (r := n - 1) rfl)
  have ho0 : OnS (fun b => b = g ∨ some b = some q) v2 v2.drew := (OnS.refl _ _).drew
  have hz0 : Below v2.heap.size v2 v2.drew := (Below.refl _ _).drew
  have hgnS : Hid (¬ (gn = g ∨ some gn = some q)) := hid (fun h => h.elim (bk_ne HN2.out HX.out.1 (by decide)) (bk_gb HX.out.2.1 rfl HN2.out (by decide)))
  have hgkS : Hid (¬ (gk = g ∨ some gk = some q)) := hid (fun h => h.elim (bk_ne HK2.out HX.out.1 (by decide)) (bk_gb HX.out.2.1 rfl HK2.out (by decide)))
  have HS : Hid (∀ w' : World, OnS (fun b => b = g ∨ some b = some q) v2 w' → w'.cell? ⟨gn, 0, none⟩ = some (.pointer (some ⟨g, 0, none⟩)) ∧ w'.cell? ⟨gk, 0, none⟩ = some (.int .i64 (i : Int))) := hid (fun w' ho => ⟨Bk.cell (HN2.out.onS ho hgnS.out) 0, Bk.cell (HK2.out.onS ho hgkS.out) 0⟩)
  have hgq : Hid (¬ some g = some q) := hid (bk_gb HX.out.2.1 rfl HX.out.1 (by decide))
  go_region_law (
     (go_simp
      go_at_call 61
      (with_reducible refine (HD.out _ hz0).mono ?_)
      rintro e w3 ⟨rfl, hG3, ho3⟩
      have ho1 : OnS (fun b => b = g ∨ some b = some q) v2 w3 := ho0.trans (ho3.imp fun b _ hb => Or.inr (congrArg some hb))
      have k3 := (HX.out.1).onS (((OnS.refl _ v2).drew).trans (ho3.imp (T := fun b => some b = some q) fun b _ hb => congrArg some hb)) hgq.out
      have p0 := Bk.cell k3 0
      have p1 := Bk.frozen k3 0
      have p2 := (HS.out _ ho1).1))
  all_goals
    have H9 := hid (And.intro hG3 (And.intro ho3 k3))
    clear hG3 ho3 k3 p0 p1 p2 ho1 q0 f0 j0
    go_wp2_with fail
    go_returns
    obtain ⟨g1, g2, g3⟩ := H9.out
    have hoA : OnS (fun b => b = g ∨ b = gt ∨ some b = some q) v2 (w3.setCell ⟨g, 0, none⟩ (.slice (some ⟨q, 0, none⟩) (n - 1) c)) := (((OnS.refl _ v2).drew).trans (g2.imp fun b _ hb => Or.inr (Or.inr (congrArg some hb)))).cell g 0 _ (Or.inl rfl)
    have hgtg : gt ≠ g := bk_ne KT2.out HX.out.1 (by decide)
    refine ⟨true, rfl, rfl, ⟨_, ntset0 g3 _, GB.set g1 g3 (by decide) 0 _, rfl, ?_⟩, ?_, ?_⟩
    · show (x.all.eraseIdx i).length ≤ 256
      rw [List.length_eraseIdx]
      have := HX.out.2.2.2.2.1
      have := HX.out.2.2.1
      split <;> omega
    · have hoB : OnS (fun b => b = g ∨ some b = some q) v2 (w3.setCell ⟨g, 0, none⟩ (.slice (some ⟨q, 0, none⟩) (n - 1) c)) := (((OnS.refl _ v2).drew).trans (g2.imp fun b _ hb => Or.inr (congrArg some hb))).cell g 0 _ (Or.inl rfl)
      exact KT2.out.onS hoB fun e => e.elim hgtg HY.out.1
    · exact (((OnS.below HY.out.2).trans (HO2.out.imp fun b _ hb => Or.inr (Or.inl hb)))).trans hoA
set_option maxRecDepth 100000 in
set_option maxHeartbeats 8000000 in
theorem ntlose1_any (g : Nat) (p : Option Nat) (x : Nts) (i : Nat) (l : Ltr) (gn gk : Nat) (w : World) (h : NtP w g p x) (hl : x.all[i]? = some l) (hn : Bk w gn 58 #[.pointer (some ⟨g, 0, none⟩)]) (hk : Bk w gk 3 #[.int .i64 (i : Int)]) (hlo : x.lost ≤ 1000000) :
    Calls Try.prog 62 #[.agg #[.int .i64 l.no, .int .i64 l.frm, .int .i64 l.to_, .string (bs l.bytes)], .pointer (some ⟨gn, 0, none⟩), .pointer (some ⟨gk, 0, none⟩)] w fun e w' => ∃ b, e = .returned (.bool b) ∧ (b = true ∧ NtP w' g p { x with all := x.all.eraseIdx i, lost := x.lost + 1 } ∧ OnS (fun b => b = g ∨ some b = p) w w') := by
  obtain ⟨v, h1, h2, h3, h4⟩ := h
  obtain ⟨A, c, rfl, hgx, -, hkc, hcm⟩ := GB.reads encLt_len h2
  obtain ⟨n, hnn⟩ : ∃ n, x.all.length = n := ⟨_, rfl⟩
  have hin : i < n := by have := (List.getElem?_eq_some_iff.1 hl).1; omega
  obtain ⟨q, rfl⟩ : ∃ q, A = some ⟨q, 0, none⟩ := by
    rcases lt_base encLt_len h2 with ⟨-, -, h5⟩ | ⟨q, h5, -⟩
    · omega
    · exact ⟨q, h5⟩
  subst h3
  rw [hnn] at h1 h2 h4 hkc
  obtain ⟨j, hj⟩ : ∃ j, i + 1 = j := ⟨_, rfl⟩
  have hjn : (j : Int) = (i : Int) + 1 := by omega
  have hwj : IntKind.i64.wrap ((i : Int) + 1) = (j : Int) := by rw [← hjn]; exact IntWalk.i64_in _ (by omega)
  have hb1 := enew w (.cells #[.int .i64 l.no, .int .i64 l.frm, .int .i64 l.to_, .string (bs l.bytes)] 73)
  have HY := hid (And.intro hlo hb1)
  have HR := hid (And.intro hnn (And.intro hin (And.intro h4 (And.intro hkc hcm))))
  have HX := hid (And.intro (h1.up hb1) (And.intro (h2.below hb1) HR.out))
  have HN2 := hid (hn.up hb1)
  have HK2 := hid (hk.up hb1)
  clear h1 h2 hn hk hb1 hgx hl hnn h4 hkc hcm
  go_enter Try.func62, Try.ntmps62
  go_upto_region 1 with (fail)
  generalize w.alloc (.cells #[.int .i64 l.no, .int .i64 l.frm, .int .i64 l.to_, .string (bs l.bytes)] 73) = v2 at *
  have q0 := Bk.cell HX.out.1 0
  have f0 := Bk.cell HN2.out 0
  have j0 := Bk.cell HK2.out 0
  have HD := hid (fun w2 (hb : Below v2.heap.size v2 w2) => ltdel2 hjn <| ltdel_any q n i j c x.all w2 (HX.out.2.1.below hb) HX.out.2.2.1 HX.out.2.2.2.1 hj (by have := HX.out.2.2.2.2.1; omega) HX.out.2.2.2.2.2.1 HX.out.2.2.2.2.2.2 (r := n - 1) rfl)
  have ho0 : OnS (fun b => b = g ∨ some b = some q) v2 v2.drew := (OnS.refl _ _).drew
  have hz0 : Below v2.heap.size v2 v2.drew := (Below.refl _ _).drew
  have hgnS : Hid (¬ (gn = g ∨ some gn = some q)) := hid (fun h => h.elim (bk_ne HN2.out HX.out.1 (by decide)) (bk_gb HX.out.2.1 rfl HN2.out (by decide)))
  have hgkS : Hid (¬ (gk = g ∨ some gk = some q)) := hid (fun h => h.elim (bk_ne HK2.out HX.out.1 (by decide)) (bk_gb HX.out.2.1 rfl HK2.out (by decide)))
  have HS : Hid (∀ w' : World, OnS (fun b => b = g ∨ some b = some q) v2 w' → w'.cell? ⟨gn, 0, none⟩ = some (.pointer (some ⟨g, 0, none⟩)) ∧ w'.cell? ⟨gk, 0, none⟩ = some (.int .i64 (i : Int))) := hid (fun w' ho => ⟨Bk.cell (HN2.out.onS ho hgnS.out) 0, Bk.cell (HK2.out.onS ho hgkS.out) 0⟩)
  have hgq : Hid (¬ some g = some q) := hid (bk_gb HX.out.2.1 rfl HX.out.1 (by decide))
  go_region_law (
     (go_simp
      go_at_call 61
      (with_reducible refine (HD.out _ hz0).mono ?_)
      rintro e w3 ⟨rfl, hG3, ho3⟩
      have ho1 : OnS (fun b => b = g ∨ some b = some q) v2 w3 := ho0.trans (ho3.imp fun b _ hb => Or.inr (congrArg some hb))
      have k3 := (HX.out.1).onS (((OnS.refl _ v2).drew).trans (ho3.imp (T := fun b => some b = some q) fun b _ hb => congrArg some hb)) hgq.out
      have p0 := Bk.cell k3 0
      have p1 := Bk.frozen k3 0
      have p2 := (HS.out _ ho1).1))
  all_goals
    have k4 := ntset0 k3 (.slice (some ⟨q, 0, none⟩) (n - 1) c)
    have H9 := hid (And.intro hG3 (And.intro ho3 k3))
    have hoB : OnS (fun b => b = g ∨ some b = some q) v2 (w3.setCell ⟨g, 0, none⟩ (.slice (some ⟨q, 0, none⟩) (n - 1) c)) := (((OnS.refl _ v2).drew).trans (ho3.imp fun b _ hb => Or.inr (congrArg some hb))).cell g 0 _ (Or.inl rfl)
    have HBw := hid (And.intro hoB k4)
    have n0 := Bk.cell (HN2.out.onS hoB hgnS.out) 0
    have HAd := hid (nadd_any ⟨g, 2, none⟩ x.lost 1 _ (Bk.cell k4 2) (Bk.frozen k4 2) (by have := HY.out.1; omega))
    clear hG3 ho3 k3 k4 p0 p1 p2 ho1 q0 f0 j0 hoB
    go_wp2_with fail
    refine HAd.out.mono ?_
    rintro e w5 ⟨rfl, hw5⟩
    have HW := hid hw5
    clear hw5 n0
    go_wp2_with fail
    go_returns
    obtain ⟨g1, g2, g3⟩ := H9.out
    have e5 := HW.out
    subst e5
    refine ⟨true, rfl, rfl, ⟨_, ntset2 HBw.out.2 _, GB.set (GB.set g1 g3 (by decide) 0 _) HBw.out.2 (by decide) 2 _, rfl, ?_⟩, ?_⟩
    · show (x.all.eraseIdx i).length ≤ 256
      rw [List.length_eraseIdx]
      have := HX.out.2.2.2.2.1
      have := HX.out.2.2.1
      split <;> omega
    · exact (OnS.below HY.out.2).trans (HBw.out.1.cell g 2 _ (Or.inl rfl))
set_option maxRecDepth 100000 in
set_option maxHeartbeats 4000000 in
theorem ntcopy1_any (g : Nat) (p : Option Nat) (x : Nts) (l : Ltr) (gn : Nat) (w : World) (h : NtP w g p x) (hn : Bk w gn 58 #[.pointer (some ⟨g, 0, none⟩)]) (h64 : x.next ≤ 1000000 ∧ x.lost ≤ 1000000) {y : Nts} {ok : Bool} (H : Hid (ntSend x l.frm l.to_ l.bytes = (y, ok))) :
    Calls Try.prog 63 #[.agg #[.int .i64 l.no, .int .i64 l.frm, .int .i64 l.to_, .string (bs l.bytes)], .pointer (some ⟨gn, 0, none⟩)] w fun e w' => ∃ b, e = .returned (.bool b) ∧ (b = ok ∧ NtE w (ntS g p) (.pointer (some ⟨g, 0, none⟩)) y w') := by
  have hb1 := enew w (.cells #[.int .i64 l.no, .int .i64 l.frm, .int .i64 l.to_, .string (bs l.bytes)] 73)
  have HBw := hid hb1
  have HC := hid (fun w2 (hb : Below w.heap.size w w2) => ntsend_any (w := w2) (S := ntS g p) (v := .pointer (some ⟨g, 0, none⟩)) (x := x) l.frm l.to_ l.bytes ⟨g, p, rfl, rfl, h.up hb⟩ h64 H)
  have n0 := Bk.cell (hn.up hb1) 0
  have KB := hid (Bk.new w 73 #[.int .i64 l.no, .int .i64 l.frm, .int .i64 l.to_, .string (bs l.bytes)])
  clear h hn hb1
  go_enter Try.func63, Try.ntmps63
  go_upto_region 1 with (fail)
  have HC2 := hid (HC.out _ HBw.out)
  generalize w.alloc (.cells #[.int .i64 l.no, .int .i64 l.frm, .int .i64 l.to_, .string (bs l.bytes)] 73) = v2 at *
  have b1 := Bk.cell KB.out 1
  have b2 := Bk.cell KB.out 2
  have b3 := Bk.cell KB.out 3
  go_wp2_with fail
  refine HC2.out.mono ?_
  rintro e w5 ⟨rfl, h5⟩
  have H5 := hid h5
  clear h5 n0 b1 b2 b3
  go_wp2_with fail
  go_returns
  obtain ⟨S', k1, k2, k3⟩ := H5.out
  refine ⟨ok, rfl, rfl, S', k1, (OnS.below HBw.out).trans k2, fun b hb => ?_⟩
  rcases k3 b hb with h | h
  · exact Or.inl h
  · exact Or.inr (Nat.le_trans HBw.out.size h)
end Go.Proofs.Ytflamedbeagjlaa
namespace Go.Proofs.Ytflamedbeagjlaa
set_option linter.unusedVariables false
set_option linter.unusedSimpArgs false
open Go.RowKit Go.Joins

/-- The definition's letters, as a value that can be read. -/
def RnV (w : World) (N : Nat → Prop) (L : List Ltr) (A : Option Addr) (c : Nat) : Prop := GX encLt 4 w N A L ∧ (A = none ∧ c = 0 ∨ ∃ b o, A = some ⟨b, o, none⟩) ∧ L.length ≤ c ∧ c ≤ maxLen
section
variable {w w2 : World} {N M : Nat → Prop} {L : List Ltr} {A : Option Addr} {c : Nat}
theorem RnV.same (h : RnV w N L A c) (hs : ∀ b, N b → w2.heap[b]? = w.heap[b]?) : RnV w2 N L A c := ⟨h.1.same hs, h.2⟩
theorem RnV.imp (h : RnV w N L A c) (hn : ∀ b, N b → M b) : RnV w M L A c := ⟨h.1.imp hn, h.2⟩
theorem RnV.inup (h : RnV w (In M w) L A c) (hb : Below w.heap.size w w2) : RnV w2 (In M w2) L A c := ⟨h.1.inup hb, h.2⟩
theorem RnV.zero (h : RnV w N L A c) : A = none → c = 0 := fun e => by
  rcases h.2.1 with ⟨-, e2⟩ | ⟨b, o, e2⟩
  · exact e2
  · rw [e] at e2; cases e2
end
theorem ngbase {α : Type} {enc : α → List Value} {k : Nat} {e : TypeId} {w : World} {A : Option Addr} {n c base : Nat} {L : List α} (hk : ∀ x, (enc x).length = k) (h : GB enc k e w base (.slice A n c) L) : (A = none ∧ c = 0) ∨ ∃ b o, A = some ⟨b, o, none⟩ := by
  rcases GB.form hk h with ⟨h1, -⟩ | ⟨g, cap, h1, -⟩
  · simp only [Value.slice.injEq] at h1
    exact Or.inl ⟨h1.1, h1.2.2⟩
  · simp only [Value.slice.injEq] at h1
    exact Or.inr ⟨g, 0, h1.1⟩
theorem ntset3 {w : World} {g : Nat} {t : TypeId} {c0 c1 c2 : Value} (k : Bk w g t #[c0, c1, c2]) (a b c : Value) : Bk (((w.setCell ⟨g, 0, none⟩ a).setCell ⟨g, 1, none⟩ b).setCell ⟨g, 2, none⟩ c) g t #[a, b, c] := by
  have h0 : Bk (w.setCell ⟨g, 0, none⟩ a) g t #[a, c1, c2] := Bk.set_ k 0 a
  have h1 : Bk ((w.setCell ⟨g, 0, none⟩ a).setCell ⟨g, 1, none⟩ b) g t #[a, b, c2] := Bk.set_ h0 1 b
  exact Bk.set_ h1 2 c
theorem ntother {w : World} {g g' i : Nat} {t : TypeId} {cs : Array Value} (k : Bk w g t cs) (hn : g ≠ g') (u : Value) : Bk (w.setCell ⟨g', i, none⟩ u) g t cs := by
  unfold Bk at k ⊢
  rw [Below.heap_setCell w ⟨g', i, none⟩ u g hn]; exact k
/-- What the definition's Send, Lose and Copy answer: told of the world that was. -/
def RnS (w : World) (M : Nat → Prop) (y : Nts) (ok : Bool) (e : Ending) (w' : World) : Prop := ∃ (A : Option Addr) (c m nx lo : Nat), e = .returned (.tuple #[.agg #[.slice A m c, .int .i64 (nx : Int), .int .i64 (lo : Int)], .bool ok]) ∧ y.all.length = m ∧ (y.next = nx ∧ y.lost = lo) ∧ RnV w' (In (fun b => M b ∧ b < w.heap.size ∨ w.heap.size ≤ b) w') y.all A c ∧ Below w.heap.size w w'
set_option maxRecDepth 100000 in
set_option maxHeartbeats 4000000 in
theorem rnsend_full (M : Nat → Prop) (L : List Ltr) (A : Option Addr) (cap q nx lo : Nat) (f t : Int) (s : List UInt8) (w : World) (h : RnV w (In M w) L A cap) (hq : L.length = q) (hr : 256 ≤ q) (hn : lo + 1 ≤ 1099511627776) :
    Calls Try.prog 54 #[.agg #[.slice A q cap, .int .i64 (nx : Int), .int .i64 (lo : Int)], .int .i64 f, .int .i64 t, .string (bs s)] w fun e w' => RnS w M ⟨L, nx, lo + 1⟩ false e w' := by
  have hb1 := enew w (.cells #[.slice A q cap, .int .i64 (nx : Int), .int .i64 (lo : Int)] 62)
  have hb2 := enew (w.alloc (.cells #[.slice A q cap, .int .i64 (nx : Int), .int .i64 (lo : Int)] 62)) (.cells #[.slice none 0 0, .int .i64 0, .int .i64 0] 62)
  have KX := hid ((Bk.new w 62 #[.slice A q cap, .int .i64 (nx : Int), .int .i64 (lo : Int)]).up hb2)
  have kz := Bk.new (w.alloc (.cells #[.slice A q cap, .int .i64 (nx : Int), .int .i64 (lo : Int)] 62)) 62 #[.slice none 0 0, .int .i64 0, .int .i64 0]
  rw [World.size_alloc] at kz
  have KZ := hid kz
  have HBb := hid (estep hb1 hb2)
  clear hb1 hb2 kz
  have HH := hid (And.intro h hq)
  have hge : decide ((256 : Int) ≤ (q : Int)) = true := decide_eq_true (by omega)
  have hge2 : decide (256 ≤ q) = true := decide_eq_true (by omega)
  have hmin : min ((lo : Int) + 1) 1099511627776 = (lo : Int) + 1 := by omega
  obtain ⟨m, hm⟩ : ∃ m : Nat, (lo : Int) + 1 = (m : Int) := ⟨lo + 1, by omega⟩
  rw [hm] at hmin
  have hw : IntKind.i64.wrap ((lo : Int) + 1) = (m : Int) := by rw [← hm]; exact IntWalk.i64_in _ (by omega)
  have HM := hid hm
  clear hm h hq
  go_enter Try.func54, Try.ntmps54
  go_upto_region 1 with (fail)
  generalize ((w.alloc (.cells #[.slice A q cap, .int .i64 (nx : Int), .int .i64 (lo : Int)] 62)).alloc (.cells #[.slice none 0 0, .int .i64 0, .int .i64 0] 62)) = v0 at *
  have x0 := Bk.cell KX.out 0
  have x1 := Bk.cell KX.out 1
  have x2 := Bk.cell KX.out 2
  have y0 := Bk.frozen KX.out 0
  have y1 := Bk.frozen KX.out 1
  have y2 := Bk.frozen KX.out 2
  have z0 := Bk.cell KZ.out 0
  have u0 := Bk.frozen KZ.out 0
  have z1 := Bk.cell KZ.out 1
  have u1 := Bk.frozen KZ.out 1
  have z2 := Bk.cell KZ.out 2
  have u2 := Bk.frozen KZ.out 2
  go_wp2_with fail
  have K3 := hid (ntset3 (ntother (g' := w.heap.size) (i := 2) KZ.out (by omega) (.int .i64 (m : Int))) (.slice A q cap) (.int .i64 (nx : Int)) (.int .i64 (m : Int)))
  have c0 := Bk.cell K3.out 0
  have c1 := Bk.cell K3.out 1
  have c2 := Bk.cell K3.out 2
  (try simp only [Exit.inBlock, Exit.then])
  refine bodyPost_ret (v := .tuple #[.agg #[.slice A q cap, .int .i64 (nx : Int), .int .i64 (m : Int)], .bool false]) (by simp [results, Try.results54, go_sem, c0, c1, c2]) rfl ?_
  obtain ⟨hv, hq⟩ := HH.out
  have hbf : Below w.heap.size w ((((v0.setCell ⟨w.heap.size, 2, none⟩ (.int .i64 (m : Int))).setCell ⟨w.heap.size + 1, 0, none⟩ (.slice A q cap)).setCell ⟨w.heap.size + 1, 1, none⟩ (.int .i64 (nx : Int))).setCell ⟨w.heap.size + 1, 2, none⟩ (.int .i64 (m : Int))) := (((HBb.out.setCell (Nat.le_refl _) _).setCell (Nat.le_succ _) _).setCell (Nat.le_succ _) _).setCell (Nat.le_succ _) _
  refine ⟨A, cap, q, nx, m, rfl, hq, ⟨rfl, by have := HM.out; simp only; omega⟩, (hv.same fun b hb => hbf.block b hb.1).imp fun b hb => ⟨Nat.lt_of_lt_of_le hb.1 hbf.size, Or.inl ⟨hb.2, hb.1⟩⟩, hbf⟩
set_option maxRecDepth 100000 in
set_option maxHeartbeats 4000000 in
theorem rnsend_room (M : Nat → Prop) (L : List Ltr) (A : Option Addr) (cap q nx lo : Nat) (f t : Int) (s : List UInt8) (w : World) (h : RnV w (In M w) L A cap) (hq : L.length = q) (hr : q < 256) (hx : nx ≤ 1000000) :
    Calls Try.prog 54 #[.agg #[.slice A q cap, .int .i64 (nx : Int), .int .i64 (lo : Int)], .int .i64 f, .int .i64 t, .string (bs s)] w fun e w' => RnS w M ⟨L ++ [⟨(nx : Int), f, t, s⟩], nx + 1, lo⟩ true e w' := by
  have hb1 := enew w (.cells #[.slice A q cap, .int .i64 (nx : Int), .int .i64 (lo : Int)] 62)
  have hb2 := enew (w.alloc (.cells #[.slice A q cap, .int .i64 (nx : Int), .int .i64 (lo : Int)] 62)) (.cells #[.slice none 0 0, .int .i64 0, .int .i64 0] 62)
  have KX := hid ((Bk.new w 62 #[.slice A q cap, .int .i64 (nx : Int), .int .i64 (lo : Int)]).up hb2)
  have kz := Bk.new (w.alloc (.cells #[.slice A q cap, .int .i64 (nx : Int), .int .i64 (lo : Int)] 62)) 62 #[.slice none 0 0, .int .i64 0, .int .i64 0]
  rw [World.size_alloc] at kz
  have KZ := hid kz
  have HBb := hid (estep hb1 hb2)
  clear hb1 hb2 kz
  have HH := hid (And.intro h hq)
  have hge : decide ((256 : Int) ≤ (q : Int)) = false := decide_eq_false (by omega)
  have hge2 : decide (256 ≤ q) = false := decide_eq_false (by omega)
  have HG := hid (h.1.inup HBb.out)
  have HA := hid h.zero
  obtain ⟨m, hm⟩ : ∃ m : Nat, (nx : Int) + 1 = (m : Int) := ⟨nx + 1, by omega⟩
  have hw : IntKind.i64.wrap ((nx : Int) + 1) = (m : Int) := by rw [← hm]; exact IntWalk.i64_in _ (by omega)
  have HM := hid hm
  clear h hq hm
  go_enter Try.func54, Try.ntmps54
  go_upto_region 1 with (fail)
  generalize ((w.alloc (.cells #[.slice A q cap, .int .i64 (nx : Int), .int .i64 (lo : Int)] 62)).alloc (.cells #[.slice none 0 0, .int .i64 0, .int .i64 0] 62)) = v0 at *
  have x0 := Bk.cell KX.out 0
  have x1 := Bk.cell KX.out 1
  have x2 := Bk.cell KX.out 2
  have y0 := Bk.frozen KX.out 0
  have y1 := Bk.frozen KX.out 1
  have y2 := Bk.frozen KX.out 2
  go_wp2_with (at_builtin; refine wpList_append_gx (W0 := v0) rowLt rfl _ _ rfl v0.heap.size (.slice none 0 0) [] L A cap _ rfl (GB.nil _ _) (by rw [HH.out.2]; rfl) HG.out HA.out (by have := HH.out.2; simp only [List.length_nil]; omega) (Below.refl _ _) (Nat.le_refl _) ?_)
  intro v1 w1 hown1 hbel1 _
  have kx1 := KX.out.up hbel1
  have x1 := Bk.cell kx1 1
  have hx1 := gx_new (M := [(⟨(nx : Int), f, t, s⟩ : Ltr)]) encLt_len (Bk.new w1 73 #[.int .i64 (nx : Int), .int .i64 f, .int .i64 t, .string (bs s)]) rfl
  have hbs := enew w1 (.cells #[.int .i64 (nx : Int), .int .i64 f, .int .i64 t, .string (bs s)] 73)
  have HX1 := hid (And.intro hx1 (And.intro (hown1.below hbs) (hbel1.alloc hbel1.size (.cells #[.int .i64 (nx : Int), .int .i64 f, .int .i64 t, .string (bs s)] 73))))
  clear hown1 hbel1 x0 x2 hx1 hbs y0 y1 y2 kx1
  go_wp2_with (at_builtin; refine wpList_append_gx (W0 := v0) rowLt rfl _ _ rfl v0.heap.size v1 L [(⟨(nx : Int), f, t, s⟩ : Ltr)] (some ⟨w1.heap.size, 0, none⟩) 1 (fun b => b = w1.heap.size) rfl HX1.out.2.1 rfl HX1.out.1 (fun h => by cases h) (by have := HH.out.2; simp only [List.length_cons, List.length_nil]; omega) HX1.out.2.2 (Nat.le_refl _) ?_)
  intro v2 w2 hown2 hbel2 _
  clear HX1 x1
  obtain ⟨A2, c2, hv2, hgx, hA2, hlc, hcm⟩ := GB.reads encLt_len hown2
  have hf2 : A2 = none ∧ c2 = 0 ∨ ∃ b o, A2 = some ⟨b, o, none⟩ := by
    rw [hv2] at hown2
    exact ngbase encLt_len hown2
  obtain ⟨k, hk⟩ : ∃ k, (L ++ [(⟨(nx : Int), f, t, s⟩ : Ltr)]).length = k := ⟨_, rfl⟩
  rw [hk] at hv2
  subst hv2
  have kx2 := KX.out.up hbel2
  have kz2 := KZ.out.up hbel2
  have H2 := hid (And.intro hgx (And.intro (estep HBb.out hbel2) (And.intro kx2 (And.intro kz2 (And.intro hf2 (And.intro hk (And.intro hlc hcm)))))))
  have hsz : w.heap.size + 1 < v0.heap.size := Bk.lt KZ.out
  have x0 := Bk.cell kx2 0
  have x1 := Bk.cell kx2 1
  have x2 := Bk.cell kx2 2
  have y0 := Bk.frozen kx2 0
  have y1 := Bk.frozen kx2 1
  have z0 := Bk.cell kz2 0
  have z1 := Bk.cell kz2 1
  have z2 := Bk.cell kz2 2
  have u0 := Bk.frozen kz2 0
  have u1 := Bk.frozen kz2 1
  have u2 := Bk.frozen kz2 2
  clear hgx hbel2 kx2 kz2 hf2 hk hlc hcm hA2 hown2
  go_wp2_with fail
  have K3 := hid (ntset3 (ntother (g' := w.heap.size) (i := 1) (ntother (g' := w.heap.size) (i := 0) H2.out.2.2.2.1 (by omega) (.slice A2 k c2)) (by omega) (.int .i64 (m : Int))) (.slice A2 k c2) (.int .i64 (m : Int)) (.int .i64 (lo : Int)))
  have d0 := Bk.cell K3.out 0
  have d1 := Bk.cell K3.out 1
  have d2 := Bk.cell K3.out 2
  (try simp only [Exit.inBlock, Exit.then])
  refine bodyPost_ret (v := .tuple #[.agg #[.slice A2 k c2, .int .i64 (m : Int), .int .i64 (lo : Int)], .bool true]) (by simp [results, Try.results54, go_sem, d0, d1, d2]) rfl ?_
  obtain ⟨hgx, hb, kx, kz, hf2, hk, hlc, hcm⟩ := H2.out
  have hon : OnS (fun b => b = w.heap.size ∨ b = w.heap.size + 1) w2 (((((w2.setCell ⟨w.heap.size, 0, none⟩ (.slice A2 k c2)).setCell ⟨w.heap.size, 1, none⟩ (.int .i64 (m : Int))).setCell ⟨w.heap.size + 1, 0, none⟩ (.slice A2 k c2)).setCell ⟨w.heap.size + 1, 1, none⟩ (.int .i64 (m : Int))).setCell ⟨w.heap.size + 1, 2, none⟩ (.int .i64 (lo : Int))) := (((((OnS.refl _ w2).cell _ _ _ (Or.inl rfl)).cell _ _ _ (Or.inl rfl)).cell _ _ _ (Or.inr rfl)).cell _ _ _ (Or.inr rfl)).cell _ _ _ (Or.inr rfl)
  refine ⟨A2, c2, k, m, lo, rfl, hk, ⟨by have := HM.out; simp only; omega, rfl⟩, ⟨?_, hf2, hlc, hcm⟩, OnS.to_below hb hon (fun b _ hb => by omega) hb.size⟩
  exact (GX.onS (M := fun b => v0.heap.size ≤ b) (hgx.imp fun b hb => ⟨hb.2, hb.1⟩) hon (fun b hb hS => by omega)).imp fun b hb => ⟨hb.1, Or.inr (by have := hb.2; omega)⟩
theorem rnsend_any (M : Nat → Prop) (x : Nts) (A : Option Addr) (cap q nx lo : Nat) (f t : Int) (s : List UInt8) (w : World) (h : RnV w (In M w) x.all A cap) (hq : Hid (x.all.length = q ∧ x.next = nx ∧ x.lost = lo)) (h64 : nx ≤ 1000000 ∧ lo ≤ 1000000) {y : Nts} {ok : Bool} (H : Hid (ntSend x f t s = (y, ok))) :
    Calls Try.prog 54 #[.agg #[.slice A q cap, .int .i64 (nx : Int), .int .i64 (lo : Int)], .int .i64 f, .int .i64 t, .string (bs s)] w fun e w' => RnS w M y ok e w' := by
  obtain ⟨L, n, l⟩ := x
  obtain ⟨hq0, hn0, hl0⟩ := hq.out
  simp only at hq0 hn0 hl0 h
  subst hn0 hl0
  have e := H.out
  unfold ntSend at e
  by_cases hr : 256 ≤ L.length
  · rw [if_pos hr] at e
    simp only [Prod.mk.injEq] at e
    obtain ⟨rfl, rfl⟩ := e
    have := rnsend_full M L A cap q n l f t s w h hq0 (by omega) (by omega)
    unfold ntLose1
    simp only
    rw [Nat.min_eq_left (by omega)]
    exact this
  · rw [if_neg hr] at e
    simp only [Prod.mk.injEq] at e
    obtain ⟨rfl, rfl⟩ := e
    exact rnsend_room M L A cap q n l f t s w h hq0 (by omega) h64.1
end Go.Proofs.Ytflamedbeagjlaa
namespace Go.Proofs.Ytflamedbeagjlaa
set_option linter.unusedVariables false
set_option linter.unusedSimpArgs false
open Go.RowKit Go.Joins

theorem ntset4 {w : World} {g : Nat} {t : TypeId} {c0 c1 c2 c3 : Value} (k : Bk w g t #[c0, c1, c2, c3]) (a b c d : Value) : Bk ((((w.setCell ⟨g, 0, none⟩ a).setCell ⟨g, 1, none⟩ b).setCell ⟨g, 2, none⟩ c).setCell ⟨g, 3, none⟩ d) g t #[a, b, c, d] := by
  have h0 : Bk (w.setCell ⟨g, 0, none⟩ a) g t #[a, c1, c2, c3] := Bk.set_ k 0 a
  have h1 : Bk ((w.setCell ⟨g, 0, none⟩ a).setCell ⟨g, 1, none⟩ b) g t #[a, b, c2, c3] := Bk.set_ h0 1 b
  have h2 : Bk (((w.setCell ⟨g, 0, none⟩ a).setCell ⟨g, 1, none⟩ b).setCell ⟨g, 2, none⟩ c) g t #[a, b, c, c3] := Bk.set_ h1 2 c
  exact Bk.set_ h2 3 d
theorem ntother3 {w : World} {g g' : Nat} {t : TypeId} {cs : Array Value} (k : Bk w g t cs) (hn : g ≠ g') (a b c : Value) : Bk (((w.setCell ⟨g', 0, none⟩ a).setCell ⟨g', 1, none⟩ b).setCell ⟨g', 2, none⟩ c) g t cs :=
  ntother (ntother (ntother k hn a) hn b) hn c
theorem ntother4 {w : World} {g g' : Nat} {t : TypeId} {cs : Array Value} (k : Bk w g t cs) (hn : g ≠ g') (a b c d : Value) : Bk ((((w.setCell ⟨g', 0, none⟩ a).setCell ⟨g', 1, none⟩ b).setCell ⟨g', 2, none⟩ c).setCell ⟨g', 3, none⟩ d) g t cs :=
  ntother (ntother3 k hn a b c) hn d
theorem ntbel {w v0 : World} (h : Below w.heap.size w v0) (a b c d e f g : Value) : Below w.heap.size w (((((((v0.setCell ⟨w.heap.size + 1, 0, none⟩ a).setCell ⟨w.heap.size + 1, 1, none⟩ b).setCell ⟨w.heap.size + 1, 2, none⟩ c).setCell ⟨w.heap.size + 1 + 1, 0, none⟩ d).setCell ⟨w.heap.size + 1 + 1, 1, none⟩ e).setCell ⟨w.heap.size + 1 + 1, 2, none⟩ f).setCell ⟨w.heap.size + 1 + 1, 3, none⟩ g) :=
  ((((((h.setCell (Nat.le_add_right _ 1) a).setCell (Nat.le_add_right _ 1) b).setCell (Nat.le_add_right _ 1) c).setCell (Nat.le_add_right _ 2) d).setCell (Nat.le_add_right _ 2) e).setCell (Nat.le_add_right _ 2) f).setCell (Nat.le_add_right _ 2) g
theorem lt_end {w : World} {N : Nat → Prop} {A : Option Addr} {L : List Ltr} {j : Nat} (h : GX encLt 4 w N A L) (hc : L.length ≤ j) : GX encLt 4 w N A (L.drop j) := by
  rw [List.drop_eq_nil_of_le hc]
  exact GX.nil _ _ _
/-- What the definition's Take answers. -/
def RnT (w : World) (M : Nat → Prop) (y : Nts) (l : Ltr) (ok : Bool) (e : Ending) (w' : World) : Prop := ∃ (A : Option Addr) (c m nx lo : Nat), e = .returned (.tuple #[.agg #[.slice A m c, .int .i64 (nx : Int), .int .i64 (lo : Int)], .agg #[.int .i64 l.no, .int .i64 l.frm, .int .i64 l.to_, .string (bs l.bytes)], .bool ok]) ∧ y.all.length = m ∧ (y.next = nx ∧ y.lost = lo) ∧ RnV w' (In (fun b => M b ∧ b < w.heap.size ∨ w.heap.size ≤ b) w') y.all A c ∧ Below w.heap.size w w'
set_option maxRecDepth 100000 in
set_option maxHeartbeats 4000000 in
theorem rntake_neg (M : Nat → Prop) (L : List Ltr) (A : Option Addr) (cap q nx lo : Nat) (k : Int) (w : World) (h : RnV w (In M w) L A cap) (hq : L.length = q) (hk : k < 0) :
    Calls Try.prog 55 #[.agg #[.slice A q cap, .int .i64 (nx : Int), .int .i64 (lo : Int)], .int .i64 k] w fun e w' => RnT w M ⟨L, nx, lo⟩ ltr0 false e w' := by
  have hb1 := enew w (.cells #[.slice A q cap, .int .i64 (nx : Int), .int .i64 (lo : Int)] 62)
  have hb2 := enew (w.alloc (.cells #[.slice A q cap, .int .i64 (nx : Int), .int .i64 (lo : Int)] 62)) (.cells #[.slice none 0 0, .int .i64 0, .int .i64 0] 62)
  have hb3 := enew ((w.alloc (.cells #[.slice A q cap, .int .i64 (nx : Int), .int .i64 (lo : Int)] 62)).alloc (.cells #[.slice none 0 0, .int .i64 0, .int .i64 0] 62)) (.cells #[.int .i64 0, .int .i64 0, .int .i64 0, .string (ByteArray.mk #[])] 73)
  have KX := hid (((Bk.new w 62 #[.slice A q cap, .int .i64 (nx : Int), .int .i64 (lo : Int)]).up hb2).up hb3)
  have kz := (Bk.new (w.alloc (.cells #[.slice A q cap, .int .i64 (nx : Int), .int .i64 (lo : Int)] 62)) 62 #[.slice none 0 0, .int .i64 0, .int .i64 0]).up hb3
  have kl := Bk.new ((w.alloc (.cells #[.slice A q cap, .int .i64 (nx : Int), .int .i64 (lo : Int)] 62)).alloc (.cells #[.slice none 0 0, .int .i64 0, .int .i64 0] 62)) 73 #[.int .i64 0, .int .i64 0, .int .i64 0, .string (ByteArray.mk #[])]
  simp only [World.size_alloc] at kz kl
  have KZ := hid kz
  have KL := hid kl
  have HBb := hid (estep (estep hb1 hb2) hb3)
  clear hb1 hb2 hb3 kz kl
  have HH := hid (And.intro h hq)
  have hd : decide (k < 0) = true := decide_eq_true hk
  clear h hq
  go_enter Try.func55, Try.ntmps55
  go_upto_region 1 with (fail)
  generalize (((w.alloc (.cells #[.slice A q cap, .int .i64 (nx : Int), .int .i64 (lo : Int)] 62)).alloc (.cells #[.slice none 0 0, .int .i64 0, .int .i64 0] 62)).alloc (.cells #[.int .i64 0, .int .i64 0, .int .i64 0, .string (ByteArray.mk #[])] 73)) = v0 at *
  have x0 := Bk.cell KX.out 0
  have x1 := Bk.cell KX.out 1
  have x2 := Bk.cell KX.out 2
  have z0 := Bk.cell KZ.out 0
  have z1 := Bk.cell KZ.out 1
  have z2 := Bk.cell KZ.out 2
  have u0 := Bk.frozen KZ.out 0
  have u1 := Bk.frozen KZ.out 1
  have u2 := Bk.frozen KZ.out 2
  have p0 := Bk.cell KL.out 0
  have p1 := Bk.cell KL.out 1
  have p2 := Bk.cell KL.out 2
  have p3 := Bk.cell KL.out 3
  have r0 := Bk.frozen KL.out 0
  have r1 := Bk.frozen KL.out 1
  have r2 := Bk.frozen KL.out 2
  have r3 := Bk.frozen KL.out 3
  go_wp2_with fail
  have hlt := Bk.lt KL.out
  have K3 := hid (ntset3 KZ.out (.slice A q cap) (.int .i64 (nx : Int)) (.int .i64 (lo : Int)))
  have KW := hid (ntset4 (ntother3 (g' := w.heap.size + 1) KL.out (by omega) (.slice A q cap) (.int .i64 (nx : Int)) (.int .i64 (lo : Int))) (.int .i64 0) (.int .i64 0) (.int .i64 0) (.string (ByteArray.mk #[])))
  have KV := hid (ntother4 (g' := w.heap.size + 1 + 1) K3.out (by omega) (.int .i64 0) (.int .i64 0) (.int .i64 0) (.string (ByteArray.mk #[])))
  have c0 := Bk.cell KV.out 0
  have c1 := Bk.cell KV.out 1
  have c2 := Bk.cell KV.out 2
  have d0 := Bk.cell KW.out 0
  have d1 := Bk.cell KW.out 1
  have d2 := Bk.cell KW.out 2
  have d3 := Bk.cell KW.out 3
  (try simp only [Exit.inBlock, Exit.then])
  refine bodyPost_ret (v := .tuple #[.agg #[.slice A q cap, .int .i64 (nx : Int), .int .i64 (lo : Int)], .agg #[.int .i64 0, .int .i64 0, .int .i64 0, .string (ByteArray.mk #[])], .bool false]) (by simp [results, Try.results55, go_sem, c0, c1, c2, d0, d1, d2, d3]) rfl ?_
  obtain ⟨hv, hq⟩ := HH.out
  have hbf := ntbel HBb.out (.slice A q cap) (.int .i64 (nx : Int)) (.int .i64 (lo : Int)) (.int .i64 0) (.int .i64 0) (.int .i64 0) (.string (ByteArray.mk #[]))
  exact ⟨A, cap, q, nx, lo, rfl, hq, ⟨rfl, rfl⟩, (hv.same fun b hb => hbf.block b hb.1).imp fun b hb => ⟨Nat.lt_of_lt_of_le hb.1 hbf.size, Or.inl ⟨hb.2, hb.1⟩⟩, hbf⟩
set_option maxRecDepth 100000 in
set_option maxHeartbeats 4000000 in
theorem rntake_big (M : Nat → Prop) (L : List Ltr) (A : Option Addr) (cap q nx lo : Nat) (k : Int) (w : World) (h : RnV w (In M w) L A cap) (hq : L.length = q) (hk : 0 ≤ k ∧ (q : Int) ≤ k) :
    Calls Try.prog 55 #[.agg #[.slice A q cap, .int .i64 (nx : Int), .int .i64 (lo : Int)], .int .i64 k] w fun e w' => RnT w M ⟨L, nx, lo⟩ ltr0 false e w' := by
  have hb1 := enew w (.cells #[.slice A q cap, .int .i64 (nx : Int), .int .i64 (lo : Int)] 62)
  have hb2 := enew (w.alloc (.cells #[.slice A q cap, .int .i64 (nx : Int), .int .i64 (lo : Int)] 62)) (.cells #[.slice none 0 0, .int .i64 0, .int .i64 0] 62)
  have hb3 := enew ((w.alloc (.cells #[.slice A q cap, .int .i64 (nx : Int), .int .i64 (lo : Int)] 62)).alloc (.cells #[.slice none 0 0, .int .i64 0, .int .i64 0] 62)) (.cells #[.int .i64 0, .int .i64 0, .int .i64 0, .string (ByteArray.mk #[])] 73)
  have KX := hid (((Bk.new w 62 #[.slice A q cap, .int .i64 (nx : Int), .int .i64 (lo : Int)]).up hb2).up hb3)
  have kz := (Bk.new (w.alloc (.cells #[.slice A q cap, .int .i64 (nx : Int), .int .i64 (lo : Int)] 62)) 62 #[.slice none 0 0, .int .i64 0, .int .i64 0]).up hb3
  have kl := Bk.new ((w.alloc (.cells #[.slice A q cap, .int .i64 (nx : Int), .int .i64 (lo : Int)] 62)).alloc (.cells #[.slice none 0 0, .int .i64 0, .int .i64 0] 62)) 73 #[.int .i64 0, .int .i64 0, .int .i64 0, .string (ByteArray.mk #[])]
  simp only [World.size_alloc] at kz kl
  have KZ := hid kz
  have KL := hid kl
  have HBb := hid (estep (estep hb1 hb2) hb3)
  clear hb1 hb2 hb3 kz kl
  have HH := hid (And.intro h hq)
  have hd : decide (k < 0) = false := decide_eq_false (by omega)
  have hd2 : decide ((q : Int) ≤ k) = true := decide_eq_true hk.2
  clear h hq
  go_enter Try.func55, Try.ntmps55
  go_upto_region 1 with (fail)
  generalize (((w.alloc (.cells #[.slice A q cap, .int .i64 (nx : Int), .int .i64 (lo : Int)] 62)).alloc (.cells #[.slice none 0 0, .int .i64 0, .int .i64 0] 62)).alloc (.cells #[.int .i64 0, .int .i64 0, .int .i64 0, .string (ByteArray.mk #[])] 73)) = v0 at *
  have x0 := Bk.cell KX.out 0
  have x1 := Bk.cell KX.out 1
  have x2 := Bk.cell KX.out 2
  have z0 := Bk.cell KZ.out 0
  have z1 := Bk.cell KZ.out 1
  have z2 := Bk.cell KZ.out 2
  have u0 := Bk.frozen KZ.out 0
  have u1 := Bk.frozen KZ.out 1
  have u2 := Bk.frozen KZ.out 2
  have p0 := Bk.cell KL.out 0
  have p1 := Bk.cell KL.out 1
  have p2 := Bk.cell KL.out 2
  have p3 := Bk.cell KL.out 3
  have r0 := Bk.frozen KL.out 0
  have r1 := Bk.frozen KL.out 1
  have r2 := Bk.frozen KL.out 2
  have r3 := Bk.frozen KL.out 3
  go_wp2_with fail
  have hlt := Bk.lt KL.out
  have K3 := hid (ntset3 KZ.out (.slice A q cap) (.int .i64 (nx : Int)) (.int .i64 (lo : Int)))
  have KW := hid (ntset4 (ntother3 (g' := w.heap.size + 1) KL.out (by omega) (.slice A q cap) (.int .i64 (nx : Int)) (.int .i64 (lo : Int))) (.int .i64 0) (.int .i64 0) (.int .i64 0) (.string (ByteArray.mk #[])))
  have KV := hid (ntother4 (g' := w.heap.size + 1 + 1) K3.out (by omega) (.int .i64 0) (.int .i64 0) (.int .i64 0) (.string (ByteArray.mk #[])))
  have c0 := Bk.cell KV.out 0
  have c1 := Bk.cell KV.out 1
  have c2 := Bk.cell KV.out 2
  have d0 := Bk.cell KW.out 0
  have d1 := Bk.cell KW.out 1
  have d2 := Bk.cell KW.out 2
  have d3 := Bk.cell KW.out 3
  (try simp only [Exit.inBlock, Exit.then])
  refine bodyPost_ret (v := .tuple #[.agg #[.slice A q cap, .int .i64 (nx : Int), .int .i64 (lo : Int)], .agg #[.int .i64 0, .int .i64 0, .int .i64 0, .string (ByteArray.mk #[])], .bool false]) (by simp [results, Try.results55, go_sem, c0, c1, c2, d0, d1, d2, d3]) rfl ?_
  obtain ⟨hv, hq⟩ := HH.out
  have hbf := ntbel HBb.out (.slice A q cap) (.int .i64 (nx : Int)) (.int .i64 (lo : Int)) (.int .i64 0) (.int .i64 0) (.int .i64 0) (.string (ByteArray.mk #[]))
  exact ⟨A, cap, q, nx, lo, rfl, hq, ⟨rfl, rfl⟩, (hv.same fun b hb => hbf.block b hb.1).imp fun b hb => ⟨Nat.lt_of_lt_of_le hb.1 hbf.size, Or.inl ⟨hb.2, hb.1⟩⟩, hbf⟩
theorem ntons3 (w : World) (g : Nat) (z a b c d e f h : Value) : OnS (fun b => g ≤ b ∧ b ≤ g + 1 + 1) w ((((((((w.setCell ⟨g, 0, none⟩ z).setCell ⟨g + 1, 0, none⟩ a).setCell ⟨g + 1, 1, none⟩ b).setCell ⟨g + 1, 2, none⟩ c).setCell ⟨g + 1 + 1, 0, none⟩ d).setCell ⟨g + 1 + 1, 1, none⟩ e).setCell ⟨g + 1 + 1, 2, none⟩ f).setCell ⟨g + 1 + 1, 3, none⟩ h) :=
  ((((((((OnS.refl _ w).cell g 0 z (by omega)).cell (g + 1) 0 a (by omega)).cell (g + 1) 1 b (by omega)).cell (g + 1) 2 c (by omega)).cell (g + 1 + 1) 0 d (by omega)).cell (g + 1 + 1) 1 e (by omega)).cell (g + 1 + 1) 2 f (by omega)).cell (g + 1 + 1) 3 h (by omega)
set_option maxRecDepth 100000 in
set_option maxHeartbeats 4000000 in
theorem rntake_last (M : Nat → Prop) (L : List Ltr) (b o q nx lo i j : Nat) (l : Ltr) (w : World) (h : RnV w (In M w) L (some ⟨b, o, none⟩) j) (hq : L.length = q) (hi : L[i]? = some l) (hq9 : q ≤ 1000) (hj : i + 1 = j) :
    Calls Try.prog 55 #[.agg #[.slice (some ⟨b, o, none⟩) q j, .int .i64 (nx : Int), .int .i64 (lo : Int)], .int .i64 (i : Int)] w fun e w' => RnT w M ⟨L.take i ++ L.drop (i + 1), nx, lo⟩ l true e w' := by
  have hb1 := enew w (.cells #[.slice (some ⟨b, o, none⟩) q j, .int .i64 (nx : Int), .int .i64 (lo : Int)] 62)
  have hb2 := enew (w.alloc (.cells #[.slice (some ⟨b, o, none⟩) q j, .int .i64 (nx : Int), .int .i64 (lo : Int)] 62)) (.cells #[.slice none 0 0, .int .i64 0, .int .i64 0] 62)
  have hb3 := enew ((w.alloc (.cells #[.slice (some ⟨b, o, none⟩) q j, .int .i64 (nx : Int), .int .i64 (lo : Int)] 62)).alloc (.cells #[.slice none 0 0, .int .i64 0, .int .i64 0] 62)) (.cells #[.int .i64 0, .int .i64 0, .int .i64 0, .string (ByteArray.mk #[])] 73)
  have KX := hid (((Bk.new w 62 #[.slice (some ⟨b, o, none⟩) q j, .int .i64 (nx : Int), .int .i64 (lo : Int)]).up hb2).up hb3)
  have kz := (Bk.new (w.alloc (.cells #[.slice (some ⟨b, o, none⟩) q j, .int .i64 (nx : Int), .int .i64 (lo : Int)] 62)) 62 #[.slice none 0 0, .int .i64 0, .int .i64 0]).up hb3
  have kl := Bk.new ((w.alloc (.cells #[.slice (some ⟨b, o, none⟩) q j, .int .i64 (nx : Int), .int .i64 (lo : Int)] 62)).alloc (.cells #[.slice none 0 0, .int .i64 0, .int .i64 0] 62)) 73 #[.int .i64 0, .int .i64 0, .int .i64 0, .string (ByteArray.mk #[])]
  simp only [World.size_alloc] at kz kl
  have KZ := hid kz
  have KL := hid kl
  have HBb := hid (estep (estep hb1 hb2) hb3)
  clear hb1 hb2 hb3 kz kl
  have hiq : i < q := by have := (List.getElem?_eq_some_iff.1 hi).1; omega
  have hv0 := h.inup HBb.out
  obtain ⟨b', o', e0, -, l0, l1, l2, l3⟩ := lt_cells hv0.1 hi
  injection e0 with e0
  injection e0 with e0 e1
  subst e0 e1
  have hd : decide ((i : Int) < 0) = false := decide_eq_false (by omega)
  have hd2 : decide ((q : Int) ≤ (i : Int)) = false := decide_eq_false (by omega)
  have hd3 : decide (q ≤ i) = false := decide_eq_false (by omega)
  have hqc : q ≤ j := by have := h.2.2.1; omega
  have hi0 : (0 : Int) ≤ (i : Int) := by omega
  have hi1 : (i : Int) < (q : Int) := by omega
  have hi2 : (i : Int) ≤ (j : Int) := by omega
  have hw : IntKind.i64.wrap ((i : Int) + 1) = (j : Int) := by rw [← hj]; push_cast; exact IntWalk.i64_in _ (by omega)
  have hj0 : (0 : Int) ≤ (j : Int) := by omega
  have hj1 : (j : Int) ≤ (q : Int) := by omega
  have hj2 : (q : Int) ≤ (j : Int) := by omega
  have hcm : j ≤ 9223372036854775807 := by have := h.2.2.2; unfold maxLen at this; omega
  have HA := hid (show GX encLt 4 _ (In M _) (some ⟨b, o, none⟩) (L.drop j) from lt_end hv0.1 (by omega))
  have HT := hid (hv0.1.take i)
  have HL := hid (And.intro (show (L.take i).length = i by rw [List.length_take]; omega) (show (L.drop j).length = 0 by rw [List.length_drop]; omega))
  have HJ := hid hj
  have hsz0 : (((w.alloc (.cells #[.slice (some ⟨b, o, none⟩) q j, .int .i64 (nx : Int), .int .i64 (lo : Int)] 62)).alloc (.cells #[.slice none 0 0, .int .i64 0, .int .i64 0] 62)).alloc (.cells #[.int .i64 0, .int .i64 0, .int .i64 0, .string (ByteArray.mk #[])] 73)).heap.size = w.heap.size + 1 + 1 + 1 := by simp
  clear h hq hi hv0 hj
  go_enter Try.func55, Try.ntmps55
  go_upto_region 1 with (fail)
  generalize (((w.alloc (.cells #[.slice (some ⟨b, o, none⟩) q j, .int .i64 (nx : Int), .int .i64 (lo : Int)] 62)).alloc (.cells #[.slice none 0 0, .int .i64 0, .int .i64 0] 62)).alloc (.cells #[.int .i64 0, .int .i64 0, .int .i64 0, .string (ByteArray.mk #[])] 73)) = v0 at *
  have x0 := Bk.cell KX.out 0
  have x1 := Bk.cell KX.out 1
  have x2 := Bk.cell KX.out 2
  go_upto_region 4 with (fail)
  obtain ⟨v1, hv1⟩ : ∃ v1, v0.alloc (.cells #[.int .i64 l.no, .int .i64 l.frm, .int .i64 l.to_, .string (bs l.bytes)] 73) = v1 := ⟨_, rfl⟩
  have hb1 : Below v0.heap.size v0 v1 := by rw [← hv1]; exact enew _ _
  have kt : Bk v1 (w.heap.size + 1 + 1 + 1) 73 #[.int .i64 l.no, .int .i64 l.frm, .int .i64 l.to_, .string (bs l.bytes)] := by rw [← hv1, ← hsz0]; exact Bk.new _ _ _
  have HB1 := hid hb1
  have KT := hid kt
  rw [hv1]
  have kx := KX.out.up hb1
  have x0 := Bk.cell kx 0
  have HT1 := hid ((HT.out.inup hb1).imp (M := (· < v1.heap.size)) fun b hb => hb.1)
  have HA1 := hid ((HA.out.inup hb1).imp (M := (· < v1.heap.size)) fun b hb => hb.1)
  clear l0 l1 l2 l3 hv1 hb1 kt HT HA x1 x2
  go_wp2_with (at_builtin; refine wpList_append_gx (W0 := v1) rowLt rfl _ _ rfl v1.heap.size (.slice none 0 0) [] (L.take i) (some ⟨b, o, none⟩) j _ rfl (GB.nil _ _) (by rw [HL.out.1]; rfl) HT1.out (fun h => by cases h) (by have := HL.out.1; simp only [List.length_nil]; omega) (Below.refl _ _) (Nat.le_refl _) ?_)
  intro v2 w2 hown2 hbel2 _
  have kx2 := (KX.out.up HB1.out).up hbel2
  have x0 := Bk.cell kx2 0
  have H2 := hid (And.intro hown2 (And.intro hbel2 ((HA1.out.same fun b hb => hbel2.block b hb).imp (M := (· < w2.heap.size)) fun b hb => Nat.lt_of_lt_of_le hb hbel2.size)))
  clear hown2 hbel2 kx kx2
  go_wp2_with (at_builtin; refine wpList_append_gx (W0 := v1) rowLt rfl _ _ rfl v1.heap.size v2 (L.take i) (L.drop j) (some ⟨b, o, none⟩) 0 _ rfl H2.out.1 (by rw [HL.out.2]; rfl) H2.out.2.2 (fun h => by cases h) (by have := HL.out; omega) H2.out.2.1 (Nat.le_refl _) ?_)
  intro v3 w3 hown3 hbel3 _
  obtain ⟨A3, c3, hv3, hgx, hA3, hlc, hcm3⟩ := GB.reads encLt_len hown3
  have hf3 : A3 = none ∧ c3 = 0 ∨ ∃ b o, A3 = some ⟨b, o, none⟩ := by
    rw [hv3] at hown3
    exact ngbase encLt_len hown3
  obtain ⟨m, hm⟩ : ∃ m, (L.take i ++ L.drop j).length = m := ⟨_, rfl⟩
  rw [hm] at hv3
  subst hv3
  have hb3 := estep HBb.out (HB1.out.trans (hbel3.mono HB1.out.size))
  have H3 := hid (And.intro hgx (And.intro hb3 (And.intro hf3 (And.intro hm (And.intro hlc hcm3)))))
  have KX3 := hid ((KX.out.up HB1.out).up hbel3)
  have KZ3 := hid ((KZ.out.up HB1.out).up hbel3)
  have KL3 := hid ((KL.out.up HB1.out).up hbel3)
  have KT3 := hid (KT.out.up hbel3)
  have HSZ := hid (Nat.le_trans (show w.heap.size + 1 + 1 + 1 ≤ v0.heap.size by omega) (Nat.le_trans HB1.out.size hbel3.size))
  have HV1 := hid (show w.heap.size + 1 + 1 < v1.heap.size from Nat.lt_of_lt_of_le (show w.heap.size + 1 + 1 < v0.heap.size by omega) HB1.out.size)
  clear hgx hb3 hf3 hm hlc hcm3 hA3 hown3 hbel3 x0 H2 HT1 HA1
  have x0 := Bk.cell KX3.out 0
  have x1 := Bk.cell KX3.out 1
  have x2 := Bk.cell KX3.out 2
  have y0 := Bk.frozen KX3.out 0
  have y1 := Bk.frozen KX3.out 1
  have y2 := Bk.frozen KX3.out 2
  have z0 := Bk.cell KZ3.out 0
  have z1 := Bk.cell KZ3.out 1
  have z2 := Bk.cell KZ3.out 2
  have u0 := Bk.frozen KZ3.out 0
  have u1 := Bk.frozen KZ3.out 1
  have u2 := Bk.frozen KZ3.out 2
  have p0 := Bk.cell KL3.out 0
  have p1 := Bk.cell KL3.out 1
  have p2 := Bk.cell KL3.out 2
  have p3 := Bk.cell KL3.out 3
  have r0 := Bk.frozen KL3.out 0
  have r1 := Bk.frozen KL3.out 1
  have r2 := Bk.frozen KL3.out 2
  have r3 := Bk.frozen KL3.out 3
  have t0 := Bk.cell KT3.out 0
  have t1 := Bk.cell KT3.out 1
  have t2 := Bk.cell KT3.out 2
  have t3 := Bk.cell KT3.out 3
  go_wp2_with fail
  go_region_law (fail)
  all_goals
    have K3 := hid (ntset3 (ntother (g' := w.heap.size) (i := 0) KZ3.out (by omega) (.slice A3 m c3)) (.slice A3 m c3) (.int .i64 (nx : Int)) (.int .i64 (lo : Int)))
    have KW := hid (ntset4 (ntother3 (g' := w.heap.size + 1) (ntother (g' := w.heap.size) (i := 0) KL3.out (by omega) (.slice A3 m c3)) (by omega) (.slice A3 m c3) (.int .i64 (nx : Int)) (.int .i64 (lo : Int))) (.int .i64 l.no) (.int .i64 l.frm) (.int .i64 l.to_) (.string (bs l.bytes)))
    have KV := hid (ntother4 (g' := w.heap.size + 1 + 1) K3.out (by omega) (.int .i64 l.no) (.int .i64 l.frm) (.int .i64 l.to_) (.string (bs l.bytes)))
    have c0 := Bk.cell KV.out 0
    have c1 := Bk.cell KV.out 1
    have c2 := Bk.cell KV.out 2
    have d0 := Bk.cell KW.out 0
    have d1 := Bk.cell KW.out 1
    have d2 := Bk.cell KW.out 2
    have d3 := Bk.cell KW.out 3
    clear x0 x1 x2 y0 y1 y2 z0 z1 z2 u0 u1 u2 p0 p1 p2 p3 r0 r1 r2 r3 t0 t1 t2 t3
    go_wp2_with fail
    (try simp only [Exit.inBlock, Exit.then])
    refine bodyPost_ret (v := .tuple #[.agg #[.slice A3 m c3, .int .i64 (nx : Int), .int .i64 (lo : Int)], .agg #[.int .i64 l.no, .int .i64 l.frm, .int .i64 l.to_, .string (bs l.bytes)], .bool true]) (by simp [results, Try.results55, go_sem, Act.put, c0, c1, c2, d0, d1, d2, d3]) rfl ?_
    obtain ⟨hgx, hb, hf, hm, hlc, hcm3⟩ := H3.out
    have hon := ntons3 w3 w.heap.size (.slice A3 m c3) (.slice A3 m c3) (.int .i64 (nx : Int)) (.int .i64 (lo : Int)) (.int .i64 l.no) (.int .i64 l.frm) (.int .i64 l.to_) (.string (bs l.bytes))
    have hfin : OnS (fun b => w.heap.size ≤ b ∧ b ≤ w.heap.size + 1 + 1) w3 _ := hon.drew
    rw [HJ.out] at *
    refine ⟨A3, c3, m, nx, lo, rfl, hm, ⟨rfl, rfl⟩, ⟨?_, hf, hlc, hcm3⟩, OnS.to_below hb hfin (fun b _ hb => hb.1) hb.size⟩
    exact (GX.onS (M := fun b => v1.heap.size ≤ b) (hgx.imp fun b hb => ⟨hb.2, hb.1⟩) hfin (fun b hb hS => by have := HV1.out; omega)).imp fun b hb => ⟨hb.1, Or.inr (by have := hb.2; have := HV1.out; omega)⟩
set_option maxRecDepth 100000 in
set_option maxHeartbeats 4000000 in
theorem rntake_mid (M : Nat → Prop) (L : List Ltr) (b o cap q nx lo i j : Nat) (l : Ltr) (w : World) (h : RnV w (In M w) L (some ⟨b, o, none⟩) cap) (hq : L.length = q) (hi : L[i]? = some l) (hq9 : q ≤ 1000) (hj : i + 1 = j) (hcj : ¬ cap = j) :
    Calls Try.prog 55 #[.agg #[.slice (some ⟨b, o, none⟩) q cap, .int .i64 (nx : Int), .int .i64 (lo : Int)], .int .i64 (i : Int)] w fun e w' => RnT w M ⟨L.take i ++ L.drop (i + 1), nx, lo⟩ l true e w' := by
  have hb1 := enew w (.cells #[.slice (some ⟨b, o, none⟩) q cap, .int .i64 (nx : Int), .int .i64 (lo : Int)] 62)
  have hb2 := enew (w.alloc (.cells #[.slice (some ⟨b, o, none⟩) q cap, .int .i64 (nx : Int), .int .i64 (lo : Int)] 62)) (.cells #[.slice none 0 0, .int .i64 0, .int .i64 0] 62)
  have hb3 := enew ((w.alloc (.cells #[.slice (some ⟨b, o, none⟩) q cap, .int .i64 (nx : Int), .int .i64 (lo : Int)] 62)).alloc (.cells #[.slice none 0 0, .int .i64 0, .int .i64 0] 62)) (.cells #[.int .i64 0, .int .i64 0, .int .i64 0, .string (ByteArray.mk #[])] 73)
  have KX := hid (((Bk.new w 62 #[.slice (some ⟨b, o, none⟩) q cap, .int .i64 (nx : Int), .int .i64 (lo : Int)]).up hb2).up hb3)
  have kz := (Bk.new (w.alloc (.cells #[.slice (some ⟨b, o, none⟩) q cap, .int .i64 (nx : Int), .int .i64 (lo : Int)] 62)) 62 #[.slice none 0 0, .int .i64 0, .int .i64 0]).up hb3
  have kl := Bk.new ((w.alloc (.cells #[.slice (some ⟨b, o, none⟩) q cap, .int .i64 (nx : Int), .int .i64 (lo : Int)] 62)).alloc (.cells #[.slice none 0 0, .int .i64 0, .int .i64 0] 62)) 73 #[.int .i64 0, .int .i64 0, .int .i64 0, .string (ByteArray.mk #[])]
  simp only [World.size_alloc] at kz kl
  have KZ := hid kz
  have KL := hid kl
  have HBb := hid (estep (estep hb1 hb2) hb3)
  clear hb1 hb2 hb3 kz kl
  have hiq : i < q := by have := (List.getElem?_eq_some_iff.1 hi).1; omega
  have hv0 := h.inup HBb.out
  obtain ⟨b', o', e0, -, l0, l1, l2, l3⟩ := lt_cells hv0.1 hi
  injection e0 with e0
  injection e0 with e0 e1
  subst e0 e1
  have hd : decide ((i : Int) < 0) = false := decide_eq_false (by omega)
  have hd2 : decide ((q : Int) ≤ (i : Int)) = false := decide_eq_false (by omega)
  have hd3 : decide (q ≤ i) = false := decide_eq_false (by omega)
  have hqc : q ≤ cap := by have := h.2.2.1; omega
  have hi0 : (0 : Int) ≤ (i : Int) := by omega
  have hi1 : (i : Int) < (q : Int) := by omega
  have hi2 : (i : Int) ≤ (cap : Int) := by omega
  have hw : IntKind.i64.wrap ((i : Int) + 1) = (j : Int) := by rw [← hj]; push_cast; exact IntWalk.i64_in _ (by omega)
  have hj0 : (0 : Int) ≤ (j : Int) := by omega
  have hj1 : (j : Int) ≤ (q : Int) := by omega
  have hj2 : (q : Int) ≤ (cap : Int) := by omega
  have hcm : cap ≤ 9223372036854775807 := by have := h.2.2.2; unfold maxLen at this; omega
  have HA := hid (show GX encLt 4 _ (In M _) (some ⟨b, o + j * 4, none⟩) (L.drop j) from hv0.1.drop j)
  have HT := hid (hv0.1.take i)
  have HL := hid (And.intro (show (L.take i).length = i by rw [List.length_take]; omega) (show (L.drop j).length = q - j by rw [List.length_drop]; omega))
  have HJ := hid hj
  have hsz0 : (((w.alloc (.cells #[.slice (some ⟨b, o, none⟩) q cap, .int .i64 (nx : Int), .int .i64 (lo : Int)] 62)).alloc (.cells #[.slice none 0 0, .int .i64 0, .int .i64 0] 62)).alloc (.cells #[.int .i64 0, .int .i64 0, .int .i64 0, .string (ByteArray.mk #[])] 73)).heap.size = w.heap.size + 1 + 1 + 1 := by simp
  clear h hq hi hv0 hj
  go_enter Try.func55, Try.ntmps55
  go_upto_region 1 with (fail)
  generalize (((w.alloc (.cells #[.slice (some ⟨b, o, none⟩) q cap, .int .i64 (nx : Int), .int .i64 (lo : Int)] 62)).alloc (.cells #[.slice none 0 0, .int .i64 0, .int .i64 0] 62)).alloc (.cells #[.int .i64 0, .int .i64 0, .int .i64 0, .string (ByteArray.mk #[])] 73)) = v0 at *
  have x0 := Bk.cell KX.out 0
  have x1 := Bk.cell KX.out 1
  have x2 := Bk.cell KX.out 2
  go_upto_region 4 with (fail)
  obtain ⟨v1, hv1⟩ : ∃ v1, v0.alloc (.cells #[.int .i64 l.no, .int .i64 l.frm, .int .i64 l.to_, .string (bs l.bytes)] 73) = v1 := ⟨_, rfl⟩
  have hb1 : Below v0.heap.size v0 v1 := by rw [← hv1]; exact enew _ _
  have kt : Bk v1 (w.heap.size + 1 + 1 + 1) 73 #[.int .i64 l.no, .int .i64 l.frm, .int .i64 l.to_, .string (bs l.bytes)] := by rw [← hv1, ← hsz0]; exact Bk.new _ _ _
  have HB1 := hid hb1
  have KT := hid kt
  rw [hv1]
  have kx := KX.out.up hb1
  have x0 := Bk.cell kx 0
  have HT1 := hid ((HT.out.inup hb1).imp (M := (· < v1.heap.size)) fun b hb => hb.1)
  have HA1 := hid ((HA.out.inup hb1).imp (M := (· < v1.heap.size)) fun b hb => hb.1)
  clear l0 l1 l2 l3 hv1 hb1 kt HT HA x1 x2
  go_wp2_with (at_builtin; refine wpList_append_gx (W0 := v1) rowLt rfl _ _ rfl v1.heap.size (.slice none 0 0) [] (L.take i) (some ⟨b, o, none⟩) cap _ rfl (GB.nil _ _) (by rw [HL.out.1]; rfl) HT1.out (fun h => by cases h) (by have := HL.out.1; simp only [List.length_nil]; omega) (Below.refl _ _) (Nat.le_refl _) ?_)
  intro v2 w2 hown2 hbel2 _
  have kx2 := (KX.out.up HB1.out).up hbel2
  have x0 := Bk.cell kx2 0
  have H2 := hid (And.intro hown2 (And.intro hbel2 ((HA1.out.same fun b hb => hbel2.block b hb).imp (M := (· < w2.heap.size)) fun b hb => Nat.lt_of_lt_of_le hb hbel2.size)))
  clear hown2 hbel2 kx kx2
  go_wp2_with (at_builtin; refine wpList_append_gx (W0 := v1) rowLt rfl _ _ rfl v1.heap.size v2 (L.take i) (L.drop j) (some ⟨b, o + j * 4, none⟩) (cap - j) _ rfl H2.out.1 (by rw [HL.out.2]; rfl) H2.out.2.2 (fun h => by cases h) (by have := HL.out; omega) H2.out.2.1 (Nat.le_refl _) ?_)
  intro v3 w3 hown3 hbel3 _
  obtain ⟨A3, c3, hv3, hgx, hA3, hlc, hcm3⟩ := GB.reads encLt_len hown3
  have hf3 : A3 = none ∧ c3 = 0 ∨ ∃ b o, A3 = some ⟨b, o, none⟩ := by
    rw [hv3] at hown3
    exact ngbase encLt_len hown3
  obtain ⟨m, hm⟩ : ∃ m, (L.take i ++ L.drop j).length = m := ⟨_, rfl⟩
  rw [hm] at hv3
  subst hv3
  have hb3 := estep HBb.out (HB1.out.trans (hbel3.mono HB1.out.size))
  have H3 := hid (And.intro hgx (And.intro hb3 (And.intro hf3 (And.intro hm (And.intro hlc hcm3)))))
  have KX3 := hid ((KX.out.up HB1.out).up hbel3)
  have KZ3 := hid ((KZ.out.up HB1.out).up hbel3)
  have KL3 := hid ((KL.out.up HB1.out).up hbel3)
  have KT3 := hid (KT.out.up hbel3)
  have HSZ := hid (Nat.le_trans (show w.heap.size + 1 + 1 + 1 ≤ v0.heap.size by omega) (Nat.le_trans HB1.out.size hbel3.size))
  have HV1 := hid (show w.heap.size + 1 + 1 < v1.heap.size from Nat.lt_of_lt_of_le (show w.heap.size + 1 + 1 < v0.heap.size by omega) HB1.out.size)
  clear hgx hb3 hf3 hm hlc hcm3 hA3 hown3 hbel3 x0 H2 HT1 HA1
  have x0 := Bk.cell KX3.out 0
  have x1 := Bk.cell KX3.out 1
  have x2 := Bk.cell KX3.out 2
  have y0 := Bk.frozen KX3.out 0
  have y1 := Bk.frozen KX3.out 1
  have y2 := Bk.frozen KX3.out 2
  have z0 := Bk.cell KZ3.out 0
  have z1 := Bk.cell KZ3.out 1
  have z2 := Bk.cell KZ3.out 2
  have u0 := Bk.frozen KZ3.out 0
  have u1 := Bk.frozen KZ3.out 1
  have u2 := Bk.frozen KZ3.out 2
  have p0 := Bk.cell KL3.out 0
  have p1 := Bk.cell KL3.out 1
  have p2 := Bk.cell KL3.out 2
  have p3 := Bk.cell KL3.out 3
  have r0 := Bk.frozen KL3.out 0
  have r1 := Bk.frozen KL3.out 1
  have r2 := Bk.frozen KL3.out 2
  have r3 := Bk.frozen KL3.out 3
  have t0 := Bk.cell KT3.out 0
  have t1 := Bk.cell KT3.out 1
  have t2 := Bk.cell KT3.out 2
  have t3 := Bk.cell KT3.out 3
  go_wp2_with fail
  go_region_law (fail)
  all_goals
    have K3 := hid (ntset3 (ntother (g' := w.heap.size) (i := 0) KZ3.out (by omega) (.slice A3 m c3)) (.slice A3 m c3) (.int .i64 (nx : Int)) (.int .i64 (lo : Int)))
    have KW := hid (ntset4 (ntother3 (g' := w.heap.size + 1) (ntother (g' := w.heap.size) (i := 0) KL3.out (by omega) (.slice A3 m c3)) (by omega) (.slice A3 m c3) (.int .i64 (nx : Int)) (.int .i64 (lo : Int))) (.int .i64 l.no) (.int .i64 l.frm) (.int .i64 l.to_) (.string (bs l.bytes)))
    have KV := hid (ntother4 (g' := w.heap.size + 1 + 1) K3.out (by omega) (.int .i64 l.no) (.int .i64 l.frm) (.int .i64 l.to_) (.string (bs l.bytes)))
    have c0 := Bk.cell KV.out 0
    have c1 := Bk.cell KV.out 1
    have c2 := Bk.cell KV.out 2
    have d0 := Bk.cell KW.out 0
    have d1 := Bk.cell KW.out 1
    have d2 := Bk.cell KW.out 2
    have d3 := Bk.cell KW.out 3
    clear x0 x1 x2 y0 y1 y2 z0 z1 z2 u0 u1 u2 p0 p1 p2 p3 r0 r1 r2 r3 t0 t1 t2 t3
    go_wp2_with fail
    (try simp only [Exit.inBlock, Exit.then])
    refine bodyPost_ret (v := .tuple #[.agg #[.slice A3 m c3, .int .i64 (nx : Int), .int .i64 (lo : Int)], .agg #[.int .i64 l.no, .int .i64 l.frm, .int .i64 l.to_, .string (bs l.bytes)], .bool true]) (by simp [results, Try.results55, go_sem, Act.put, c0, c1, c2, d0, d1, d2, d3]) rfl ?_
    obtain ⟨hgx, hb, hf, hm, hlc, hcm3⟩ := H3.out
    have hon := ntons3 w3 w.heap.size (.slice A3 m c3) (.slice A3 m c3) (.int .i64 (nx : Int)) (.int .i64 (lo : Int)) (.int .i64 l.no) (.int .i64 l.frm) (.int .i64 l.to_) (.string (bs l.bytes))
    have hfin : OnS (fun b => w.heap.size ≤ b ∧ b ≤ w.heap.size + 1 + 1) w3 _ := hon.drew
    rw [HJ.out] at *
    refine ⟨A3, c3, m, nx, lo, rfl, hm, ⟨rfl, rfl⟩, ⟨?_, hf, hlc, hcm3⟩, OnS.to_below hb hfin (fun b _ hb => hb.1) hb.size⟩
    exact (GX.onS (M := fun b => v1.heap.size ≤ b) (hgx.imp fun b hb => ⟨hb.2, hb.1⟩) hfin (fun b hb hS => by have := HV1.out; omega)).imp fun b hb => ⟨hb.1, Or.inr (by have := hb.2; have := HV1.out; omega)⟩
theorem ntAt_lt {n : Nts} {i : Nat} (h : i < n.all.length) : ntAt n (i : Int) = some i := by
  unfold ntAt
  rw [if_pos (by omega)]
  rfl
theorem rntake_any (M : Nat → Prop) (x : Nts) (A : Option Addr) (cap q nx lo : Nat) (k : Int) (w : World) (h : RnV w (In M w) x.all A cap) (hq : Hid (x.all.length = q ∧ x.next = nx ∧ x.lost = lo)) (hq9 : q ≤ 1000) {y : Nts} {l : Ltr} {ok : Bool} (H : Hid (ntTake x k = (y, l, ok))) :
    Calls Try.prog 55 #[.agg #[.slice A q cap, .int .i64 (nx : Int), .int .i64 (lo : Int)], .int .i64 k] w fun e w' => RnT w M y l ok e w' := by
  obtain ⟨L, n, j0⟩ := x
  obtain ⟨hq0, hn0, hl0⟩ := hq.out
  simp only at hq0 hn0 hl0 h
  subst hn0 hl0
  have e := H.out
  unfold ntTake at e
  by_cases hk : k < 0
  · have hn : ntAt ⟨L, n, j0⟩ k = none := by unfold ntAt; rw [if_neg (by omega)]
    rw [hn] at e
    simp only [Prod.mk.injEq] at e
    obtain ⟨rfl, rfl, rfl⟩ := e
    exact rntake_neg M L A cap q n j0 k w h hq0 hk
  · by_cases hb : (q : Int) ≤ k
    · have hn : ntAt ⟨L, n, j0⟩ k = none := by unfold ntAt; rw [if_neg (by simp only; omega)]
      rw [hn] at e
      simp only [Prod.mk.injEq] at e
      obtain ⟨rfl, rfl, rfl⟩ := e
      exact rntake_big M L A cap q n j0 k w h hq0 ⟨by omega, hb⟩
    · obtain ⟨i, rfl⟩ : ∃ i : Nat, k = (i : Int) := ⟨k.toNat, by omega⟩
      have hi : i < L.length := by omega
      rw [ntAt_lt (n := ⟨L, n, j0⟩) hi] at e
      simp only [Prod.mk.injEq] at e
      obtain ⟨rfl, rfl, rfl⟩ := e
      have hg : L[i]? = some (L.getD i ltr0) := by
        rw [List.getD_eq_getElem?_getD, List.getElem?_eq_getElem hi]
        rfl
      rcases h.2.1 with ⟨e1, e2⟩ | ⟨b, o, rfl⟩
      · obtain ⟨b, o, e3, -⟩ := h.1 i hi
        rw [e1] at e3
        cases e3
      · rw [List.eraseIdx_eq_take_drop_succ]
        by_cases hcj : cap = i + 1
        · subst hcj
          exact rntake_last M L b o q n j0 i (i + 1) _ w h hq0 hg hq9 rfl
        · exact rntake_mid M L b o cap q n j0 i (i + 1) _ w h hq0 hg hq9 rfl hcj
end Go.Proofs.Ytflamedbeagjlaa
namespace Go.Proofs.Ytflamedbeagjlaa
set_option linter.unusedVariables false
set_option linter.unusedSimpArgs false
open Go.RowKit Go.Joins

theorem ntfin {W : World} {g : Nat} {N : Nat → Prop} {A : Option Addr} {L : List Ltr} (a b c : Value) (h : GX encLt 4 W (In N W) A L) (hn : ¬ N g) : GX encLt 4 (((W.setCell ⟨g, 0, none⟩ a).setCell ⟨g, 1, none⟩ b).setCell ⟨g, 2, none⟩ c) (In N (((W.setCell ⟨g, 0, none⟩ a).setCell ⟨g, 1, none⟩ b).setCell ⟨g, 2, none⟩ c)) A L := by
  have hon : OnS (fun b => b = g) W (((W.setCell ⟨g, 0, none⟩ a).setCell ⟨g, 1, none⟩ b).setCell ⟨g, 2, none⟩ c) := (((OnS.refl (fun b => b = g) W).cell g 0 a rfl).cell g 1 b rfl).cell g 2 c rfl
  exact GX.onS h hon (fun b hb hS => hn (by have e : b = g := hS; rw [← e]; exact hb))
theorem ntkeep {S : Nat → Prop} {v0 w' : World} {g b o q cap nx lo i : Nat} {f t : Int} {s : List UInt8} (ho : OnS S v0 w')
    (hx : v0.cell? ⟨g, 0, none⟩ = some (.slice (some ⟨b, o, none⟩) q cap) ∧ v0.cell? ⟨g, 1, none⟩ = some (.int .i64 (nx : Int)) ∧ v0.cell? ⟨g, 2, none⟩ = some (.int .i64 (lo : Int)))
    (hl : v0.cell? ⟨b, o + i * 4 + 1, none⟩ = some (.int .i64 f) ∧ v0.cell? ⟨b, o + i * 4 + 2, none⟩ = some (.int .i64 t) ∧ v0.cell? ⟨b, o + i * 4 + 3, none⟩ = some (.string (bs s)))
    (hg : g < v0.heap.size) (hb : b < v0.heap.size) (hgS : ¬ S g) (hbS : ¬ S b) :
    w'.cell? ⟨g, 0, none⟩ = some (.slice (some ⟨b, o, none⟩) q cap) ∧ w'.cell? ⟨g, 1, none⟩ = some (.int .i64 (nx : Int)) ∧ w'.cell? ⟨g, 2, none⟩ = some (.int .i64 (lo : Int)) ∧ w'.cell? ⟨b, o + i * 4 + 1, none⟩ = some (.int .i64 f) ∧ w'.cell? ⟨b, o + i * 4 + 2, none⟩ = some (.int .i64 t) ∧ w'.cell? ⟨b, o + i * 4 + 3, none⟩ = some (.string (bs s)) := by
  have e1 := ho.block g hg hgS
  have e2 := ho.block b hb hbS
  simp only [World.cell?, e1, e2] at hx hl ⊢
  exact ⟨hx.1, hx.2.1, hx.2.2, hl.1, hl.2.1, hl.2.2⟩
set_option maxRecDepth 100000 in
set_option maxHeartbeats 4000000 in
theorem rnlose_yes (M : Nat → Prop) (x : Nts) (A : Option Addr) (cap q nx lo : Nat) (k : Int) (w : World) (h : RnV w (In M w) x.all A cap) (hq : Hid (x.all.length = q ∧ x.next = nx ∧ x.lost = lo)) (hq9 : q ≤ 1000) (hlo : lo + 1 ≤ 1099511627776) {y : Nts} {l : Ltr} (H : Hid (ntTake x k = (y, l, true))) :
    Calls Try.prog 56 #[.agg #[.slice A q cap, .int .i64 (nx : Int), .int .i64 (lo : Int)], .int .i64 k] w fun e w' => RnS w M (⟨y.all, y.next, y.lost + 1⟩) true e w' := by
  have hb1 := enew w (.cells #[.slice A q cap, .int .i64 (nx : Int), .int .i64 (lo : Int)] 62)
  have hb2 := enew (w.alloc (.cells #[.slice A q cap, .int .i64 (nx : Int), .int .i64 (lo : Int)] 62)) (.cells #[.slice none 0 0, .int .i64 0, .int .i64 0] 62)
  have KX := hid ((Bk.new w 62 #[.slice A q cap, .int .i64 (nx : Int), .int .i64 (lo : Int)]).up hb2)
  have kz := Bk.new (w.alloc (.cells #[.slice A q cap, .int .i64 (nx : Int), .int .i64 (lo : Int)] 62)) 62 #[.slice none 0 0, .int .i64 0, .int .i64 0]
  simp only [World.size_alloc] at kz
  have KZ := hid kz
  have HBb := hid (estep hb1 hb2)
  clear hb1 hb2 kz
  have HC := hid (rntake_any (fun b => M b ∧ b < w.heap.size) x A cap q nx lo k ((w.alloc (.cells #[.slice A q cap, .int .i64 (nx : Int), .int .i64 (lo : Int)] 62)).alloc (.cells #[.slice none 0 0, .int .i64 0, .int .i64 0] 62)) (show RnV ((w.alloc (.cells #[.slice A q cap, .int .i64 (nx : Int), .int .i64 (lo : Int)] 62)).alloc (.cells #[.slice none 0 0, .int .i64 0, .int .i64 0] 62)) (In (fun b => M b ∧ b < w.heap.size) ((w.alloc (.cells #[.slice A q cap, .int .i64 (nx : Int), .int .i64 (lo : Int)] 62)).alloc (.cells #[.slice none 0 0, .int .i64 0, .int .i64 0] 62))) x.all A cap from (h.same fun b hb => HBb.out.block b hb.1).imp fun b hb => ⟨Nat.lt_of_lt_of_le hb.1 HBb.out.size, hb.2, hb.1⟩) hq hq9 H)
  have HLo := hid (show y.lost = lo from by
    have e := H.out
    have e1 := hq.out.2.2
    unfold ntTake at e
    split at e <;> (simp only [Prod.mk.injEq] at e; rw [← e.1]; exact e1))
  go_enter Try.func56, Try.ntmps56
  go_upto_region 1 with (fail)
  generalize ((w.alloc (.cells #[.slice A q cap, .int .i64 (nx : Int), .int .i64 (lo : Int)] 62)).alloc (.cells #[.slice none 0 0, .int .i64 0, .int .i64 0] 62)) = v0 at *
  clear h
  have x0 := Bk.cell KX.out 0
  have x1 := Bk.cell KX.out 1
  have x2 := Bk.cell KX.out 2
  go_wp2_with fail
  refine HC.out.mono ?_
  rintro e w1 ⟨A1, c1, m1, nx1, lo1, rfl, hm, ⟨hx, hl⟩, hv, hb⟩
  obtain rfl : lo1 = lo := by have := HLo.out; omega
  have hmin : min ((lo1 : Int) + 1) 1099511627776 = (lo1 : Int) + 1 := by omega
  obtain ⟨m, hm9⟩ : ∃ m : Nat, (lo1 : Int) + 1 = (m : Int) := ⟨lo1 + 1, by omega⟩
  rw [hm9] at hmin
  have hw : IntKind.i64.wrap ((lo1 : Int) + 1) = (m : Int) := by rw [← hm9]; exact IntWalk.i64_in _ (by omega)
  have hw2 : wrap64 ((lo1 : Int) + 1) = (m : Int) := by rw [← hm9]; unfold wrap64; omega
  have HM := hid hm9
  clear hm9
  have hb2 := enew w1 (.cells #[.slice A1 m1 c1, .int .i64 (nx1 : Int), .int .i64 (m : Int)] 62)
  have hb3 := enew (w1.alloc (.cells #[.slice A1 m1 c1, .int .i64 (nx1 : Int), .int .i64 (m : Int)] 62)) (.cells #[.int .i64 l.no, .int .i64 l.frm, .int .i64 l.to_, .string (bs l.bytes)] 73)
  have KZ1 := hid (((KZ.out.up hb).up hb2).up hb3)
  have HB1 := hid (estep (estep hb hb2) hb3)
  have HB2 := hid (estep hb2 hb3)
  have HLT := hid (Bk.lt KZ.out)
  have HH := hid (And.intro hm (And.intro hx (And.intro hl hv)))
  have z0 := Bk.cell KZ1.out 0
  have z1 := Bk.cell KZ1.out 1
  have z2 := Bk.cell KZ1.out 2
  have u0 := Bk.frozen KZ1.out 0
  have u1 := Bk.frozen KZ1.out 1
  have u2 := Bk.frozen KZ1.out 2
  clear hm hx hl hv hb hb2 hb3 x0 x1 x2
  go_wp2_with fail
  have K3 := hid (ntset3 KZ1.out (.slice A1 m1 c1) (.int .i64 (nx1 : Int)) (.int .i64 (m : Int)))
  have d0 := Bk.cell K3.out 0
  have d1 := Bk.cell K3.out 1
  have d2 := Bk.cell K3.out 2
  (try simp only [Exit.inBlock, Exit.then])
  refine bodyPost_ret (v := .tuple #[.agg #[.slice A1 m1 c1, .int .i64 (nx1 : Int), .int .i64 (m : Int)], .bool true]) (by simp [results, Try.results56, go_sem, d0, d1, d2]) rfl ?_
  obtain ⟨hm, hx, hl, hv⟩ := HH.out
  have hbw := estep HBb.out HB1.out
  have hbf : Below w.heap.size w _ := ((hbw.setCell (p := ⟨w.heap.size + 1, 0, none⟩) (Nat.le_succ _) (.slice A1 m1 c1)).setCell (p := ⟨w.heap.size + 1, 1, none⟩) (Nat.le_succ _) (.int .i64 (nx1 : Int))).setCell (p := ⟨w.heap.size + 1, 2, none⟩) (Nat.le_succ _) (.int .i64 (m : Int))
  refine ⟨A1, c1, m1, nx1, m, rfl, hm, ⟨hx, by have := HM.out; simp only; omega⟩, ⟨?_, hv.2⟩, hbf⟩
  exact (ntfin (.slice A1 m1 c1) (.int .i64 (nx1 : Int)) (.int .i64 (m : Int)) (hv.inup HB2.out).1 (fun hN => by have := HLT.out; omega)).imp fun b hb => ⟨hb.1, by
    rcases hb.2 with h1 | h1
    · exact Or.inl h1.1
    · exact Or.inr (by have := HLT.out; omega)⟩
set_option maxRecDepth 100000 in
set_option maxHeartbeats 4000000 in
theorem rnlose_no (M : Nat → Prop) (x : Nts) (A : Option Addr) (cap q nx lo : Nat) (k : Int) (w : World) (h : RnV w (In M w) x.all A cap) (hq : Hid (x.all.length = q ∧ x.next = nx ∧ x.lost = lo)) (hq9 : q ≤ 1000) (hlo : lo + 1 ≤ 1099511627776) {y : Nts} {l : Ltr} (H : Hid (ntTake x k = (y, l, false))) :
    Calls Try.prog 56 #[.agg #[.slice A q cap, .int .i64 (nx : Int), .int .i64 (lo : Int)], .int .i64 k] w fun e w' => RnS w M (y) false e w' := by
  have hb1 := enew w (.cells #[.slice A q cap, .int .i64 (nx : Int), .int .i64 (lo : Int)] 62)
  have hb2 := enew (w.alloc (.cells #[.slice A q cap, .int .i64 (nx : Int), .int .i64 (lo : Int)] 62)) (.cells #[.slice none 0 0, .int .i64 0, .int .i64 0] 62)
  have KX := hid ((Bk.new w 62 #[.slice A q cap, .int .i64 (nx : Int), .int .i64 (lo : Int)]).up hb2)
  have kz := Bk.new (w.alloc (.cells #[.slice A q cap, .int .i64 (nx : Int), .int .i64 (lo : Int)] 62)) 62 #[.slice none 0 0, .int .i64 0, .int .i64 0]
  simp only [World.size_alloc] at kz
  have KZ := hid kz
  have HBb := hid (estep hb1 hb2)
  clear hb1 hb2 kz
  have HC := hid (rntake_any (fun b => M b ∧ b < w.heap.size) x A cap q nx lo k ((w.alloc (.cells #[.slice A q cap, .int .i64 (nx : Int), .int .i64 (lo : Int)] 62)).alloc (.cells #[.slice none 0 0, .int .i64 0, .int .i64 0] 62)) (show RnV ((w.alloc (.cells #[.slice A q cap, .int .i64 (nx : Int), .int .i64 (lo : Int)] 62)).alloc (.cells #[.slice none 0 0, .int .i64 0, .int .i64 0] 62)) (In (fun b => M b ∧ b < w.heap.size) ((w.alloc (.cells #[.slice A q cap, .int .i64 (nx : Int), .int .i64 (lo : Int)] 62)).alloc (.cells #[.slice none 0 0, .int .i64 0, .int .i64 0] 62))) x.all A cap from (h.same fun b hb => HBb.out.block b hb.1).imp fun b hb => ⟨Nat.lt_of_lt_of_le hb.1 HBb.out.size, hb.2, hb.1⟩) hq hq9 H)
  have HLo := hid (show y.lost = lo from by
    have e := H.out
    have e1 := hq.out.2.2
    unfold ntTake at e
    split at e <;> (simp only [Prod.mk.injEq] at e; rw [← e.1]; exact e1))
  go_enter Try.func56, Try.ntmps56
  go_upto_region 1 with (fail)
  generalize ((w.alloc (.cells #[.slice A q cap, .int .i64 (nx : Int), .int .i64 (lo : Int)] 62)).alloc (.cells #[.slice none 0 0, .int .i64 0, .int .i64 0] 62)) = v0 at *
  clear h
  have x0 := Bk.cell KX.out 0
  have x1 := Bk.cell KX.out 1
  have x2 := Bk.cell KX.out 2
  go_wp2_with fail
  refine HC.out.mono ?_
  rintro e w1 ⟨A1, c1, m1, nx1, lo1, rfl, hm, ⟨hx, hl⟩, hv, hb⟩
  have hb2 := enew w1 (.cells #[.slice A1 m1 c1, .int .i64 (nx1 : Int), .int .i64 (lo1 : Int)] 62)
  have hb3 := enew (w1.alloc (.cells #[.slice A1 m1 c1, .int .i64 (nx1 : Int), .int .i64 (lo1 : Int)] 62)) (.cells #[.int .i64 l.no, .int .i64 l.frm, .int .i64 l.to_, .string (bs l.bytes)] 73)
  have KZ1 := hid (((KZ.out.up hb).up hb2).up hb3)
  have HB1 := hid (estep (estep hb hb2) hb3)
  have HB2 := hid (estep hb2 hb3)
  have HLT := hid (Bk.lt KZ.out)
  have HH := hid (And.intro hm (And.intro hx (And.intro hl hv)))
  have z0 := Bk.cell KZ1.out 0
  have z1 := Bk.cell KZ1.out 1
  have z2 := Bk.cell KZ1.out 2
  have u0 := Bk.frozen KZ1.out 0
  have u1 := Bk.frozen KZ1.out 1
  have u2 := Bk.frozen KZ1.out 2
  clear hm hx hl hv hb hb2 hb3 x0 x1 x2
  go_wp2_with fail
  have K3 := hid (ntset3 KZ1.out (.slice A1 m1 c1) (.int .i64 (nx1 : Int)) (.int .i64 (lo1 : Int)))
  have d0 := Bk.cell K3.out 0
  have d1 := Bk.cell K3.out 1
  have d2 := Bk.cell K3.out 2
  (try simp only [Exit.inBlock, Exit.then])
  refine bodyPost_ret (v := .tuple #[.agg #[.slice A1 m1 c1, .int .i64 (nx1 : Int), .int .i64 (lo1 : Int)], .bool false]) (by simp [results, Try.results56, go_sem, d0, d1, d2]) rfl ?_
  obtain ⟨hm, hx, hl, hv⟩ := HH.out
  have hbw := estep HBb.out HB1.out
  have hbf : Below w.heap.size w _ := ((hbw.setCell (p := ⟨w.heap.size + 1, 0, none⟩) (Nat.le_succ _) (.slice A1 m1 c1)).setCell (p := ⟨w.heap.size + 1, 1, none⟩) (Nat.le_succ _) (.int .i64 (nx1 : Int))).setCell (p := ⟨w.heap.size + 1, 2, none⟩) (Nat.le_succ _) (.int .i64 (lo1 : Int))
  refine ⟨A1, c1, m1, nx1, lo1, rfl, hm, ⟨hx, hl⟩, ⟨?_, hv.2⟩, hbf⟩
  exact (ntfin (.slice A1 m1 c1) (.int .i64 (nx1 : Int)) (.int .i64 (lo1 : Int)) (hv.inup HB2.out).1 (fun hN => by have := HLT.out; omega)).imp fun b hb => ⟨hb.1, by
    rcases hb.2 with h1 | h1
    · exact Or.inl h1.1
    · exact Or.inr (by have := HLT.out; omega)⟩
theorem rnlose_any (M : Nat → Prop) (x : Nts) (A : Option Addr) (cap q nx lo : Nat) (k : Int) (w : World) (h : RnV w (In M w) x.all A cap) (hq : Hid (x.all.length = q ∧ x.next = nx ∧ x.lost = lo)) (hq9 : q ≤ 1000) (hlo : lo + 1 ≤ 1099511627776) {y : Nts} {ok : Bool} (H : Hid (ntLose x k = (y, ok))) :
    Calls Try.prog 56 #[.agg #[.slice A q cap, .int .i64 (nx : Int), .int .i64 (lo : Int)], .int .i64 k] w fun e w' => RnS w M y ok e w' := by
  have e := H.out
  unfold ntLose at e
  cases hk : ntAt x k with
  | none =>
    rw [hk] at e
    simp only [Prod.mk.injEq] at e
    obtain ⟨rfl, rfl⟩ := e
    exact rnlose_no M x A cap q nx lo k w h hq hq9 hlo (hid (show ntTake x k = (x, ltr0, false) by unfold ntTake; rw [hk]))
  | some i =>
    rw [hk] at e
    simp only [Prod.mk.injEq] at e
    obtain ⟨rfl, rfl⟩ := e
    have hx : x.lost + 1 ≤ 1099511627776 := by have := hq.out.2.2; omega
    have := rnlose_yes M x A cap q nx lo k w h hq hq9 hlo (y := { x with all := x.all.eraseIdx i }) (l := x.all.getD i ltr0) (hid (show ntTake x k = _ by unfold ntTake; rw [hk]))
    unfold ntLose1
    rw [Nat.min_eq_left hx]
    exact this
set_option maxRecDepth 100000 in
set_option maxHeartbeats 4000000 in
theorem rncopy_neg (M : Nat → Prop) (L : List Ltr) (A : Option Addr) (cap q nx lo : Nat) (k : Int) (w : World) (h : RnV w (In M w) L A cap) (hq : L.length = q) (hk : k < 0) :
    Calls Try.prog 57 #[.agg #[.slice A q cap, .int .i64 (nx : Int), .int .i64 (lo : Int)], .int .i64 k] w fun e w' => RnS w M ⟨L, nx, lo⟩ false e w' := by
  have hb1 := enew w (.cells #[.slice A q cap, .int .i64 (nx : Int), .int .i64 (lo : Int)] 62)
  have hb2 := enew (w.alloc (.cells #[.slice A q cap, .int .i64 (nx : Int), .int .i64 (lo : Int)] 62)) (.cells #[.slice none 0 0, .int .i64 0, .int .i64 0] 62)
  have KX := hid ((Bk.new w 62 #[.slice A q cap, .int .i64 (nx : Int), .int .i64 (lo : Int)]).up hb2)
  have kz := Bk.new (w.alloc (.cells #[.slice A q cap, .int .i64 (nx : Int), .int .i64 (lo : Int)] 62)) 62 #[.slice none 0 0, .int .i64 0, .int .i64 0]
  simp only [World.size_alloc] at kz
  have KZ := hid kz
  have HBb := hid (estep hb1 hb2)
  clear hb1 hb2 kz
  have HH := hid (And.intro h hq)
  have HLT := hid (Bk.lt KZ.out)
  have hd : decide (k < 0) = true := decide_eq_true hk
  clear h hq
  go_enter Try.func57, Try.ntmps57
  go_upto_region 1 with (fail)
  generalize ((w.alloc (.cells #[.slice A q cap, .int .i64 (nx : Int), .int .i64 (lo : Int)] 62)).alloc (.cells #[.slice none 0 0, .int .i64 0, .int .i64 0] 62)) = v0 at *
  have x0 := Bk.cell KX.out 0
  have x1 := Bk.cell KX.out 1
  have x2 := Bk.cell KX.out 2
  have z0 := Bk.cell KZ.out 0
  have z1 := Bk.cell KZ.out 1
  have z2 := Bk.cell KZ.out 2
  have u0 := Bk.frozen KZ.out 0
  have u1 := Bk.frozen KZ.out 1
  have u2 := Bk.frozen KZ.out 2
  go_wp2_with fail
  have K3 := hid (ntset3 KZ.out (.slice A q cap) (.int .i64 (nx : Int)) (.int .i64 (lo : Int)))
  have c0 := Bk.cell K3.out 0
  have c1 := Bk.cell K3.out 1
  have c2 := Bk.cell K3.out 2
  (try simp only [Exit.inBlock, Exit.then])
  refine bodyPost_ret (v := .tuple #[.agg #[.slice A q cap, .int .i64 (nx : Int), .int .i64 (lo : Int)], .bool false]) (by simp [results, Try.results57, go_sem, c0, c1, c2]) rfl ?_
  obtain ⟨hv, hq⟩ := HH.out
  have hbf : Below w.heap.size w _ := ((HBb.out.setCell (p := ⟨w.heap.size + 1, 0, none⟩) (Nat.le_succ _) (.slice A q cap)).setCell (p := ⟨w.heap.size + 1, 1, none⟩) (Nat.le_succ _) (.int .i64 (nx : Int))).setCell (p := ⟨w.heap.size + 1, 2, none⟩) (Nat.le_succ _) (.int .i64 (lo : Int))
  exact ⟨A, cap, q, nx, lo, rfl, hq, ⟨rfl, rfl⟩, (hv.same fun b hb => hbf.block b hb.1).imp fun b hb => ⟨Nat.lt_of_lt_of_le hb.1 hbf.size, Or.inl ⟨hb.2, hb.1⟩⟩, hbf⟩
set_option maxRecDepth 100000 in
set_option maxHeartbeats 4000000 in
theorem rncopy_big (M : Nat → Prop) (L : List Ltr) (A : Option Addr) (cap q nx lo : Nat) (k : Int) (w : World) (h : RnV w (In M w) L A cap) (hq : L.length = q) (hk : 0 ≤ k ∧ (q : Int) ≤ k) :
    Calls Try.prog 57 #[.agg #[.slice A q cap, .int .i64 (nx : Int), .int .i64 (lo : Int)], .int .i64 k] w fun e w' => RnS w M ⟨L, nx, lo⟩ false e w' := by
  have hb1 := enew w (.cells #[.slice A q cap, .int .i64 (nx : Int), .int .i64 (lo : Int)] 62)
  have hb2 := enew (w.alloc (.cells #[.slice A q cap, .int .i64 (nx : Int), .int .i64 (lo : Int)] 62)) (.cells #[.slice none 0 0, .int .i64 0, .int .i64 0] 62)
  have KX := hid ((Bk.new w 62 #[.slice A q cap, .int .i64 (nx : Int), .int .i64 (lo : Int)]).up hb2)
  have kz := Bk.new (w.alloc (.cells #[.slice A q cap, .int .i64 (nx : Int), .int .i64 (lo : Int)] 62)) 62 #[.slice none 0 0, .int .i64 0, .int .i64 0]
  simp only [World.size_alloc] at kz
  have KZ := hid kz
  have HBb := hid (estep hb1 hb2)
  clear hb1 hb2 kz
  have HH := hid (And.intro h hq)
  have HLT := hid (Bk.lt KZ.out)
  have hd : decide (k < 0) = false := decide_eq_false (by omega)
  have hd2 : decide ((q : Int) ≤ k) = true := decide_eq_true hk.2
  clear h hq
  go_enter Try.func57, Try.ntmps57
  go_upto_region 1 with (fail)
  generalize ((w.alloc (.cells #[.slice A q cap, .int .i64 (nx : Int), .int .i64 (lo : Int)] 62)).alloc (.cells #[.slice none 0 0, .int .i64 0, .int .i64 0] 62)) = v0 at *
  have x0 := Bk.cell KX.out 0
  have x1 := Bk.cell KX.out 1
  have x2 := Bk.cell KX.out 2
  have z0 := Bk.cell KZ.out 0
  have z1 := Bk.cell KZ.out 1
  have z2 := Bk.cell KZ.out 2
  have u0 := Bk.frozen KZ.out 0
  have u1 := Bk.frozen KZ.out 1
  have u2 := Bk.frozen KZ.out 2
  go_wp2_with fail
  have K3 := hid (ntset3 KZ.out (.slice A q cap) (.int .i64 (nx : Int)) (.int .i64 (lo : Int)))
  have c0 := Bk.cell K3.out 0
  have c1 := Bk.cell K3.out 1
  have c2 := Bk.cell K3.out 2
  (try simp only [Exit.inBlock, Exit.then])
  refine bodyPost_ret (v := .tuple #[.agg #[.slice A q cap, .int .i64 (nx : Int), .int .i64 (lo : Int)], .bool false]) (by simp [results, Try.results57, go_sem, c0, c1, c2]) rfl ?_
  obtain ⟨hv, hq⟩ := HH.out
  have hbf : Below w.heap.size w _ := ((HBb.out.setCell (p := ⟨w.heap.size + 1, 0, none⟩) (Nat.le_succ _) (.slice A q cap)).setCell (p := ⟨w.heap.size + 1, 1, none⟩) (Nat.le_succ _) (.int .i64 (nx : Int))).setCell (p := ⟨w.heap.size + 1, 2, none⟩) (Nat.le_succ _) (.int .i64 (lo : Int))
  exact ⟨A, cap, q, nx, lo, rfl, hq, ⟨rfl, rfl⟩, (hv.same fun b hb => hbf.block b hb.1).imp fun b hb => ⟨Nat.lt_of_lt_of_le hb.1 hbf.size, Or.inl ⟨hb.2, hb.1⟩⟩, hbf⟩
set_option maxRecDepth 100000 in
set_option maxHeartbeats 8000000 in
theorem rncopy_yes (M : Nat → Prop) (L : List Ltr) (b o cap q nx lo i : Nat) (l : Ltr) (w : World) (h : RnV w (In M w) L (some ⟨b, o, none⟩) cap) (hq : L.length = q) (hi : L[i]? = some l) (h64 : nx ≤ 1000000 ∧ lo ≤ 1000000) {y : Nts} {ok : Bool} (H : Hid (ntSend ⟨L, nx, lo⟩ l.frm l.to_ l.bytes = (y, ok))) :
    Calls Try.prog 57 #[.agg #[.slice (some ⟨b, o, none⟩) q cap, .int .i64 (nx : Int), .int .i64 (lo : Int)], .int .i64 (i : Int)] w fun e w' => RnS w M y ok e w' := by
  have hb1 := enew w (.cells #[.slice (some ⟨b, o, none⟩) q cap, .int .i64 (nx : Int), .int .i64 (lo : Int)] 62)
  have hb2 := enew (w.alloc (.cells #[.slice (some ⟨b, o, none⟩) q cap, .int .i64 (nx : Int), .int .i64 (lo : Int)] 62)) (.cells #[.slice none 0 0, .int .i64 0, .int .i64 0] 62)
  have KX := hid ((Bk.new w 62 #[.slice (some ⟨b, o, none⟩) q cap, .int .i64 (nx : Int), .int .i64 (lo : Int)]).up hb2)
  have kz := Bk.new (w.alloc (.cells #[.slice (some ⟨b, o, none⟩) q cap, .int .i64 (nx : Int), .int .i64 (lo : Int)] 62)) 62 #[.slice none 0 0, .int .i64 0, .int .i64 0]
  simp only [World.size_alloc] at kz
  have KZ := hid kz
  have HBb := hid (estep hb1 hb2)
  clear hb1 hb2 kz
  have HLT := hid (Bk.lt KZ.out)
  have hiq : i < q := by have := (List.getElem?_eq_some_iff.1 hi).1; omega
  obtain ⟨b', o', e0, hbw, l0, l1, l2, l3⟩ := lt_cells h.1 hi
  injection e0 with e0
  injection e0 with e0 e1
  subst e0 e1
  have HL := hid (And.intro ((HBb.out.cell (p := ⟨b, o + i * 4 + 1, none⟩) hbw.1).trans l1) (And.intro ((HBb.out.cell (p := ⟨b, o + i * 4 + 2, none⟩) hbw.1).trans l2) ((HBb.out.cell (p := ⟨b, o + i * 4 + 3, none⟩) hbw.1).trans l3)))
  have HBW := hid hbw.1
  have hd : decide ((i : Int) < 0) = false := decide_eq_false (by omega)
  have hd2 : decide ((q : Int) ≤ (i : Int)) = false := decide_eq_false (by omega)
  have hd3 : decide (q ≤ i) = false := decide_eq_false (by omega)
  have hi0 : (0 : Int) ≤ (i : Int) := by omega
  have hi1 : (i : Int) < (q : Int) := by omega
  have HC := hid (fun (w2 : World) (hb : Below ((w.alloc (.cells #[.slice (some ⟨b, o, none⟩) q cap, .int .i64 (nx : Int), .int .i64 (lo : Int)] 62)).alloc (.cells #[.slice none 0 0, .int .i64 0, .int .i64 0] 62)).heap.size ((w.alloc (.cells #[.slice (some ⟨b, o, none⟩) q cap, .int .i64 (nx : Int), .int .i64 (lo : Int)] 62)).alloc (.cells #[.slice none 0 0, .int .i64 0, .int .i64 0] 62)) w2) => rnsend_any (fun b => M b ∧ b < w.heap.size) ⟨L, nx, lo⟩ (some ⟨b, o, none⟩) cap q nx lo l.frm l.to_ l.bytes w2 ((h.same fun b hB => ((HBb.out.trans (hb.mono HBb.out.size)).block b hB.1)).imp fun b hB => ⟨Nat.lt_of_lt_of_le hB.1 (HBb.out.trans (hb.mono HBb.out.size)).size, hB.2, hB.1⟩) (hid ⟨hq, rfl, rfl⟩) h64 H)
  clear h hq hi h64 hbw l0 l1 l2 l3
  go_enter Try.func57, Try.ntmps57
  go_upto_region 1 with (fail)
  generalize ((w.alloc (.cells #[.slice (some ⟨b, o, none⟩) q cap, .int .i64 (nx : Int), .int .i64 (lo : Int)] 62)).alloc (.cells #[.slice none 0 0, .int .i64 0, .int .i64 0] 62)) = v0 at *
  have x0 := Bk.cell KX.out 0
  have x1 := Bk.cell KX.out 1
  have x2 := Bk.cell KX.out 2
  have z0 := Bk.cell KZ.out 0
  have z1 := Bk.cell KZ.out 1
  have z2 := Bk.cell KZ.out 2
  have u0 := Bk.frozen KZ.out 0
  have u1 := Bk.frozen KZ.out 1
  have u2 := Bk.frozen KZ.out 2
  have hz0 : Below v0.heap.size v0 v0.drew := (Below.refl _ _).drew
  go_upto_region 3 with (fail)
  obtain ⟨l1, l2, l3⟩ := HL.out
  have ho0 : OnS (fun b => b = w.heap.size + 1) v0 v0.drew := (OnS.refl _ _).drew
  have HS := hid (fun (w' : World) (ho : OnS (fun b => b = w.heap.size + 1) v0 w') => ntkeep (f := l.frm) (t := l.to_) (s := l.bytes) (q := q) (cap := cap) (nx := nx) (lo := lo) (i := i) (o := o) ho (And.intro x0 (And.intro x1 x2)) (And.intro l1 (And.intro l2 l3)) (Nat.lt_of_succ_lt HLT.out) (Nat.lt_of_lt_of_le HBW.out HBb.out.size) (by omega) (by have := HBW.out; omega))
  clear l1 l2 l3
  go_region_held3 (fun w' => w'.cell? ⟨w.heap.size, 0, none⟩ = some (.slice (some ⟨b, o, none⟩) q cap) ∧ w'.cell? ⟨w.heap.size, 1, none⟩ = some (.int .i64 (nx : Int)) ∧ w'.cell? ⟨w.heap.size, 2, none⟩ = some (.int .i64 (lo : Int)) ∧ w'.cell? ⟨b, o + i * 4 + 1, none⟩ = some (.int .i64 l.frm) ∧ w'.cell? ⟨b, o + i * 4 + 2, none⟩ = some (.int .i64 l.to_) ∧ w'.cell? ⟨b, o + i * 4 + 3, none⟩ = some (.string (bs l.bytes))) (first | (with_reducible exact HS.out _ ho0) | (with_reducible exact HS.out _ ho1) | (with_reducible exact HS.out _ (ho1.cell _ 0 _ rfl)) | (with_reducible exact HS.out _ ((ho1.cell _ 0 _ rfl).cell _ 1 _ rfl)) | (with_reducible exact HS.out _ (((ho1.cell _ 0 _ rfl).cell _ 1 _ rfl).cell _ 2 _ rfl))) (first
    | (go_at_call 54
       ((with_reducible refine (HC.out _ hz0).mono ?_); rintro e w1 ⟨A1, c1, m1, nx1, lo1, rfl, hm, ⟨hx, hl⟩, hv, hb⟩)
       have hz1 := hz0.trans (hb.mono hz0.size)
       have ho1 := ho0.up hb
       have kz1 := KZ.out.up hz1
       clear z0 z1 z2 u0 u1 u2
       have p0 := Bk.cell kz1 0
       have p1 := Bk.cell kz1 1
       have p2 := Bk.cell kz1 2
       have r0 := Bk.frozen kz1 0
       have r1 := Bk.frozen kz1 1
       have r2 := Bk.frozen kz1 2))
  have HV := hid (And.intro hm (And.intro hx (And.intro hl hv)))
  have HZ1 := hid hz1
  clear p0 p1 p2 r0 r1 r2 hm hx hl hv hb
  go_wp2_with fail
  have K3 := hid (ntset3 kz1 (.slice A1 m1 c1) (.int .i64 (nx1 : Int)) (.int .i64 (lo1 : Int)))
  have d0 := Bk.cell K3.out 0
  have d1 := Bk.cell K3.out 1
  have d2 := Bk.cell K3.out 2
  (try simp only [Exit.inBlock, Exit.then])
  refine bodyPost_ret (v := .tuple #[.agg #[.slice A1 m1 c1, .int .i64 (nx1 : Int), .int .i64 (lo1 : Int)], .bool ok]) (by simp [results, Try.results57, go_sem, d0, d1, d2]) rfl ?_
  obtain ⟨hm, hx, hl, hv⟩ := HV.out
  have hbw := HBb.out.trans (HZ1.out.mono HBb.out.size)
  have hbf : Below w.heap.size w _ := ((hbw.setCell (p := ⟨w.heap.size + 1, 0, none⟩) (Nat.le_succ _) (.slice A1 m1 c1)).setCell (p := ⟨w.heap.size + 1, 1, none⟩) (Nat.le_succ _) (.int .i64 (nx1 : Int))).setCell (p := ⟨w.heap.size + 1, 2, none⟩) (Nat.le_succ _) (.int .i64 (lo1 : Int))
  refine ⟨A1, c1, m1, nx1, lo1, rfl, hm, ⟨hx, hl⟩, ⟨?_, hv.2⟩, hbf⟩
  have hzs := hz0.size
  exact (ntfin (.slice A1 m1 c1) (.int .i64 (nx1 : Int)) (.int .i64 (lo1 : Int)) hv.1 (fun hN => by have := HLT.out; omega)).imp fun b hb => ⟨hb.1, by
    rcases hb.2 with h1 | h1
    · exact Or.inl h1.1
    · exact Or.inr (by have := HLT.out; omega)⟩
theorem rncopy_any (M : Nat → Prop) (x : Nts) (A : Option Addr) (cap q nx lo : Nat) (k : Int) (w : World) (h : RnV w (In M w) x.all A cap) (hq : Hid (x.all.length = q ∧ x.next = nx ∧ x.lost = lo)) (h64 : nx ≤ 1000000 ∧ lo ≤ 1000000) {y : Nts} {ok : Bool} (H : Hid (ntCopy x k = (y, ok))) :
    Calls Try.prog 57 #[.agg #[.slice A q cap, .int .i64 (nx : Int), .int .i64 (lo : Int)], .int .i64 k] w fun e w' => RnS w M y ok e w' := by
  obtain ⟨L, n, j0⟩ := x
  obtain ⟨hq0, hn0, hl0⟩ := hq.out
  simp only at hq0 hn0 hl0 h
  subst hn0 hl0
  have e := H.out
  unfold ntCopy at e
  by_cases hk : k < 0
  · have hn : ntAt ⟨L, n, j0⟩ k = none := by unfold ntAt; rw [if_neg (by omega)]
    rw [hn] at e
    simp only [Prod.mk.injEq] at e
    obtain ⟨rfl, rfl⟩ := e
    exact rncopy_neg M L A cap q n j0 k w h hq0 hk
  · by_cases hb : (q : Int) ≤ k
    · have hn : ntAt ⟨L, n, j0⟩ k = none := by unfold ntAt; rw [if_neg (by simp only; omega)]
      rw [hn] at e
      simp only [Prod.mk.injEq] at e
      obtain ⟨rfl, rfl⟩ := e
      exact rncopy_big M L A cap q n j0 k w h hq0 ⟨by omega, hb⟩
    · obtain ⟨i, rfl⟩ : ∃ i : Nat, k = (i : Int) := ⟨k.toNat, by omega⟩
      have hi : i < L.length := by omega
      rw [ntAt_lt (n := ⟨L, n, j0⟩) hi] at e
      simp only at e
      have hg : L[i]? = some (L.getD i ltr0) := by
        rw [List.getD_eq_getElem?_getD, List.getElem?_eq_getElem hi]
        rfl
      rcases h.2.1 with ⟨e1, e2⟩ | ⟨b, o, rfl⟩
      · obtain ⟨b, o, e3, -⟩ := h.1 i hi
        rw [e1] at e3
        cases e3
      · exact rncopy_yes M L b o cap q n j0 i _ w h hq0 hg h64 (hid e)
end Go.Proofs.Ytflamedbeagjlaa
namespace Go.Proofs.Ytflamedbeagjlaa
set_option linter.unusedVariables false
set_option linter.unusedSimpArgs false
open Go.RowKit Go.Joins

/-- What is known of a net v that stands in the blocks of S and holds x. -/
structure NtC (NH : World → (Nat → Prop) → Value → Nts → Prop) : Prop where
  up : ∀ {w w' : World} {S T : Nat → Prop} {v : Value} {x : Nts}, NH w S v x → OnS T w w' → (∀ b, S b → ¬ T b) → NH w' S v x
  lt : ∀ {w : World} {S : Nat → Prop} {v : Value} {x : Nts}, NH w S v x → ∀ b, S b → b < w.heap.size
  few : ∀ {w : World} {S : Nat → Prop} {v : Value} {x : Nts}, NH w S v x → x.all.length ≤ 256
  new : ∀ w, Calls Try.prog 20 #[] w fun e w' => ∃ v S, e = .returned v ∧ NH w' S v nt0 ∧ (∀ b, S b → w.heap.size ≤ b) ∧ Below w.heap.size w w'
  send : ∀ {w : World} {S : Nat → Prop} {v : Value} {x : Nts} (f t : Int) (s : List UInt8) {y : Nts} {ok : Bool}, NH w S v x → x.next ≤ 1000000 ∧ x.lost ≤ 1000000 → Hid (ntSend x f t s = (y, ok)) →
    Calls Try.prog 25 #[v, .int .i64 f, .int .i64 t, .string (bs s)] w fun e w' => ∃ S', e = .returned (.bool ok) ∧ NH w' S' v y ∧ OnS S w w' ∧ ∀ b, S' b → S b ∨ w.heap.size ≤ b
  take : ∀ {w : World} {S : Nat → Prop} {v : Value} {x : Nts} (k : Int) {y : Nts} {l : Ltr} {ok : Bool}, NH w S v x → Hid (ntTake x k = (y, l, ok)) →
    Calls Try.prog 26 #[v, .int .i64 k] w fun e w' => ∃ S', e = .returned (.tuple #[.agg #[.int .i64 l.no, .int .i64 l.frm, .int .i64 l.to_, .string (bs l.bytes)], .bool ok]) ∧ NH w' S' v y ∧ OnS S w w' ∧ ∀ b, S' b → S b ∨ w.heap.size ≤ b
  lose : ∀ {w : World} {S : Nat → Prop} {v : Value} {x : Nts} (k : Int) {y : Nts} {ok : Bool}, NH w S v x → x.next ≤ 1000000 ∧ x.lost ≤ 1000000 → Hid (ntLose x k = (y, ok)) →
    Calls Try.prog 27 #[v, .int .i64 k] w fun e w' => ∃ S', e = .returned (.bool ok) ∧ NH w' S' v y ∧ OnS S w w' ∧ ∀ b, S' b → S b ∨ w.heap.size ≤ b
  copy : ∀ {w : World} {S : Nat → Prop} {v : Value} {x : Nts} (k : Int) {y : Nts} {ok : Bool}, NH w S v x → x.next ≤ 1000000 ∧ x.lost ≤ 1000000 → Hid (ntCopy x k = (y, ok)) →
    Calls Try.prog 28 #[v, .int .i64 k] w fun e w' => ∃ S', e = .returned (.bool ok) ∧ NH w' S' v y ∧ OnS S w w' ∧ ∀ b, S' b → S b ∨ w.heap.size ≤ b
  all : ∀ {w : World} {S : Nat → Prop} {v : Value} {x : Nts}, NH w S v x →
    Calls Try.prog 24 #[v] w fun e w' => ∃ y, e = .returned y ∧ GB encLt 4 73 w' w.heap.size y x.all ∧ Below w.heap.size w w'
  lost : ∀ {w : World} {S : Nat → Prop} {v : Value} {x : Nts}, NH w S v x → x.next ≤ 1000000 ∧ x.lost ≤ 1000000 →
    Calls Try.prog 22 #[v] w fun e w' => e = .returned (.int .i64 (x.lost : Int)) ∧ Below w.heap.size w w'
/-- What the law's play answers: the definition's letters apart from the net's. -/
def PlR (NH : World → (Nat → Prop) → Value → Nts → Prop) (w : World) (S M : Nat → Prop) (v : Value) (y : Nts) (e : Ending) (w' : World) : Prop := ∃ (A : Option Addr) (c m nx lo : Nat) (S' : Nat → Prop), e = .returned (.tuple #[.agg #[.slice A m c, .int .i64 (nx : Int), .int .i64 (lo : Int)], .bool true]) ∧ y.all.length = m ∧ (y.next = nx ∧ y.lost = lo) ∧
  RnV w' (In (fun b => (M b ∨ w.heap.size ≤ b) ∧ ¬ S' b) w') y.all A c ∧ NH w' S' v y ∧ OnS S w w' ∧ ∀ b, S' b → S b ∨ w.heap.size ≤ b
variable {NH : World → (Nat → Prop) → Value → Nts → Prop}
theorem plfin (C : NtC NH) {w v0 v2 v3 : World} {S S' M N : Nat → Prop} {v : Value} {y : Nts} {A1 : Option Addr} {c1 m1 nx1 lo1 z : Nat} (hb : Below w.heap.size w v0) (hb1 : Below v0.heap.size v0 v2) (hz : w.heap.size ≤ z ∧ z < v0.heap.size)
    (hS : ∀ b, S b → b < w.heap.size) (hM : (∀ b, M b → ¬ S b) ∧ ∀ b, M b → b < w.heap.size) (hm : y.all.length = m1) (hn : y.next = nx1 ∧ y.lost = lo1) (hv : RnV v2 (In N v2) y.all A1 c1) (hN : ∀ b, N b → M b ∨ v0.heap.size ≤ b)
    (hN3 : NH v3 S' v y) (ho3 : OnS S v2 v3) (hS3 : ∀ b, S' b → S b ∨ v2.heap.size ≤ b) (a b c : Value) :
    PlR NH w S M v y (.returned (.tuple #[.agg #[.slice A1 m1 c1, .int .i64 (nx1 : Int), .int .i64 (lo1 : Int)], .bool true])) (((v3.setCell ⟨z, 0, none⟩ a).setCell ⟨z, 1, none⟩ b).setCell ⟨z, 2, none⟩ c) := by
  have hs1 := hb1.size
  have hz1 : OnS (fun b => b = z) v3 (((v3.setCell ⟨z, 0, none⟩ a).setCell ⟨z, 1, none⟩ b).setCell ⟨z, 2, none⟩ c) := (((OnS.refl (fun b => b = z) v3).cell z 0 a rfl).cell z 1 b rfl).cell z 2 c rfl
  have hzS : ∀ b, S b → b ≠ z := fun b h e => by have := hS b h; omega
  have hz2 : ∀ b, S' b → ¬ b = z := fun b h e => by
    rcases hS3 b h with h1 | h1
    · exact hzS b h1 e
    · omega
  have hoW : OnS (fun b => S b ∨ b = z) v2 (((v3.setCell ⟨z, 0, none⟩ a).setCell ⟨z, 1, none⟩ b).setCell ⟨z, 2, none⟩ c) := (ho3.imp fun b _ h => Or.inl h).trans (hz1.imp fun b _ h => Or.inr h)
  refine ⟨A1, c1, m1, nx1, lo1, S', rfl, hm, hn, ?_, C.up hN3 hz1 hz2, ?_, fun b h => ?_⟩
  · refine (hv.same fun b hB => hoW.block b hB.1 fun h => ?_).imp fun b hB => ⟨Nat.lt_of_lt_of_le hB.1 hoW.size, ?_, fun h => ?_⟩
    · rcases hN b hB.2 with h1 | h1
      · rcases h with h | h
        · exact hM.1 b h1 h
        · have := hM.2 b h1; omega
      · rcases h with h | h
        · have := hS b h; have := hb.size; omega
        · omega
    · rcases hN b hB.2 with h1 | h1
      · exact Or.inl h1
      · exact Or.inr (by have := hb.size; omega)
    · rcases hS3 b h with h2 | h2
      · rcases hN b hB.2 with h1 | h1
        · exact hM.1 b h1 h2
        · have := hS b h2; have := hb.size; omega
      · have := hB.1; omega
  · have h0 : OnS (fun b => S b ∨ b = z) w v2 := OnS.below (estep hb hb1)
    exact (h0.trans hoW).imp fun b hB h => by
      rcases h with h | h
      · exact h
      · omega
  · rcases hS3 b h with h2 | h2
    · exact Or.inl h2
    · exact Or.inr (by have := hb.size; omega)
theorem PlR.drew {w w' : World} {S M : Nat → Prop} {v : Value} {y : Nts} {e : Ending} (C : NtC NH) (h : PlR NH w S M v y e w') : PlR NH w S M v y e w'.drew := by
  obtain ⟨A, c, m, nx, lo, S', e1, h1, h2, h3, h4, h5, h6⟩ := h
  exact ⟨A, c, m, nx, lo, S', e1, h1, h2, h3, C.up h4 ((OnS.refl (fun _ => False) _).drew) (fun b _ h => h), h5.drew, h6⟩
theorem plkeep {S : Nat → Prop} {v0 w' : World} {g p : Nat} {a b c d e f g' : Value} (ho : OnS S v0 w') (hx : v0.cell? ⟨g, 0, none⟩ = some a ∧ v0.cell? ⟨g, 1, none⟩ = some b ∧ v0.cell? ⟨g, 2, none⟩ = some c)
    (hl : v0.cell? ⟨p, 1, none⟩ = some d ∧ v0.cell? ⟨p, 2, none⟩ = some e ∧ v0.cell? ⟨p, 3, none⟩ = some f ∧ v0.cell? ⟨p, 4, none⟩ = some g') (hg : g < v0.heap.size) (hp : p < v0.heap.size) (hgS : ¬ S g) (hpS : ¬ S p) :
    w'.cell? ⟨g, 0, none⟩ = some a ∧ w'.cell? ⟨g, 1, none⟩ = some b ∧ w'.cell? ⟨g, 2, none⟩ = some c ∧ w'.cell? ⟨p, 1, none⟩ = some d ∧ w'.cell? ⟨p, 2, none⟩ = some e ∧ w'.cell? ⟨p, 3, none⟩ = some f ∧ w'.cell? ⟨p, 4, none⟩ = some g' := by
  have e1 := ho.block g hg hgS
  have e2 := ho.block p hp hpS
  simp only [World.cell?, e1, e2] at hx hl ⊢
  exact ⟨hx.1, hx.2.1, hx.2.2, hl.1, hl.2.1, hl.2.2.1, hl.2.2.2⟩
set_option maxRecDepth 100000 in
set_option maxHeartbeats 8000000 in
theorem play_send (C : NtC NH) (M S : Nat → Prop) (v : Value) (x : Nts) (A : Option Addr) (cap q nx lo : Nat) (m : Mv28) (w : World) (hN : NH w S v x) (hx : RnV w (In M w) x.all A cap) (hM : ∀ b, M b → ¬ S b) (hMw : ∀ b, M b → b < w.heap.size) (hq : Hid (x.all.length = q ∧ x.next = nx ∧ x.lost = lo)) (h64 : nx ≤ 1000000 ∧ lo ≤ 1000000) (hk : m.kind = 0) {y : Nts} {ok : Bool} (H : Hid (ntSend x m.frm m.to_ m.bytes = (y, ok))) :
    Calls Try.prog 21 #[v, .agg #[.slice A q cap, .int .i64 (nx : Int), .int .i64 (lo : Int)], .agg #[.int .i64 m.kind, .int .i64 m.frm, .int .i64 m.to_, .string (bs m.bytes), .int .i64 m.k]] w fun e w' => PlR NH w S M v y e w' := by
  have hb1 := enew w (.cells #[.slice A q cap, .int .i64 (nx : Int), .int .i64 (lo : Int)] 62)
  have hb2 := enew (w.alloc (.cells #[.slice A q cap, .int .i64 (nx : Int), .int .i64 (lo : Int)] 62)) (.cells #[.int .i64 m.kind, .int .i64 m.frm, .int .i64 m.to_, .string (bs m.bytes), .int .i64 m.k] 64)
  have hb3 := enew ((w.alloc (.cells #[.slice A q cap, .int .i64 (nx : Int), .int .i64 (lo : Int)] 62)).alloc (.cells #[.int .i64 m.kind, .int .i64 m.frm, .int .i64 m.to_, .string (bs m.bytes), .int .i64 m.k] 64)) (.cells #[.slice none 0 0, .int .i64 0, .int .i64 0] 62)
  have KX := hid (((Bk.new w 62 #[.slice A q cap, .int .i64 (nx : Int), .int .i64 (lo : Int)]).up hb2).up hb3)
  have km := (Bk.new (w.alloc (.cells #[.slice A q cap, .int .i64 (nx : Int), .int .i64 (lo : Int)] 62)) 64 #[.int .i64 m.kind, .int .i64 m.frm, .int .i64 m.to_, .string (bs m.bytes), .int .i64 m.k]).up hb3
  have kz := Bk.new ((w.alloc (.cells #[.slice A q cap, .int .i64 (nx : Int), .int .i64 (lo : Int)] 62)).alloc (.cells #[.int .i64 m.kind, .int .i64 m.frm, .int .i64 m.to_, .string (bs m.bytes), .int .i64 m.k] 64)) 62 #[.slice none 0 0, .int .i64 0, .int .i64 0]
  simp only [World.size_alloc] at km kz
  have KM := hid km
  have KZ := hid kz
  have HBb := hid (estep (estep hb1 hb2) hb3)
  have hsz : (((w.alloc (.cells #[.slice A q cap, .int .i64 (nx : Int), .int .i64 (lo : Int)] 62)).alloc (.cells #[.int .i64 m.kind, .int .i64 m.frm, .int .i64 m.to_, .string (bs m.bytes), .int .i64 m.k] 64)).alloc (.cells #[.slice none 0 0, .int .i64 0, .int .i64 0] 62)).heap.size = w.heap.size + 1 + 1 + 1 := by simp
  have HN := hid (C.up hN (OnS.below (S := fun _ => False) HBb.out) (fun b _ h => h))
  have HLT := hid (C.lt hN)
  have hq9 : q ≤ 1000 := by have := C.few hN; have := hq.out.1; omega
  have HV := hid (show RnV (((w.alloc (.cells #[.slice A q cap, .int .i64 (nx : Int), .int .i64 (lo : Int)] 62)).alloc (.cells #[.int .i64 m.kind, .int .i64 m.frm, .int .i64 m.to_, .string (bs m.bytes), .int .i64 m.k] 64)).alloc (.cells #[.slice none 0 0, .int .i64 0, .int .i64 0] 62)) (In M (((w.alloc (.cells #[.slice A q cap, .int .i64 (nx : Int), .int .i64 (lo : Int)] 62)).alloc (.cells #[.int .i64 m.kind, .int .i64 m.frm, .int .i64 m.to_, .string (bs m.bytes), .int .i64 m.k] 64)).alloc (.cells #[.slice none 0 0, .int .i64 0, .int .i64 0] 62))) x.all A cap from (hx.same fun b hb => HBb.out.block b hb.1).imp fun b hb => ⟨Nat.lt_of_lt_of_le hb.1 HBb.out.size, hb.2⟩)
  have HM := hid (And.intro hM (fun b hb => (show b < w.heap.size from hMw b hb)))
  clear hb1 hb2 hb3 km kz hx hN hM hMw
  have HC := hid (rnsend_any M x A cap q nx lo m.frm m.to_ m.bytes (((w.alloc (.cells #[.slice A q cap, .int .i64 (nx : Int), .int .i64 (lo : Int)] 62)).alloc (.cells #[.int .i64 m.kind, .int .i64 m.frm, .int .i64 m.to_, .string (bs m.bytes), .int .i64 m.k] 64)).alloc (.cells #[.slice none 0 0, .int .i64 0, .int .i64 0] 62)) HV.out hq h64 H)
  have HQ2 := hid (show x.next ≤ 1000000 ∧ x.lost ≤ 1000000 from by have := hq.out; omega)
  have hd0 : decide (m.kind = 0) = true := decide_eq_true (by omega)
  have he0 : (m.kind == 0) = true := by simp; omega
  clear HV hk
  go_enter Try.func21, Try.ntmps21
  go_upto_region 1 with (fail)
  generalize (((w.alloc (.cells #[.slice A q cap, .int .i64 (nx : Int), .int .i64 (lo : Int)] 62)).alloc (.cells #[.int .i64 m.kind, .int .i64 m.frm, .int .i64 m.to_, .string (bs m.bytes), .int .i64 m.k] 64)).alloc (.cells #[.slice none 0 0, .int .i64 0, .int .i64 0] 62)) = v0 at *
  have x0 := Bk.cell KX.out 0
  have x1 := Bk.cell KX.out 1
  have x2 := Bk.cell KX.out 2
  have a0 := Bk.cell KM.out 0
  have a1 := Bk.cell KM.out 1
  have a2 := Bk.cell KM.out 2
  have a3 := Bk.cell KM.out 3
  have a4 := Bk.cell KM.out 4
  go_wp2_with fail
  refine HC.out.mono ?_
  rintro e w1 ⟨A1, c1, m1, nx1, lo1, rfl, hm, ⟨hn1, hl1⟩, hv, hb⟩
  have hb4 := enew w1 (.cells #[.slice A1 m1 c1, .int .i64 (nx1 : Int), .int .i64 (lo1 : Int)] 62)
  have KM1 := hid ((KM.out.up hb).up hb4)
  have KZ1 := hid ((KZ.out.up hb).up hb4)
  have KR1 := hid (Bk.new w1 62 #[.slice A1 m1 c1, .int .i64 (nx1 : Int), .int .i64 (lo1 : Int)])
  have HB1 := hid (estep hb hb4)
  have HV1 := hid (And.intro hm (And.intro hn1 (And.intro hl1 (hv.inup hb4))))
  have HN1 := hid (C.up HN.out (OnS.below (S := fun _ => False) HB1.out) (fun b _ h => h))
  have HSZ := hid (And.intro hb.size (show w1.heap.size < (w1.alloc (.cells #[.slice A1 m1 c1, .int .i64 (nx1 : Int), .int .i64 (lo1 : Int)] 62)).heap.size by simp))
  clear hm hn1 hl1 hv hb hb4 x0 x1 x2 a0 a1 a2 a3 a4
  go_upto_region 4 with (fail)
  generalize w1.alloc (.cells #[.slice A1 m1 c1, .int .i64 (nx1 : Int), .int .i64 (lo1 : Int)] 62) = v2 at *
  have HC2 := hid (fun (w2 : World) (ho : Below v2.heap.size v2 w2) => C.send m.frm m.to_ m.bytes (C.up HN1.out (OnS.below (S := fun _ => False) ho) (fun b _ h => h)) HQ2.out H)
  have r0 := Bk.cell KR1.out 0
  have r1 := Bk.cell KR1.out 1
  have r2 := Bk.cell KR1.out 2
  have a0 := Bk.cell KM1.out 0
  have a1 := Bk.cell KM1.out 1
  have a2 := Bk.cell KM1.out 2
  have a3 := Bk.cell KM1.out 3
  have a4 := Bk.cell KM1.out 4
  have z0 := Bk.cell KZ1.out 0
  have z1 := Bk.cell KZ1.out 1
  have z2 := Bk.cell KZ1.out 2
  have u0 := Bk.frozen KZ1.out 0
  have u1 := Bk.frozen KZ1.out 1
  have u2 := Bk.frozen KZ1.out 2
  have ho0 : OnS (fun b => S b ∨ b = w.heap.size + 1 + 1) v2 v2.drew := (OnS.refl _ _).drew
  have hz0 : Below v2.heap.size v2 v2.drew := (Below.refl _ _).drew
  have HS : Hid (∀ w' : World, OnS (fun b => S b ∨ b = w.heap.size + 1 + 1) v2 w' → w'.cell? ⟨w1.heap.size, 0, none⟩ = some (.slice A1 m1 c1) ∧ w'.cell? ⟨w1.heap.size, 1, none⟩ = some (.int .i64 (nx1 : Int)) ∧ w'.cell? ⟨w1.heap.size, 2, none⟩ = some (.int .i64 (lo1 : Int)) ∧ w'.cell? ⟨w.heap.size + 1, 1, none⟩ = some (.int .i64 m.frm) ∧ w'.cell? ⟨w.heap.size + 1, 2, none⟩ = some (.int .i64 m.to_) ∧ w'.cell? ⟨w.heap.size + 1, 3, none⟩ = some (.string (bs m.bytes)) ∧ w'.cell? ⟨w.heap.size + 1, 4, none⟩ = some (.int .i64 m.k)) := hid (fun (w' : World) (ho : OnS (fun b => S b ∨ b = w.heap.size + 1 + 1) v2 w') => plkeep ho (And.intro r0 (And.intro r1 r2)) (And.intro a1 (And.intro a2 (And.intro a3 a4))) HSZ.out.2 (Bk.lt KM1.out) (fun h => by
    have h9 := HSZ.out.1
    rcases h with h | h
    · have := HLT.out _ h; omega
    · omega) (fun h => by
    rcases h with h | h
    · have := HLT.out _ h; omega
    · omega))
  go_region_held3 (fun w' => w'.cell? ⟨w1.heap.size, 0, none⟩ = some (.slice A1 m1 c1) ∧ w'.cell? ⟨w1.heap.size, 1, none⟩ = some (.int .i64 (nx1 : Int)) ∧ w'.cell? ⟨w1.heap.size, 2, none⟩ = some (.int .i64 (lo1 : Int)) ∧ w'.cell? ⟨w.heap.size + 1, 1, none⟩ = some (.int .i64 m.frm) ∧ w'.cell? ⟨w.heap.size + 1, 2, none⟩ = some (.int .i64 m.to_) ∧ w'.cell? ⟨w.heap.size + 1, 3, none⟩ = some (.string (bs m.bytes)) ∧ w'.cell? ⟨w.heap.size + 1, 4, none⟩ = some (.int .i64 m.k)) (first | (with_reducible exact HS.out _ ho0) | (with_reducible exact HS.out _ ho1) | (with_reducible exact HS.out _ (ho1.cell _ 0 _ (Or.inr rfl))) | (with_reducible exact HS.out _ ((ho1.cell _ 0 _ (Or.inr rfl)).cell _ 1 _ (Or.inr rfl))) | (with_reducible exact HS.out _ (((ho1.cell _ 0 _ (Or.inr rfl)).cell _ 1 _ (Or.inr rfl)).cell _ 2 _ (Or.inr rfl)))) (first
    | (go_at_call 25
       ((with_reducible refine (HC2.out _ hz0).mono ?_); rintro e w3 ⟨S', rfl, hN3, ho3, hS3⟩)
       have ho1 := ho0.trans (ho3.imp fun b _ h => Or.inl h)
       have kz1 := KZ1.out.onS (((OnS.refl S _).drew).trans ho3) (fun h => by have := HLT.out _ h; omega)
       clear z0 z1 z2 u0 u1 u2
       have p0 := Bk.cell kz1 0
       have p1 := Bk.cell kz1 1
       have p2 := Bk.cell kz1 2
       have q0 := Bk.frozen kz1 0
       have q1 := Bk.frozen kz1 1
       have q2 := Bk.frozen kz1 2))
  have HE := hid (And.intro hN3 (And.intro ho3 hS3))
  have K3 := hid (ntset3 kz1 (.slice A1 m1 c1) (.int .i64 (nx1 : Int)) (.int .i64 (lo1 : Int)))
  have d0 := Bk.cell K3.out 0
  have d1 := Bk.cell K3.out 1
  have d2 := Bk.cell K3.out 2
  clear p0 p1 p2 q0 q1 q2 hN3 hS3 r0 r1 r2 a0 a1 a2 a3 a4
  go_wp2_with fail
  (try simp only [Exit.inBlock, Exit.then])
  refine bodyPost_ret (v := .tuple #[.agg #[.slice A1 m1 c1, .int .i64 (nx1 : Int), .int .i64 (lo1 : Int)], .bool true]) (by simp [results, Try.results21, go_sem, d0, d1, d2]) rfl ?_
  obtain ⟨hN3, ho3, hS3⟩ := HE.out
  obtain ⟨hm, hn1, hl1, hv⟩ := HV1.out
  exact plfin C HBb.out HB1.out ⟨by omega, by omega⟩ HLT.out HM.out hm ⟨hn1, hl1⟩ hv (fun b h => by
    rcases h with h | h
    · exact Or.inl h.1
    · exact Or.inr h) hN3 (((OnS.refl S _).drew).trans ho3) hS3 _ _ _
set_option maxRecDepth 100000 in
set_option maxHeartbeats 8000000 in
theorem play_lose (C : NtC NH) (M S : Nat → Prop) (v : Value) (x : Nts) (A : Option Addr) (cap q nx lo : Nat) (m : Mv28) (w : World) (hN : NH w S v x) (hx : RnV w (In M w) x.all A cap) (hM : ∀ b, M b → ¬ S b) (hMw : ∀ b, M b → b < w.heap.size) (hq : Hid (x.all.length = q ∧ x.next = nx ∧ x.lost = lo)) (h64 : nx ≤ 1000000 ∧ lo ≤ 1000000) (hk : m.kind = 2) {y : Nts} {ok : Bool} (H : Hid (ntLose x m.k = (y, ok))) :
    Calls Try.prog 21 #[v, .agg #[.slice A q cap, .int .i64 (nx : Int), .int .i64 (lo : Int)], .agg #[.int .i64 m.kind, .int .i64 m.frm, .int .i64 m.to_, .string (bs m.bytes), .int .i64 m.k]] w fun e w' => PlR NH w S M v y e w' := by
  have hb1 := enew w (.cells #[.slice A q cap, .int .i64 (nx : Int), .int .i64 (lo : Int)] 62)
  have hb2 := enew (w.alloc (.cells #[.slice A q cap, .int .i64 (nx : Int), .int .i64 (lo : Int)] 62)) (.cells #[.int .i64 m.kind, .int .i64 m.frm, .int .i64 m.to_, .string (bs m.bytes), .int .i64 m.k] 64)
  have hb3 := enew ((w.alloc (.cells #[.slice A q cap, .int .i64 (nx : Int), .int .i64 (lo : Int)] 62)).alloc (.cells #[.int .i64 m.kind, .int .i64 m.frm, .int .i64 m.to_, .string (bs m.bytes), .int .i64 m.k] 64)) (.cells #[.slice none 0 0, .int .i64 0, .int .i64 0] 62)
  have KX := hid (((Bk.new w 62 #[.slice A q cap, .int .i64 (nx : Int), .int .i64 (lo : Int)]).up hb2).up hb3)
  have km := (Bk.new (w.alloc (.cells #[.slice A q cap, .int .i64 (nx : Int), .int .i64 (lo : Int)] 62)) 64 #[.int .i64 m.kind, .int .i64 m.frm, .int .i64 m.to_, .string (bs m.bytes), .int .i64 m.k]).up hb3
  have kz := Bk.new ((w.alloc (.cells #[.slice A q cap, .int .i64 (nx : Int), .int .i64 (lo : Int)] 62)).alloc (.cells #[.int .i64 m.kind, .int .i64 m.frm, .int .i64 m.to_, .string (bs m.bytes), .int .i64 m.k] 64)) 62 #[.slice none 0 0, .int .i64 0, .int .i64 0]
  simp only [World.size_alloc] at km kz
  have KM := hid km
  have KZ := hid kz
  have HBb := hid (estep (estep hb1 hb2) hb3)
  have hsz : (((w.alloc (.cells #[.slice A q cap, .int .i64 (nx : Int), .int .i64 (lo : Int)] 62)).alloc (.cells #[.int .i64 m.kind, .int .i64 m.frm, .int .i64 m.to_, .string (bs m.bytes), .int .i64 m.k] 64)).alloc (.cells #[.slice none 0 0, .int .i64 0, .int .i64 0] 62)).heap.size = w.heap.size + 1 + 1 + 1 := by simp
  have HN := hid (C.up hN (OnS.below (S := fun _ => False) HBb.out) (fun b _ h => h))
  have HLT := hid (C.lt hN)
  have hq9 : q ≤ 1000 := by have := C.few hN; have := hq.out.1; omega
  have HV := hid (show RnV (((w.alloc (.cells #[.slice A q cap, .int .i64 (nx : Int), .int .i64 (lo : Int)] 62)).alloc (.cells #[.int .i64 m.kind, .int .i64 m.frm, .int .i64 m.to_, .string (bs m.bytes), .int .i64 m.k] 64)).alloc (.cells #[.slice none 0 0, .int .i64 0, .int .i64 0] 62)) (In M (((w.alloc (.cells #[.slice A q cap, .int .i64 (nx : Int), .int .i64 (lo : Int)] 62)).alloc (.cells #[.int .i64 m.kind, .int .i64 m.frm, .int .i64 m.to_, .string (bs m.bytes), .int .i64 m.k] 64)).alloc (.cells #[.slice none 0 0, .int .i64 0, .int .i64 0] 62))) x.all A cap from (hx.same fun b hb => HBb.out.block b hb.1).imp fun b hb => ⟨Nat.lt_of_lt_of_le hb.1 HBb.out.size, hb.2⟩)
  have HM := hid (And.intro hM (fun b hb => (show b < w.heap.size from hMw b hb)))
  clear hb1 hb2 hb3 km kz hx hN hM hMw
  have HC := hid (rnlose_any M x A cap q nx lo m.k (((w.alloc (.cells #[.slice A q cap, .int .i64 (nx : Int), .int .i64 (lo : Int)] 62)).alloc (.cells #[.int .i64 m.kind, .int .i64 m.frm, .int .i64 m.to_, .string (bs m.bytes), .int .i64 m.k] 64)).alloc (.cells #[.slice none 0 0, .int .i64 0, .int .i64 0] 62)) HV.out hq hq9 (by omega) H)
  have HQ2 := hid (show x.next ≤ 1000000 ∧ x.lost ≤ 1000000 from by have := hq.out; omega)
  have hd0 : decide (m.kind = 0) = false := decide_eq_false (by omega)
  have he0 : (m.kind == 0) = false := by simp; omega
  have hd1 : decide (m.kind = 1) = false := decide_eq_false (by omega)
  have he1 : (m.kind == 1) = false := by simp; omega
  have hd2 : decide (m.kind = 2) = true := decide_eq_true (by omega)
  have he2 : (m.kind == 2) = true := by simp; omega
  clear HV hk
  go_enter Try.func21, Try.ntmps21
  go_upto_region 1 with (fail)
  generalize (((w.alloc (.cells #[.slice A q cap, .int .i64 (nx : Int), .int .i64 (lo : Int)] 62)).alloc (.cells #[.int .i64 m.kind, .int .i64 m.frm, .int .i64 m.to_, .string (bs m.bytes), .int .i64 m.k] 64)).alloc (.cells #[.slice none 0 0, .int .i64 0, .int .i64 0] 62)) = v0 at *
  have x0 := Bk.cell KX.out 0
  have x1 := Bk.cell KX.out 1
  have x2 := Bk.cell KX.out 2
  have a0 := Bk.cell KM.out 0
  have a1 := Bk.cell KM.out 1
  have a2 := Bk.cell KM.out 2
  have a3 := Bk.cell KM.out 3
  have a4 := Bk.cell KM.out 4
  go_wp2_with fail
  refine HC.out.mono ?_
  rintro e w1 ⟨A1, c1, m1, nx1, lo1, rfl, hm, ⟨hn1, hl1⟩, hv, hb⟩
  have hb4 := enew w1 (.cells #[.slice A1 m1 c1, .int .i64 (nx1 : Int), .int .i64 (lo1 : Int)] 62)
  have KM1 := hid ((KM.out.up hb).up hb4)
  have KZ1 := hid ((KZ.out.up hb).up hb4)
  have KR1 := hid (Bk.new w1 62 #[.slice A1 m1 c1, .int .i64 (nx1 : Int), .int .i64 (lo1 : Int)])
  have HB1 := hid (estep hb hb4)
  have HV1 := hid (And.intro hm (And.intro hn1 (And.intro hl1 (hv.inup hb4))))
  have HN1 := hid (C.up HN.out (OnS.below (S := fun _ => False) HB1.out) (fun b _ h => h))
  have HSZ := hid (And.intro hb.size (show w1.heap.size < (w1.alloc (.cells #[.slice A1 m1 c1, .int .i64 (nx1 : Int), .int .i64 (lo1 : Int)] 62)).heap.size by simp))
  clear hm hn1 hl1 hv hb hb4 x0 x1 x2 a0 a1 a2 a3 a4
  go_upto_region 11 with (fail)
  generalize w1.alloc (.cells #[.slice A1 m1 c1, .int .i64 (nx1 : Int), .int .i64 (lo1 : Int)] 62) = v2 at *
  have HC2 := hid (fun (w2 : World) (ho : Below v2.heap.size v2 w2) => C.lose m.k (C.up HN1.out (OnS.below (S := fun _ => False) ho) (fun b _ h => h)) HQ2.out H)
  have r0 := Bk.cell KR1.out 0
  have r1 := Bk.cell KR1.out 1
  have r2 := Bk.cell KR1.out 2
  have a0 := Bk.cell KM1.out 0
  have a1 := Bk.cell KM1.out 1
  have a2 := Bk.cell KM1.out 2
  have a3 := Bk.cell KM1.out 3
  have a4 := Bk.cell KM1.out 4
  have z0 := Bk.cell KZ1.out 0
  have z1 := Bk.cell KZ1.out 1
  have z2 := Bk.cell KZ1.out 2
  have u0 := Bk.frozen KZ1.out 0
  have u1 := Bk.frozen KZ1.out 1
  have u2 := Bk.frozen KZ1.out 2
  have ho0 : OnS (fun b => S b ∨ b = w.heap.size + 1 + 1) v2 v2.drew := (OnS.refl _ _).drew
  have hz0 : Below v2.heap.size v2 v2.drew := (Below.refl _ _).drew
  have HS : Hid (∀ w' : World, OnS (fun b => S b ∨ b = w.heap.size + 1 + 1) v2 w' → w'.cell? ⟨w1.heap.size, 0, none⟩ = some (.slice A1 m1 c1) ∧ w'.cell? ⟨w1.heap.size, 1, none⟩ = some (.int .i64 (nx1 : Int)) ∧ w'.cell? ⟨w1.heap.size, 2, none⟩ = some (.int .i64 (lo1 : Int)) ∧ w'.cell? ⟨w.heap.size + 1, 1, none⟩ = some (.int .i64 m.frm) ∧ w'.cell? ⟨w.heap.size + 1, 2, none⟩ = some (.int .i64 m.to_) ∧ w'.cell? ⟨w.heap.size + 1, 3, none⟩ = some (.string (bs m.bytes)) ∧ w'.cell? ⟨w.heap.size + 1, 4, none⟩ = some (.int .i64 m.k)) := hid (fun (w' : World) (ho : OnS (fun b => S b ∨ b = w.heap.size + 1 + 1) v2 w') => plkeep ho (And.intro r0 (And.intro r1 r2)) (And.intro a1 (And.intro a2 (And.intro a3 a4))) HSZ.out.2 (Bk.lt KM1.out) (fun h => by
    have h9 := HSZ.out.1
    rcases h with h | h
    · have := HLT.out _ h; omega
    · omega) (fun h => by
    rcases h with h | h
    · have := HLT.out _ h; omega
    · omega))
  go_region_held3 (fun w' => w'.cell? ⟨w1.heap.size, 0, none⟩ = some (.slice A1 m1 c1) ∧ w'.cell? ⟨w1.heap.size, 1, none⟩ = some (.int .i64 (nx1 : Int)) ∧ w'.cell? ⟨w1.heap.size, 2, none⟩ = some (.int .i64 (lo1 : Int)) ∧ w'.cell? ⟨w.heap.size + 1, 1, none⟩ = some (.int .i64 m.frm) ∧ w'.cell? ⟨w.heap.size + 1, 2, none⟩ = some (.int .i64 m.to_) ∧ w'.cell? ⟨w.heap.size + 1, 3, none⟩ = some (.string (bs m.bytes)) ∧ w'.cell? ⟨w.heap.size + 1, 4, none⟩ = some (.int .i64 m.k)) (first | (with_reducible exact HS.out _ ho0) | (with_reducible exact HS.out _ ho1) | (with_reducible exact HS.out _ (ho1.cell _ 0 _ (Or.inr rfl))) | (with_reducible exact HS.out _ ((ho1.cell _ 0 _ (Or.inr rfl)).cell _ 1 _ (Or.inr rfl))) | (with_reducible exact HS.out _ (((ho1.cell _ 0 _ (Or.inr rfl)).cell _ 1 _ (Or.inr rfl)).cell _ 2 _ (Or.inr rfl)))) (first
    | (go_at_call 27
       ((with_reducible refine (HC2.out _ hz0).mono ?_); rintro e w3 ⟨S', rfl, hN3, ho3, hS3⟩)
       have ho1 := ho0.trans (ho3.imp fun b _ h => Or.inl h)
       have kz1 := KZ1.out.onS (((OnS.refl S _).drew).trans ho3) (fun h => by have := HLT.out _ h; omega)
       clear z0 z1 z2 u0 u1 u2
       have p0 := Bk.cell kz1 0
       have p1 := Bk.cell kz1 1
       have p2 := Bk.cell kz1 2
       have q0 := Bk.frozen kz1 0
       have q1 := Bk.frozen kz1 1
       have q2 := Bk.frozen kz1 2))
  have HE := hid (And.intro hN3 (And.intro ho3 hS3))
  have K3 := hid (ntset3 kz1 (.slice A1 m1 c1) (.int .i64 (nx1 : Int)) (.int .i64 (lo1 : Int)))
  have d0 := Bk.cell K3.out 0
  have d1 := Bk.cell K3.out 1
  have d2 := Bk.cell K3.out 2
  clear p0 p1 p2 q0 q1 q2 hN3 hS3 r0 r1 r2 a0 a1 a2 a3 a4
  go_wp2_with fail
  (try simp only [Exit.inBlock, Exit.then])
  refine bodyPost_ret (v := .tuple #[.agg #[.slice A1 m1 c1, .int .i64 (nx1 : Int), .int .i64 (lo1 : Int)], .bool true]) (by simp [results, Try.results21, go_sem, d0, d1, d2]) rfl ?_
  obtain ⟨hN3, ho3, hS3⟩ := HE.out
  obtain ⟨hm, hn1, hl1, hv⟩ := HV1.out
  exact plfin C HBb.out HB1.out ⟨by omega, by omega⟩ HLT.out HM.out hm ⟨hn1, hl1⟩ hv (fun b h => by
    rcases h with h | h
    · exact Or.inl h.1
    · exact Or.inr h) hN3 (((OnS.refl S _).drew).trans ho3) hS3 _ _ _
set_option maxRecDepth 100000 in
set_option maxHeartbeats 8000000 in
theorem play_copy (C : NtC NH) (M S : Nat → Prop) (v : Value) (x : Nts) (A : Option Addr) (cap q nx lo : Nat) (m : Mv28) (w : World) (hN : NH w S v x) (hx : RnV w (In M w) x.all A cap) (hM : ∀ b, M b → ¬ S b) (hMw : ∀ b, M b → b < w.heap.size) (hq : Hid (x.all.length = q ∧ x.next = nx ∧ x.lost = lo)) (h64 : nx ≤ 1000000 ∧ lo ≤ 1000000) (hk : m.kind ≠ 0 ∧ m.kind ≠ 1 ∧ m.kind ≠ 2) {y : Nts} {ok : Bool} (H : Hid (ntCopy x m.k = (y, ok))) :
    Calls Try.prog 21 #[v, .agg #[.slice A q cap, .int .i64 (nx : Int), .int .i64 (lo : Int)], .agg #[.int .i64 m.kind, .int .i64 m.frm, .int .i64 m.to_, .string (bs m.bytes), .int .i64 m.k]] w fun e w' => PlR NH w S M v y e w' := by
  have hb1 := enew w (.cells #[.slice A q cap, .int .i64 (nx : Int), .int .i64 (lo : Int)] 62)
  have hb2 := enew (w.alloc (.cells #[.slice A q cap, .int .i64 (nx : Int), .int .i64 (lo : Int)] 62)) (.cells #[.int .i64 m.kind, .int .i64 m.frm, .int .i64 m.to_, .string (bs m.bytes), .int .i64 m.k] 64)
  have hb3 := enew ((w.alloc (.cells #[.slice A q cap, .int .i64 (nx : Int), .int .i64 (lo : Int)] 62)).alloc (.cells #[.int .i64 m.kind, .int .i64 m.frm, .int .i64 m.to_, .string (bs m.bytes), .int .i64 m.k] 64)) (.cells #[.slice none 0 0, .int .i64 0, .int .i64 0] 62)
  have KX := hid (((Bk.new w 62 #[.slice A q cap, .int .i64 (nx : Int), .int .i64 (lo : Int)]).up hb2).up hb3)
  have km := (Bk.new (w.alloc (.cells #[.slice A q cap, .int .i64 (nx : Int), .int .i64 (lo : Int)] 62)) 64 #[.int .i64 m.kind, .int .i64 m.frm, .int .i64 m.to_, .string (bs m.bytes), .int .i64 m.k]).up hb3
  have kz := Bk.new ((w.alloc (.cells #[.slice A q cap, .int .i64 (nx : Int), .int .i64 (lo : Int)] 62)).alloc (.cells #[.int .i64 m.kind, .int .i64 m.frm, .int .i64 m.to_, .string (bs m.bytes), .int .i64 m.k] 64)) 62 #[.slice none 0 0, .int .i64 0, .int .i64 0]
  simp only [World.size_alloc] at km kz
  have KM := hid km
  have KZ := hid kz
  have HBb := hid (estep (estep hb1 hb2) hb3)
  have hsz : (((w.alloc (.cells #[.slice A q cap, .int .i64 (nx : Int), .int .i64 (lo : Int)] 62)).alloc (.cells #[.int .i64 m.kind, .int .i64 m.frm, .int .i64 m.to_, .string (bs m.bytes), .int .i64 m.k] 64)).alloc (.cells #[.slice none 0 0, .int .i64 0, .int .i64 0] 62)).heap.size = w.heap.size + 1 + 1 + 1 := by simp
  have HN := hid (C.up hN (OnS.below (S := fun _ => False) HBb.out) (fun b _ h => h))
  have HLT := hid (C.lt hN)
  have hq9 : q ≤ 1000 := by have := C.few hN; have := hq.out.1; omega
  have HV := hid (show RnV (((w.alloc (.cells #[.slice A q cap, .int .i64 (nx : Int), .int .i64 (lo : Int)] 62)).alloc (.cells #[.int .i64 m.kind, .int .i64 m.frm, .int .i64 m.to_, .string (bs m.bytes), .int .i64 m.k] 64)).alloc (.cells #[.slice none 0 0, .int .i64 0, .int .i64 0] 62)) (In M (((w.alloc (.cells #[.slice A q cap, .int .i64 (nx : Int), .int .i64 (lo : Int)] 62)).alloc (.cells #[.int .i64 m.kind, .int .i64 m.frm, .int .i64 m.to_, .string (bs m.bytes), .int .i64 m.k] 64)).alloc (.cells #[.slice none 0 0, .int .i64 0, .int .i64 0] 62))) x.all A cap from (hx.same fun b hb => HBb.out.block b hb.1).imp fun b hb => ⟨Nat.lt_of_lt_of_le hb.1 HBb.out.size, hb.2⟩)
  have HM := hid (And.intro hM (fun b hb => (show b < w.heap.size from hMw b hb)))
  clear hb1 hb2 hb3 km kz hx hN hM hMw
  have HC := hid (rncopy_any M x A cap q nx lo m.k (((w.alloc (.cells #[.slice A q cap, .int .i64 (nx : Int), .int .i64 (lo : Int)] 62)).alloc (.cells #[.int .i64 m.kind, .int .i64 m.frm, .int .i64 m.to_, .string (bs m.bytes), .int .i64 m.k] 64)).alloc (.cells #[.slice none 0 0, .int .i64 0, .int .i64 0] 62)) HV.out hq h64 H)
  have HQ2 := hid (show x.next ≤ 1000000 ∧ x.lost ≤ 1000000 from by have := hq.out; omega)
  have hd0 : decide (m.kind = 0) = false := decide_eq_false (by omega)
  have he0 : (m.kind == 0) = false := by simp; omega
  have hd1 : decide (m.kind = 1) = false := decide_eq_false (by omega)
  have he1 : (m.kind == 1) = false := by simp; omega
  have hd2 : decide (m.kind = 2) = false := decide_eq_false (by omega)
  have he2 : (m.kind == 2) = false := by simp; omega
  clear HV hk
  go_enter Try.func21, Try.ntmps21
  go_upto_region 1 with (fail)
  generalize (((w.alloc (.cells #[.slice A q cap, .int .i64 (nx : Int), .int .i64 (lo : Int)] 62)).alloc (.cells #[.int .i64 m.kind, .int .i64 m.frm, .int .i64 m.to_, .string (bs m.bytes), .int .i64 m.k] 64)).alloc (.cells #[.slice none 0 0, .int .i64 0, .int .i64 0] 62)) = v0 at *
  have x0 := Bk.cell KX.out 0
  have x1 := Bk.cell KX.out 1
  have x2 := Bk.cell KX.out 2
  have a0 := Bk.cell KM.out 0
  have a1 := Bk.cell KM.out 1
  have a2 := Bk.cell KM.out 2
  have a3 := Bk.cell KM.out 3
  have a4 := Bk.cell KM.out 4
  go_wp2_with fail
  refine HC.out.mono ?_
  rintro e w1 ⟨A1, c1, m1, nx1, lo1, rfl, hm, ⟨hn1, hl1⟩, hv, hb⟩
  have hb4 := enew w1 (.cells #[.slice A1 m1 c1, .int .i64 (nx1 : Int), .int .i64 (lo1 : Int)] 62)
  have KM1 := hid ((KM.out.up hb).up hb4)
  have KZ1 := hid ((KZ.out.up hb).up hb4)
  have KR1 := hid (Bk.new w1 62 #[.slice A1 m1 c1, .int .i64 (nx1 : Int), .int .i64 (lo1 : Int)])
  have HB1 := hid (estep hb hb4)
  have HV1 := hid (And.intro hm (And.intro hn1 (And.intro hl1 (hv.inup hb4))))
  have HN1 := hid (C.up HN.out (OnS.below (S := fun _ => False) HB1.out) (fun b _ h => h))
  have HSZ := hid (And.intro hb.size (show w1.heap.size < (w1.alloc (.cells #[.slice A1 m1 c1, .int .i64 (nx1 : Int), .int .i64 (lo1 : Int)] 62)).heap.size by simp))
  clear hm hn1 hl1 hv hb hb4 x0 x1 x2 a0 a1 a2 a3 a4
  go_upto_region 13 with (fail)
  generalize w1.alloc (.cells #[.slice A1 m1 c1, .int .i64 (nx1 : Int), .int .i64 (lo1 : Int)] 62) = v2 at *
  have HC2 := hid (fun (w2 : World) (ho : Below v2.heap.size v2 w2) => C.copy m.k (C.up HN1.out (OnS.below (S := fun _ => False) ho) (fun b _ h => h)) HQ2.out H)
  have r0 := Bk.cell KR1.out 0
  have r1 := Bk.cell KR1.out 1
  have r2 := Bk.cell KR1.out 2
  have a0 := Bk.cell KM1.out 0
  have a1 := Bk.cell KM1.out 1
  have a2 := Bk.cell KM1.out 2
  have a3 := Bk.cell KM1.out 3
  have a4 := Bk.cell KM1.out 4
  have z0 := Bk.cell KZ1.out 0
  have z1 := Bk.cell KZ1.out 1
  have z2 := Bk.cell KZ1.out 2
  have u0 := Bk.frozen KZ1.out 0
  have u1 := Bk.frozen KZ1.out 1
  have u2 := Bk.frozen KZ1.out 2
  have ho0 : OnS (fun b => S b ∨ b = w.heap.size + 1 + 1) v2 v2.drew := (OnS.refl _ _).drew
  have hz0 : Below v2.heap.size v2 v2.drew := (Below.refl _ _).drew
  have HS : Hid (∀ w' : World, OnS (fun b => S b ∨ b = w.heap.size + 1 + 1) v2 w' → w'.cell? ⟨w1.heap.size, 0, none⟩ = some (.slice A1 m1 c1) ∧ w'.cell? ⟨w1.heap.size, 1, none⟩ = some (.int .i64 (nx1 : Int)) ∧ w'.cell? ⟨w1.heap.size, 2, none⟩ = some (.int .i64 (lo1 : Int)) ∧ w'.cell? ⟨w.heap.size + 1, 1, none⟩ = some (.int .i64 m.frm) ∧ w'.cell? ⟨w.heap.size + 1, 2, none⟩ = some (.int .i64 m.to_) ∧ w'.cell? ⟨w.heap.size + 1, 3, none⟩ = some (.string (bs m.bytes)) ∧ w'.cell? ⟨w.heap.size + 1, 4, none⟩ = some (.int .i64 m.k)) := hid (fun (w' : World) (ho : OnS (fun b => S b ∨ b = w.heap.size + 1 + 1) v2 w') => plkeep ho (And.intro r0 (And.intro r1 r2)) (And.intro a1 (And.intro a2 (And.intro a3 a4))) HSZ.out.2 (Bk.lt KM1.out) (fun h => by
    have h9 := HSZ.out.1
    rcases h with h | h
    · have := HLT.out _ h; omega
    · omega) (fun h => by
    rcases h with h | h
    · have := HLT.out _ h; omega
    · omega))
  go_region_held3 (fun w' => w'.cell? ⟨w1.heap.size, 0, none⟩ = some (.slice A1 m1 c1) ∧ w'.cell? ⟨w1.heap.size, 1, none⟩ = some (.int .i64 (nx1 : Int)) ∧ w'.cell? ⟨w1.heap.size, 2, none⟩ = some (.int .i64 (lo1 : Int)) ∧ w'.cell? ⟨w.heap.size + 1, 1, none⟩ = some (.int .i64 m.frm) ∧ w'.cell? ⟨w.heap.size + 1, 2, none⟩ = some (.int .i64 m.to_) ∧ w'.cell? ⟨w.heap.size + 1, 3, none⟩ = some (.string (bs m.bytes)) ∧ w'.cell? ⟨w.heap.size + 1, 4, none⟩ = some (.int .i64 m.k)) (first | (with_reducible exact HS.out _ ho0) | (with_reducible exact HS.out _ ho1) | (with_reducible exact HS.out _ (ho1.cell _ 0 _ (Or.inr rfl))) | (with_reducible exact HS.out _ ((ho1.cell _ 0 _ (Or.inr rfl)).cell _ 1 _ (Or.inr rfl))) | (with_reducible exact HS.out _ (((ho1.cell _ 0 _ (Or.inr rfl)).cell _ 1 _ (Or.inr rfl)).cell _ 2 _ (Or.inr rfl)))) (first
    | (go_at_call 28
       ((with_reducible refine (HC2.out _ hz0).mono ?_); rintro e w3 ⟨S', rfl, hN3, ho3, hS3⟩)
       have ho1 := ho0.trans (ho3.imp fun b _ h => Or.inl h)
       have kz1 := KZ1.out.onS (((OnS.refl S _).drew).trans ho3) (fun h => by have := HLT.out _ h; omega)
       clear z0 z1 z2 u0 u1 u2
       have p0 := Bk.cell kz1 0
       have p1 := Bk.cell kz1 1
       have p2 := Bk.cell kz1 2
       have q0 := Bk.frozen kz1 0
       have q1 := Bk.frozen kz1 1
       have q2 := Bk.frozen kz1 2))
  have HE := hid (And.intro hN3 (And.intro ho3 hS3))
  have K3 := hid (ntset3 kz1 (.slice A1 m1 c1) (.int .i64 (nx1 : Int)) (.int .i64 (lo1 : Int)))
  have d0 := Bk.cell K3.out 0
  have d1 := Bk.cell K3.out 1
  have d2 := Bk.cell K3.out 2
  clear p0 p1 p2 q0 q1 q2 hN3 hS3 r0 r1 r2 a0 a1 a2 a3 a4
  go_wp2_with fail
  (try simp only [Exit.inBlock, Exit.then])
  refine bodyPost_ret (v := .tuple #[.agg #[.slice A1 m1 c1, .int .i64 (nx1 : Int), .int .i64 (lo1 : Int)], .bool true]) (by simp [results, Try.results21, go_sem, d0, d1, d2]) rfl ?_
  obtain ⟨hN3, ho3, hS3⟩ := HE.out
  obtain ⟨hm, hn1, hl1, hv⟩ := HV1.out
  exact plfin C HBb.out HB1.out ⟨by omega, by omega⟩ HLT.out HM.out hm ⟨hn1, hl1⟩ hv (fun b h => by
    rcases h with h | h
    · exact Or.inl h.1
    · exact Or.inr h) hN3 (((OnS.refl S _).drew).trans ho3) hS3 _ _ _
set_option maxRecDepth 100000 in
set_option maxHeartbeats 8000000 in
theorem play_take (C : NtC NH) (M S : Nat → Prop) (v : Value) (x : Nts) (A : Option Addr) (cap q nx lo : Nat) (m : Mv28) (w : World) (hN : NH w S v x) (hx : RnV w (In M w) x.all A cap) (hM : ∀ b, M b → ¬ S b) (hMw : ∀ b, M b → b < w.heap.size) (hq : Hid (x.all.length = q ∧ x.next = nx ∧ x.lost = lo)) (h64 : nx ≤ 1000000 ∧ lo ≤ 1000000) (hk : m.kind = 1) {y : Nts} {l : Ltr} {ok : Bool} (H : Hid (ntTake x m.k = (y, l, ok))) :
    Calls Try.prog 21 #[v, .agg #[.slice A q cap, .int .i64 (nx : Int), .int .i64 (lo : Int)], .agg #[.int .i64 m.kind, .int .i64 m.frm, .int .i64 m.to_, .string (bs m.bytes), .int .i64 m.k]] w fun e w' => PlR NH w S M v y e w' := by
  have hb1 := enew w (.cells #[.slice A q cap, .int .i64 (nx : Int), .int .i64 (lo : Int)] 62)
  have hb2 := enew (w.alloc (.cells #[.slice A q cap, .int .i64 (nx : Int), .int .i64 (lo : Int)] 62)) (.cells #[.int .i64 m.kind, .int .i64 m.frm, .int .i64 m.to_, .string (bs m.bytes), .int .i64 m.k] 64)
  have hb3 := enew ((w.alloc (.cells #[.slice A q cap, .int .i64 (nx : Int), .int .i64 (lo : Int)] 62)).alloc (.cells #[.int .i64 m.kind, .int .i64 m.frm, .int .i64 m.to_, .string (bs m.bytes), .int .i64 m.k] 64)) (.cells #[.slice none 0 0, .int .i64 0, .int .i64 0] 62)
  have KX := hid (((Bk.new w 62 #[.slice A q cap, .int .i64 (nx : Int), .int .i64 (lo : Int)]).up hb2).up hb3)
  have km := (Bk.new (w.alloc (.cells #[.slice A q cap, .int .i64 (nx : Int), .int .i64 (lo : Int)] 62)) 64 #[.int .i64 m.kind, .int .i64 m.frm, .int .i64 m.to_, .string (bs m.bytes), .int .i64 m.k]).up hb3
  have kz := Bk.new ((w.alloc (.cells #[.slice A q cap, .int .i64 (nx : Int), .int .i64 (lo : Int)] 62)).alloc (.cells #[.int .i64 m.kind, .int .i64 m.frm, .int .i64 m.to_, .string (bs m.bytes), .int .i64 m.k] 64)) 62 #[.slice none 0 0, .int .i64 0, .int .i64 0]
  simp only [World.size_alloc] at km kz
  have KM := hid km
  have KZ := hid kz
  have HBb := hid (estep (estep hb1 hb2) hb3)
  have hsz : (((w.alloc (.cells #[.slice A q cap, .int .i64 (nx : Int), .int .i64 (lo : Int)] 62)).alloc (.cells #[.int .i64 m.kind, .int .i64 m.frm, .int .i64 m.to_, .string (bs m.bytes), .int .i64 m.k] 64)).alloc (.cells #[.slice none 0 0, .int .i64 0, .int .i64 0] 62)).heap.size = w.heap.size + 1 + 1 + 1 := by simp
  have HN := hid (C.up hN (OnS.below (S := fun _ => False) HBb.out) (fun b _ h => h))
  have HLT := hid (C.lt hN)
  have hq9 : q ≤ 1000 := by have := C.few hN; have := hq.out.1; omega
  have HV := hid (show RnV (((w.alloc (.cells #[.slice A q cap, .int .i64 (nx : Int), .int .i64 (lo : Int)] 62)).alloc (.cells #[.int .i64 m.kind, .int .i64 m.frm, .int .i64 m.to_, .string (bs m.bytes), .int .i64 m.k] 64)).alloc (.cells #[.slice none 0 0, .int .i64 0, .int .i64 0] 62)) (In M (((w.alloc (.cells #[.slice A q cap, .int .i64 (nx : Int), .int .i64 (lo : Int)] 62)).alloc (.cells #[.int .i64 m.kind, .int .i64 m.frm, .int .i64 m.to_, .string (bs m.bytes), .int .i64 m.k] 64)).alloc (.cells #[.slice none 0 0, .int .i64 0, .int .i64 0] 62))) x.all A cap from (hx.same fun b hb => HBb.out.block b hb.1).imp fun b hb => ⟨Nat.lt_of_lt_of_le hb.1 HBb.out.size, hb.2⟩)
  have HM := hid (And.intro hM (fun b hb => (show b < w.heap.size from hMw b hb)))
  clear hb1 hb2 hb3 km kz hx hN hM hMw
  have HC := hid (rntake_any M x A cap q nx lo m.k (((w.alloc (.cells #[.slice A q cap, .int .i64 (nx : Int), .int .i64 (lo : Int)] 62)).alloc (.cells #[.int .i64 m.kind, .int .i64 m.frm, .int .i64 m.to_, .string (bs m.bytes), .int .i64 m.k] 64)).alloc (.cells #[.slice none 0 0, .int .i64 0, .int .i64 0] 62)) HV.out hq hq9 H)
  have hd0 : decide (m.kind = 0) = false := decide_eq_false (by omega)
  have he0 : (m.kind == 0) = false := by simp; omega
  have hd1 : decide (m.kind = 1) = true := decide_eq_true (by omega)
  have he1 : (m.kind == 1) = true := by simp; omega
  clear HV hk
  have hg := ltr_guard
  have he := ltr_eql
  go_enter Try.func21, Try.ntmps21
  go_upto_region 1 with (fail)
  generalize (((w.alloc (.cells #[.slice A q cap, .int .i64 (nx : Int), .int .i64 (lo : Int)] 62)).alloc (.cells #[.int .i64 m.kind, .int .i64 m.frm, .int .i64 m.to_, .string (bs m.bytes), .int .i64 m.k] 64)).alloc (.cells #[.slice none 0 0, .int .i64 0, .int .i64 0] 62)) = v0 at *
  have x0 := Bk.cell KX.out 0
  have x1 := Bk.cell KX.out 1
  have x2 := Bk.cell KX.out 2
  have a0 := Bk.cell KM.out 0
  have a1 := Bk.cell KM.out 1
  have a2 := Bk.cell KM.out 2
  have a3 := Bk.cell KM.out 3
  have a4 := Bk.cell KM.out 4
  go_wp2_with fail
  refine HC.out.mono ?_
  rintro e w1 ⟨A1, c1, m1, nx1, lo1, rfl, hm, ⟨hn1, hl1⟩, hv, hb⟩
  have hb4 := enew w1 (.cells #[.slice A1 m1 c1, .int .i64 (nx1 : Int), .int .i64 (lo1 : Int)] 62)
  have hb5 := enew (w1.alloc (.cells #[.slice A1 m1 c1, .int .i64 (nx1 : Int), .int .i64 (lo1 : Int)] 62)) (.cells #[.int .i64 l.no, .int .i64 l.frm, .int .i64 l.to_, .string (bs l.bytes)] 73)
  have KM1 := hid (((KM.out.up hb).up hb4).up hb5)
  have KZ1 := hid (((KZ.out.up hb).up hb4).up hb5)
  have KR1 := hid ((Bk.new w1 62 #[.slice A1 m1 c1, .int .i64 (nx1 : Int), .int .i64 (lo1 : Int)]).up hb5)
  have kl := Bk.new (w1.alloc (.cells #[.slice A1 m1 c1, .int .i64 (nx1 : Int), .int .i64 (lo1 : Int)] 62)) 73 #[.int .i64 l.no, .int .i64 l.frm, .int .i64 l.to_, .string (bs l.bytes)]
  simp only [World.size_alloc] at kl
  have KL1 := hid kl
  have HB1 := hid (estep (estep hb hb4) hb5)
  have HV1 := hid (And.intro hm (And.intro hn1 (And.intro hl1 ((hv.inup hb4).inup hb5))))
  have HN1 := hid (C.up HN.out (OnS.below (S := fun _ => False) HB1.out) (fun b _ h => h))
  have HSZ := hid hb.size
  clear hm hn1 hl1 hv hb hb4 hb5 kl x0 x1 x2 a0 a1 a2 a3 a4
  go_upto_region 7 with (fail)
  generalize (w1.alloc (.cells #[.slice A1 m1 c1, .int .i64 (nx1 : Int), .int .i64 (lo1 : Int)] 62)).alloc (.cells #[.int .i64 l.no, .int .i64 l.frm, .int .i64 l.to_, .string (bs l.bytes)] 73) = v2 at *
  have HC2 := hid (C.take m.k HN1.out H)
  have a0 := Bk.cell KM1.out 0
  have a1 := Bk.cell KM1.out 1
  have a2 := Bk.cell KM1.out 2
  have a3 := Bk.cell KM1.out 3
  have a4 := Bk.cell KM1.out 4
  go_wp2_with fail
  refine HC2.out.mono ?_
  rintro e w3 ⟨S', rfl, hN3, ho3, hS3⟩
  have hb6 := enew w3 (.cells #[.int .i64 l.no, .int .i64 l.frm, .int .i64 l.to_, .string (bs l.bytes)] 73)
  have ho4 := ho3.up hb6
  have hS9 := HSZ.out
  have KZ4 := hid (KZ1.out.onS ho4 (fun h => by have := HLT.out _ h; omega))
  have KR4 := hid (KR1.out.onS ho4 (fun h => by have := HLT.out _ h; omega))
  have KL4 := hid (KL1.out.onS ho4 (fun h => by have := HLT.out _ h; omega))
  have KT4 := hid (Bk.new w3 73 #[.int .i64 l.no, .int .i64 l.frm, .int .i64 l.to_, .string (bs l.bytes)])
  have HE := hid (And.intro (C.up hN3 (OnS.below (S := fun _ => False) hb6) (fun b _ h => h)) (And.intro ho4 hS3))
  clear hN3 ho3 hS3 hb6 ho4 a0 a1 a2 a3 a4 KZ1 KM1 KR1 KL1 HC2
  go_upto_region 8 with (fail)
  generalize w3.alloc (.cells #[.int .i64 l.no, .int .i64 l.frm, .int .i64 l.to_, .string (bs l.bytes)] 73) = v4 at *
  have r0 := Bk.cell KR4.out 0
  have r1 := Bk.cell KR4.out 1
  have r2 := Bk.cell KR4.out 2
  have l0 := Bk.cell KL4.out 0
  have l1 := Bk.cell KL4.out 1
  have l2 := Bk.cell KL4.out 2
  have l3 := Bk.cell KL4.out 3
  have t0 := Bk.cell KT4.out 0
  have t1 := Bk.cell KT4.out 1
  have t2 := Bk.cell KT4.out 2
  have t3 := Bk.cell KT4.out 3
  have z0 := Bk.cell KZ4.out 0
  have z1 := Bk.cell KZ4.out 1
  have z2 := Bk.cell KZ4.out 2
  have u0 := Bk.frozen KZ4.out 0
  have u1 := Bk.frozen KZ4.out 1
  have u2 := Bk.frozen KZ4.out 2
  have hoz0 : v4.drew = v4.drew := rfl
  go_region_law (fail)
  all_goals
    have K3 := hid (ntset3 KZ4.out (.slice A1 m1 c1) (.int .i64 (nx1 : Int)) (.int .i64 (lo1 : Int)))
    have d0 := Bk.cell K3.out 0
    have d1 := Bk.cell K3.out 1
    have d2 := Bk.cell K3.out 2
    clear r0 r1 r2 l0 l1 l2 l3 t0 t1 t2 t3 z0 z1 z2 u0 u1 u2
    go_wp2_with fail
    (try simp only [Exit.inBlock, Exit.then])
    refine bodyPost_ret (v := .tuple #[.agg #[.slice A1 m1 c1, .int .i64 (nx1 : Int), .int .i64 (lo1 : Int)], .bool true]) (by simp [results, Try.results21, go_sem, d0, d1, d2]) rfl ?_
    obtain ⟨hN3, ho3, hS3⟩ := HE.out
    obtain ⟨hm, hn1, hl1, hv⟩ := HV1.out
    exact PlR.drew C (plfin C HBb.out HB1.out ⟨by omega, by omega⟩ HLT.out HM.out hm ⟨hn1, hl1⟩ hv (fun b h => by
      rcases h with h | h
      · exact Or.inl h.1
      · exact Or.inr h) hN3 ho3 hS3 _ _ _)
end Go.Proofs.Ytflamedbeagjlaa
namespace Go.Proofs.Ytflamedbeagjlaa
set_option linter.unusedVariables false
set_option linter.unusedSimpArgs false
open Go.RowKit Go.Joins

theorem ntS_new {w : World} {S T : Nat → Prop} {v : Value} {x : Nts} (h : NtH w S v x) {w' : World} (hb : OnS (fun b => T b ∧ w.heap.size ≤ b) w w') : NtH w' S v x := h.up hb fun b hb h2 => by have := h.lt b hb; omega
section
variable {w : World} {g : Nat} {p : Option Nat} {x : Nts}
set_option maxRecDepth 100000 in
theorem nteg_take (args : Array Value) (w : World) : (callFunc 60 args).run Try.prog w = .ok (.enter 60 args) w := by first | rfl | (unfold callFunc; rfl) | simp [callFunc]
set_option maxRecDepth 100000 in
theorem nteg_lose (args : Array Value) (w : World) : (callFunc 62 args).run Try.prog w = .ok (.enter 62 args) w := by first | rfl | (unfold callFunc; rfl) | simp [callFunc]
set_option maxRecDepth 100000 in
theorem nteg_copy (args : Array Value) (w : World) : (callFunc 63 args).run Try.prog w = .ok (.enter 63 args) w := by first | rfl | (unfold callFunc; rfl) | simp [callFunc]
end
set_option maxRecDepth 100000 in
set_option maxHeartbeats 4000000 in
theorem nttake_any {w : World} {S : Nat → Prop} {v : Value} {x : Nts} (k : Int) {y : Nts} {l : Ltr} {ok : Bool} (h : NtH w S v x) (H : Hid (ntTake x k = (y, l, ok))) :
    Calls Try.prog 26 #[v, .int .i64 k] w fun e w' => ∃ S', e = .returned (.tuple #[.agg #[.int .i64 l.no, .int .i64 l.frm, .int .i64 l.to_, .string (bs l.bytes)], .bool ok]) ∧ NtH w' S' v y ∧ OnS S w w' ∧ ∀ b, S' b → S b ∨ w.heap.size ≤ b := by
  obtain ⟨g, p, rfl, rfl, hp⟩ := h
  have hlt := hp.lt
  have hb1 := enew w (.cells #[.pointer (some ⟨g, 0, none⟩)] 58)
  have hb2 := enew (w.alloc (.cells #[.pointer (some ⟨g, 0, none⟩)] 58)) (.cells #[.int .i64 k] 3)
  have hb3 := enew ((w.alloc (.cells #[.pointer (some ⟨g, 0, none⟩)] 58)).alloc (.cells #[.int .i64 k] 3)) (.cells #[.int .i64 0, .int .i64 0, .int .i64 0, .string (ByteArray.mk #[])] 73)
  have hb4 := enew (((w.alloc (.cells #[.pointer (some ⟨g, 0, none⟩)] 58)).alloc (.cells #[.int .i64 k] 3)).alloc (.cells #[.int .i64 0, .int .i64 0, .int .i64 0, .string (ByteArray.mk #[])] 73)) (.cells #[.int .i64 0, .int .i64 0, .int .i64 0, .string (ByteArray.mk #[])] 73)
  have kn := (((Bk.new w 58 #[.pointer (some ⟨g, 0, none⟩)]).up hb2).up hb3).up hb4
  have kk := ((Bk.new (w.alloc (.cells #[.pointer (some ⟨g, 0, none⟩)] 58)) 3 #[.int .i64 k]).up hb3).up hb4
  have kr := (Bk.new ((w.alloc (.cells #[.pointer (some ⟨g, 0, none⟩)] 58)).alloc (.cells #[.int .i64 k] 3)) 73 #[.int .i64 0, .int .i64 0, .int .i64 0, .string (ByteArray.mk #[])]).up hb4
  have kt := Bk.new (((w.alloc (.cells #[.pointer (some ⟨g, 0, none⟩)] 58)).alloc (.cells #[.int .i64 k] 3)).alloc (.cells #[.int .i64 0, .int .i64 0, .int .i64 0, .string (ByteArray.mk #[])] 73)) 73 #[.int .i64 0, .int .i64 0, .int .i64 0, .string (ByteArray.mk #[])]
  simp only [World.size_alloc] at kk kr kt
  have hall := estep (estep (estep hb1 hb2) hb3) hb4
  have HALL := hid hall
  have HP := hid (hp.up hall)
  have HK := hid (And.intro kn (And.intro kk (And.intro kr kt)))
  have HL := hid hlt
  clear hb1 hb2 hb3 hb4 kn kk kr kt hall hp hlt
  go_enter Try.func26, Try.ntmps26
  go_upto_region 2 with (fail)
  generalize ((((w.alloc (.cells #[.pointer (some ⟨g, 0, none⟩)] 58)).alloc (.cells #[.int .i64 k] 3)).alloc (.cells #[.int .i64 0, .int .i64 0, .int .i64 0, .string (ByteArray.mk #[])] 73)).alloc (.cells #[.int .i64 0, .int .i64 0, .int .i64 0, .string (ByteArray.mk #[])] 73)) = v0 at *
  have n0 := Bk.cell HK.out.1 0
  have k0 := Bk.cell HK.out.2.1 0
  rcases hat : ntAt x k with _ | i
  · have e := H.out
    unfold ntTake at e
    rw [hat] at e
    simp only [Prod.mk.injEq] at e
    obtain ⟨rfl, rfl, rfl⟩ := e
    have HC := hid (ntat_none g p x k (.func (.func 60) #[] #[.pointer (some ⟨w.heap.size + 1 + 1 + 1, 0, none⟩), .pointer (some ⟨w.heap.size, 0, none⟩), .pointer (some ⟨w.heap.size + 1, 0, none⟩)]) v0 HP.out (hid hat))
    clear hat H
    go_wp2_with fail
    refine HC.out.mono ?_
    rintro e w1 ⟨rfl, rfl⟩
    have t0 := Bk.cell HK.out.2.2.2 0
    have t1 := Bk.cell HK.out.2.2.2 1
    have t2 := Bk.cell HK.out.2.2.2 2
    have t3 := Bk.cell HK.out.2.2.2 3
    have r0 := Bk.cell HK.out.2.2.1 0
    have r1 := Bk.cell HK.out.2.2.1 1
    have r2 := Bk.cell HK.out.2.2.1 2
    have r3 := Bk.cell HK.out.2.2.1 3
    have u0 := Bk.frozen HK.out.2.2.1 0
    have u1 := Bk.frozen HK.out.2.2.1 1
    have u2 := Bk.frozen HK.out.2.2.1 2
    have u3 := Bk.frozen HK.out.2.2.1 3
    have K3 := hid (ltset4 HK.out.2.2.1 (.int .i64 0) (.int .i64 0) (.int .i64 0) (.string (ByteArray.mk #[])))
    have d0 := Bk.cell K3.out 0
    have d1 := Bk.cell K3.out 1
    have d2 := Bk.cell K3.out 2
    have d3 := Bk.cell K3.out 3
    have HO := hid (ltons4 v0 (w.heap.size + 1 + 1) (.int .i64 0) (.int .i64 0) (.int .i64 0) (.string (ByteArray.mk #[])))
    clear n0 k0
    go_wp2_with fail
    (try simp only [Exit.inBlock, Exit.then])
    refine bodyPost_ret (v := .tuple #[.agg #[.int .i64 0, .int .i64 0, .int .i64 0, .string (ByteArray.mk #[])], .bool false]) (by simp [results, Try.results26, go_sem, d0, d1, d2, d3]) rfl ?_
    refine ⟨ntS g p, rfl, ⟨g, p, rfl, rfl, HP.out.onS HO.out (fun e => by have := HL.out.1; omega) fun q hq e => by have := (HL.out.2 q hq).1; omega⟩, ?_, fun b hb => Or.inl hb⟩
    exact (OnS.to_below HALL.out HO.out (fun k _ e => by omega) (HALL.out.size) |> OnS.below)
  · obtain ⟨rfl, hi⟩ := ntAt_some hat
    have hl : x.all[i]? = some x.all[i] := List.getElem?_eq_getElem hi
    have e := H.out
    unfold ntTake at e
    rw [hat] at e
    simp only [Prod.mk.injEq] at e
    obtain ⟨rfl, hl2, rfl⟩ := e
    rw [List.getD_eq_getElem?_getD, hl, Option.getD_some] at hl2
    rw [hl2] at hl
    have HT := hid (nttake1_any g p x i l (w.heap.size + 1 + 1 + 1) w.heap.size (w.heap.size + 1) (.int .i64 0) (.int .i64 0) (.int .i64 0) (.string (ByteArray.mk #[])) v0 HP.out hl HK.out.2.2.2 HK.out.1 HK.out.2.1 (fun e => by have := (HL.out.2 _ e.symm).1; omega))
    have HC := hid (ntat_some g p x i l 60 #[.pointer (some ⟨w.heap.size + 1 + 1 + 1, 0, none⟩), .pointer (some ⟨w.heap.size, 0, none⟩), .pointer (some ⟨w.heap.size + 1, 0, none⟩)] v0 (fun b w' => b = true ∧ NtP w' g p { x with all := x.all.eraseIdx i } ∧ Bk w' (w.heap.size + 1 + 1 + 1) 73 #[.int .i64 l.no, .int .i64 l.frm, .int .i64 l.to_, .string (bs l.bytes)] ∧ OnS (fun b => b = g ∨ b = w.heap.size + 1 + 1 + 1 ∨ some b = p) v0 w') HP.out hl nteg_take HT)
    clear hat H hl hl2 hi HT
    go_wp2_with fail
    refine HC.out.mono ?_
    rintro e w1 ⟨b9, rfl, rfl, hN, kt, ho⟩
    have kr := HK.out.2.2.1.onS ho (fun e => by
      have h1 := HL.out
      rcases e with e | e | e
      · have := h1.1; omega
      · omega
      · have := (h1.2 _ e.symm).1; omega)
    have H1 := hid (And.intro hN (And.intro kt ho))
    have KR := hid kr
    have t0 := Bk.cell kt 0
    have t1 := Bk.cell kt 1
    have t2 := Bk.cell kt 2
    have t3 := Bk.cell kt 3
    have r0 := Bk.cell kr 0
    have r1 := Bk.cell kr 1
    have r2 := Bk.cell kr 2
    have r3 := Bk.cell kr 3
    have u0 := Bk.frozen kr 0
    have u1 := Bk.frozen kr 1
    have u2 := Bk.frozen kr 2
    have u3 := Bk.frozen kr 3
    have K3 := hid (ltset4 kr (.int .i64 l.no) (.int .i64 l.frm) (.int .i64 l.to_) (.string (bs l.bytes)))
    have d0 := Bk.cell K3.out 0
    have d1 := Bk.cell K3.out 1
    have d2 := Bk.cell K3.out 2
    have d3 := Bk.cell K3.out 3
    have HO := hid (ltons4 w1 (w.heap.size + 1 + 1) (.int .i64 l.no) (.int .i64 l.frm) (.int .i64 l.to_) (.string (bs l.bytes)))
    clear n0 k0 hN kt ho kr HC
    go_wp2_with fail
    (try simp only [Exit.inBlock, Exit.then])
    refine bodyPost_ret (v := .tuple #[.agg #[.int .i64 l.no, .int .i64 l.frm, .int .i64 l.to_, .string (bs l.bytes)], .bool true]) (by simp [results, Try.results26, go_sem, d0, d1, d2, d3]) rfl ?_
    obtain ⟨f1, f2, f3⟩ := H1.out
    refine ⟨ntS g p, rfl, ⟨g, p, rfl, rfl, f1.onS HO.out (fun e => by have := HL.out.1; omega) fun q hq e => by have := (HL.out.2 q hq).1; omega⟩, ?_, fun b hb => Or.inl hb⟩
    have h9 : OnS (fun b => (b = g ∨ some b = p) ∨ w.heap.size ≤ b) w _ := ((OnS.below HALL.out).trans (f3.imp (T := fun b => (b = g ∨ some b = p) ∨ w.heap.size ≤ b) fun b _ e => by
      rcases e with e | e | e
      · exact Or.inl (Or.inl e)
      · exact Or.inr (by omega)
      · exact Or.inl (Or.inr e))).trans (HO.out.imp fun b _ e => Or.inr (by omega))
    exact h9.imp fun b hb e => e.elim id fun e => by omega
set_option maxRecDepth 100000 in
set_option maxHeartbeats 4000000 in
theorem ntlose_any {w : World} {S : Nat → Prop} {v : Value} {x : Nts} (k : Int) {y : Nts} {ok : Bool} (h : NtH w S v x) (h64 : x.next ≤ 1000000 ∧ x.lost ≤ 1000000) (H : Hid (ntLose x k = (y, ok))) :
    Calls Try.prog 27 #[v, .int .i64 k] w fun e w' => ∃ S', e = .returned (.bool ok) ∧ NtH w' S' v y ∧ OnS S w w' ∧ ∀ b, S' b → S b ∨ w.heap.size ≤ b := by
  obtain ⟨g, p, rfl, rfl, hp⟩ := h
  have hlt := hp.lt
  have hb1 := enew w (.cells #[.pointer (some ⟨g, 0, none⟩)] 58)
  have hb2 := enew (w.alloc (.cells #[.pointer (some ⟨g, 0, none⟩)] 58)) (.cells #[.int .i64 k] 3)
  have kn := (Bk.new w 58 #[.pointer (some ⟨g, 0, none⟩)]).up hb2
  have kk := Bk.new (w.alloc (.cells #[.pointer (some ⟨g, 0, none⟩)] 58)) 3 #[.int .i64 k]
  simp only [World.size_alloc] at kk
  have hall := estep hb1 hb2
  have HALL := hid hall
  have HP := hid (hp.up hall)
  have HK := hid (And.intro kn kk)
  clear hb1 hb2 kn kk hall hp hlt
  go_enter Try.func27, Try.ntmps27
  go_upto_region 1 with (fail)
  generalize (w.alloc (.cells #[.pointer (some ⟨g, 0, none⟩)] 58)).alloc (.cells #[.int .i64 k] 3) = v0 at *
  have n0 := Bk.cell HK.out.1 0
  have k0 := Bk.cell HK.out.2 0
  rcases hat : ntAt x k with _ | i
  · have e := H.out
    unfold ntLose at e
    rw [hat] at e
    simp only [Prod.mk.injEq] at e
    obtain ⟨rfl, rfl⟩ := e
    have HC := hid (ntat_none g p x k (.func (.func 62) #[] #[.pointer (some ⟨w.heap.size, 0, none⟩), .pointer (some ⟨w.heap.size + 1, 0, none⟩)]) v0 HP.out (hid hat))
    clear hat H
    go_wp2_with fail
    refine HC.out.mono ?_
    rintro e w1 ⟨rfl, rfl⟩
    clear n0 k0
    go_wp2_with fail
    go_returns
    exact ⟨ntS g p, rfl, ⟨g, p, rfl, rfl, HP.out⟩, OnS.below HALL.out, fun b hb => Or.inl hb⟩
  · obtain ⟨rfl, hi⟩ := ntAt_some hat
    have hl : x.all[i]? = some x.all[i] := List.getElem?_eq_getElem hi
    have hm : ntLose x (i : Int) = ({ x with all := x.all.eraseIdx i, lost := x.lost + 1 }, true) := by
      unfold ntLose ntLose1
      rw [hat]
      simp only
      rw [Nat.min_eq_left (by have := h64.2; omega)]
    have e := hm.symm.trans H.out
    simp only [Prod.mk.injEq] at e
    obtain ⟨rfl, rfl⟩ := e
    have HT := hid (ntlose1_any g p x i x.all[i] w.heap.size (w.heap.size + 1) v0 HP.out hl HK.out.1 HK.out.2 h64.2)
    have HC := hid (ntat_some g p x i x.all[i] 62 #[.pointer (some ⟨w.heap.size, 0, none⟩), .pointer (some ⟨w.heap.size + 1, 0, none⟩)] v0 (fun b w' => b = true ∧ NtP w' g p { x with all := x.all.eraseIdx i, lost := x.lost + 1 } ∧ OnS (fun b => b = g ∨ some b = p) v0 w') HP.out hl nteg_lose HT)
    clear hat H hl hi HT hm
    go_wp2_with fail
    refine HC.out.mono ?_
    rintro e w1 ⟨b9, rfl, rfl, hN, ho⟩
    have H1 := hid (And.intro hN ho)
    clear n0 k0 hN ho HC
    go_wp2_with fail
    go_returns
    exact ⟨ntS g p, rfl, ⟨g, p, rfl, rfl, H1.out.1⟩, (OnS.below HALL.out).trans H1.out.2, fun b hb => Or.inl hb⟩
set_option maxRecDepth 100000 in
set_option maxHeartbeats 4000000 in
theorem ntcopy_any {w : World} {S : Nat → Prop} {v : Value} {x : Nts} (k : Int) {y : Nts} {ok : Bool} (h : NtH w S v x) (h64 : x.next ≤ 1000000 ∧ x.lost ≤ 1000000) (H : Hid (ntCopy x k = (y, ok))) :
    Calls Try.prog 28 #[v, .int .i64 k] w fun e w' => ∃ S', e = .returned (.bool ok) ∧ NtH w' S' v y ∧ OnS S w w' ∧ ∀ b, S' b → S b ∨ w.heap.size ≤ b := by
  obtain ⟨g, p, rfl, rfl, hp⟩ := h
  have hlt := hp.lt
  have hb1 := enew w (.cells #[.pointer (some ⟨g, 0, none⟩)] 58)
  have HK := hid (Bk.new w 58 #[.pointer (some ⟨g, 0, none⟩)])
  have HALL := hid hb1
  have HP := hid (hp.up hb1)
  clear hb1 hp hlt
  go_enter Try.func28, Try.ntmps28
  go_upto_region 1 with (fail)
  generalize w.alloc (.cells #[.pointer (some ⟨g, 0, none⟩)] 58) = v0 at *
  have n0 := Bk.cell HK.out 0
  rcases hat : ntAt x k with _ | i
  · have e := H.out
    unfold ntCopy at e
    rw [hat] at e
    simp only [Prod.mk.injEq] at e
    obtain ⟨rfl, rfl⟩ := e
    have HC := hid (ntat_none g p x k (.func (.func 63) #[] #[.pointer (some ⟨w.heap.size, 0, none⟩)]) v0 HP.out (hid hat))
    clear hat H
    go_wp2_with fail
    refine HC.out.mono ?_
    rintro e w1 ⟨rfl, rfl⟩
    clear n0
    go_wp2_with fail
    go_returns
    exact ⟨ntS g p, rfl, ⟨g, p, rfl, rfl, HP.out⟩, OnS.below HALL.out, fun b hb => Or.inl hb⟩
  · obtain ⟨rfl, hi⟩ := ntAt_some hat
    have hl : x.all[i]? = some x.all[i] := List.getElem?_eq_getElem hi
    have hD : x.all.getD i ltr0 = x.all[i] := by rw [List.getD_eq_getElem?_getD, hl, Option.getD_some]
    have e := H.out
    unfold ntCopy at e
    rw [hat] at e
    simp only [hD] at e
    have HT := hid (ntcopy1_any g p x x.all[i] w.heap.size v0 HP.out HK.out h64 (hid e))
    have HC := hid (ntat_some g p x i x.all[i] 63 #[.pointer (some ⟨w.heap.size, 0, none⟩)] v0 (fun b w' => b = ok ∧ NtE v0 (ntS g p) (.pointer (some ⟨g, 0, none⟩)) y w') HP.out hl nteg_copy HT)
    clear hat H hl hi HT e hD
    go_wp2_with fail
    refine HC.out.mono ?_
    rintro e w1 ⟨b9, rfl, rfl, hN⟩
    have H1 := hid hN
    clear n0 hN HC
    go_wp2_with fail
    go_returns
    obtain ⟨S', k1, k2, k3⟩ := H1.out
    refine ⟨S', rfl, k1, (OnS.below HALL.out).trans k2, fun b hb => ?_⟩
    rcases k3 b hb with h | h
    · exact Or.inl h
    · exact Or.inr (Nat.le_trans HALL.out.size h)
/-- All contracts of the net at hand. -/
theorem ntC : NtC NtH where
  up := fun h ho hn => h.up ho hn
  lt := fun h => h.lt
  few := fun h => h.few
  new := ntnew_any
  send := by
    intro w S v x f t s y ok h h64 H
    refine (ntsend_any f t s h h64 H).mono ?_
    rintro e w' ⟨rfl, S', h1, h2, h3⟩
    exact ⟨S', rfl, h1, h2, h3⟩
  take := by
    intro w S v x k y l ok h H
    exact nttake_any k h H
  lose := by
    intro w S v x k y ok h h64 H
    exact ntlose_any k h h64 H
  copy := by
    intro w S v x k y ok h h64 H
    exact ntcopy_any k h h64 H
  all := fun h => ntall_any h
  lost := fun h h64 => ntlost_any (by omega) h
/-- What a nil net answers. -/
theorem ntat_nil (k : Int) (fv : Value) (w : World) : Calls Try.prog 59 #[.pointer none, .int .i64 k, fv] w fun e w' => e = .returned (.bool false) ∧ w = w' := by
  go_enter Try.func59, Try.ntmps59
  go_wp2_with fail
  go_ret
  exact ⟨rfl, rfl⟩
set_option maxRecDepth 100000 in
set_option maxHeartbeats 4000000 in
theorem ntlose_nil (k : Int) (w : World) : Calls Try.prog 27 #[.pointer none, .int .i64 k] w fun e w' => e = .returned (.bool false) ∧ Below w.heap.size w w' := by
  have hb1 := enew w (.cells #[.pointer none] 58)
  have hb2 := enew (w.alloc (.cells #[.pointer none] 58)) (.cells #[.int .i64 k] 3)
  have kn := (Bk.new w 58 #[.pointer none]).up hb2
  have kk := Bk.new (w.alloc (.cells #[.pointer none] 58)) 3 #[.int .i64 k]
  simp only [World.size_alloc] at kk
  have HALL := hid (estep hb1 hb2)
  have HK := hid (And.intro kn kk)
  clear hb1 hb2 kn kk
  have HC := hid (ntat_nil k)
  go_enter Try.func27, Try.ntmps27
  go_upto_region 1 with (fail)
  generalize (w.alloc (.cells #[.pointer none] 58)).alloc (.cells #[.int .i64 k] 3) = v0 at *
  have n0 := Bk.cell HK.out.1 0
  have k0 := Bk.cell HK.out.2 0
  go_wp2_with fail
  refine (HC.out _ _).mono ?_
  rintro e w1 ⟨rfl, rfl⟩
  clear n0 k0
  go_wp2_with fail
  go_returns
  exact ⟨rfl, HALL.out⟩
set_option maxRecDepth 100000 in
set_option maxHeartbeats 4000000 in
theorem ntcopy_nil (k : Int) (w : World) : Calls Try.prog 28 #[.pointer none, .int .i64 k] w fun e w' => e = .returned (.bool false) ∧ Below w.heap.size w w' := by
  have HALL := hid (enew w (.cells #[.pointer none] 58))
  have HK := hid (Bk.new w 58 #[.pointer none])
  have HC := hid (ntat_nil k)
  go_enter Try.func28, Try.ntmps28
  go_upto_region 1 with (fail)
  generalize w.alloc (.cells #[.pointer none] 58) = v0 at *
  have n0 := Bk.cell HK.out 0
  go_wp2_with fail
  refine (HC.out _ _).mono ?_
  rintro e w1 ⟨rfl, rfl⟩
  clear n0
  go_wp2_with fail
  go_returns
  exact ⟨rfl, HALL.out⟩
set_option maxRecDepth 100000 in
set_option maxHeartbeats 4000000 in
theorem nttake_nil (k : Int) (w : World) : Calls Try.prog 26 #[.pointer none, .int .i64 k] w fun e w' => e = .returned (.tuple #[.agg #[.int .i64 0, .int .i64 0, .int .i64 0, .string (ByteArray.mk #[])], .bool false]) ∧ Below w.heap.size w w' := by
  have hb1 := enew w (.cells #[.pointer none] 58)
  have hb2 := enew (w.alloc (.cells #[.pointer none] 58)) (.cells #[.int .i64 k] 3)
  have hb3 := enew ((w.alloc (.cells #[.pointer none] 58)).alloc (.cells #[.int .i64 k] 3)) (.cells #[.int .i64 0, .int .i64 0, .int .i64 0, .string (ByteArray.mk #[])] 73)
  have hb4 := enew (((w.alloc (.cells #[.pointer none] 58)).alloc (.cells #[.int .i64 k] 3)).alloc (.cells #[.int .i64 0, .int .i64 0, .int .i64 0, .string (ByteArray.mk #[])] 73)) (.cells #[.int .i64 0, .int .i64 0, .int .i64 0, .string (ByteArray.mk #[])] 73)
  have kn := (((Bk.new w 58 #[.pointer none]).up hb2).up hb3).up hb4
  have kk := ((Bk.new (w.alloc (.cells #[.pointer none] 58)) 3 #[.int .i64 k]).up hb3).up hb4
  have kr := (Bk.new ((w.alloc (.cells #[.pointer none] 58)).alloc (.cells #[.int .i64 k] 3)) 73 #[.int .i64 0, .int .i64 0, .int .i64 0, .string (ByteArray.mk #[])]).up hb4
  have kt := Bk.new (((w.alloc (.cells #[.pointer none] 58)).alloc (.cells #[.int .i64 k] 3)).alloc (.cells #[.int .i64 0, .int .i64 0, .int .i64 0, .string (ByteArray.mk #[])] 73)) 73 #[.int .i64 0, .int .i64 0, .int .i64 0, .string (ByteArray.mk #[])]
  simp only [World.size_alloc] at kk kr kt
  have HALL := hid (estep (estep (estep hb1 hb2) hb3) hb4)
  have HK := hid (And.intro kn (And.intro kk (And.intro kr kt)))
  have HC := hid (ntat_nil k)
  clear hb1 hb2 hb3 hb4 kn kk kr kt
  go_enter Try.func26, Try.ntmps26
  go_upto_region 2 with (fail)
  generalize ((((w.alloc (.cells #[.pointer none] 58)).alloc (.cells #[.int .i64 k] 3)).alloc (.cells #[.int .i64 0, .int .i64 0, .int .i64 0, .string (ByteArray.mk #[])] 73)).alloc (.cells #[.int .i64 0, .int .i64 0, .int .i64 0, .string (ByteArray.mk #[])] 73)) = v0 at *
  have n0 := Bk.cell HK.out.1 0
  have k0 := Bk.cell HK.out.2.1 0
  go_wp2_with fail
  refine (HC.out _ _).mono ?_
  rintro e w1 ⟨rfl, rfl⟩
  have t0 := Bk.cell HK.out.2.2.2 0
  have t1 := Bk.cell HK.out.2.2.2 1
  have t2 := Bk.cell HK.out.2.2.2 2
  have t3 := Bk.cell HK.out.2.2.2 3
  have r0 := Bk.cell HK.out.2.2.1 0
  have r1 := Bk.cell HK.out.2.2.1 1
  have r2 := Bk.cell HK.out.2.2.1 2
  have r3 := Bk.cell HK.out.2.2.1 3
  have u0 := Bk.frozen HK.out.2.2.1 0
  have u1 := Bk.frozen HK.out.2.2.1 1
  have u2 := Bk.frozen HK.out.2.2.1 2
  have u3 := Bk.frozen HK.out.2.2.1 3
  have K3 := hid (ltset4 HK.out.2.2.1 (.int .i64 0) (.int .i64 0) (.int .i64 0) (.string (ByteArray.mk #[])))
  have d0 := Bk.cell K3.out 0
  have d1 := Bk.cell K3.out 1
  have d2 := Bk.cell K3.out 2
  have d3 := Bk.cell K3.out 3
  have HO := hid (ltons4 v0 (w.heap.size + 1 + 1) (.int .i64 0) (.int .i64 0) (.int .i64 0) (.string (ByteArray.mk #[])))
  clear n0 k0
  go_wp2_with fail
  (try simp only [Exit.inBlock, Exit.then])
  refine bodyPost_ret (v := .tuple #[.agg #[.int .i64 0, .int .i64 0, .int .i64 0, .string (ByteArray.mk #[])], .bool false]) (by simp [results, Try.results26, go_sem, d0, d1, d2, d3]) rfl ?_
  exact ⟨rfl, OnS.to_below HALL.out HO.out (fun k _ e => by omega) HALL.out.size⟩
end Go.Proofs.Ytflamedbeagjlaa
namespace Go.Proofs.Ytflamedbeagjlaa
set_option linter.unusedVariables false
set_option linter.unusedSimpArgs false
open Go.RowKit Go.Joins

/-- A net that was made behind w, in the blocks of S. -/
structure N28 (w wr : World) (S : Nat → Prop) (g : Nat) (x : Nts) : Prop where
  nh : NtH wr S (.pointer (some ⟨g, 0, none⟩)) x
  own : ∀ b, S b → w.heap.size ≤ b
  bel : Below w.heap.size w wr
/-- The net behind a call. -/
def N28r (w wr : World) (S : Nat → Prop) (g : Nat) (y : Nts) (w2 : World) : Prop := ∃ S', N28 w w2 S' g y ∧ OnS S wr w2 ∧ ∀ b, S' b → S b ∨ wr.heap.size ≤ b
section
variable {w wr w2 : World} {g : Nat} {x : Nts} {S : Nat → Prop}
theorem N28.up (h : N28 w wr S g x) (hb : Below wr.heap.size wr w2) : N28 w w2 S g x := ⟨h.nh.up (T := fun _ => False) (OnS.below hb) (fun b _ h => h), h.own, estep h.bel hb⟩
theorem N28.few (h : N28 w wr S g x) : x.all.length ≤ 256 := h.nh.few
theorem N28.lt (h : N28 w wr S g x) : ∀ b, S b → b < wr.heap.size := h.nh.lt
/-- A block that is none of the net's stays none. -/
theorem N28r.out {y : Nts} (h : N28r w wr S g y w2) : ∃ S', N28 w w2 S' g y ∧ OnS S wr w2 ∧ ∀ b, b < wr.heap.size → ¬ S b → ¬ S' b := by
  obtain ⟨S', h1, h2, h3⟩ := h
  exact ⟨S', h1, h2, fun b hb hn h => (h3 b h).elim hn fun h => by omega⟩
theorem n28_of {y : Nts} (h : N28 w wr S g x) (k : ∃ S', NtH w2 S' (.pointer (some ⟨g, 0, none⟩)) y ∧ OnS S wr w2 ∧ ∀ b, S' b → S b ∨ wr.heap.size ≤ b) : N28r w wr S g y w2 := by
  obtain ⟨S', k1, k2, k3⟩ := k
  refine ⟨S', ⟨k1, fun b hb => ?_, OnS.to_below h.bel k2 (fun k _ hk => h.own k hk) h.bel.size⟩, k2, k3⟩
  rcases k3 b hb with h2 | h2
  · exact h.own b h2
  · exact Nat.le_trans h.bel.size h2
theorem n28_new (w : World) : Calls Try.prog 20 #[] w fun e w' => ∃ g S, e = .returned (.pointer (some ⟨g, 0, none⟩)) ∧ N28 w w' S g nt0 := by
  refine (ntnew_any w).mono ?_
  rintro e w' ⟨v, S, rfl, h1, h2, h3⟩
  obtain ⟨g, p, rfl, rfl, hp⟩ := h1
  exact ⟨g, _, rfl, ⟨g, p, rfl, rfl, hp⟩, h2, h3⟩
theorem n28_send (f t : Int) (s : List UInt8) {y : Nts} {ok : Bool} (h : N28 w wr S g x) (h64 : x.next ≤ 1000000 ∧ x.lost ≤ 1000000) (H : Hid (ntSend x f t s = (y, ok))) :
    Calls Try.prog 25 #[.pointer (some ⟨g, 0, none⟩), .int .i64 f, .int .i64 t, .string (bs s)] wr fun e w' => e = .returned (.bool ok) ∧ N28r w wr S g y w' := by
  refine (ntsend_any f t s h.nh h64 H).mono ?_
  rintro e w' ⟨rfl, h4⟩
  exact ⟨rfl, n28_of h h4⟩
theorem n28_take (k : Int) {y : Nts} {l : Ltr} {ok : Bool} (h : N28 w wr S g x) (H : Hid (ntTake x k = (y, l, ok))) :
    Calls Try.prog 26 #[.pointer (some ⟨g, 0, none⟩), .int .i64 k] wr fun e w' => e = .returned (.tuple #[.agg #[.int .i64 l.no, .int .i64 l.frm, .int .i64 l.to_, .string (bs l.bytes)], .bool ok]) ∧ N28r w wr S g y w' := by
  refine (nttake_any k h.nh H).mono ?_
  rintro e w' ⟨S', rfl, h4⟩
  exact ⟨rfl, n28_of h ⟨S', h4⟩⟩
theorem n28_lose (k : Int) {y : Nts} {ok : Bool} (h : N28 w wr S g x) (h64 : x.next ≤ 1000000 ∧ x.lost ≤ 1000000) (H : Hid (ntLose x k = (y, ok))) :
    Calls Try.prog 27 #[.pointer (some ⟨g, 0, none⟩), .int .i64 k] wr fun e w' => e = .returned (.bool ok) ∧ N28r w wr S g y w' := by
  refine (ntlose_any k h.nh h64 H).mono ?_
  rintro e w' ⟨S', rfl, h4⟩
  exact ⟨rfl, n28_of h ⟨S', h4⟩⟩
theorem n28_copy (k : Int) {y : Nts} {ok : Bool} (h : N28 w wr S g x) (h64 : x.next ≤ 1000000 ∧ x.lost ≤ 1000000) (H : Hid (ntCopy x k = (y, ok))) :
    Calls Try.prog 28 #[.pointer (some ⟨g, 0, none⟩), .int .i64 k] wr fun e w' => e = .returned (.bool ok) ∧ N28r w wr S g y w' := by
  refine (ntcopy_any k h.nh h64 H).mono ?_
  rintro e w' ⟨S', rfl, h4⟩
  exact ⟨rfl, n28_of h ⟨S', h4⟩⟩
theorem n28_all (h : N28 w wr S g x) {n : Nat} (hn : Hid (x.all.length = n)) : Calls Try.prog 24 #[.pointer (some ⟨g, 0, none⟩)] wr fun e w' => ∃ A c, e = .returned (.slice A n c) ∧ GB encLt 4 73 w' wr.heap.size (.slice A n c) x.all ∧ Below wr.heap.size wr w' := by
  rw [← hn.out]
  refine (ntall_any h.nh).mono ?_
  rintro e w' ⟨y, rfl, h4, h5⟩
  obtain ⟨A, c, rfl, -⟩ := GB.reads encLt_len h4
  exact ⟨A, c, rfl, h4, h5⟩
theorem n28_lost (h : N28 w wr S g x) (h64 : x.lost ≤ 1000000) {k : Nat} (hk : Hid (x.lost = k)) : Calls Try.prog 22 #[.pointer (some ⟨g, 0, none⟩)] wr fun e w' => e = .returned (.int .i64 (k : Int)) ∧ Below wr.heap.size wr w' := by
  rw [← hk.out]
  exact ntlost_any (by omega) h.nh
end
def l28a : Ltr := ⟨0, 1, -1, [97]⟩
def l28b : Ltr := ⟨1, 2, -1, [98]⟩
def l28c : Ltr := ⟨2, 3, -1, [99]⟩
def l28d : Ltr := ⟨3, 1, -1, [97]⟩
theorem k28_1 : ntSend nt0 1 (-1) [97] = (⟨[l28a], 1, 0⟩, true) := rfl
theorem k28_2 : ntSend ⟨[l28a], 1, 0⟩ 2 (-1) [98] = (⟨[l28a, l28b], 2, 0⟩, true) := rfl
theorem k28_3 : ntSend ⟨[l28a, l28b], 2, 0⟩ 3 (-1) [99] = (⟨[l28a, l28b, l28c], 3, 0⟩, true) := rfl
theorem k28_4 : ntTake ⟨[l28a, l28b, l28c], 3, 0⟩ 1 = (⟨[l28a, l28c], 3, 0⟩, l28b, true) := rfl
theorem k28_5 : ntCopy ⟨[l28a, l28c], 3, 0⟩ 0 = (⟨[l28a, l28c, l28d], 4, 0⟩, true) := rfl
theorem k28_6 : ntLose ⟨[l28a, l28c, l28d], 4, 0⟩ 0 = (⟨[l28c, l28d], 4, 1⟩, true) := rfl
set_option maxRecDepth 100000 in
set_option maxHeartbeats 8000000 in
theorem known28_any (w : World) : Calls Try.prog 19 #[] w fun e w' => e = .returned (.bool true) ∧ Below w.heap.size w w' := by
  have hg := ltr_guard
  have he := ltr_eql
  have H0 := hid (n28_new w)
  have HTn := hid (nttake_nil 0)
  have HSn := hid (fun w2 => ntsend_nil 0 0 (ByteArray.mk #[]) w2)
  have HLn := hid (ntlose_nil 0)
  have HCn := hid (ntcopy_nil 0)
  have HAn := hid ntall_nil
  have HOn := hid ntlost_nil
  go_enter Try.func19, Try.ntmps19
  go_wp2_with fail
  refine H0.out.mono ?_
  rintro e w0 ⟨g, S0, rfl, hn⟩
  have H1 := hid (n28_send 1 (-1) [97] hn ⟨by decide, by decide⟩ (hid k28_1))
  clear hn H0
  go_wp2_with fail
  refine H1.out.mono ?_
  rintro e w1 ⟨rfl, S1, hn, -⟩
  have H2 := hid (n28_send 2 (-1) [98] hn ⟨by decide, by decide⟩ (hid k28_2))
  clear hn H1
  go_wp2_with fail
  refine H2.out.mono ?_
  rintro e w2 ⟨rfl, S2, hn, -⟩
  have H3 := hid (n28_send 3 (-1) [99] hn ⟨by decide, by decide⟩ (hid k28_3))
  clear hn H2
  go_wp2_with fail
  refine H3.out.mono ?_
  rintro e w3 ⟨rfl, S3, hn, -⟩
  have H4 := hid (n28_take 1 hn (hid k28_4))
  clear hn H3
  go_wp2_with fail
  refine H4.out.mono ?_
  rintro e w4 ⟨rfl, S4, hn, -⟩
  have hb4 := enew w4 (.cells #[.int .i64 l28b.no, .int .i64 l28b.frm, .int .i64 l28b.to_, .string (bs l28b.bytes)] 73)
  have KB := hid (Bk.new w4 73 #[.int .i64 l28b.no, .int .i64 l28b.frm, .int .i64 l28b.to_, .string (bs l28b.bytes)])
  have hn2 := hn.up hb4
  have H5 := hid (n28_copy 0 hn2 ⟨by decide, by decide⟩ (hid k28_5))
  have HL4 : Hid (¬ S4 w4.heap.size) := hid (fun h => by have := hn.lt _ h; omega)
  clear hn hn2 hb4 H4
  go_wp2_with fail
  refine H5.out.mono ?_
  rintro e w5 ⟨rfl, hr⟩
  obtain ⟨S5, hn, ho, hk⟩ := hr.out
  have KB5 := hid (KB.out.onS ho HL4.out)
  have HL5 := hid (hk _ KB.out.lt HL4.out)
  have H6 := hid (n28_lose 0 hn ⟨by decide, by decide⟩ (hid k28_6))
  clear hn ho hk hr H5
  go_wp2_with fail
  refine H6.out.mono ?_
  rintro e w6 ⟨rfl, hr⟩
  obtain ⟨S6, hn, ho, hk⟩ := hr.out
  have KB6 := hid (KB5.out.onS ho HL5.out)
  have H7 := hid hn
  clear hn ho hk hr H6
  go_wp2_with fail
  refine (HTn.out _).mono ?_
  rintro e w7 ⟨rfl, hb7⟩
  have hb8 := enew w7 (.cells #[.int .i64 0, .int .i64 0, .int .i64 0, .string (ByteArray.mk #[])] 73)
  have H8 := hid ((H7.out.up hb7).up hb8)
  have KB8 := hid ((KB6.out.up hb7).up hb8)
  clear hb7 hb8 H7
  have HA := hid (n28_all H8.out (hid (show _ = 2 from rfl)))
  have p0 := Bk.cell KB8.out 0
  have p1 := Bk.cell KB8.out 1
  have p2 := Bk.cell KB8.out 2
  have p3 := Bk.cell KB8.out 3
  go_wp2_with fail
  refine HA.out.mono ?_
  rintro e w9 ⟨A, c, rfl, hga, hb9⟩
  have hb10 := enew w9 (.cells #[.int .i64 2, .int .i64 3, .int .i64 (-1), .string (ByteArray.mk #[99]), .int .i64 3, .int .i64 1, .int .i64 (-1), .string (ByteArray.mk #[97])] 73)
  have hx10 := gx_new (M := [l28c, l28d]) encLt_len (Bk.new w9 73 #[.int .i64 2, .int .i64 3, .int .i64 (-1), .string (ByteArray.mk #[99]), .int .i64 3, .int .i64 1, .int .i64 (-1), .string (ByteArray.mk #[97])]) rfl
  have H10 := hid ((H8.out.up hb9).up hb10)
  have hga2 : GX encLt 4 (w9.alloc (.cells #[.int .i64 2, .int .i64 3, .int .i64 (-1), .string (ByteArray.mk #[99]), .int .i64 3, .int .i64 1, .int .i64 (-1), .string (ByteArray.mk #[97])] 73)) (· < (w9.alloc (.cells #[.int .i64 2, .int .i64 3, .int .i64 (-1), .string (ByteArray.mk #[99]), .int .i64 3, .int .i64 1, .int .i64 (-1), .string (ByteArray.mk #[97])] 73)).heap.size) A [l28c, l28d] := by
    obtain ⟨A', c', e, h1, -⟩ := GB.reads encLt_len hga
    simp only [Value.slice.injEq] at e
    obtain ⟨rfl, -, rfl⟩ := e
    exact (h1.imp fun b hb => hb.2).up hb10
  have HS := hid (ltsame_lit A (some ⟨w9.heap.size, 0, none⟩) c 2 2 [l28c, l28d] (w9.alloc (.cells #[.int .i64 2, .int .i64 3, .int .i64 (-1), .string (ByteArray.mk #[99]), .int .i64 3, .int .i64 1, .int .i64 (-1), .string (ByteArray.mk #[97])] 73)) hga2 (hx10.imp fun b hb => by subst hb; simp) (hid rfl) (by omega))
  clear hga hga2 hx10 hb9 hb10 HA p0 p1 p2 p3 H8 KB8
  go_wp2_with fail
  refine HS.out.mono ?_
  rintro e w11 ⟨rfl, hb11⟩
  have H11 := hid (H10.out.up hb11)
  have HLo := hid (n28_lost H11.out (by decide) (hid (show _ = 1 from rfl)))
  clear hb11 HS H10
  go_wp2_with fail
  refine HLo.out.mono ?_
  rintro e w12 ⟨rfl, hb12⟩
  have H12 := hid (H11.out.up hb12).bel
  clear hb12 HLo H11
  go_wp2_with fail
  refine (HSn.out _).mono ?_
  rintro e w13 ⟨rfl, hb13⟩
  have H13 := hid (estep H12.out hb13)
  clear hb13 HSn H12
  go_wp2_with fail
  refine (HLn.out _).mono ?_
  rintro e w14 ⟨rfl, hb14⟩
  have H14 := hid (estep H13.out hb14)
  clear hb14 HLn H13
  go_wp2_with fail
  refine (HCn.out _).mono ?_
  rintro e w15 ⟨rfl, hb15⟩
  have H15 := hid (estep H14.out hb15)
  clear hb15 HCn H14
  go_wp2_with fail
  refine (HAn.out _).mono ?_
  rintro e w16 ⟨rfl, hb16⟩
  have H16 := hid (estep H15.out hb16)
  clear hb16 HAn H15
  go_wp2_with fail
  refine (HOn.out _).mono ?_
  rintro e w17 ⟨rfl, hb17⟩
  have H17 := hid (estep H16.out hb17)
  clear hb17 HOn H16
  go_wp2_with fail
  go_returns
  exact ⟨rfl, H17.out⟩
end Go.Proofs.Ytflamedbeagjlaa
namespace Go.Proofs.Ytflamedbeagjlaa
set_option linter.unusedVariables false
set_option linter.unusedSimpArgs false

def ntPlay (x : Nts) (m : Mv28) : Nts := if m.kind = 0 then (ntSend x m.frm m.to_ m.bytes).1 else if m.kind = 1 then (ntTake x m.k).1 else if m.kind = 2 then (ntLose x m.k).1 else (ntCopy x m.k).1
theorem ntSend_up (x : Nts) (f t : Int) (s : List UInt8) : (ntSend x f t s).1.next ≤ x.next + 1 ∧ (ntSend x f t s).1.lost ≤ x.lost + 1 := by
  unfold ntSend ntLose1
  split <;> (simp only; omega)
theorem ntTake_up (x : Nts) (k : Int) : (ntTake x k).1.next ≤ x.next + 1 ∧ (ntTake x k).1.lost ≤ x.lost + 1 := by
  unfold ntTake
  split <;> (simp only; omega)
theorem ntLose_up (x : Nts) (k : Int) : (ntLose x k).1.next ≤ x.next + 1 ∧ (ntLose x k).1.lost ≤ x.lost + 1 := by
  unfold ntLose ntLose1
  split <;> (simp only; omega)
theorem ntCopy_up (x : Nts) (k : Int) : (ntCopy x k).1.next ≤ x.next + 1 ∧ (ntCopy x k).1.lost ≤ x.lost + 1 := by
  unfold ntCopy
  split
  · exact ntSend_up _ _ _ _
  · simp only; omega
theorem ntPlay_up (x : Nts) (m : Mv28) : (ntPlay x m).next ≤ x.next + 1 ∧ (ntPlay x m).lost ≤ x.lost + 1 := by
  unfold ntPlay
  split
  · exact ntSend_up _ _ _ _
  · split
    · exact ntTake_up _ _
    · split
      · exact ntLose_up _ _
      · exact ntCopy_up _ _
theorem ntPlay_ok {x : Nts} (h : NtOk x) (m : Mv28) : NtOk (ntPlay x m) := by
  unfold ntPlay
  split
  · exact h.send _ _ _
  · split
    · exact h.take _
    · split
      · exact h.lose _
      · exact h.copy _
theorem ntPlay0 {x : Nts} {m : Mv28} (h : m.kind = 0) : ntPlay x m = (ntSend x m.frm m.to_ m.bytes).1 := by unfold ntPlay; rw [if_pos h]
theorem ntPlay1 {x : Nts} {m : Mv28} (h : m.kind = 1) : ntPlay x m = (ntTake x m.k).1 := by unfold ntPlay; rw [if_neg (by omega), if_pos h]
theorem ntPlay2 {x : Nts} {m : Mv28} (h : m.kind = 2) : ntPlay x m = (ntLose x m.k).1 := by unfold ntPlay; rw [if_neg (by omega), if_neg (by omega), if_pos h]
theorem ntPlay3 {x : Nts} {m : Mv28} (h : m.kind ≠ 0 ∧ m.kind ≠ 1 ∧ m.kind ≠ 2) : ntPlay x m = (ntCopy x m.k).1 := by unfold ntPlay; rw [if_neg h.1, if_neg h.2.1, if_neg h.2.2]
end Go.Proofs.Ytflamedbeagjlaa
namespace Go.Proofs.Ytflamedbeagjlaa
set_option linter.unusedVariables false
set_option linter.unusedSimpArgs false
open Go.RowKit Go.Joins

/-- What NetCounts' loop knows. -/
structure NcI (w wr : World) (S : Nat → Prop) (g : Nat) (X : Nts) (made taken i : Nat) : Prop where
  n : N28 w wr S g X
  sum : ntSum X taken = made
  nx : X.next ≤ i
  lo : X.lost ≤ i
  md : made ≤ i
theorem NcI.tk {w wr : World} {S : Nat → Prop} {g : Nat} {X : Nts} {made taken i : Nat} (h : NcI w wr S g X made taken i) : taken ≤ i := by
  have h1 := h.sum
  have h2 := h.md
  unfold ntSum at h1
  omega
theorem NcI.send {w wr w2 : World} {S : Nat → Prop} {g : Nat} {X Y : Nts} {made taken i : Nat} (h : NcI w wr S g X made taken i) (hi : i ≤ 800) {f t : Int} {s : List UInt8} {ok : Bool} (e : ntSend X f t s = (Y, ok)) {S' : Nat → Prop} (hn : N28 w w2 S' g Y) : NcI w w2 S' g Y (made + 1) taken (i + 1) := by
  have h1 := ntSum_send X f t s taken (by have := h.lo; omega)
  have h2 := ntSend_up X f t s
  rw [e] at h1 h2
  simp only at h1 h2
  exact ⟨hn, by rw [h1.1, h.sum], by have := h.nx; omega, by have := h.lo; omega, by have := h.md; omega⟩
theorem NcI.take {w wr w2 : World} {S : Nat → Prop} {g : Nat} {X Y : Nts} {made taken i : Nat} (h : NcI w wr S g X made taken i) {k : Int} {l : Ltr} {ok : Bool} (e : ntTake X k = (Y, l, ok)) {S' : Nat → Prop} (hn : N28 w w2 S' g Y) : NcI w w2 S' g Y made (taken + if ok = true then 1 else 0) (i + 1) := by
  have h1 := ntSum_take X k taken
  have h2 := ntTake_up X k
  rw [e] at h1 h2
  simp only at h1 h2
  exact ⟨hn, by rw [h1.1, h.sum], by have := h.nx; omega, by have := h.lo; omega, by have := h.md; omega⟩
theorem NcI.lose {w wr w2 : World} {S : Nat → Prop} {g : Nat} {X Y : Nts} {made taken i : Nat} (h : NcI w wr S g X made taken i) (hi : i ≤ 800) {k : Int} {ok : Bool} (e : ntLose X k = (Y, ok)) {S' : Nat → Prop} (hn : N28 w w2 S' g Y) : NcI w w2 S' g Y made taken (i + 1) := by
  have h1 := ntSum_lose X k taken (by have := h.lo; omega)
  have h2 := ntLose_up X k
  rw [e] at h1 h2
  simp only at h1 h2
  exact ⟨hn, by rw [h1.1, h.sum], by have := h.nx; omega, by have := h.lo; omega, by have := h.md; omega⟩
theorem NcI.copy {w wr w2 : World} {S : Nat → Prop} {g : Nat} {X Y : Nts} {made taken i : Nat} (h : NcI w wr S g X made taken i) (hi : i ≤ 800) {k : Int} {ok : Bool} (e : ntCopy X k = (Y, ok)) {S' : Nat → Prop} (hn : N28 w w2 S' g Y) : NcI w w2 S' g Y (made + if 0 ≤ k ∧ k < (X.all.length : Int) then 1 else 0) taken (i + 1) := by
  have h1 := ntSum_copy X k taken (by have := h.lo; omega)
  have h2 := ntCopy_up X k
  rw [e] at h1 h2
  simp only at h1 h2
  refine ⟨hn, by rw [h1.1, h.sum], by have := h.nx; omega, by have := h.lo; omega, ?_⟩
  have := h.md
  split <;> omega
theorem NcI.up {w wr w2 : World} {S : Nat → Prop} {g : Nat} {X : Nts} {made taken i : Nat} (h : NcI w wr S g X made taken i) (hb : Below wr.heap.size wr w2) : NcI w w2 S g X made taken i := ⟨h.n.up hb, h.sum, h.nx, h.lo, h.md⟩
theorem keepK {v w' : World} {a : Addr} {x : Value} (h : v.cell? a = some x) (hz : Below v.heap.size v w') : w'.cell? a = some x ∧ Below v.heap.size v w' := ⟨(hz.cell (lt_of_cell h)).trans h, hz⟩
set_option maxRecDepth 100000 in
set_option maxHeartbeats 16000000 in
theorem netCounts_walk (v : Value) (L : List Mv28) (w : World) (hx : RwV encM28 5 w (· < w.heap.size) v L) :
    Calls Try.prog 7 #[v] w fun e w' => e = .returned (.bool true) ∧ Below w.heap.size w w' := by
  have hnot := enot
  obtain ⟨A0, cap0, rfl, hgx, -⟩ := hx
  obtain ⟨n, hn⟩ : ∃ n, L.length = n := ⟨_, rfl⟩
  rw [hn]
  have HG := hid hgx
  have HN := hid hn
  clear hgx hn
  by_cases hc0 : (800 : Int) < (n : Int)
  · have hd0 : decide ((800 : Int) < (n : Int)) = true := decide_eq_true hc0
    have hdn0 : decide (800 < n) = true := decide_eq_true (by omega)
    go_enter Try.func7, Try.ntmps7
    go_wp2_with fail
    refine (known28_any _).mono ?_
    rintro e w1 ⟨rfl, hb1⟩
    go_wp2_with fail
    go_returns
    exact ⟨rfl, hb1⟩
  have hd0 : decide ((800 : Int) < (n : Int)) = false := decide_eq_false hc0
  have hdn0 : decide (800 < n) = false := decide_eq_false (by omega)
  have hn800 : n ≤ 800 := by omega
  have HNW := hid (n28_new w)
  clear hc0
  go_enter Try.func7, Try.ntmps7
  go_wp2_with fail
  refine HNW.out.mono ?_
  rintro e w1 ⟨g, S0, rfl, hN0⟩
  have H1 := hid hN0
  clear hN0 HNW
  go_wp2_with fail
  go_loopg [4, 5, 6] n (fun g1 vm vt vi wr => ∃ (i made taken : Nat) (X : Nts) (S : Nat → Prop), vi = .int .i64 i ∧ vm = .int .i64 made ∧ vt = .int .i64 taken ∧ i ≤ n ∧ n - i ≤ g1 ∧ Hid (NcI w wr S g X made taken i))
  case atStart => exact ⟨0, 0, 0, nt0, S0, rfl, rfl, rfl, by omega, by omega, hid ⟨H1.out, rfl, Nat.le_refl _, Nat.le_refl _, Nat.le_refl _⟩⟩
  case round =>
    obtain ⟨i, made, taken, X, S, rfl, rfl, rfl, hin, hgk, HI⟩ := hrel
    obtain ⟨wz, hwz⟩ : ∃ wz, wz = wr := ⟨_, rfl⟩
    subst hwz
    by_cases hlt : i < n
    · have hiL : i < L.length := by have := HN.out; omega
      obtain ⟨b, o, rfl, hB, r0, r1, r2, r3, r4⟩ := m28_cells HG.out (List.getElem?_eq_getElem hiL)
      have HCC : Hid (∀ w', Below w.heap.size w w' → w'.cell? ⟨b, o + i * 5, none⟩ = some (.int .i64 L[i].kind) ∧ w'.cell? ⟨b, o + i * 5 + 1, none⟩ = some (.int .i64 L[i].frm) ∧ w'.cell? ⟨b, o + i * 5 + 2, none⟩ = some (.int .i64 L[i].to_) ∧ w'.cell? ⟨b, o + i * 5 + 3, none⟩ = some (.string (bs L[i].bytes)) ∧ w'.cell? ⟨b, o + i * 5 + 4, none⟩ = some (.int .i64 L[i].k)) := hid (fun w' hb => ⟨(hb.cell (p := ⟨b, o + i * 5, none⟩) hB).trans r0, (hb.cell (p := ⟨b, o + i * 5 + 1, none⟩) hB).trans r1, (hb.cell (p := ⟨b, o + i * 5 + 2, none⟩) hB).trans r2, (hb.cell (p := ⟨b, o + i * 5 + 3, none⟩) hB).trans r3, (hb.cell (p := ⟨b, o + i * 5 + 4, none⟩) hB).trans r4⟩)
      clear hB r0 r1 r2 r3 r4
      generalize L[i] = m at *
      obtain ⟨r0, r1, r2, r3, r4⟩ := HCC.out wz HI.out.n.bel
      have hltz : (i : Int) < (n : Int) := by omega
      have hltd : decide ((i : Int) < (n : Int)) = true := decide_eq_true hltz
      have hltn : decide (i < n) = true := decide_eq_true hlt
      have hi0 : (0 : Int) ≤ (i : Int) := by omega
      have hadd : IntKind.i64.wrap ((i : Int) + 1) = (i : Int) + 1 := IntWalk.i64_in _ (by omega)
      by_cases hc : (300 : Int) < (m.bytes.length : Int)
      · have hd3 : decide ((300 : Int) < (m.bytes.length : Int)) = true := decide_eq_true hc
        have hd3n : decide (300 < m.bytes.length) = true := decide_eq_true (by omega)
        go_wp2_with fail
        refine (known28_any _).mono ?_
        rintro e w3 ⟨rfl, hb3⟩
        go_wp2_with fail
        go_returns
        exact ⟨rfl, estep HI.out.n.bel hb3⟩
      have hd3 : decide ((300 : Int) < (m.bytes.length : Int)) = false := decide_eq_false hc
      have hd3n : decide (300 < m.bytes.length) = false := decide_eq_false (by omega)
      have hmd := HI.out.md
      have htk := HI.out.tk
      have ham : IntKind.i64.wrap ((made : Int) + 1) = (made : Int) + 1 := IntWalk.i64_in _ (by omega)
      have hat : IntKind.i64.wrap ((taken : Int) + 1) = (taken : Int) + 1 := IntWalk.i64_in _ (by omega)
      obtain ⟨q, hq⟩ : ∃ q, X.all.length = q := ⟨_, rfl⟩
      have HQ := hid hq
      have hz : Below wz.heap.size wz wz.drew := (Below.refl _ _).drew
      have HZ := hid (show X.next ≤ 1000000 ∧ X.lost ≤ 1000000 from by have := HI.out.nx; have := HI.out.lo; omega)
      clear hq hc
      by_cases hneg : 0 ≤ m.k
      · have hdk : decide (0 ≤ m.k) = true := decide_eq_true hneg
        have HAL := hid (fun (w2 : World) (hb : Below wz.heap.size wz w2) => n28_all (HI.out.n.up hb) HQ)
        have r4z := r4
        go_wp2_with fail
        go_region_held3 (fun w' => w'.cell? ⟨b, o + i * 5 + 4, none⟩ = some (.int .i64 m.k) ∧ Below wz.heap.size wz w') (first | (with_reducible exact keepK r4z hz)) (first
          | (go_at_call 24
             ((with_reducible refine (HAL.out _ hz).mono ?_); rintro e wa ⟨A5, c5, rfl, hs5, hy⟩)
             have hz := hz.trans (hy.mono hz.size)))
        all_goals
          obtain ⟨we, hwe⟩ : ∃ we, we = wa := ⟨_, rfl⟩
          subst hwe
          have HE := hid (HI.out.up hz)
          clear hs5 hy hz HAL r0 r1 r2 r3 r4 r4z
          obtain ⟨r0, r1, r2, r3, r4⟩ := HCC.out we HE.out.n.bel
          by_cases hkq : m.k < (q : Int)
          · have hdq : decide (m.k < (q : Int)) = true := decide_eq_true hkq
            by_cases h0 : m.kind = 0
            · obtain ⟨Y, ok, hY⟩ : ∃ Y ok, ntSend X m.frm m.to_ m.bytes = (Y, ok) := ⟨_, _, rfl⟩
              have hk0 : decide (m.kind = 0) = true := decide_eq_true (by omega)
              have hf0 : (m.kind == 0) = true := by simp; omega
              have HSD := hid (fun w2 (hb : Below we.heap.size we w2) => n28_send m.frm m.to_ m.bytes (HE.out.n.up hb) HZ.out (hid hY))
              have HY := hid hY
              have hz9 : Below we.heap.size we we.drew := (Below.refl _ _).drew
              have hb9 : Below w.heap.size w we.drew := HE.out.n.bel.drew
              clear hY
              go_wp2_with fail
              go_region_held3 (fun w' => w'.cell? ⟨b, o + i * 5, none⟩ = some (.int .i64 m.kind) ∧ w'.cell? ⟨b, o + i * 5 + 1, none⟩ = some (.int .i64 m.frm) ∧ w'.cell? ⟨b, o + i * 5 + 2, none⟩ = some (.int .i64 m.to_) ∧ w'.cell? ⟨b, o + i * 5 + 3, none⟩ = some (.string (bs m.bytes)) ∧ w'.cell? ⟨b, o + i * 5 + 4, none⟩ = some (.int .i64 m.k)) (first | (with_reducible exact HCC.out _ hb9) | (with_reducible exact HCC.out _ (hb9.alloc hb9.size _))) (first
                | (go_at_call 25
                   ((with_reducible refine (HSD.out _ hz9).mono ?_); rintro e wy ⟨rfl, hr⟩)
                   obtain ⟨S9, hN9, -, -⟩ := hr.out
                   have hb9 := hN9.bel))
              all_goals
                have H9 := hid (HE.out.send (by omega) HY.out hN9)
                clear hN9 hb9 hz9 HSD r0 r1 r2 r3 r4
                go_wp2_with fail
                go_roundg (n - (i + 1))
                case measure => omega
                case rel => exact ⟨i + 1, made + 1, taken, Y, S9, by go_num, by go_num, by first | rfl | go_num, by omega, by omega, H9⟩
            by_cases h1 : m.kind = 1
            · obtain ⟨Y, l, ok, hY⟩ : ∃ Y l ok, ntTake X m.k = (Y, l, ok) := ⟨_, _, _, rfl⟩
              have hk0 : decide (m.kind = 0) = false := decide_eq_false (by omega)
              have hf0 : (m.kind == 0) = false := by simp; omega
              have hk1 : decide (m.kind = 1) = true := decide_eq_true (by omega)
              have hf1 : (m.kind == 1) = true := by simp; omega
              have HSD := hid (n28_take m.k HE.out.n (hid hY))
              have HY := hid hY
              clear hY
              go_wp2_with fail
              refine HSD.out.mono ?_
              rintro e wy ⟨rfl, hr⟩
              obtain ⟨S9, hN9, -, -⟩ := hr.out
              have H9 := hid ((HE.out.take HY.out hN9).up (enew wy (.cells #[.int .i64 l.no, .int .i64 l.frm, .int .i64 l.to_, .string (bs l.bytes)] 73)))
              clear hN9 HSD r0 r1 r2 r3 r4
              cases ok
              · go_wp2_with fail
                go_roundg (n - (i + 1))
                case measure => omega
                case rel => exact ⟨i + 1, made, taken, Y, S9, by go_num, by first | rfl | go_num, by first | rfl | go_num, by omega, by omega, H9⟩
              · go_wp2_with fail
                go_roundg (n - (i + 1))
                case measure => omega
                case rel => exact ⟨i + 1, made, taken + 1, Y, S9, by go_num, by first | rfl | go_num, by go_num, by omega, by omega, H9⟩
            by_cases h2 : m.kind = 2
            · obtain ⟨Y, ok, hY⟩ : ∃ Y ok, ntLose X m.k = (Y, ok) := ⟨_, _, rfl⟩
              have hk0 : decide (m.kind = 0) = false := decide_eq_false (by omega)
              have hf0 : (m.kind == 0) = false := by simp; omega
              have hk1 : decide (m.kind = 1) = false := decide_eq_false (by omega)
              have hf1 : (m.kind == 1) = false := by simp; omega
              have hk2 : decide (m.kind = 2) = true := decide_eq_true (by omega)
              have hf2 : (m.kind == 2) = true := by simp; omega
              have HSD := hid (n28_lose m.k HE.out.n HZ.out (hid hY))
              have HY := hid hY
              clear hY
              go_wp2_with fail
              refine HSD.out.mono ?_
              rintro e wy ⟨rfl, hr⟩
              obtain ⟨S9, hN9, -, -⟩ := hr.out
              have H9 := hid (HE.out.lose (by omega) HY.out hN9)
              clear hN9 HSD r0 r1 r2 r3 r4
              go_wp2_with fail
              go_roundg (n - (i + 1))
              case measure => omega
              case rel => exact ⟨i + 1, made, taken, Y, S9, by go_num, by first | rfl | go_num, by first | rfl | go_num, by omega, by omega, H9⟩
            obtain ⟨Y, ok, hY⟩ : ∃ Y ok, ntCopy X m.k = (Y, ok) := ⟨_, _, rfl⟩
            have hk0 : decide (m.kind = 0) = false := decide_eq_false (by omega)
            have hf0 : (m.kind == 0) = false := by simp; omega
            have hk1 : decide (m.kind = 1) = false := decide_eq_false (by omega)
            have hf1 : (m.kind == 1) = false := by simp; omega
            have hk2 : decide (m.kind = 2) = false := decide_eq_false (by omega)
            have hf2 : (m.kind == 2) = false := by simp; omega
            have HSD := hid (n28_copy m.k HE.out.n HZ.out (hid hY))
            have HY := hid hY
            clear hY
            go_wp2_with fail
            refine HSD.out.mono ?_
            rintro e wy ⟨rfl, hr⟩
            obtain ⟨S9, hN9, -, -⟩ := hr.out
            have H9 := hid (HE.out.copy (by omega) HY.out hN9)
            clear hN9 HSD r0 r1 r2 r3 r4
            go_wp2_with fail
            have H10 : Hid (NcI w _ S9 g Y (made + 1) taken (i + 1)) := hid (by have := H9.out; rw [HQ.out, if_pos ⟨hneg, hkq⟩] at this; exact this)
            go_roundg (n - (i + 1))
            case measure => omega
            case rel => exact ⟨i + 1, made + 1, taken, Y, S9, by go_num, by go_num, by first | rfl | go_num, by omega, by omega, H10⟩
          · have hdq : decide (m.k < (q : Int)) = false := decide_eq_false hkq
            by_cases h0 : m.kind = 0
            · obtain ⟨Y, ok, hY⟩ : ∃ Y ok, ntSend X m.frm m.to_ m.bytes = (Y, ok) := ⟨_, _, rfl⟩
              have hk0 : decide (m.kind = 0) = true := decide_eq_true (by omega)
              have hf0 : (m.kind == 0) = true := by simp; omega
              have HSD := hid (fun w2 (hb : Below we.heap.size we w2) => n28_send m.frm m.to_ m.bytes (HE.out.n.up hb) HZ.out (hid hY))
              have HY := hid hY
              have hz9 : Below we.heap.size we we.drew := (Below.refl _ _).drew
              have hb9 : Below w.heap.size w we.drew := HE.out.n.bel.drew
              clear hY
              go_wp2_with fail
              go_region_held3 (fun w' => w'.cell? ⟨b, o + i * 5, none⟩ = some (.int .i64 m.kind) ∧ w'.cell? ⟨b, o + i * 5 + 1, none⟩ = some (.int .i64 m.frm) ∧ w'.cell? ⟨b, o + i * 5 + 2, none⟩ = some (.int .i64 m.to_) ∧ w'.cell? ⟨b, o + i * 5 + 3, none⟩ = some (.string (bs m.bytes)) ∧ w'.cell? ⟨b, o + i * 5 + 4, none⟩ = some (.int .i64 m.k)) (first | (with_reducible exact HCC.out _ hb9) | (with_reducible exact HCC.out _ (hb9.alloc hb9.size _))) (first
                | (go_at_call 25
                   ((with_reducible refine (HSD.out _ hz9).mono ?_); rintro e wy ⟨rfl, hr⟩)
                   obtain ⟨S9, hN9, -, -⟩ := hr.out
                   have hb9 := hN9.bel))
              all_goals
                have H9 := hid (HE.out.send (by omega) HY.out hN9)
                clear hN9 hb9 hz9 HSD r0 r1 r2 r3 r4
                go_wp2_with fail
                go_roundg (n - (i + 1))
                case measure => omega
                case rel => exact ⟨i + 1, made + 1, taken, Y, S9, by go_num, by go_num, by first | rfl | go_num, by omega, by omega, H9⟩
            by_cases h1 : m.kind = 1
            · obtain ⟨Y, l, ok, hY⟩ : ∃ Y l ok, ntTake X m.k = (Y, l, ok) := ⟨_, _, _, rfl⟩
              have hk0 : decide (m.kind = 0) = false := decide_eq_false (by omega)
              have hf0 : (m.kind == 0) = false := by simp; omega
              have hk1 : decide (m.kind = 1) = true := decide_eq_true (by omega)
              have hf1 : (m.kind == 1) = true := by simp; omega
              have HSD := hid (n28_take m.k HE.out.n (hid hY))
              have HY := hid hY
              clear hY
              go_wp2_with fail
              refine HSD.out.mono ?_
              rintro e wy ⟨rfl, hr⟩
              obtain ⟨S9, hN9, -, -⟩ := hr.out
              have H9 := hid ((HE.out.take HY.out hN9).up (enew wy (.cells #[.int .i64 l.no, .int .i64 l.frm, .int .i64 l.to_, .string (bs l.bytes)] 73)))
              clear hN9 HSD r0 r1 r2 r3 r4
              cases ok
              · go_wp2_with fail
                go_roundg (n - (i + 1))
                case measure => omega
                case rel => exact ⟨i + 1, made, taken, Y, S9, by go_num, by first | rfl | go_num, by first | rfl | go_num, by omega, by omega, H9⟩
              · go_wp2_with fail
                go_roundg (n - (i + 1))
                case measure => omega
                case rel => exact ⟨i + 1, made, taken + 1, Y, S9, by go_num, by first | rfl | go_num, by go_num, by omega, by omega, H9⟩
            by_cases h2 : m.kind = 2
            · obtain ⟨Y, ok, hY⟩ : ∃ Y ok, ntLose X m.k = (Y, ok) := ⟨_, _, rfl⟩
              have hk0 : decide (m.kind = 0) = false := decide_eq_false (by omega)
              have hf0 : (m.kind == 0) = false := by simp; omega
              have hk1 : decide (m.kind = 1) = false := decide_eq_false (by omega)
              have hf1 : (m.kind == 1) = false := by simp; omega
              have hk2 : decide (m.kind = 2) = true := decide_eq_true (by omega)
              have hf2 : (m.kind == 2) = true := by simp; omega
              have HSD := hid (n28_lose m.k HE.out.n HZ.out (hid hY))
              have HY := hid hY
              clear hY
              go_wp2_with fail
              refine HSD.out.mono ?_
              rintro e wy ⟨rfl, hr⟩
              obtain ⟨S9, hN9, -, -⟩ := hr.out
              have H9 := hid (HE.out.lose (by omega) HY.out hN9)
              clear hN9 HSD r0 r1 r2 r3 r4
              go_wp2_with fail
              go_roundg (n - (i + 1))
              case measure => omega
              case rel => exact ⟨i + 1, made, taken, Y, S9, by go_num, by first | rfl | go_num, by first | rfl | go_num, by omega, by omega, H9⟩
            obtain ⟨Y, ok, hY⟩ : ∃ Y ok, ntCopy X m.k = (Y, ok) := ⟨_, _, rfl⟩
            have hk0 : decide (m.kind = 0) = false := decide_eq_false (by omega)
            have hf0 : (m.kind == 0) = false := by simp; omega
            have hk1 : decide (m.kind = 1) = false := decide_eq_false (by omega)
            have hf1 : (m.kind == 1) = false := by simp; omega
            have hk2 : decide (m.kind = 2) = false := decide_eq_false (by omega)
            have hf2 : (m.kind == 2) = false := by simp; omega
            have HSD := hid (n28_copy m.k HE.out.n HZ.out (hid hY))
            have HY := hid hY
            clear hY
            go_wp2_with fail
            refine HSD.out.mono ?_
            rintro e wy ⟨rfl, hr⟩
            obtain ⟨S9, hN9, -, -⟩ := hr.out
            have H9 := hid (HE.out.copy (by omega) HY.out hN9)
            clear hN9 HSD r0 r1 r2 r3 r4
            go_wp2_with fail
            have H10 : Hid (NcI w _ S9 g Y made taken (i + 1)) := hid (by have := H9.out; rw [HQ.out, if_neg (by omega)] at this; exact this)
            go_roundg (n - (i + 1))
            case measure => omega
            case rel => exact ⟨i + 1, made, taken, Y, S9, by go_num, by first | rfl | go_num, by first | rfl | go_num, by omega, by omega, H10⟩
      · have hdk : decide (0 ≤ m.k) = false := decide_eq_false hneg
        go_wp2_with fail
        go_quiet (fail)
        have HE := hid (HI.out.up (below_drewN (Below.refl _ wz) nq))
        clear hz r0 r1 r2 r3 r4
        generalize wz.drewN nq = we at *
        obtain ⟨r0, r1, r2, r3, r4⟩ := HCC.out we HE.out.n.bel
        by_cases h0 : m.kind = 0
        · obtain ⟨Y, ok, hY⟩ : ∃ Y ok, ntSend X m.frm m.to_ m.bytes = (Y, ok) := ⟨_, _, rfl⟩
          have hk0 : decide (m.kind = 0) = true := decide_eq_true (by omega)
          have hf0 : (m.kind == 0) = true := by simp; omega
          have HSD := hid (fun w2 (hb : Below we.heap.size we w2) => n28_send m.frm m.to_ m.bytes (HE.out.n.up hb) HZ.out (hid hY))
          have HY := hid hY
          have hz9 : Below we.heap.size we we.drew := (Below.refl _ _).drew
          have hb9 : Below w.heap.size w we.drew := HE.out.n.bel.drew
          clear hY
          go_wp2_with fail
          go_region_held3 (fun w' => w'.cell? ⟨b, o + i * 5, none⟩ = some (.int .i64 m.kind) ∧ w'.cell? ⟨b, o + i * 5 + 1, none⟩ = some (.int .i64 m.frm) ∧ w'.cell? ⟨b, o + i * 5 + 2, none⟩ = some (.int .i64 m.to_) ∧ w'.cell? ⟨b, o + i * 5 + 3, none⟩ = some (.string (bs m.bytes)) ∧ w'.cell? ⟨b, o + i * 5 + 4, none⟩ = some (.int .i64 m.k)) (first | (with_reducible exact HCC.out _ hb9) | (with_reducible exact HCC.out _ (hb9.alloc hb9.size _))) (first
            | (go_at_call 25
               ((with_reducible refine (HSD.out _ hz9).mono ?_); rintro e wy ⟨rfl, hr⟩)
               obtain ⟨S9, hN9, -, -⟩ := hr.out
               have hb9 := hN9.bel))
          all_goals
            have H9 := hid (HE.out.send (by omega) HY.out hN9)
            clear hN9 hb9 hz9 HSD r0 r1 r2 r3 r4
            go_wp2_with fail
            go_roundg (n - (i + 1))
            case measure => omega
            case rel => exact ⟨i + 1, made + 1, taken, Y, S9, by go_num, by go_num, by first | rfl | go_num, by omega, by omega, H9⟩
        by_cases h1 : m.kind = 1
        · obtain ⟨Y, l, ok, hY⟩ : ∃ Y l ok, ntTake X m.k = (Y, l, ok) := ⟨_, _, _, rfl⟩
          have hk0 : decide (m.kind = 0) = false := decide_eq_false (by omega)
          have hf0 : (m.kind == 0) = false := by simp; omega
          have hk1 : decide (m.kind = 1) = true := decide_eq_true (by omega)
          have hf1 : (m.kind == 1) = true := by simp; omega
          have HSD := hid (n28_take m.k HE.out.n (hid hY))
          have HY := hid hY
          clear hY
          go_wp2_with fail
          refine HSD.out.mono ?_
          rintro e wy ⟨rfl, hr⟩
          obtain ⟨S9, hN9, -, -⟩ := hr.out
          have H9 := hid ((HE.out.take HY.out hN9).up (enew wy (.cells #[.int .i64 l.no, .int .i64 l.frm, .int .i64 l.to_, .string (bs l.bytes)] 73)))
          clear hN9 HSD r0 r1 r2 r3 r4
          cases ok
          · go_wp2_with fail
            go_roundg (n - (i + 1))
            case measure => omega
            case rel => exact ⟨i + 1, made, taken, Y, S9, by go_num, by first | rfl | go_num, by first | rfl | go_num, by omega, by omega, H9⟩
          · go_wp2_with fail
            go_roundg (n - (i + 1))
            case measure => omega
            case rel => exact ⟨i + 1, made, taken + 1, Y, S9, by go_num, by first | rfl | go_num, by go_num, by omega, by omega, H9⟩
        by_cases h2 : m.kind = 2
        · obtain ⟨Y, ok, hY⟩ : ∃ Y ok, ntLose X m.k = (Y, ok) := ⟨_, _, rfl⟩
          have hk0 : decide (m.kind = 0) = false := decide_eq_false (by omega)
          have hf0 : (m.kind == 0) = false := by simp; omega
          have hk1 : decide (m.kind = 1) = false := decide_eq_false (by omega)
          have hf1 : (m.kind == 1) = false := by simp; omega
          have hk2 : decide (m.kind = 2) = true := decide_eq_true (by omega)
          have hf2 : (m.kind == 2) = true := by simp; omega
          have HSD := hid (n28_lose m.k HE.out.n HZ.out (hid hY))
          have HY := hid hY
          clear hY
          go_wp2_with fail
          refine HSD.out.mono ?_
          rintro e wy ⟨rfl, hr⟩
          obtain ⟨S9, hN9, -, -⟩ := hr.out
          have H9 := hid (HE.out.lose (by omega) HY.out hN9)
          clear hN9 HSD r0 r1 r2 r3 r4
          go_wp2_with fail
          go_roundg (n - (i + 1))
          case measure => omega
          case rel => exact ⟨i + 1, made, taken, Y, S9, by go_num, by first | rfl | go_num, by first | rfl | go_num, by omega, by omega, H9⟩
        obtain ⟨Y, ok, hY⟩ : ∃ Y ok, ntCopy X m.k = (Y, ok) := ⟨_, _, rfl⟩
        have hk0 : decide (m.kind = 0) = false := decide_eq_false (by omega)
        have hf0 : (m.kind == 0) = false := by simp; omega
        have hk1 : decide (m.kind = 1) = false := decide_eq_false (by omega)
        have hf1 : (m.kind == 1) = false := by simp; omega
        have hk2 : decide (m.kind = 2) = false := decide_eq_false (by omega)
        have hf2 : (m.kind == 2) = false := by simp; omega
        have HSD := hid (n28_copy m.k HE.out.n HZ.out (hid hY))
        have HY := hid hY
        clear hY
        go_wp2_with fail
        refine HSD.out.mono ?_
        rintro e wy ⟨rfl, hr⟩
        obtain ⟨S9, hN9, -, -⟩ := hr.out
        have H9 := hid (HE.out.copy (by omega) HY.out hN9)
        clear hN9 HSD r0 r1 r2 r3 r4
        go_wp2_with fail
        have H10 : Hid (NcI w _ S9 g Y made taken (i + 1)) := hid (by have := H9.out; rw [HQ.out, if_neg (by omega)] at this; exact this)
        go_roundg (n - (i + 1))
        case measure => omega
        case rel => exact ⟨i + 1, made, taken, Y, S9, by go_num, by first | rfl | go_num, by first | rfl | go_num, by omega, by omega, H10⟩
    · obtain rfl : i = n := by omega
      have hltz : ¬ (i : Int) < (i : Int) := by omega
      obtain ⟨q, hq⟩ : ∃ q, X.all.length = q := ⟨_, rfl⟩
      obtain ⟨lo, hlo⟩ : ∃ lo, X.lost = lo := ⟨_, rfl⟩
      have HAL := hid (n28_all HI.out.n (hid hq))
      have hsum := HI.out.sum
      unfold ntSum at hsum
      rw [hq, hlo] at hsum
      have hmd := HI.out.md
      have hXl := HI.out.lo
      have hs1 : (q : Int) + (taken : Int) + (lo : Int) = (made : Int) := by omega
      have ha1 : IntKind.i64.wrap ((q : Int) + (taken : Int)) = (q : Int) + (taken : Int) := IntWalk.i64_in _ (by omega)
      have ha2 : IntKind.i64.wrap ((q : Int) + (taken : Int) + (lo : Int)) = (made : Int) := by rw [hs1]; exact IntWalk.i64_in _ (by omega)
      have HLO := hid hlo
      clear hq hlo
      go_wp2_with fail
      refine HAL.out.mono ?_
      rintro e w3 ⟨A5, c5, rfl, hs5, hb3⟩
      have H3 := hid (HI.out.n.up hb3)
      have HLS := hid (n28_lost H3.out (by omega) HLO)
      clear hs5 hb3 HAL
      go_wp2_with fail
      refine HLS.out.mono ?_
      rintro e w4 ⟨rfl, hb4⟩
      have H4 := hid (estep H3.out.bel hb4)
      clear hb4 HLS H3
      go_wp2_with fail
      refine (known28_any _).mono ?_
      rintro e w5 ⟨rfl, hb5⟩
      have H5 := hid (estep H4.out hb5)
      clear hb5 H4
      go_wp2_with fail
      go_returns
      exact ⟨rfl, H5.out⟩
end Go.Proofs.Ytflamedbeagjlaa
namespace Go.Proofs.Ytflamedbeagjlaa
set_option linter.unusedVariables false
set_option linter.unusedSimpArgs false
open Go.RowKit Go.Joins

variable {NH : World → (Nat → Prop) → Value → Nts → Prop}
theorem play_any (C : NtC NH) (M S : Nat → Prop) (v : Value) (x : Nts) (A : Option Addr) (cap q nx lo : Nat) (m : Mv28) (w : World) (hN : NH w S v x) (hx : RnV w (In M w) x.all A cap) (hM : ∀ b, M b → ¬ S b) (hMw : ∀ b, M b → b < w.heap.size) (hq : Hid (x.all.length = q ∧ x.next = nx ∧ x.lost = lo)) (h64 : nx ≤ 1000000 ∧ lo ≤ 1000000) :
    Calls Try.prog 21 #[v, .agg #[.slice A q cap, .int .i64 (nx : Int), .int .i64 (lo : Int)], .agg #[.int .i64 m.kind, .int .i64 m.frm, .int .i64 m.to_, .string (bs m.bytes), .int .i64 m.k]] w fun e w' => PlR NH w S M v (ntPlay x m) e w' := by
  by_cases h0 : m.kind = 0
  · rw [ntPlay0 h0]
    exact play_send C M S v x A cap q nx lo m w hN hx hM hMw hq h64 h0 (hid rfl)
  · by_cases h1 : m.kind = 1
    · rw [ntPlay1 h1]
      exact play_take C M S v x A cap q nx lo m w hN hx hM hMw hq h64 h1 (hid rfl)
    · by_cases h2 : m.kind = 2
      · rw [ntPlay2 h2]
        exact play_lose C M S v x A cap q nx lo m w hN hx hM hMw hq h64 h2 (hid rfl)
      · rw [ntPlay3 ⟨h0, h1, h2⟩]
        exact play_copy C M S v x A cap q nx lo m w hN hx hM hMw hq h64 ⟨h0, h1, h2⟩ (hid rfl)
end Go.Proofs.Ytflamedbeagjlaa
