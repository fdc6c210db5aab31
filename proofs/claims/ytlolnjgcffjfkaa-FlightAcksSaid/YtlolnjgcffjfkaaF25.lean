/- Texts put together: Cu Cv Cw Cx Cy Dk Dl Dm. -/
import Derived.Test.YtlolnjgcffjfkaaF20
import Derived.Test.YtlolnjgcffjfkaaF02
import Derived.Test.YtlolnjgcffjfkaaF21
import Derived.Test.YtlolnjgcffjfkaaF23
import Derived.Test.YtlolnjgcffjfkaaF24
import Derived.Deep.RegionLaw
import Derived.BigQuiet
namespace Go.Proofs.Ytlolnjgcffjfkaa
set_option linter.unusedVariables false
set_option linter.unusedSimpArgs false
open Go.RowKit Go.Joins

/-- A batch under way, as its cells tell: where its spans lie, and what they are. -/
structure Fs where
  node : Int
  seq : Int
  A : Option Addr
  n : Nat
  c : Nat
  L : List Sp
  tries : Int
  due : Int
def Fs.snt (u : Fs) : Snt := ⟨u.node, u.seq, u.L, u.tries, u.due⟩
def encFs (u : Fs) : List Value := [.int .i64 u.node, .int .i64 u.seq, .slice u.A u.n u.c, .int .i64 u.tries, .int .i64 u.due]
theorem encFs_len (u : Fs) : (encFs u).length = 5 := rfl
theorem encFs_one (u : Fs) : ∀ v ∈ encFs u, v.oneCell' = true := fun v hv => by
  simp [encFs] at hv
  rcases hv with rfl | rfl | rfl | rfl | rfl <;> rfl
theorem rowFs : RowT Try.prog encFs 5 49 71 (.agg #[.int .i64 0, .int .i64 0, .slice none 0 0, .int .i64 0, .int .i64 0]) 56 where
  ht := Try.underlying49
  inf := by kernel_rfl
  hzs := rfl
  k0 := by decide
  hk := encFs_len
  h1 := encFs_one
  hb := by decide
/-- A batch's cells: those of a batch under way, without how often it was sent and when it is due. -/
def encBt (u : Fs) : List Value := [.int .i64 u.node, .int .i64 u.seq, .slice u.A u.n u.c]
theorem encBt_len (u : Fs) : (encBt u).length = 3 := rfl
theorem rowBt : RowT Try.prog encBt 3 73 69 (.agg #[.int .i64 0, .int .i64 0, .slice none 0 0]) 40 where
  ht := Try.underlying73
  inf := by kernel_rfl
  hzs := rfl
  k0 := by decide
  hk := encBt_len
  h1 := fun u v hv => by
    simp [encBt] at hv
    rcases hv with rfl | rfl | rfl <;> rfl
  hb := by decide
/-- What a batch's spans are, read at blocks that N allows. -/
structure FsO (w : World) (N : Nat → Prop) (u : Fs) : Prop where
  gx : GX encSp 11 w N u.A u.L
  len : u.L.length = u.n
  nil : u.A = none → u.c = 0
  cap : u.n ≤ u.c
  lim : u.c ≤ maxLen
def FP (w : World) (N : Nat → Prop) (U : List Fs) : Prop := ∀ u ∈ U, FsO w N u
section
variable {w w' : World} {N M : Nat → Prop} {U V : List Fs} {u : Fs}
theorem FsO.same (h : FsO w N u) (hs : ∀ b, N b → w'.heap[b]? = w.heap[b]?) : FsO w' N u := ⟨h.gx.same hs, h.len, h.nil, h.cap, h.lim⟩
theorem FsO.imp (h : FsO w N u) (hn : ∀ b, N b → M b) : FsO w M u := ⟨h.gx.imp hn, h.len, h.nil, h.cap, h.lim⟩
theorem FsO.up (h : FsO w (· < w.heap.size) u) (hb : Below w.heap.size w w') : FsO w' (· < w'.heap.size) u := ⟨h.gx.up hb, h.len, h.nil, h.cap, h.lim⟩
theorem FP.same (h : FP w N U) (hs : ∀ b, N b → w'.heap[b]? = w.heap[b]?) : FP w' N U := fun u hu => (h u hu).same hs
theorem FP.imp (h : FP w N U) (hn : ∀ b, N b → M b) : FP w M U := fun u hu => (h u hu).imp hn
theorem FP.up (h : FP w (· < w.heap.size) U) (hb : Below w.heap.size w w') : FP w' (· < w'.heap.size) U := fun u hu => (h u hu).up hb
end
/-- The cells of one row. -/
theorem fs_cells {w : World} {N : Nat → Prop} {A : Option Addr} {U : List Fs} (h : GX encFs 5 w N A U) {i : Nat} {u : Fs} (hu : U[i]? = some u) : ∃ b p, A = some ⟨b, p, none⟩ ∧ N b ∧
    w.cell? ⟨b, p + i * 5, none⟩ = some (.int .i64 u.node) ∧ w.cell? ⟨b, p + i * 5 + 1, none⟩ = some (.int .i64 u.seq) ∧ w.cell? ⟨b, p + i * 5 + 2, none⟩ = some (.slice u.A u.n u.c) ∧ w.cell? ⟨b, p + i * 5 + 3, none⟩ = some (.int .i64 u.tries) ∧ w.cell? ⟨b, p + i * 5 + 4, none⟩ = some (.int .i64 u.due) := by
  obtain ⟨hi, rfl⟩ := List.getElem?_eq_some_iff.1 hu
  obtain ⟨b, p, e, h1, h2⟩ := h i hi
  exact ⟨b, p, e, h1, h2 0 (by omega), h2 1 (by omega), h2 2 (by omega), h2 3 (by omega), h2 4 (by omega)⟩
theorem bt_cells {w : World} {N : Nat → Prop} {A : Option Addr} {U : List Fs} (h : GX encBt 3 w N A U) {i : Nat} {u : Fs} (hu : U[i]? = some u) : ∃ b p, A = some ⟨b, p, none⟩ ∧ N b ∧
    w.cell? ⟨b, p + i * 3, none⟩ = some (.int .i64 u.node) ∧ w.cell? ⟨b, p + i * 3 + 1, none⟩ = some (.int .i64 u.seq) ∧ w.cell? ⟨b, p + i * 3 + 2, none⟩ = some (.slice u.A u.n u.c) := by
  obtain ⟨hi, rfl⟩ := List.getElem?_eq_some_iff.1 hu
  obtain ⟨b, p, e, h1, h2⟩ := h i hi
  exact ⟨b, p, e, h1, h2 0 (by omega), h2 1 (by omega), h2 2 (by omega)⟩
theorem flset3 {w : World} {g : Nat} {t : TypeId} {c0 c1 c2 : Value} (k : Bk w g t #[c0, c1, c2]) (a b c : Value) : Bk (((w.setCell ⟨g, 0, none⟩ a).setCell ⟨g, 1, none⟩ b).setCell ⟨g, 2, none⟩ c) g t #[a, b, c] := by
  have h0 : Bk (w.setCell ⟨g, 0, none⟩ a) g t #[a, c1, c2] := Bk.set_ k 0 a
  have h1 : Bk ((w.setCell ⟨g, 0, none⟩ a).setCell ⟨g, 1, none⟩ b) g t #[a, b, c2] := Bk.set_ h0 1 b
  exact Bk.set_ h1 2 c
theorem flother {w : World} {g g' i : Nat} {t : TypeId} {cs : Array Value} (k : Bk w g t cs) (hn : g ≠ g') (u : Value) : Bk (w.setCell ⟨g', i, none⟩ u) g t cs := by
  unfold Bk at k ⊢
  rw [Below.heap_setCell w ⟨g', i, none⟩ u g hn]; exact k
/-- A row of the call's own that lies apart from what is changed. -/
theorem flgb {α : Type} {enc : α → List Value} {k : Nat} {e : TypeId} {w w' : World} {S : Nat → Prop} {base base' : Nat} {v : Value} {L : List α} (h : GB enc k e w base v L) (ho : OnS S w w') (hb : base' ≤ base) (hn : ∀ q, base ≤ q → ¬ S q) : GB enc k e w' base' v L := by
  refine ⟨h.1, ?_⟩
  rcases h.2 with h2 | ⟨g, cap', cur, e1, e2, e3, e4⟩
  · exact Or.inl h2
  · refine Or.inr ⟨g, cap', cur, e1, Nat.le_trans hb e2, ?_, e4⟩
    rw [ho.block g (Array.getElem?_eq_some_iff.1 e3).1 (hn g e2)]
    exact e3
set_option maxRecDepth 100000 in
theorem fltime_any (now : Int) (w : World) {t : Int} (H : Hid (flTime now = t)) :
    Calls Try.prog 40 #[.int .i64 now] w fun e w' => e = .returned (.int .i64 t) ∧ w' = w := by
  have hmm : min (max now 0) 1099511627776 = t := by rw [← H.out]; unfold flTime; omega
  clear H
  go_enter Try.func40, Try.ntmps40
  go_wp2_with fail
  go_returns
  exact ⟨rfl, rfl⟩
theorem flTime_in (now : Int) : 0 ≤ flTime now ∧ flTime now ≤ 1099511627776 := by unfold flTime; omega
set_option maxRecDepth 100000 in
theorem fldue_any (now retry : Int) (w : World) {t : Int} (H : Hid (flDue now retry = t)) :
    Calls Try.prog 38 #[.int .i64 now, .int .i64 retry] w fun e w' => e = .returned (.int .i64 t) ∧ w' = w := by
  obtain ⟨a, ha⟩ : ∃ a, flTime now = a := ⟨_, rfl⟩
  obtain ⟨r, hr⟩ : ∃ r, min (max retry 1) 8 = r := ⟨_, rfl⟩
  have h1 := flTime_in now
  have HT := hid (fltime_any now w (hid ha))
  have e : a + r = t := by rw [← H.out]; unfold flDue; rw [ha]; omega
  have hw : IntKind.i64.wrap (a + r) = t := by rw [e]; exact IntWalk.i64_in _ (by omega)
  clear ha e H
  go_enter Try.func38, Try.ntmps38
  go_wp2_with fail
  refine HT.out.mono ?_
  rintro e w' ⟨rfl, rfl⟩
  go_wp2_with fail
  go_returns
  exact ⟨rfl, rfl⟩
/-- What copied answers. -/
def FlC (w : World) (nd sq : Int) (L : List Sp) (e : Ending) (w' : World) : Prop := ∃ A n c, e = .returned (.agg #[.int .i64 nd, .int .i64 sq, .slice A n c]) ∧ L.length = n ∧ GB encSp 11 34 w' w.heap.size (.slice A n c) L ∧ Below w.heap.size w w'
set_option maxRecDepth 100000 in
set_option maxHeartbeats 4000000 in
theorem flcopied_any (nd sq : Int) (A : Option Addr) (n c : Nat) (L : List Sp) (w : World) (hA : GX encSp 11 w (· < w.heap.size) A L) (hn : Hid (L.length = n)) (hl : n ≤ 1000000) :
    Calls Try.prog 37 #[.agg #[.int .i64 nd, .int .i64 sq, .slice A n c]] w fun e w' => FlC w nd sq L e w' := by
  have hb0 := enew w (.cells #[.int .i64 nd, .int .i64 sq, .slice A n c] 69)
  have hb1 := enew (w.alloc (.cells #[.int .i64 nd, .int .i64 sq, .slice A n c] 69)) (.cells #[.int .i64 0, .int .i64 0, .slice none 0 0] 69)
  have kx := (Bk.new w 69 #[.int .i64 nd, .int .i64 sq, .slice A n c]).up hb1
  have kz := Bk.new (w.alloc (.cells #[.int .i64 nd, .int .i64 sq, .slice A n c] 69)) 69 #[.int .i64 0, .int .i64 0, .slice none 0 0]
  rw [World.size_alloc] at kz
  have HC := hid (clonesp_any A n c L _ (hA.up (estep hb0 hb1)) hn hl)
  have HBb := hid (estep hb0 hb1)
  have KX := hid kx
  have KZ := hid kz
  clear hb0 hb1 kx kz hA
  go_enter Try.func37, Try.ntmps37
  go_upto_region 1 with (fail)
  generalize (w.alloc (.cells #[.int .i64 nd, .int .i64 sq, .slice A n c] 69)).alloc (.cells #[.int .i64 0, .int .i64 0, .slice none 0 0] 69) = v0 at *
  have x2 := Bk.cell KX.out 2
  go_wp2_with fail
  refine HC.out.mono ?_
  rintro e w1 ⟨v1, rfl, hv1, hb1⟩
  obtain ⟨A1, c1, rfl, -⟩ := GB.reads encSp_len hv1
  rw [hn.out] at hv1 ⊢
  have HV := hid (And.intro hv1 hb1)
  have kx := KX.out.up hb1
  have kz := KZ.out.up hb1
  have x0 := Bk.cell kx 0
  have x1 := Bk.cell kx 1
  have x3 := Bk.cell kx 2
  have y2 := Bk.frozen kx 2
  have z0 := Bk.cell kz 0
  have z1 := Bk.cell kz 1
  have z2 := Bk.cell kz 2
  have u0 := Bk.frozen kz 0
  have u1 := Bk.frozen kz 1
  have u2 := Bk.frozen kz 2
  clear hv1 hb1 kx kz x2
  go_wp2_with fail
  have K3 := hid (flset3 (flother (g' := w.heap.size) (i := 2) (KZ.out.up HV.out.2) (by omega) (.slice A1 n c1)) (.int .i64 nd) (.int .i64 sq) (.slice A1 n c1))
  have c0 := Bk.cell K3.out 0
  have c1' := Bk.cell K3.out 1
  have c2 := Bk.cell K3.out 2
  (try simp only [Exit.inBlock, Exit.then])
  refine bodyPost_ret (v := .agg #[.int .i64 nd, .int .i64 sq, .slice A1 n c1]) (by simp [results, Try.results37, go_sem, c0, c1', c2]) rfl ?_
  have hon : OnS (fun b => b = w.heap.size ∨ b = w.heap.size + 1) w1 ((((w1.setCell ⟨w.heap.size, 2, none⟩ (.slice A1 n c1)).setCell ⟨w.heap.size + 1, 0, none⟩ (.int .i64 nd)).setCell ⟨w.heap.size + 1, 1, none⟩ (.int .i64 sq)).setCell ⟨w.heap.size + 1, 2, none⟩ (.slice A1 n c1)) := ((((OnS.refl _ w1).cell _ _ _ (Or.inl rfl)).cell _ _ _ (Or.inr rfl)).cell _ _ _ (Or.inr rfl)).cell _ _ _ (Or.inr rfl)
  have hlt := Bk.lt KZ.out
  refine ⟨A1, n, c1, rfl, hn.out, ?_, OnS.to_below (estep HBb.out HV.out.2) hon (fun b _ hb => by omega) (estep HBb.out HV.out.2).size⟩
  refine flgb HV.out.1 hon (by have := HBb.out.size; omega) (fun q hq => ?_)
  omega
end Go.Proofs.Ytlolnjgcffjfkaa
namespace Go.Proofs.Ytlolnjgcffjfkaa
set_option linter.unusedVariables false
set_option linter.unusedSimpArgs false
open Go.RowKit Go.Joins

/-- Few batches, each of few spans. -/
structure FlF (U : List Fs) (n : Nat) : Prop where
  len : U.length = n
  few : n ≤ 1000
  small : ∀ u ∈ U, u.L.length = u.n ∧ u.n ≤ 1000
theorem flSpans_take (U : List Fs) {i : Nat} {u : Fs} (hu : U[i]? = some u) : flSpans ((U.take (i + 1)).map Fs.snt) = flSpans ((U.take i).map Fs.snt) + u.L.length := by
  obtain ⟨hi, rfl⟩ := List.getElem?_eq_some_iff.1 hu
  rw [List.take_succ_eq_append_getElem hi, List.map_append, flSpans_app]
  simp [flSpans, Fs.snt]
theorem flSpans_le {U : List Fs} {n : Nat} (h : FlF U n) (i : Nat) : flSpans ((U.take i).map Fs.snt) ≤ i * 1000 := by
  induction i with
  | zero => simp only [List.take_zero, List.map_nil, flSpans, Nat.zero_le]
  | succ i ih =>
    by_cases hi : i < U.length
    · have hu := List.getElem?_eq_getElem hi
      rw [flSpans_take U hu]
      have := h.small _ (List.getElem_mem hi)
      omega
    · have e : U.take (i + 1) = U.take i := by rw [List.take_of_length_le (by omega), List.take_of_length_le (by omega)]
      exact Nat.le_trans (Nat.le_of_eq (by rw [e])) (Nat.le_trans ih (Nat.mul_le_mul_right _ (Nat.le_succ i)))
set_option maxRecDepth 100000 in
set_option maxHeartbeats 4000000 in
theorem flspans_any (A : Option Addr) (n c : Nat) (U : List Fs) (w : World) (hU : GX encFs 5 w (· < w.heap.size) A U) (hf : FlF U n) {k : Nat} (H : Hid (flSpans (U.map Fs.snt) = k)) :
    Calls Try.prog 22 #[.slice A n c] w fun e w' => e = .returned (.int .i64 (k : Int)) ∧ Below w.heap.size w w' := by
  have HU := hid hU
  have HF := hid hf
  have hn9 := hf.few
  clear hU hf
  go_enter Try.func22, Try.ntmps22
  go_wp2_with fail
  go_loopg [3, 8] n (fun g1 vs vi wr => ∃ i j : Nat, vi = .int .i64 i ∧ vs = .int .i64 (j : Int) ∧ i ≤ n ∧ n - i ≤ g1 ∧ Hid (flSpans ((U.take i).map Fs.snt) = j ∧ Below w.heap.size w wr))
  case atStart => exact ⟨0, 0, rfl, rfl, by omega, by omega, hid ⟨rfl, Below.refl _ _⟩⟩
  case round =>
    obtain ⟨i, j, rfl, rfl, hin, hgk, HI⟩ := hrel
    by_cases hlt : i < n
    · have hiU : i < U.length := by have := HF.out.len; omega
      have hu := List.getElem?_eq_getElem hiU
      obtain ⟨b, o, rfl, -, r0, r1, r2, r3, r4⟩ := fs_cells (HU.out.up HI.out.2) hu
      have HS := hid (flSpans_take U hu)
      have HSM := hid (HF.out.small _ (List.getElem_mem hiU))
      have HLE := hid (flSpans_le HF.out i)
      generalize U[i] = u at *
      obtain ⟨m, hm⟩ : ∃ m, u.n = m := ⟨_, rfl⟩
      rw [hm] at r2
      have HM := hid hm
      have hj9 : j ≤ 1000000 := by have := HLE.out; have := HI.out.1; omega
      have hm9 : m ≤ 1000 := by have := HSM.out.2; omega
      have hltz : (i : Int) < (n : Int) := by omega
      have hltd : decide ((i : Int) < (n : Int)) = true := decide_eq_true hltz
      have hi0 : (0 : Int) ≤ (i : Int) := by omega
      obtain ⟨q, hq⟩ : ∃ q : Nat, (j : Int) + (m : Int) = (q : Int) := ⟨j + m, by omega⟩
      have hw : IntKind.i64.wrap ((j : Int) + (m : Int)) = (q : Int) := by rw [hq]; exact IntWalk.i64_in _ (by omega)
      have HQ := hid hq
      clear hu hm hq
      go_wp2_with fail
      have HB2 := hid (enew wr (.cells #[.int .i64 u.node, .int .i64 u.seq, .slice u.A m u.c, .int .i64 u.tries, .int .i64 u.due] 71))
      go_roundg (n - (i + 1))
      case measure => omega
      case rel => exact ⟨i + 1, q, by go_num, by first | rfl | (rw [hw]) | go_num, by omega, by omega, hid ⟨by have := HS.out; have := HSM.out.1; have := HI.out.1; have := HQ.out; have := HM.out; omega, estep HI.out.2 HB2.out⟩⟩
    · obtain rfl : i = n := by omega
      have hltz : ¬ (i : Int) < (i : Int) := by omega
      have HE := hid (show j = k by rw [← H.out, ← HI.out.1, List.take_of_length_le (by have := HF.out.len; omega)])
      go_wp2_with fail
      go_returns
      exact ⟨by rw [HE.out]; rfl, HI.out.2⟩
theorem flset5 {w : World} {g : Nat} {t : TypeId} {c0 c1 c2 c3 c4 : Value} (k : Bk w g t #[c0, c1, c2, c3, c4]) (a b c d e : Value) : Bk (((((w.setCell ⟨g, 0, none⟩ a).setCell ⟨g, 1, none⟩ b).setCell ⟨g, 2, none⟩ c).setCell ⟨g, 3, none⟩ d).setCell ⟨g, 4, none⟩ e) g t #[a, b, c, d, e] := by
  have h0 : Bk (w.setCell ⟨g, 0, none⟩ a) g t #[a, c1, c2, c3, c4] := Bk.set_ k 0 a
  have h1 : Bk ((w.setCell ⟨g, 0, none⟩ a).setCell ⟨g, 1, none⟩ b) g t #[a, b, c2, c3, c4] := Bk.set_ h0 1 b
  have h2 : Bk (((w.setCell ⟨g, 0, none⟩ a).setCell ⟨g, 1, none⟩ b).setCell ⟨g, 2, none⟩ c) g t #[a, b, c, c3, c4] := Bk.set_ h1 2 c
  have h3 : Bk ((((w.setCell ⟨g, 0, none⟩ a).setCell ⟨g, 1, none⟩ b).setCell ⟨g, 2, none⟩ c).setCell ⟨g, 3, none⟩ d) g t #[a, b, c, d, c4] := Bk.set_ h2 3 d
  exact Bk.set_ h3 4 e
set_option maxRecDepth 100000 in
set_option maxHeartbeats 4000000 in
/-- Send's closure: each batch stays as it is. -/
theorem flsend1_any (nd sq : Int) (A : Option Addr) (n c : Nat) (tr du : Int) (w : World) :
    Calls Try.prog 36 #[.agg #[.int .i64 nd, .int .i64 sq, .slice A n c, .int .i64 tr, .int .i64 du]] w fun e w' => e = .returned (.tuple #[.agg #[.int .i64 nd, .int .i64 sq, .slice A n c, .int .i64 tr, .int .i64 du], .bool true]) ∧ Below w.heap.size w w' := by
  have hb0 := enew w (.cells #[.int .i64 nd, .int .i64 sq, .slice A n c, .int .i64 tr, .int .i64 du] 71)
  have hb1 := enew (w.alloc (.cells #[.int .i64 nd, .int .i64 sq, .slice A n c, .int .i64 tr, .int .i64 du] 71)) (.cells #[.int .i64 0, .int .i64 0, .slice none 0 0, .int .i64 0, .int .i64 0] 71)
  have kx := (Bk.new w 71 #[.int .i64 nd, .int .i64 sq, .slice A n c, .int .i64 tr, .int .i64 du]).up hb1
  have kz := Bk.new (w.alloc (.cells #[.int .i64 nd, .int .i64 sq, .slice A n c, .int .i64 tr, .int .i64 du] 71)) 71 #[.int .i64 0, .int .i64 0, .slice none 0 0, .int .i64 0, .int .i64 0]
  rw [World.size_alloc] at kz
  have HBb := hid (estep hb0 hb1)
  have KX := hid kx
  have KZ := hid kz
  clear hb0 hb1 kx kz
  go_enter Try.func36, Try.ntmps36
  go_upto_region 1 with (fail)
  generalize (w.alloc (.cells #[.int .i64 nd, .int .i64 sq, .slice A n c, .int .i64 tr, .int .i64 du] 71)).alloc (.cells #[.int .i64 0, .int .i64 0, .slice none 0 0, .int .i64 0, .int .i64 0] 71) = v0 at *
  have x0 := Bk.cell KX.out 0
  have x1 := Bk.cell KX.out 1
  have x2 := Bk.cell KX.out 2
  have x3 := Bk.cell KX.out 3
  have x4 := Bk.cell KX.out 4
  have z0 := Bk.cell KZ.out 0
  have z1 := Bk.cell KZ.out 1
  have z2 := Bk.cell KZ.out 2
  have z3 := Bk.cell KZ.out 3
  have z4 := Bk.cell KZ.out 4
  have u0 := Bk.frozen KZ.out 0
  have u1 := Bk.frozen KZ.out 1
  have u2 := Bk.frozen KZ.out 2
  have u3 := Bk.frozen KZ.out 3
  have u4 := Bk.frozen KZ.out 4
  go_wp2_with fail
  have K5 := hid (flset5 KZ.out (.int .i64 nd) (.int .i64 sq) (.slice A n c) (.int .i64 tr) (.int .i64 du))
  have c0 := Bk.cell K5.out 0
  have c1 := Bk.cell K5.out 1
  have c2 := Bk.cell K5.out 2
  have c3 := Bk.cell K5.out 3
  have c4 := Bk.cell K5.out 4
  (try simp only [Exit.inBlock, Exit.then])
  refine bodyPost_ret (v := .tuple #[.agg #[.int .i64 nd, .int .i64 sq, .slice A n c, .int .i64 tr, .int .i64 du], .bool true]) (by simp [results, Try.results36, go_sem, c0, c1, c2, c3, c4]) rfl ?_
  exact ⟨rfl, ((((HBb.out.setCell (Nat.le_succ _) _).setCell (Nat.le_succ _) _).setCell (Nat.le_succ _) _).setCell (Nat.le_succ _) _).setCell (Nat.le_succ _) _⟩
set_option maxRecDepth 100000 in
set_option maxHeartbeats 4000000 in
/-- Ack's closure: a batch of the number does not rest. -/
theorem flack1_any (nd sq : Int) (A : Option Addr) (n c : Nat) (tr du : Int) (g : Nat) (q : Int) (w : World) (hq : w.cell? ⟨g, 0, none⟩ = some (.int .i64 q)) {b : Bool} (hb : Hid ((!decide (sq = q)) = b)) :
    Calls Try.prog 31 #[.agg #[.int .i64 nd, .int .i64 sq, .slice A n c, .int .i64 tr, .int .i64 du], .pointer (some ⟨g, 0, none⟩)] w fun e w' => e = .returned (.tuple #[.agg #[.int .i64 nd, .int .i64 sq, .slice A n c, .int .i64 tr, .int .i64 du], .bool b]) ∧ Below w.heap.size w w' := by
  have hb0 := enew w (.cells #[.int .i64 nd, .int .i64 sq, .slice A n c, .int .i64 tr, .int .i64 du] 71)
  have hb1 := enew (w.alloc (.cells #[.int .i64 nd, .int .i64 sq, .slice A n c, .int .i64 tr, .int .i64 du] 71)) (.cells #[.int .i64 0, .int .i64 0, .slice none 0 0, .int .i64 0, .int .i64 0] 71)
  have kx := (Bk.new w 71 #[.int .i64 nd, .int .i64 sq, .slice A n c, .int .i64 tr, .int .i64 du]).up hb1
  have kz := Bk.new (w.alloc (.cells #[.int .i64 nd, .int .i64 sq, .slice A n c, .int .i64 tr, .int .i64 du] 71)) 71 #[.int .i64 0, .int .i64 0, .slice none 0 0, .int .i64 0, .int .i64 0]
  rw [World.size_alloc] at kz
  have HBb := hid (estep hb0 hb1)
  have HQ := hid (((estep hb0 hb1).cell (p := ⟨g, 0, none⟩) (lt_of_cell hq)).trans hq)
  have hgl : g < w.heap.size := lt_of_cell hq
  have hne1 : ¬ g = w.heap.size + 1 := by omega
  have hne2 : ¬ w.heap.size + 1 = g := by omega
  have KX := hid kx
  have KZ := hid kz
  clear hb0 hb1 kx kz hq
  go_enter Try.func31, Try.ntmps31
  go_upto_region 1 with (fail)
  generalize (w.alloc (.cells #[.int .i64 nd, .int .i64 sq, .slice A n c, .int .i64 tr, .int .i64 du] 71)).alloc (.cells #[.int .i64 0, .int .i64 0, .slice none 0 0, .int .i64 0, .int .i64 0] 71) = v0 at *
  have y0 := HQ.out
  have x0 := Bk.cell KX.out 0
  have x1 := Bk.cell KX.out 1
  have x2 := Bk.cell KX.out 2
  have x3 := Bk.cell KX.out 3
  have x4 := Bk.cell KX.out 4
  have z0 := Bk.cell KZ.out 0
  have z1 := Bk.cell KZ.out 1
  have z2 := Bk.cell KZ.out 2
  have z3 := Bk.cell KZ.out 3
  have z4 := Bk.cell KZ.out 4
  have u0 := Bk.frozen KZ.out 0
  have u1 := Bk.frozen KZ.out 1
  have u2 := Bk.frozen KZ.out 2
  have u3 := Bk.frozen KZ.out 3
  have u4 := Bk.frozen KZ.out 4
  go_wp2_with fail
  go_region_law (fail)
  all_goals
    have K5 := hid (flset5 KZ.out (.int .i64 nd) (.int .i64 sq) (.slice A n c) (.int .i64 tr) (.int .i64 du))
    have c0 := Bk.cell K5.out 0
    have c1 := Bk.cell K5.out 1
    have c2 := Bk.cell K5.out 2
    have c3 := Bk.cell K5.out 3
    have c4 := Bk.cell K5.out 4
    clear x0 x1 x2 x3 x4 z0 z1 z2 z3 z4 u0 u1 u2 u3 u4 y0
    have hbn : (sq != q) = b := by rw [← hb.out]; rfl
    go_wp2_with fail
    (try simp only [Exit.inBlock, Exit.then])
    refine bodyPost_ret (v := .tuple #[.agg #[.int .i64 nd, .int .i64 sq, .slice A n c, .int .i64 tr, .int .i64 du], .bool b]) (by simp [results, Try.results31, go_sem, Act.put, hbn, c0, c1, c2, c3, c4]) rfl ?_
    exact ⟨rfl, (((((HBb.out.setCell (Nat.le_succ _) _).setCell (Nat.le_succ _) _).setCell (Nat.le_succ _) _).setCell (Nat.le_succ _) _).setCell (Nat.le_succ _) _).drew⟩
end Go.Proofs.Ytlolnjgcffjfkaa
namespace Go.Proofs.Ytlolnjgcffjfkaa
set_option linter.unusedVariables false
set_option linter.unusedSimpArgs false
open Go.RowKit Go.Joins

/-- Of what type a block's cells are. -/
def Kd (w : World) (b : Nat) (e : TypeId) : Prop := ∃ c fz, w.heap[b]? = some (.cells c e fz)
theorem Kd.ne {w : World} {b : Nat} {e e2 : TypeId} (h : Kd w b e) (h2 : e ≠ e2) : ¬ Kd w b e2 := fun h3 => by
  obtain ⟨c, fz, h⟩ := h
  obtain ⟨c2, fz2, h3⟩ := h3
  rw [h] at h3
  injection h3 with h3
  injection h3 with _ h3
  exact h2 h3
theorem Bk.kd {w : World} {g : Nat} {t : TypeId} {cs : Array Value} (h : Bk w g t cs) : Kd w g t := ⟨cs, (0, 0), h⟩
theorem flgb2 {α : Type} {enc : α → List Value} {k : Nat} {e : TypeId} {w w' : World} {S : Nat → Prop} {base : Nat} {v : Value} {L : List α} (h : GB enc k e w base v L) (ho : OnS S w w') (hn : ∀ q, v.ownBlock = some q → ¬ S q) : GB enc k e w' base v L := by
  refine ⟨h.1, ?_⟩
  rcases h.2 with h2 | ⟨g, cap', cur, e1, e2, e3, e4⟩
  · exact Or.inl h2
  · refine Or.inr ⟨g, cap', cur, e1, e2, ?_, e4⟩
    rw [ho.block g (Array.getElem?_eq_some_iff.1 e3).1 (hn g (by rw [e1]; rfl))]
    exact e3
theorem flset3b {w : World} {g : Nat} {t : TypeId} {c0 c1 c2 c3 c4 : Value} (k : Bk w g t #[c0, c1, c2, c3, c4]) (a b c : Value) : Bk (((w.setCell ⟨g, 0, none⟩ a).setCell ⟨g, 1, none⟩ b).setCell ⟨g, 2, none⟩ c) g t #[a, b, c, c3, c4] := by
  have h0 : Bk (w.setCell ⟨g, 0, none⟩ a) g t #[a, c1, c2, c3, c4] := Bk.set_ k 0 a
  have h1 : Bk ((w.setCell ⟨g, 0, none⟩ a).setCell ⟨g, 1, none⟩ b) g t #[a, b, c2, c3, c4] := Bk.set_ h0 1 b
  exact Bk.set_ h1 2 c
/-- What a function that is handed on makes of batches: what each is then, if it rests; J is what it knows behind the first i. -/
structure RsF (B : Nat) (w0 : World) (F : Nat) (caps : Array Value) (U : List Fs) (q : Fs → Option Fs) (J : Nat → World → Prop) : Prop where
  eg : ∀ args w, (callFunc F args).run Try.prog w = .ok (.enter F args) w
  run : ∀ (i : Nat) (u : Fs) (w1 : World), U[i]? = some u → Below B w0 w1 → J i w1 → Calls Try.prog F (#[.agg #[.int .i64 u.node, .int .i64 u.seq, .slice u.A u.n u.c, .int .i64 u.tries, .int .i64 u.due]] ++ caps) w1 fun e w2 =>
    (∃ (r : Fs) (b : Bool), e = .returned (.tuple #[.agg #[.int .i64 r.node, .int .i64 r.seq, .slice r.A r.n r.c, .int .i64 r.tries, .int .i64 r.due], .bool b]) ∧ q u = if b then some r else none) ∧ J (i + 1) w2 ∧ OnS (fun b => B ≤ b ∧ ¬ Kd w1 b 71 ∧ ¬ Kd w1 b 34) w1 w2
  keep : ∀ (i : Nat) (w1 w2 : World), J i w1 → OnS (fun b => B ≤ b ∧ Kd w1 b 71) w1 w2 → J i w2
  same : ∀ u r, q u = some r → r.A = u.A ∧ r.n = u.n ∧ r.c = u.c ∧ r.L = u.L
/-- Spans in rows of the call's own. -/
def FK (w : World) (B : Nat) (V : List Fs) : Prop := ∀ u ∈ V, GB encSp 11 34 w B (.slice u.A u.n u.c) u.L ∧ u.L.length = u.n
/-- What the loop of resting knows. -/
structure RsL (B : Nat) (w0 wr : World) (U : List Fs) (q : Fs → Option Fs) (J : Nat → World → Prop) (i : Nat) (v : Value) (V : List Fs) : Prop where
  gb : GB encFs 5 71 wr B v V
  fk : FK wr B V
  eq : V.map Fs.snt = ((U.take i).filterMap q).map Fs.snt
  j : J i wr
  bel : Below B w0 wr
section
variable {B : Nat} {w0 wr w2 : World} {U V : List Fs} {q : Fs → Option Fs} {J : Nat → World → Prop} {i k : Nat} {v : Value} {S : Nat → Prop} {F : Nat} {caps : Array Value} {u r : Fs}
theorem FK.onS (h : FK wr B V) (ho : OnS S wr w2) (hS : ∀ b, Kd wr b 34 → ¬ S b) : FK w2 B V := fun u hu =>
  ⟨flgb2 (h u hu).1 ho fun q hq => hS q ((h u hu).1.kind q hq), (h u hu).2⟩
/-- Nothing but rows of batches under way is changed. -/
theorem RsL.sent (h : RsL B w0 wr U q J i v V) (hf : RsF B w0 F caps U q J) (ho : OnS (fun b => B ≤ b ∧ Kd wr b 71) wr w2) (hB : B ≤ wr.heap.size) (hv : ∀ b, v.ownBlock = some b → w2.heap[b]? = wr.heap[b]?) : RsL B w0 w2 U q J i v V := by
  refine ⟨?_, h.fk.onS ho fun b hb hS => (Kd.ne hb (by decide)) hS.2, h.eq, hf.keep i wr w2 h.j ho, OnS.to_below h.bel ho (fun k _ hk => hk.1) hB⟩
  refine ⟨h.gb.1, ?_⟩
  rcases h.gb.2 with h2 | ⟨g, cap', cur, e1, e2, e3, e4⟩
  · exact Or.inl h2
  · exact Or.inr ⟨g, cap', cur, e1, e2, (hv g (by rw [e1]; rfl)).trans e3, e4⟩
theorem RsL.up (h : RsL B w0 wr U q J i v V) (hf : RsF B w0 F caps U q J) (hb : Below wr.heap.size wr w2) (hB : B ≤ wr.heap.size) : RsL B w0 w2 U q J i v V :=
  h.sent hf (OnS.below hb) hB fun b hv => hb.block b (World.ownsRow.lt h.gb b hv).2
theorem rs_take (hu : U[i]? = some u) : (U.take (i + 1)).filterMap q = (U.take i).filterMap q ++ (q u).toList := by
  obtain ⟨hi, rfl⟩ := List.getElem?_eq_some_iff.1 hu
  have e : [U[i]].filterMap q = (q U[i]).toList := by cases h : q U[i] <;> simp [List.filterMap_cons, h]
  rw [List.take_succ_eq_append_getElem hi, List.filterMap_append, e]
/-- What the loop knows between the call and what is put behind. -/
structure RsM (B : Nat) (w0 wr : World) (U : List Fs) (q : Fs → Option Fs) (J : Nat → World → Prop) (i : Nat) (v : Value) (V : List Fs) : Prop where
  gb : GB encFs 5 71 wr B v V
  fk : FK wr B V
  eq : V.map Fs.snt = ((U.take i).filterMap q).map Fs.snt
  j : J (i + 1) wr
  bel : Below B w0 wr
theorem RsM.sent (h : RsM B w0 wr U q J i v V) (hf : RsF B w0 F caps U q J) (ho : OnS (fun b => B ≤ b ∧ Kd wr b 71) wr w2) (hB : B ≤ wr.heap.size) (hv : ∀ b, v.ownBlock = some b → w2.heap[b]? = wr.heap[b]?) : RsM B w0 w2 U q J i v V := by
  refine ⟨?_, h.fk.onS ho fun b hb hS => (Kd.ne hb (by decide)) hS.2, h.eq, hf.keep (i + 1) wr w2 h.j ho, OnS.to_below h.bel ho (fun k _ hk => hk.1) hB⟩
  refine ⟨h.gb.1, ?_⟩
  rcases h.gb.2 with h2 | ⟨g, cap', cur, e1, e2, e3, e4⟩
  · exact Or.inl h2
  · exact Or.inr ⟨g, cap', cur, e1, e2, (hv g (by rw [e1]; rfl)).trans e3, e4⟩
theorem RsM.up (h : RsM B w0 wr U q J i v V) (hf : RsF B w0 F caps U q J) (hb : Below wr.heap.size wr w2) (hB : B ≤ wr.heap.size) : RsM B w0 w2 U q J i v V :=
  h.sent hf (OnS.below hb) hB fun b hv => hb.block b (World.ownsRow.lt h.gb b hv).2
/-- One more is put behind. -/
theorem RsM.push (h : RsM B w0 wr U q J i v V) (hf : RsF B w0 F caps U q J) (hB : B ≤ wr.heap.size) {v' : Value} {x : Fs} (hG : GB encFs 5 71 w2 B v' (V ++ [x])) (hg : wr.grownBy w2 v.ownBlock) (hx : GB encSp 11 34 wr B (.slice x.A x.n x.c) x.L) (hn : x.L.length = x.n) (hu : U[i]? = some u) (hq : q u = some r) (hs : x.snt = r.snt) : RsL B w0 w2 U q J (i + 1) v' (V ++ [x]) := by
  have ho : OnS (fun b => B ≤ b ∧ Kd wr b 71) wr w2 := OnS.grown hg fun b hb => ⟨(World.ownsRow.lt h.gb b hb).1, h.gb.kind b hb⟩
  have hk : FK w2 B V := h.fk.onS ho fun b hb hS => (Kd.ne hb (by decide)) hS.2
  refine ⟨hG, fun y hy => ?_, ?_, hf.keep (i + 1) wr w2 h.j ho, OnS.to_below h.bel ho (fun k _ hk => hk.1) hB⟩
  · rcases List.mem_append.1 hy with hy | hy
    · exact hk y hy
    · obtain rfl := List.mem_singleton.1 hy
      exact ⟨flgb2 hx ho fun b hb hS => (Kd.ne (hx.kind b hb) (by decide)) hS.2, hn⟩
  · rw [rs_take hu, hq, List.map_append, List.map_append, h.eq]
    simp [hs]
theorem RsL.call2 (h : RsL B w0 wr U q J i v V) (hB : B ≤ wr.heap.size) (hj : J (i + 1) w2) (ho : OnS (fun b => B ≤ b ∧ ¬ Kd wr b 71 ∧ ¬ Kd wr b 34) wr w2) : RsM B w0 w2 U q J i v V :=
  ⟨flgb2 h.gb ho fun b hb hS => hS.2.1 (h.gb.kind b hb), h.fk.onS ho fun b hb hS => hS.2.2 hb, h.eq, hj, OnS.to_below h.bel ho (fun k _ hk => hk.1) hB⟩
/-- The function that is handed on was called. -/
theorem RsL.call (h : RsL B w0 wr U q J i v V) (hB : B ≤ wr.heap.size) (hj : J (i + 1) w2) (ho : OnS (fun b => B ≤ b ∧ ¬ Kd wr b 71 ∧ ¬ Kd wr b 34) wr w2) (hu : U[i]? = some u) (hq : q u = none) : RsL B w0 w2 U q J (i + 1) v V :=
  ⟨flgb2 h.gb ho fun b hb hS => hS.2.1 (h.gb.kind b hb), h.fk.onS ho fun b hb hS => hS.2.2 hb, by rw [rs_take hu, hq, h.eq]; simp, hj, OnS.to_below h.bel ho (fun k _ hk => hk.1) hB⟩
end
end Go.Proofs.Ytlolnjgcffjfkaa
namespace Go.Proofs.Ytlolnjgcffjfkaa
set_option linter.unusedVariables false
set_option linter.unusedSimpArgs false
open Go.RowKit Go.Joins

/-- What resting answers. -/
def RsR (B : Nat) (w0 : World) (U : List Fs) (q : Fs → Option Fs) (J : Nat → World → Prop) (e : Ending) (w' : World) : Prop := ∃ v V, e = .returned v ∧ RsL B w0 w' U q J U.length v V
set_option maxRecDepth 100000 in
set_option maxHeartbeats 8000000 in
theorem resting_any (B : Nat) (A : Option Addr) (n c : Nat) (U : List Fs) (F : Nat) (caps : Array Value) (q : Fs → Option Fs) (J : Nat → World → Prop) (w : World) (hf : RsF B w F caps U q J) (hU : GX encFs 5 w (· < B) A U) (hS : FP w (· < B) U) (hF : FlF U n) (hB : B ≤ w.heap.size) (hj : J 0 w) :
    Calls Try.prog 30 #[.slice A n c, .func (.func F) #[] caps] w fun e w' => RsR B w U q J e w' := by
  have HU := hid hU
  have HS := hid hS
  have HF := hid hF
  have HR := hid hf
  have HJ := hid hj
  have hn9 := hF.few
  have eg := hf.eg
  clear hU hS hF hf hj
  go_enter Try.func30, Try.ntmps30
  go_wp2_with fail
  go_loopg [5, 12] n (fun g1 v vi wr => ∃ (i : Nat) (V : List Fs), vi = .int .i64 i ∧ i ≤ n ∧ n - i ≤ g1 ∧ Hid (RsL B w wr U q J i v V))
  case atStart => exact ⟨0, [], rfl, by omega, by omega, hid ⟨GB.nil _ _, fun u hu => (by cases hu), rfl, HJ.out, Below.refl _ _⟩⟩
  case round =>
    obtain ⟨i, V, rfl, hin, hgk, HI⟩ := hrel
    obtain ⟨wz, hwz⟩ : ∃ wz, wz = wr := ⟨_, rfl⟩
    subst hwz
    by_cases hlt : i < n
    · have hiU : i < U.length := by have := HF.out.len; omega
      have hu := List.getElem?_eq_getElem hiU
      obtain ⟨b, o, rfl, hb, r0, r1, r2, r3, r4⟩ := fs_cells (HU.out.same fun b hB => HI.out.bel.block b hB) hu
      have HSM := hid (HF.out.small _ (List.getElem_mem hiU))
      have HO := hid (HS.out _ (List.getElem_mem hiU))
      have HUI := hid hu
      generalize U[i] = u at *
      have hltz : (i : Int) < (n : Int) := by omega
      have hltd : decide ((i : Int) < (n : Int)) = true := decide_eq_true hltz
      have hi0 : (0 : Int) ≤ (i : Int) := by omega
      have hb1 := enew wz (.cells #[.int .i64 u.node, .int .i64 u.seq, .slice u.A u.n u.c, .int .i64 u.tries, .int .i64 u.due] 71)
      have hBz : B ≤ wz.heap.size := Nat.le_trans hB HI.out.bel.size
      have H1 := hid (HI.out.up HR.out hb1 hBz)
      have HC := hid (HR.out.run i u _ hu H1.out.bel H1.out.j)
      clear hu hb hb1
      go_wp2_with fail
      refine HC.out.mono ?_
      rintro e w2 ⟨⟨r, bb, rfl, hq⟩, hj2, ho2⟩
      have hB1 : B ≤ (wz.alloc (.cells #[.int .i64 u.node, .int .i64 u.seq, .slice u.A u.n u.c, .int .i64 u.tries, .int .i64 u.due] 71)).heap.size := by simp; omega
      cases bb
      · have H2 := hid (H1.out.call hB1 hj2 ho2 HUI.out (by rw [hq]; rfl))
        have H3 := hid (H2.out.up HR.out (enew w2 (.cells #[.int .i64 r.node, .int .i64 r.seq, .slice r.A r.n r.c, .int .i64 r.tries, .int .i64 r.due] 71)) (Nat.le_trans hB1 ho2.size))
        clear hj2 ho2 HC hq r0 r1 r2 r3 r4 hB1 H2
        go_wp2_with fail
        go_roundg (n - (i + 1))
        case measure => omega
        case rel => exact ⟨i + 1, V, by go_num, by omega, by omega, H3⟩
      · have H2 := hid (H1.out.call2 hB1 hj2 ho2)
        have hb3 := enew w2 (.cells #[.int .i64 r.node, .int .i64 r.seq, .slice r.A r.n r.c, .int .i64 r.tries, .int .i64 r.due] 71)
        have hB2 : B ≤ w2.heap.size := Nat.le_trans hB1 ho2.size
        have H3 := hid (H2.out.up HR.out hb3 hB2)
        have hsm := HR.out.same u r (by rw [hq]; rfl)
        have HQ : Hid (q u = some r) := hid (by rw [hq]; rfl)
        have K3 := hid (Bk.new w2 71 #[.int .i64 r.node, .int .i64 r.seq, .slice r.A r.n r.c, .int .i64 r.tries, .int .i64 r.due])
        have HC2 := hid (flcopied_any r.node r.seq r.A r.n r.c u.L _ (by rw [hsm.1]; exact (HO.out.gx.same fun b hB => H3.out.bel.block b hB).imp fun b hB => Nat.lt_of_lt_of_le (show b < B from hB) (by simp; omega)) (hid (by rw [hsm.2.1]; exact HO.out.len)) (by rw [hsm.2.1]; have := HSM.out.2; omega))
        have HE := hid hsm
        have HVL := hid (fun b hv => (World.ownsRow.lt H2.out.gb b hv).2)
        have hB3 : B ≤ (w2.alloc (.cells #[.int .i64 r.node, .int .i64 r.seq, .slice r.A r.n r.c, .int .i64 r.tries, .int .i64 r.due] 71)).heap.size := by simp; omega
        have HVN : Hid (V.length ≤ 1000) := hid (by
          have h1 := congrArg List.length HI.out.eq
          rw [List.length_map, List.length_map] at h1
          have h2 := List.length_filterMap_le q (U.take i)
          have h3 := List.length_take_le i U
          omega)
        clear hj2 ho2 HC hq r0 r1 r2 r3 r4 hB1 H2 hsm hb3
        go_upto_region 7 with (fail)
        generalize w2.alloc (.cells #[.int .i64 r.node, .int .i64 r.seq, .slice r.A r.n r.c, .int .i64 r.tries, .int .i64 r.due] 71) = w3 at *
        have k0 := Bk.cell K3.out 0
        have k1 := Bk.cell K3.out 1
        have k2 := Bk.cell K3.out 2
        go_wp2_with fail
        refine HC2.out.mono ?_
        rintro e w4 ⟨A4, n4, c4, rfl, hn4, hv4, hb4⟩
        have HV4 := hid hv4
        have H4 := hid (H3.out.up HR.out hb4 hB3)
        have H4b := hid hb4.size
        have k4 := K3.out.up hb4
        have K4 := hid k4
        have k0 := Bk.cell k4 0
        have k1 := Bk.cell k4 1
        have k2 := Bk.cell k4 2
        have z0 := Bk.frozen k4 0
        have z1 := Bk.frozen k4 1
        have z2 := Bk.frozen k4 2
        clear hv4 hb4 k4 HC2
        go_upto_region 8 with (fail)
        have ho5 : OnS (fun b => b = w2.heap.size) w4 (((w4.setCell ⟨w2.heap.size, 0, none⟩ (.int .i64 r.node)).setCell ⟨w2.heap.size, 1, none⟩ (.int .i64 r.seq)).setCell ⟨w2.heap.size, 2, none⟩ (.slice A4 n4 c4)) := (((OnS.refl (fun b => b = w2.heap.size) w4).cell _ _ _ rfl).cell _ _ _ rfl).cell _ _ _ rfl
        have hkd := Bk.kd K4.out
        have H5 := hid (H4.out.sent HR.out (ho5.imp fun b _ e => (by subst e; exact ⟨hB2, hkd⟩)) (Nat.le_trans hB3 (by have := H4b.out; omega)) (fun b hv => ho5.block b (by have := HVL.out b hv; have := Bk.lt K4.out; omega) (by have := HVL.out b hv; show ¬ b = _; omega)))
        have HV5 : Hid (GB encSp 11 34 (((w4.setCell ⟨w2.heap.size, 0, none⟩ (.int .i64 r.node)).setCell ⟨w2.heap.size, 1, none⟩ (.int .i64 r.seq)).setCell ⟨w2.heap.size, 2, none⟩ (.slice A4 n4 c4)) B (.slice A4 n4 c4) u.L) := hid (flgb2 (HV4.out.more hB3) ho5 fun b hb e => (Kd.ne (e2 := 71) (HV4.out.kind b hb) (by decide)) (by have e' : b = w2.heap.size := e; subst e'; exact hkd))
        have K5 := hid (flset3b K4.out (.int .i64 r.node) (.int .i64 r.seq) (.slice A4 n4 c4))
        have hs5 := ho5.size
        have HB5 : Hid (B ≤ (((w4.setCell ⟨w2.heap.size, 0, none⟩ (.int .i64 r.node)).setCell ⟨w2.heap.size, 1, none⟩ (.int .i64 r.seq)).setCell ⟨w2.heap.size, 2, none⟩ (.slice A4 n4 c4)).heap.size) := hid (Nat.le_trans (Nat.le_trans hB3 (by have := H4b.out; omega)) hs5)
        clear k0 k1 k2 z0 z1 z2 K4 HV4 H4 ho5 hkd hs5
        generalize ((w4.setCell ⟨w2.heap.size, 0, none⟩ (.int .i64 r.node)).setCell ⟨w2.heap.size, 1, none⟩ (.int .i64 r.seq)).setCell ⟨w2.heap.size, 2, none⟩ (.slice A4 n4 c4) = w5 at *
        have k0 := Bk.cell K5.out 0
        have k1 := Bk.cell K5.out 1
        have k2 := Bk.cell K5.out 2
        have k3 := Bk.cell K5.out 3
        have k4 := Bk.cell K5.out 4
        have hx1 := gx_new (M := [(⟨r.node, r.seq, A4, n4, c4, u.L, r.tries, r.due⟩ : Fs)]) encFs_len (Bk.new w5 71 #[.int .i64 r.node, .int .i64 r.seq, .slice A4 n4 c4, .int .i64 r.tries, .int .i64 r.due]) rfl
        have hbs := enew w5 (.cells #[.int .i64 r.node, .int .i64 r.seq, .slice A4 n4 c4, .int .i64 r.tries, .int .i64 r.due] 71)
        have HX1 := hid (And.intro hx1 (And.intro (H5.out.up HR.out hbs HB5.out) (And.intro (HV5.out.below hbs) (Nat.le_trans HB5.out hbs.size))))
        clear hx1 hbs
        go_wp2_with (at_builtin; refine wpList_append_gxl rowFs rfl _ _ rfl B _ V [(⟨r.node, r.seq, A4, n4, c4, u.L, r.tries, r.due⟩ : Fs)] w5.heap.size 1 (fun b => b = w5.heap.size) rfl HX1.out.2.1.gb rfl HX1.out.1 (by simp) (by have := HVN.out; simp only [List.length_cons, List.length_nil]; omega) HX1.out.2.2.2 ?_)
        intro g6 c6 w6 m6 hm6 hG6 hg6 hl6
        have HL := hid (HX1.out.2.1.push HR.out HX1.out.2.2.2 hG6 hg6 HX1.out.2.2.1 hn4 HUI.out HQ.out (by simp only [Fs.snt, HE.out.2.2.2]))
        clear hG6 hg6 hl6 hm6 k0 k1 k2 k3 k4 HX1 H5 HV5
        go_wp2_with fail
        go_roundg (n - (i + 1))
        case measure => omega
        case rel => exact ⟨i + 1, _, by go_num, by omega, by omega, HL⟩
    · obtain rfl : i = n := by omega
      have hltz : ¬ (i : Int) < (i : Int) := by omega
      have hL := HI.out
      rw [← HF.out.len] at hL
      have HL := hid hL
      clear hL
      go_wp2_with fail
      go_returns
      exact ⟨_, V, rfl, HL.out⟩
end Go.Proofs.Ytlolnjgcffjfkaa
namespace Go.Proofs.Ytlolnjgcffjfkaa
set_option linter.unusedVariables false
set_option linter.unusedSimpArgs false
open Go.RowKit Go.Joins

/-- A slice of batches under way, told by its parts. -/
structure FlO (w : World) (A : Option Addr) (n c : Nat) (U : List Fs) : Prop where
  gx : GX encFs 5 w (· < w.heap.size) A U
  fp : FP w (· < w.heap.size) U
  len : U.length = n
  nil : A = none → c = 0
  cap : n ≤ c
  lim : c ≤ maxLen
theorem FlO.up {w w' : World} {A : Option Addr} {n c : Nat} {U : List Fs} (h : FlO w A n c U) (hb : Below w.heap.size w w') : FlO w' A n c U := ⟨h.gx.up hb, h.fp.up hb, h.len, h.nil, h.cap, h.lim⟩
/-- Few batches, of few spans. -/
def FlG (l : List Snt) : Prop := l.length ≤ 1000 ∧ ∀ x ∈ l, x.L.length ≤ 1000
theorem FlG.ack {l : List Snt} (h : FlG l) (a : Int) : FlG (flAck l a).1 := ⟨Nat.le_trans (flAck_len l a) h.1, fun x hx => h.2 x (List.mem_filter.1 hx).1⟩
theorem FlG.flf {w : World} {A : Option Addr} {n c : Nat} {U : List Fs} (h : FlG (U.map Fs.snt)) (ho : FlO w A n c U) : FlF U n := by
  refine ⟨ho.len, by have := h.1; rw [List.length_map, ho.len] at this; exact this, fun u hu => ⟨(ho.fp u hu).len, ?_⟩⟩
  have := h.2 u.snt (List.mem_map.2 ⟨u, hu, rfl⟩)
  have h2 := (ho.fp u hu).len
  simp only [Fs.snt] at this
  omega
/-- A list of batches under way, as a value that can be read. -/
def FlV (w : World) (v : Value) (l : List Snt) : Prop := ∃ A n c U, v = .slice A n c ∧ FlO w A n c U ∧ U.map Fs.snt = l
theorem FlV.up {w w' : World} {v : Value} {l : List Snt} (h : FlV w v l) (hb : Below w.heap.size w w') : FlV w' v l := by
  obtain ⟨A, n, c, U, e, ho, hl⟩ := h
  exact ⟨A, n, c, U, e, ho.up hb, hl⟩
theorem flo_of {w : World} {B : Nat} {A : Option Addr} {n c : Nat} {V : List Fs} (hg : GB encFs 5 71 w B (.slice A n c) V) (hk : FK w B V) : FlO w A n c V := by
  obtain ⟨A', c', e, h1, h2, h3, h4⟩ := GB.reads encFs_len hg
  simp only [Value.slice.injEq] at e
  obtain ⟨rfl, rfl, rfl⟩ := e
  refine ⟨h1.imp fun b hb => hb.2, fun u hu => ?_, rfl, h2, h3, h4⟩
  obtain ⟨hu1, hu2⟩ := hk u hu
  obtain ⟨A', c', e, k1, k2, k3, k4⟩ := GB.reads encSp_len hu1
  simp only [Value.slice.injEq] at e
  obtain ⟨e1, e2, e3⟩ := e
  exact ⟨e1 ▸ k1.imp fun b hb => hb.2, hu2, fun h => by rw [e3]; exact k2 (e1 ▸ h), by rw [e2, e3]; exact k3, by rw [e3]; exact k4⟩
/-- What resting answers, as a slice. -/
theorem RsR.slice {B : Nat} {w0 w' : World} {U : List Fs} {q : Fs → Option Fs} {J : Nat → World → Prop} {e : Ending} (h : RsR B w0 U q J e w') : ∃ A n c V, e = .returned (.slice A n c) ∧ GB encFs 5 71 w' B (.slice A n c) V ∧ FK w' B V ∧ V.map Fs.snt = (U.filterMap q).map Fs.snt ∧ J U.length w' ∧ Below B w0 w' := by
  obtain ⟨v, V, rfl, hL⟩ := h
  obtain ⟨A, c, rfl, -⟩ := GB.reads encFs_len hL.gb
  exact ⟨A, V.length, c, V, rfl, hL.gb, hL.fk, by rw [hL.eq, List.take_length], hL.j, hL.bel⟩
/-- What Ack answers. -/
def FlA (w : World) (l : List Snt) (a : Int) (e : Ending) (w' : World) : Prop := ∃ (A : Option Addr) (n c k : Nat), e = .returned (.tuple #[.slice A n c, .int .i64 (k : Int)]) ∧ FlV w' (.slice A n c) (flAck l a).1 ∧ (flAck l a).2 = k ∧ Below w.heap.size w w'
theorem flAck_map (U : List Fs) (a : Int) : (U.filterMap fun u => if (!decide (u.seq = a)) = true then some u else none).map Fs.snt = (flAck (U.map Fs.snt) a).1 := by
  unfold flAck
  induction U with
  | nil => rfl
  | cons u r ih =>
    rw [List.filterMap_cons, List.map_cons, List.filter_cons]
    by_cases h : u.seq = a
    · have h1 : (!decide (u.seq = a)) = false := by simp [h]
      have h2 : (!decide ((Fs.snt u).seq = a)) = false := h1
      rw [h1, h2]
      exact ih
    · have h1 : (!decide (u.seq = a)) = true := by simp [h]
      have h2 : (!decide ((Fs.snt u).seq = a)) = true := h1
      rw [h1, h2]
      exact congrArg (Fs.snt u :: ·) ih
theorem flack_fn (B : Nat) (w : World) (U : List Fs) (g : Nat) (a : Int) (hg : w.cell? ⟨g, 0, none⟩ = some (.int .i64 a)) (hgB : g < B) : RsF B w 31 #[.pointer (some ⟨g, 0, none⟩)] U (fun u => if (!decide (u.seq = a)) = true then some u else none) (fun _ _ => True) where
  eg := fun args w => by first | rfl | (unfold callFunc; rfl) | simp [callFunc]
  run := fun i u w1 hu hb _ => by
    obtain ⟨b, hbb⟩ : ∃ b, (!decide (u.seq = a)) = b := ⟨_, rfl⟩
    refine (flack1_any u.node u.seq u.A u.n u.c u.tries u.due g a w1 ((hb.cell (p := ⟨g, 0, none⟩) hgB).trans hg) (hid hbb)).mono ?_
    rintro e w2 ⟨rfl, h⟩
    exact ⟨⟨u, b, rfl, by rw [hbb]⟩, trivial, OnS.below h⟩
  keep := fun _ _ _ _ _ => trivial
  same := fun u r h => by
    split at h
    · injection h with h; subst h; exact ⟨rfl, rfl, rfl, rfl⟩
    · cases h
set_option maxRecDepth 100000 in
set_option maxHeartbeats 4000000 in
theorem flack_any (v : Value) (l : List Snt) (a : Int) (w : World) (hv : FlV w v l) (hG : FlG l) :
    Calls Try.prog 20 #[v, .int .i64 a] w fun e w' => FlA w l a e w' := by
  obtain ⟨A, n, c, U, rfl, hO, rfl⟩ := hv
  have hb0 := enew w (.cells #[.int .i64 a] 3)
  have hc0 := Bk.cell (Bk.new w 3 #[.int .i64 a]) 0
  have HF := hid (hG.flf hO)
  have HBs := hid hb0
  have HO := hid hO
  have hl0 : w.heap.size < (w.alloc (.cells #[.int .i64 a] 3)).heap.size := by simp
  have HRS := hid (resting_any (w.alloc (.cells #[.int .i64 a] 3)).heap.size A n c U _ _ _ _ (w.alloc (.cells #[.int .i64 a] 3)) (flack_fn _ _ U w.heap.size a hc0 hl0) (hO.up hb0).gx (hO.up hb0).fp HF.out (Nat.le_refl _) trivial)
  have HG := hid hG
  clear hb0 hc0 hO hG hl0
  go_enter Try.func20, Try.ntmps20
  go_upto_region 1 with (fail)
  generalize w.alloc (.cells #[.int .i64 a] 3) = v0 at *
  go_wp2_with fail
  refine HRS.out.mono ?_
  intro e w1 hr
  obtain ⟨A1, n1, c1, V, rfl, hg1, hk1, hm1, -, hb1⟩ := hr.slice
  have hO1 := flo_of hg1 hk1
  rw [flAck_map] at hm1
  have hG1 : FlG (V.map Fs.snt) := by rw [hm1]; exact HG.out.ack a
  obtain ⟨k1, hk1'⟩ : ∃ k, flSpans (U.map Fs.snt) = k := ⟨_, rfl⟩
  obtain ⟨k2, hk2'⟩ : ∃ k, flSpans (V.map Fs.snt) = k := ⟨_, rfl⟩
  have hle := flSpans_le HF.out n
  rw [List.take_of_length_le (Nat.le_of_eq HF.out.len), hk1'] at hle
  have hfew := HF.out.few
  have hall := flAck_all (U.map Fs.snt) a
  rw [← hm1, hk1', hk2'] at hall
  obtain ⟨k3, hk3⟩ : ∃ k, (flAck (U.map Fs.snt) a).2 = k := ⟨_, rfl⟩
  rw [hk3] at hall
  have HS1 := hid (flspans_any A n c U w1 ((HO.out.up (HBs.out.trans (hb1.mono HBs.out.size))).gx) HF.out (hid hk1'))
  have HS2 := hid (fun w2 (hb : Below w1.heap.size w1 w2) => flspans_any A1 n1 c1 V w2 (hO1.up hb).gx (hG1.flf hO1) (hid hk2'))
  have H1 := hid (And.intro hO1 (And.intro hm1 (And.intro hb1 hk3)))
  have hz : (k1 : Int) - (k2 : Int) = (k3 : Int) := by omega
  have hkk : k1 ≤ 1000000 := by have : n * 1000 ≤ 1000 * 1000 := Nat.mul_le_mul_right _ hfew; omega
  have hw : IntKind.i64.wrap ((k1 : Int) - (k2 : Int)) = (k3 : Int) := by rw [hz]; exact IntWalk.i64_in _ (by omega)
  clear hr hg1 hk1 hm1 hb1 hO1 hG1 hk1' hk2' hle hall hk3 HRS hz
  go_wp2_with fail
  refine HS1.out.mono ?_
  rintro e w2 ⟨rfl, hb2⟩
  have HB2 := hid hb2
  clear hb2 HS1
  go_wp2_with fail
  refine (HS2.out _ HB2.out).mono ?_
  rintro e w3 ⟨rfl, hb3⟩
  have HB3 := hid (estep HB2.out hb3)
  clear hb3 HS2 HB2
  go_wp2_with fail
  go_returns
  obtain ⟨f1, f2, f3, f4⟩ := H1.out
  exact ⟨A1, n1, c1, k3, by simp [hw], ⟨A1, n1, c1, V, rfl, f1.up HB3.out, f2⟩, f4, HBs.out.trans ((f3.trans (HB3.out.mono f3.size)).mono HBs.out.size)⟩
end Go.Proofs.Ytlolnjgcffjfkaa
namespace Go.Proofs.Ytlolnjgcffjfkaa
set_option linter.unusedVariables false
set_option linter.unusedSimpArgs false
open Go.RowKit Go.Joins

set_option maxRecDepth 100000 in
set_option maxHeartbeats 4000000 in
theorem btsame_any (nd sq : Int) (A B : Option Addr) (n ca cb : Nat) (L : List Sp) (w : World) (hA : GX encSp 11 w (· < w.heap.size) A L) (hB : GX encSp 11 w (· < w.heap.size) B L) (hn : Hid (L.length = n)) (hl : n ≤ 1000000) :
    Calls Try.prog 32 #[.agg #[.int .i64 nd, .int .i64 sq, .slice A n ca], .agg #[.int .i64 nd, .int .i64 sq, .slice B n cb]] w fun e w' => e = .returned (.bool true) ∧ Below w.heap.size w w' := by
  have hb0 := enew w (.cells #[.int .i64 nd, .int .i64 sq, .slice A n ca] 69)
  have hb1 := enew (w.alloc (.cells #[.int .i64 nd, .int .i64 sq, .slice A n ca] 69)) (.cells #[.int .i64 nd, .int .i64 sq, .slice B n cb] 69)
  have kx := (Bk.new w 69 #[.int .i64 nd, .int .i64 sq, .slice A n ca]).up hb1
  have kz := Bk.new (w.alloc (.cells #[.int .i64 nd, .int .i64 sq, .slice A n ca] 69)) 69 #[.int .i64 nd, .int .i64 sq, .slice B n cb]
  rw [World.size_alloc] at kz
  have HBb := hid (estep hb0 hb1)
  have HSA := hid (spsame_lit A B ca cb n L _ (hA.up HBb.out) (hB.up HBb.out) hn hl)
  have KX := hid kx
  have KZ := hid kz
  clear hb0 hb1 kx kz hA hB
  go_enter Try.func32, Try.ntmps32
  go_upto_region 1 with (fail)
  generalize (w.alloc (.cells #[.int .i64 nd, .int .i64 sq, .slice A n ca] 69)).alloc (.cells #[.int .i64 nd, .int .i64 sq, .slice B n cb] 69) = v0 at *
  have x0 := Bk.cell KX.out 0
  have x1 := Bk.cell KX.out 1
  have x2 := Bk.cell KX.out 2
  have z0 := Bk.cell KZ.out 0
  have z1 := Bk.cell KZ.out 1
  have z2 := Bk.cell KZ.out 2
  go_wp2_with fail
  refine HSA.out.mono ?_
  rintro e w' ⟨rfl, hb⟩
  have HF := hid (estep HBb.out hb)
  clear hb
  go_wp2_with fail
  go_returns
  exact ⟨rfl, HF.out⟩
theorem snt_at {U V : List Fs} (h : U.map Fs.snt = V.map Fs.snt) {i : Nat} {u v : Fs} (hu : U[i]? = some u) (hv : V[i]? = some v) : v.node = u.node ∧ v.seq = u.seq ∧ v.L = u.L ∧ v.tries = u.tries ∧ v.due = u.due := by
  have e := congrArg (fun l => l[i]?) h
  simp only [List.getElem?_map, hu, hv, Option.map_some, Option.some.injEq, Fs.snt, Snt.mk.injEq] at e
  obtain ⟨a, b, c, d, f⟩ := e
  exact ⟨a.symm, b.symm, c.symm, d.symm, f.symm⟩
set_option maxRecDepth 100000 in
set_option maxHeartbeats 4000000 in
theorem flsame_any (u v : Value) (l : List Snt) (w : World) (hu0 : FlV w u l) (hv0 : FlV w v l) (hG : FlG l) :
    Calls Try.prog 21 #[u, v] w fun e w' => e = .returned (.bool true) ∧ Below w.heap.size w w' := by
  obtain ⟨A, n, ca, U, rfl, hU, hl⟩ := hu0
  obtain ⟨B, m, cb, V, rfl, hV, hl2⟩ := hv0
  have hmn : m = n := by
    have h1 := congrArg List.length (hl.trans hl2.symm)
    simp only [List.length_map] at h1
    rw [hU.len, hV.len] at h1
    exact h1.symm
  subst hmn
  have HE := hid (hl.trans hl2.symm)
  have hFU : FlF U m := FlG.flf (by rw [hl]; exact hG) hU
  have HFU := hid hFU
  have HU := hid hU
  have HV := hid hV
  have hn9 := hFU.few
  have hnot := enot
  clear hU hV hl hl2 hFU hG
  go_enter Try.func21, Try.ntmps21
  go_wp2_with fail
  go_loopw [5] (fun i wr => ∃ k : Nat, k ≤ m ∧ i = .int .i64 k ∧ Hid (Below w.heap.size w wr)) (fun i _ => m - (intOf i).toNat)
  case atStart => exact ⟨0, by omega, rfl, hid (Below.refl _ _)⟩
  case round =>
    obtain ⟨k, hk, rfl, HK⟩ := hrel
    by_cases hlt : k < m
    · obtain ⟨x, hkU⟩ : ∃ x, U[k]? = some x := ⟨_, List.getElem?_eq_getElem (by have := HU.out.len; omega)⟩
      obtain ⟨y, hkV⟩ : ∃ y, V[k]? = some y := ⟨_, List.getElem?_eq_getElem (by have := HV.out.len; omega)⟩
      obtain ⟨b, o, rfl, -, r0, r1, r2, r3, r4⟩ := fs_cells (HU.out.up HK.out).gx hkU
      obtain ⟨b2, o2, rfl, -, s0, s1, s2, s3, s4⟩ := fs_cells (HV.out.up HK.out).gx hkV
      have HO1 := hid ((HU.out.up HK.out).fp _ (List.mem_of_getElem? hkU))
      have HO2 := hid ((HV.out.up HK.out).fp _ (List.mem_of_getElem? hkV))
      have hsn := snt_at HE.out hkU hkV
      have hsm := HFU.out.small _ (List.mem_of_getElem? hkU)
      obtain ⟨e1, e2, e3, e4, e5⟩ := hsn
      have hyn : y.n = x.n := by rw [← HO2.out.len, e3, HO1.out.len]
      rw [e1] at s0; rw [e2] at s1; rw [hyn] at s2; rw [e4] at s3; rw [e5] at s4
      have R0 := BwS.cell r0
      have R1 := BwS.cell r1
      have R2 := BwS.cell r2
      have R3 := BwS.cell r3
      have R4 := BwS.cell r4
      have S0 := BwS.cell s0
      have S1 := BwS.cell s1
      have S2 := BwS.cell s2
      have S3 := BwS.cell s3
      have S4 := BwS.cell s4
      have HSA := hid (fun p : BwS wr => btsame_any x.node x.seq x.A y.A x.n x.c y.c x.L p.w (HO1.out.up p.h).gx (by have := (HO2.out.up p.h).gx; rw [e3] at this; exact this) (hid HO1.out.len) (by omega))
      have hi0 : (0 : Int) ≤ (k : Int) := by omega
      have hi1 : (k : Int) < (m : Int) := by omega
      clear hkU hkV e1 e2 e3 e4 e5 hyn hsm r0 r1 r2 r3 r4 s0 s1 s2 s3 s4
      go_wp2_with fail
      refine wp_region_bws (by kernel_rfl) (by kernel_rfl) ?_
      repeat (go_big_quiet_step ((go_at_call 32; exact calls_bws (HSA.out _))))
      refine wpQuiet_nil ?_
      rintro _ ⟨pq, rfl⟩
      have HP := hid (estep HK.out pq.h)
      clear R0 R1 R2 R3 R4 S0 S1 S2 S3 S4 HSA
      go_wp2_with fail
      go_roundw
      case rel => exact ⟨k + 1, by omega, by go_num, HP⟩
      case measure => simp [intOf]; omega
    · obtain rfl : k = m := by omega
      go_wp2_with fail
      go_ret
      exact ⟨rfl, HK.out⟩
end Go.Proofs.Ytlolnjgcffjfkaa
namespace Go.Proofs.Ytlolnjgcffjfkaa
set_option linter.unusedVariables false
set_option linter.unusedSimpArgs false
open Go.RowKit Go.Joins

def fewS (l : List Snt) : Bool := decide (l.length ≤ 30 ∧ ∀ x ∈ l, x.L.length ≤ 60)
theorem fewS_flg {l : List Snt} (h : fewS l = true) : FlG l := by
  have h2 := of_decide_eq_true h
  exact ⟨by omega, fun x hx => by have := h2.2 x hx; omega⟩
set_option maxRecDepth 100000 in
set_option maxHeartbeats 4000000 in
theorem flfew_any (v : Value) (l : List Snt) (w : World) (hv : FlV w v l) {z : Bool} (H : Hid (fewS l = z)) :
    Calls Try.prog 18 #[v] w fun e w' => e = .returned (.bool z) ∧ w = w' := by
  obtain ⟨A, n, c, U, rfl, hU, hl⟩ := hv
  have HL := hid hl
  have HLN : Hid (l.length = n) := hid (by rw [← hl, List.length_map, hU.len])
  have HU := hid hU
  clear hU hl
  by_cases h30 : n ≤ 30
  rotate_left
  · have hd : decide ((30 : Int) < (n : Int)) = true := decide_eq_true (by omega)
    have hd2 : decide (30 < n) = true := decide_eq_true (by omega)
    have HE := hid (show z = false by rw [← H.out]; unfold fewS; exact decide_eq_false fun h => by have := HLN.out; omega)
    go_enter Try.func18, Try.ntmps18
    go_wp2_with fail
    go_returns
    exact ⟨by rw [HE.out]; rfl, rfl⟩
  have hd : decide ((30 : Int) < (n : Int)) = false := decide_eq_false (by omega)
  have hd2 : decide (30 < n) = false := decide_eq_false (by omega)
  go_enter Try.func18, Try.ntmps18
  go_wp2_with fail
  go_loopw [3] (fun i wr => w = wr ∧ ∃ k : Nat, k ≤ n ∧ i = .int .i64 k ∧ Hid (∀ (j : Nat) (u : Fs), j < k → U[j]? = some u → u.L.length ≤ 60)) (fun i _ => n - (intOf i).toNat)
  case atStart => exact ⟨rfl, 0, by omega, rfl, hid fun j u hj => by omega⟩
  case round =>
    obtain ⟨rfl, k, hk, rfl, HK⟩ := hrel
    by_cases hlt : k < n
    · obtain ⟨x, hx⟩ : ∃ x, U[k]? = some x := ⟨_, List.getElem?_eq_getElem (by have := HU.out.len; omega)⟩
      obtain ⟨b, o, rfl, -, r0, r1, r2, r3, r4⟩ := fs_cells HU.out.gx hx
      have hxl := (HU.out.fp _ (List.mem_of_getElem? hx)).len
      have HX := hid hx
      have HXL := hid hxl
      obtain ⟨m, hm⟩ : ∃ m, x.n = m := ⟨_, rfl⟩
      rw [hm] at r2
      have HM := hid hm
      have hi0 : (0 : Int) ≤ (k : Int) := by omega
      have hi1 : (k : Int) < (n : Int) := by omega
      clear hx hxl hm r0 r1 r3 r4
      by_cases h60 : m ≤ 60
      · have hd6 : decide ((60 : Int) < (m : Int)) = false := decide_eq_false (by omega)
        have hd7 : decide (60 < m) = false := decide_eq_false (by omega)
        go_wp2_with fail
        go_roundw
        case rel => exact ⟨by trivial, k + 1, by omega, by go_num, hid fun j u hj hu => by
          by_cases e : j = k
          · subst e
            have := HX.out
            rw [this] at hu
            injection hu with hu
            subst hu
            rw [HXL.out, HM.out]; exact h60
          · exact HK.out j u (by omega) hu⟩
        case measure => simp [intOf]; omega
      · have hd6 : decide ((60 : Int) < (m : Int)) = true := decide_eq_true (by omega)
        have hd7 : decide (60 < m) = true := decide_eq_true (by omega)
        have HE := hid (show z = false by
          rw [← H.out]; unfold fewS
          refine decide_eq_false fun h => ?_
          have := h.2 x.snt (by rw [← HL.out]; exact List.mem_map.2 ⟨x, List.mem_of_getElem? HX.out, rfl⟩)
          simp only [Fs.snt] at this
          have h1 := HXL.out
          have h2 := HM.out
          omega)
        go_wp2_with fail
        go_returns
        exact ⟨by rw [HE.out]; rfl, rfl⟩
    · obtain rfl : k = n := by omega
      have hltz : ¬ (k : Int) < (k : Int) := by omega
      have HE := hid (show z = true by
        rw [← H.out]; unfold fewS
        refine decide_eq_true ⟨by have := HLN.out; omega, fun x hx => ?_⟩
        rw [← HL.out] at hx
        obtain ⟨u, hu, rfl⟩ := List.mem_map.1 hx
        obtain ⟨j, hj, rfl⟩ := List.mem_iff_getElem.1 hu
        exact HK.out j _ (by have := HU.out.len; omega) (List.getElem?_eq_getElem hj))
      go_wp2_with fail
      go_returns
      exact ⟨by rw [HE.out]; rfl, rfl⟩
/-- A slice of batches, told by its parts. -/
structure FbO (w : World) (A : Option Addr) (n c : Nat) (U : List Fs) : Prop where
  gx : GX encBt 3 w (· < w.heap.size) A U
  fp : FP w (· < w.heap.size) U
  len : U.length = n
theorem FbO.up {w w' : World} {A : Option Addr} {n c : Nat} {U : List Fs} (h : FbO w A n c U) (hb : Below w.heap.size w w') : FbO w' A n c U := ⟨h.gx.up hb, h.fp.up hb, h.len⟩
set_option maxRecDepth 100000 in
set_option maxHeartbeats 4000000 in
theorem btsames_any (A B : Option Addr) (m ca cb : Nat) (U V : List Fs) (w : World) (hU : FbO w A m ca U) (hV : FbO w B m cb V) (hE : U.map Fs.snt = V.map Fs.snt) (hn9 : m ≤ 1000) (hsm : ∀ u ∈ U, u.n ≤ 1000) :
    Calls Try.prog 29 #[.slice A m ca, .slice B m cb] w fun e w' => e = .returned (.bool true) ∧ Below w.heap.size w w' := by
  have HE := hid hE
  have HU := hid hU
  have HV := hid hV
  have HSM := hid hsm
  have hnot := enot
  clear hU hV hE hsm
  go_enter Try.func29, Try.ntmps29
  go_wp2_with fail
  go_loopw [5] (fun i wr => ∃ k : Nat, k ≤ m ∧ i = .int .i64 k ∧ Hid (Below w.heap.size w wr)) (fun i _ => m - (intOf i).toNat)
  case atStart => exact ⟨0, by omega, rfl, hid (Below.refl _ _)⟩
  case round =>
    obtain ⟨k, hk, rfl, HK⟩ := hrel
    by_cases hlt : k < m
    · obtain ⟨x, hkU⟩ : ∃ x, U[k]? = some x := ⟨_, List.getElem?_eq_getElem (by have := HU.out.len; omega)⟩
      obtain ⟨y, hkV⟩ : ∃ y, V[k]? = some y := ⟨_, List.getElem?_eq_getElem (by have := HV.out.len; omega)⟩
      obtain ⟨b, o, rfl, -, r0, r1, r2⟩ := bt_cells (HU.out.up HK.out).gx hkU
      obtain ⟨b2, o2, rfl, -, s0, s1, s2⟩ := bt_cells (HV.out.up HK.out).gx hkV
      have HO1 := hid ((HU.out.up HK.out).fp _ (List.mem_of_getElem? hkU))
      have HO2 := hid ((HV.out.up HK.out).fp _ (List.mem_of_getElem? hkV))
      have hsn := snt_at HE.out hkU hkV
      have hsm := HSM.out _ (List.mem_of_getElem? hkU)
      obtain ⟨e1, e2, e3, -, -⟩ := hsn
      have hyn : y.n = x.n := by rw [← HO2.out.len, e3, HO1.out.len]
      rw [e1] at s0; rw [e2] at s1; rw [hyn] at s2
      have R0 := BwS.cell r0
      have R1 := BwS.cell r1
      have R2 := BwS.cell r2
      have S0 := BwS.cell s0
      have S1 := BwS.cell s1
      have S2 := BwS.cell s2
      have HSA := hid (fun p : BwS wr => btsame_any x.node x.seq x.A y.A x.n x.c y.c x.L p.w (HO1.out.up p.h).gx (by have := (HO2.out.up p.h).gx; rw [e3] at this; exact this) (hid HO1.out.len) (by omega))
      have hi0 : (0 : Int) ≤ (k : Int) := by omega
      have hi1 : (k : Int) < (m : Int) := by omega
      clear hkU hkV e1 e2 e3 hyn hsm r0 r1 r2 s0 s1 s2
      go_wp2_with fail
      refine wp_region_bws (by kernel_rfl) (by kernel_rfl) ?_
      repeat (go_big_quiet_step ((go_at_call 32; exact calls_bws (HSA.out _))))
      refine wpQuiet_nil ?_
      rintro _ ⟨pq, rfl⟩
      have HP := hid (estep HK.out pq.h)
      clear R0 R1 R2 S0 S1 S2 HSA
      go_wp2_with fail
      go_roundw
      case rel => exact ⟨k + 1, by omega, by go_num, HP⟩
      case measure => simp [intOf]; omega
    · obtain rfl : k = m := by omega
      go_wp2_with fail
      go_ret
      exact ⟨rfl, HK.out⟩
theorem flsend_fn (B : Nat) (w : World) (U : List Fs) : RsF B w 36 #[] U some (fun _ _ => True) where
  eg := fun args w => by first | rfl | (unfold callFunc; rfl) | simp [callFunc]
  run := fun i u w1 hu hb _ => by
    refine (flsend1_any u.node u.seq u.A u.n u.c u.tries u.due w1).mono ?_
    rintro e w2 ⟨rfl, h⟩
    exact ⟨⟨u, true, rfl, rfl⟩, trivial, OnS.below h⟩
  keep := fun _ _ _ _ _ => trivial
  same := fun u r h => by injection h with h; subst h; exact ⟨rfl, rfl, rfl, rfl⟩
set_option maxRecDepth 100000 in
set_option maxHeartbeats 4000000 in
theorem flsend_any (v : Value) (l : List Snt) (nd sq : Int) (A : Option Addr) (n c : Nat) (L : List Sp) (now retry : Int) (w : World) (hv : FlV w v l) (hG : FlG l) (hA : GX encSp 11 w (· < w.heap.size) A L) (hn : Hid (L.length = n)) (hl : n ≤ 1000) :
    Calls Try.prog 27 #[v, .agg #[.int .i64 nd, .int .i64 sq, .slice A n c], .int .i64 now, .int .i64 retry] w fun e w' => ∃ v', e = .returned v' ∧ FlV w' v' (flSend l nd sq L now retry) ∧ Below w.heap.size w w' := by
  obtain ⟨B, m, c2, U, rfl, hO, rfl⟩ := hv
  have hb0 := enew w (.cells #[.int .i64 nd, .int .i64 sq, .slice A n c] 69)
  have KX := hid (Bk.new w 69 #[.int .i64 nd, .int .i64 sq, .slice A n c])
  have HF := hid (hG.flf hO)
  have HBs := hid hb0
  have HRS := hid (resting_any (w.alloc (.cells #[.int .i64 nd, .int .i64 sq, .slice A n c] 69)).heap.size B m c2 U _ _ _ _ (w.alloc (.cells #[.int .i64 nd, .int .i64 sq, .slice A n c] 69)) (flsend_fn _ _ U) (hO.up hb0).gx (hO.up hb0).fp HF.out (Nat.le_refl _) trivial)
  have HA := hid hA
  obtain ⟨t, ht⟩ : ∃ t, flDue now retry = t := ⟨_, rfl⟩
  have HD := hid (fun w2 => fldue_any now retry w2 (hid ht))
  have HTT := hid ht
  clear hb0 hO hG hA ht
  go_enter Try.func27, Try.ntmps27
  go_upto_region 1 with (fail)
  generalize w.alloc (.cells #[.int .i64 nd, .int .i64 sq, .slice A n c] 69) = v0 at *
  go_wp2_with fail
  refine HRS.out.mono ?_
  intro e w1 hr
  obtain ⟨A1, n1, c1, V, rfl, hg1, hk1, hm1, -, hb1⟩ := hr.slice
  rw [List.filterMap_some] at hm1
  have hnV : V.length = n1 := by
    have := hg1.1
    obtain ⟨A', c', e, -⟩ := GB.reads encFs_len hg1
    simp only [Value.slice.injEq] at e
    exact e.2.1.symm
  have H1 := hid (And.intro hg1 (And.intro hk1 (And.intro hm1 (And.intro hb1 hnV))))
  have hVm : V.length = m := by
    have h1 := congrArg List.length hm1
    simp only [List.length_map] at h1
    rw [h1, HF.out.len]
  have hm9 := HF.out.few
  have kx := KX.out.up hb1
  have x0 := Bk.cell kx 0
  have x1 := Bk.cell kx 1
  have x2 := Bk.cell kx 2
  have HC := hid (flcopied_any nd sq A n c L w1 ((HA.out.up HBs.out).up hb1) hn (by omega))
  clear hr hg1 hk1 hm1 hb1 kx HRS hnV
  go_wp2_with fail
  refine HC.out.mono ?_
  rintro e w2 ⟨A2, n2, c3, rfl, hn2, hv2, hb2⟩
  have H2 := hid (And.intro hn2 (And.intro hv2 hb2))
  clear hn2 hv2 hb2 HC x0 x1 x2
  go_wp2_with fail
  refine (HD.out _).mono ?_
  rintro e w3 ⟨rfl, rfl⟩
  have hx1 := gx_new (M := [(⟨nd, sq, A2, n2, c3, L, 1, t⟩ : Fs)]) encFs_len (Bk.new w3 71 #[.int .i64 nd, .int .i64 sq, .slice A2 n2 c3, .int .i64 1, .int .i64 t]) rfl
  have hbs := enew w3 (.cells #[.int .i64 nd, .int .i64 sq, .slice A2 n2 c3, .int .i64 1, .int .i64 t] 71)
  have hg2 := H1.out.1.below (estep H2.out.2.2 hbs)
  have HX1 := hid (And.intro hx1 (And.intro hg2 hbs))
  have HSZ := hid (Nat.le_trans H1.out.2.2.2.1.size (estep H2.out.2.2 hbs).size)
  clear hx1 hbs hg2
  go_wp2_with (at_builtin; refine wpList_append_gxl rowFs rfl _ _ rfl v0.heap.size _ V [(⟨nd, sq, A2, n2, c3, L, 1, t⟩ : Fs)] w3.heap.size 1 (fun b => b = w3.heap.size) rfl HX1.out.2.1 rfl HX1.out.1 (by simp) (by simp only [List.length_cons, List.length_nil]; omega) HSZ.out ?_)
  intro g6 c6 w6 m6 hm6 hG6 hg6 hl6
  have H6 := hid (And.intro hG6 hg6)
  clear hG6 hg6 hl6 hm6
  go_wp2_with fail
  go_returns
  obtain ⟨f1, f2, f3, f4, f5⟩ := H1.out
  obtain ⟨g1, g2, g3⟩ := H2.out
  have hbx := estep g3 HX1.out.2.2
  have hk3 : FK _ v0.heap.size V := f2.onS (S := fun _ => False) ⟨hbx.os, hbx.tape, hbx.output, hbx.size, fun k hk _ => hbx.block k hk⟩ fun _ _ h => h
  have hz3 := (g2.more f4.size).below HX1.out.2.2
  have ho6 : OnS (fun b => some b = (Value.slice A1 n1 c1).ownBlock) _ w6 := OnS.grown H6.out.2 fun b hb => hb.symm
  have hkind : ∀ b, Kd (w3.alloc (.cells #[.int .i64 nd, .int .i64 sq, .slice A2 n2 c3, .int .i64 1, .int .i64 t] 71)) b 34 → ¬ some b = (Value.slice A1 n1 c1).ownBlock := fun b hb e => Kd.ne hb (by decide) (HX1.out.2.1.kind b e.symm)
  have hk6 := hk3.onS ho6 hkind
  have hz6 := flgb2 hz3 ho6 fun q hq => hkind q (hz3.kind q hq)
  refine ⟨_, rfl, ⟨_, _, _, V ++ [(⟨nd, sq, A2, n2, c3, L, 1, t⟩ : Fs)], rfl, flo_of H6.out.1 fun u hu => ?_, ?_⟩, ?_⟩
  · rcases List.mem_append.1 hu with hu | hu
    · exact hk6 u hu
    · obtain rfl := List.mem_singleton.1 hu
      exact ⟨hz6, g1⟩
  · rw [List.map_append, f3, flSend, HTT.out]
    rfl
  · exact OnS.to_below (HBs.out.trans ((estep (f4.trans (hbx.mono f4.size)) (Below.refl _ _)).mono HBs.out.size)) ho6 (fun k _ hk => by have := (World.ownsRow.lt HX1.out.2.1 k hk.symm).1; have := HBs.out.size; omega) (Nat.le_trans HBs.out.size HSZ.out)
end Go.Proofs.Ytlolnjgcffjfkaa
namespace Go.Proofs.Ytlolnjgcffjfkaa
set_option linter.unusedVariables false
set_option linter.unusedSimpArgs false
open Go.RowKit Go.Joins

structure StJ (B : Nat) (wr : World) (ga gg : Nat) (va : Value) (Va : List Fs) (vg : Value) (Vg : List Fs) : Prop where
  ka : Bk wr ga 73 #[va]
  kg : Bk wr gg 73 #[vg]
  a : GB encBt 3 69 wr B va Va
  g : GB encBt 3 69 wr B vg Vg
  fa : FK wr B Va
  fg : FK wr B Vg
  ap : ∀ b, va.ownBlock = some b → vg.ownBlock ≠ some b
  lo : B ≤ ga ∧ B ≤ gg ∧ ga ≠ gg
/-- What the function may change. -/
def StS (B : Nat) (w : World) : Nat → Prop := fun b => B ≤ b ∧ ¬ Kd w b 71 ∧ ¬ Kd w b 34
section
variable {B : Nat} {w1 wr w2 w7 w8 : World} {ga gg q m c : Nat} {va vg : Value} {Va Vg : List Fs} {x : Fs} {S : Nat → Prop}
theorem StJ.swap (h : StJ B wr ga gg va Va vg Vg) : StJ B wr gg ga vg Vg va Va := ⟨h.kg, h.ka, h.g, h.a, h.fg, h.fa, fun b h1 h2 => h.ap b h2 h1, h.lo.2.1, h.lo.1, h.lo.2.2.symm⟩
theorem StJ.ons (h : StJ B wr ga gg va Va vg Vg) (ho : OnS S wr w2) (hS : ∀ b, S b → Kd wr b 71) : StJ B w2 ga gg va Va vg Vg := by
  have h1 : ∀ b e, Kd wr b e → 71 ≠ e → ¬ S b := fun b e hk hne hs => Kd.ne (hS b hs) hne hk
  exact ⟨h.ka.onS ho (h1 _ _ h.ka.kd (by decide)), h.kg.onS ho (h1 _ _ h.kg.kd (by decide)), flgb2 h.a ho fun q hq => h1 _ _ (h.a.kind q hq) (by decide), flgb2 h.g ho fun q hq => h1 _ _ (h.g.kind q hq) (by decide), h.fa.onS ho fun b hb => h1 _ _ hb (by decide), h.fg.onS ho fun b hb => h1 _ _ hb (by decide), h.ap, h.lo⟩
theorem StJ.up (h : StJ B wr ga gg va Va vg Vg) (hb : Below wr.heap.size wr w2) : StJ B w2 ga gg va Va vg Vg :=
  ⟨h.ka.up hb, h.kg.up hb, h.a.below hb, h.g.below hb, h.fa.onS (S := fun _ => False) ⟨hb.os, hb.tape, hb.output, hb.size, fun k hk _ => hb.block k hk⟩ fun _ _ h => h, h.fg.onS (S := fun _ => False) ⟨hb.os, hb.tape, hb.output, hb.size, fun k hk _ => hb.block k hk⟩ fun _ _ h => h, h.ap, h.lo⟩
/-- One more is put behind those that are given up. -/
theorem StJ.give (h : StJ B wr ga gg va Va vg Vg) (hG : GB encBt 3 69 w7 B (.slice (some ⟨q, 0, none⟩) m c) (Vg ++ [x])) (hg : wr.grownBy w7 vg.ownBlock) (hl : vg.ownBlock = some q ∨ q = wr.heap.size) (hx : GB encSp 11 34 wr B (.slice x.A x.n x.c) x.L) (hn : x.L.length = x.n) :
    StJ B (w7.setCell ⟨gg, 0, none⟩ (.slice (some ⟨q, 0, none⟩) m c)) ga gg va Va (.slice (some ⟨q, 0, none⟩) m c) (Vg ++ [x]) ∧ OnS (StS B wr) wr (w7.setCell ⟨gg, 0, none⟩ (.slice (some ⟨q, 0, none⟩) m c)) := by
  have ho : OnS (fun b => b = gg ∨ some b = vg.ownBlock) wr (w7.setCell ⟨gg, 0, none⟩ (.slice (some ⟨q, 0, none⟩) m c)) := (OnS.grown hg fun b hb => Or.inr hb.symm).cell gg 0 _ (Or.inl rfl)
  have hkB : ∀ b, (b = gg ∨ some b = vg.ownBlock) → Kd wr b 73 ∨ Kd wr b 69 := fun b hb => by
    rcases hb with rfl | hb
    · exact Or.inl h.kg.kd
    · exact Or.inr (h.g.kind b hb.symm)
  have hno : ∀ b e, Kd wr b e → 73 ≠ e → 69 ≠ e → ¬ (b = gg ∨ some b = vg.ownBlock) := fun b e hk h1 h2 hb => by
    rcases hkB b hb with h3 | h3
    · exact Kd.ne h3 h1 hk
    · exact Kd.ne h3 h2 hk
  have hga : ¬ (ga = gg ∨ some ga = vg.ownBlock) := fun hb => by
    rcases hb with hb | hb
    · exact h.lo.2.2 hb
    · exact Kd.ne h.ka.kd (by decide) (h.g.kind ga hb.symm)
  have kg7 : Bk w7 gg 73 #[vg] := h.kg.grown h.g (by decide) hg
  refine ⟨⟨h.ka.onS ho hga, Bk.set_ kg7 0 _, flgb2 h.a ho fun b hb hS => ?_, GB.set hG kg7 (by decide) 0 _, h.fa.onS ho fun b hb => hno b _ hb (by decide) (by decide), fun y hy => ?_, fun b hb hb2 => ?_, h.lo⟩, ho.imp fun b _ hb => ⟨?_, fun hk => hno b _ hk (by decide) (by decide) hb, fun hk => hno b _ hk (by decide) (by decide) hb⟩⟩
  · rcases hS with rfl | hS
    · exact Kd.ne h.kg.kd (by decide) (h.a.kind b hb)
    · exact h.ap b hb hS.symm
  · rcases List.mem_append.1 hy with hy | hy
    · exact (h.fg.onS ho fun b hb => hno b _ hb (by decide) (by decide)) y hy
    · obtain rfl := List.mem_singleton.1 hy
      exact ⟨flgb2 hx ho fun b hb => hno b _ (hx.kind b hb) (by decide) (by decide), hn⟩
  · have e : b = q := by
      have h2 : some q = some b := hb2
      injection h2 with h2
      exact h2.symm
    subst e
    rcases hl with hl | hl
    · exact h.ap b hb hl
    · have := (World.ownsRow.lt h.a b hb).2
      omega
  · rcases hb with rfl | hb
    · exact h.lo.2.1
    · exact (World.ownsRow.lt h.g b hb.symm).1
theorem kd_below (hb : Below w1.heap.size w1 wr) {b : Nat} (hlt : b < w1.heap.size) (e : TypeId) : Kd wr b e ↔ Kd w1 b e := by
  unfold Kd
  rw [hb.block b hlt]
/-- What is changed behind new blocks alone is changed of the world that was. -/
theorem sts_below (hb : Below w1.heap.size w1 wr) (ho : OnS (StS B wr) wr w2) : OnS (StS B w1) w1 w2 :=
  ⟨ho.os.trans hb.os, ho.tape.trans hb.tape, ho.output.trans hb.output, Nat.le_trans hb.size ho.size, fun k hk hn => (ho.block k (Nat.lt_of_lt_of_le hk hb.size) fun h => hn ⟨h.1, fun h2 => h.2.1 ((kd_below hb hk _).2 h2), fun h2 => h.2.2 ((kd_below hb hk _).2 h2)⟩).trans (hb.block k hk)⟩
theorem sts_tail (ho : OnS (StS B w1) w1 w2) (hb : Below w1.heap.size w2 w7) : OnS (StS B w1) w1 w7 :=
  ⟨hb.os.trans ho.os, hb.tape.trans ho.tape, hb.output.trans ho.output, Nat.le_trans ho.size hb.size, fun k hk hn => (hb.block k hk).trans (ho.block k hk hn)⟩
end
end Go.Proofs.Ytlolnjgcffjfkaa
