/- Texts put together: Cu Cv Cw Cx Cy Dk Dl Dm Br Bs Bt Bu Bv Bw Bx By Bz Cr. -/
import Derived.Test.YtpfhmpblcmednaaE20
import Derived.Test.YtpfhmpblcmednaaE02
import Derived.Test.YtpfhmpblcmednaaE21
import Derived.Test.YtpfhmpblcmednaaE23
import Derived.Test.YtpfhmpblcmednaaE24
import Derived.Deep.RegionLaw
import Derived.BigQuiet
import Derived.Deep.RegionHeld3
namespace Go.Proofs.Ytpfhmpblcmednaa
set_option linter.unusedVariables false
set_option linter.unusedSimpArgs false
open Go.RowKit Go.Joins

/-- A batch under way, as its cells tell: where its spans lie, and what they are. -/
structure Fs where
  node : Int
  seq : Int
  A : Option Addr
  n : Nat
  c : Nat
  L : List Sp
  tries : Int
  due : Int
def Fs.snt (u : Fs) : Snt := ⟨u.node, u.seq, u.L, u.tries, u.due⟩
def encFs (u : Fs) : List Value := [.int .i64 u.node, .int .i64 u.seq, .slice u.A u.n u.c, .int .i64 u.tries, .int .i64 u.due]
theorem encFs_len (u : Fs) : (encFs u).length = 5 := rfl
theorem encFs_one (u : Fs) : ∀ v ∈ encFs u, v.oneCell' = true := fun v hv => by
  simp [encFs] at hv
  rcases hv with rfl | rfl | rfl | rfl | rfl <;> rfl
theorem rowFs : RowT Try.prog encFs 5 52 123 (.agg #[.int .i64 0, .int .i64 0, .slice none 0 0, .int .i64 0, .int .i64 0]) 56 where
  ht := Try.underlying52
  inf := by kernel_rfl
  hzs := rfl
  k0 := by decide
  hk := encFs_len
  h1 := encFs_one
  hb := by decide
/-- A batch's cells: those of a batch under way, without how often it was sent and when it is due. -/
def encBt (u : Fs) : List Value := [.int .i64 u.node, .int .i64 u.seq, .slice u.A u.n u.c]
theorem encBt_len (u : Fs) : (encBt u).length = 3 := rfl
theorem rowBt : RowT Try.prog encBt 3 141 45 (.agg #[.int .i64 0, .int .i64 0, .slice none 0 0]) 40 where
  ht := Try.underlying141
  inf := by kernel_rfl
  hzs := rfl
  k0 := by decide
  hk := encBt_len
  h1 := fun u v hv => by
    simp [encBt] at hv
    rcases hv with rfl | rfl | rfl <;> rfl
  hb := by decide
/-- What a batch's spans are, read at blocks that N allows. -/
structure FsO (w : World) (N : Nat → Prop) (u : Fs) : Prop where
  gx : GX encSp 11 w N u.A u.L
  len : u.L.length = u.n
  nil : u.A = none → u.c = 0
  cap : u.n ≤ u.c
  lim : u.c ≤ maxLen
def FP (w : World) (N : Nat → Prop) (U : List Fs) : Prop := ∀ u ∈ U, FsO w N u
section
variable {w w' : World} {N M : Nat → Prop} {U V : List Fs} {u : Fs}
theorem FsO.same (h : FsO w N u) (hs : ∀ b, N b → w'.heap[b]? = w.heap[b]?) : FsO w' N u := ⟨h.gx.same hs, h.len, h.nil, h.cap, h.lim⟩
theorem FsO.imp (h : FsO w N u) (hn : ∀ b, N b → M b) : FsO w M u := ⟨h.gx.imp hn, h.len, h.nil, h.cap, h.lim⟩
theorem FsO.up (h : FsO w (· < w.heap.size) u) (hb : Below w.heap.size w w') : FsO w' (· < w'.heap.size) u := ⟨h.gx.up hb, h.len, h.nil, h.cap, h.lim⟩
theorem FP.same (h : FP w N U) (hs : ∀ b, N b → w'.heap[b]? = w.heap[b]?) : FP w' N U := fun u hu => (h u hu).same hs
theorem FP.imp (h : FP w N U) (hn : ∀ b, N b → M b) : FP w M U := fun u hu => (h u hu).imp hn
theorem FP.up (h : FP w (· < w.heap.size) U) (hb : Below w.heap.size w w') : FP w' (· < w'.heap.size) U := fun u hu => (h u hu).up hb
end
/-- The cells of one row. -/
theorem fs_cells {w : World} {N : Nat → Prop} {A : Option Addr} {U : List Fs} (h : GX encFs 5 w N A U) {i : Nat} {u : Fs} (hu : U[i]? = some u) : ∃ b p, A = some ⟨b, p, none⟩ ∧ N b ∧
    w.cell? ⟨b, p + i * 5, none⟩ = some (.int .i64 u.node) ∧ w.cell? ⟨b, p + i * 5 + 1, none⟩ = some (.int .i64 u.seq) ∧ w.cell? ⟨b, p + i * 5 + 2, none⟩ = some (.slice u.A u.n u.c) ∧ w.cell? ⟨b, p + i * 5 + 3, none⟩ = some (.int .i64 u.tries) ∧ w.cell? ⟨b, p + i * 5 + 4, none⟩ = some (.int .i64 u.due) := by
  obtain ⟨hi, rfl⟩ := List.getElem?_eq_some_iff.1 hu
  obtain ⟨b, p, e, h1, h2⟩ := h i hi
  exact ⟨b, p, e, h1, h2 0 (by omega), h2 1 (by omega), h2 2 (by omega), h2 3 (by omega), h2 4 (by omega)⟩
theorem bt_cells {w : World} {N : Nat → Prop} {A : Option Addr} {U : List Fs} (h : GX encBt 3 w N A U) {i : Nat} {u : Fs} (hu : U[i]? = some u) : ∃ b p, A = some ⟨b, p, none⟩ ∧ N b ∧
    w.cell? ⟨b, p + i * 3, none⟩ = some (.int .i64 u.node) ∧ w.cell? ⟨b, p + i * 3 + 1, none⟩ = some (.int .i64 u.seq) ∧ w.cell? ⟨b, p + i * 3 + 2, none⟩ = some (.slice u.A u.n u.c) := by
  obtain ⟨hi, rfl⟩ := List.getElem?_eq_some_iff.1 hu
  obtain ⟨b, p, e, h1, h2⟩ := h i hi
  exact ⟨b, p, e, h1, h2 0 (by omega), h2 1 (by omega), h2 2 (by omega)⟩
theorem flset3 {w : World} {g : Nat} {t : TypeId} {c0 c1 c2 : Value} (k : Bk w g t #[c0, c1, c2]) (a b c : Value) : Bk (((w.setCell ⟨g, 0, none⟩ a).setCell ⟨g, 1, none⟩ b).setCell ⟨g, 2, none⟩ c) g t #[a, b, c] := by
  have h0 : Bk (w.setCell ⟨g, 0, none⟩ a) g t #[a, c1, c2] := Bk.set_ k 0 a
  have h1 : Bk ((w.setCell ⟨g, 0, none⟩ a).setCell ⟨g, 1, none⟩ b) g t #[a, b, c2] := Bk.set_ h0 1 b
  exact Bk.set_ h1 2 c
theorem flother {w : World} {g g' i : Nat} {t : TypeId} {cs : Array Value} (k : Bk w g t cs) (hn : g ≠ g') (u : Value) : Bk (w.setCell ⟨g', i, none⟩ u) g t cs := by
  unfold Bk at k ⊢
  rw [Below.heap_setCell w ⟨g', i, none⟩ u g hn]; exact k
/-- A row of the call's own that lies apart from what is changed. -/
theorem flgb {α : Type} {enc : α → List Value} {k : Nat} {e : TypeId} {w w' : World} {S : Nat → Prop} {base base' : Nat} {v : Value} {L : List α} (h : GB enc k e w base v L) (ho : OnS S w w') (hb : base' ≤ base) (hn : ∀ q, base ≤ q → ¬ S q) : GB enc k e w' base' v L := by
  refine ⟨h.1, ?_⟩
  rcases h.2 with h2 | ⟨g, cap', cur, e1, e2, e3, e4⟩
  · exact Or.inl h2
  · refine Or.inr ⟨g, cap', cur, e1, Nat.le_trans hb e2, ?_, e4⟩
    rw [ho.block g (Array.getElem?_eq_some_iff.1 e3).1 (hn g e2)]
    exact e3
set_option maxRecDepth 100000 in
theorem fltime_any (now : Int) (w : World) {t : Int} (H : Hid (flTime now = t)) :
    Calls Try.prog 123 #[.int .i64 now] w fun e w' => e = .returned (.int .i64 t) ∧ w' = w := by
  have hmm : min (max now 0) 1099511627776 = t := by rw [← H.out]; unfold flTime; omega
  clear H
  go_enter Try.func123, Try.ntmps123
  go_wp2_with fail
  go_returns
  exact ⟨rfl, rfl⟩
theorem flTime_in (now : Int) : 0 ≤ flTime now ∧ flTime now ≤ 1099511627776 := by unfold flTime; omega
set_option maxRecDepth 100000 in
theorem fldue_any (now retry : Int) (w : World) {t : Int} (H : Hid (flDue now retry = t)) :
    Calls Try.prog 125 #[.int .i64 now, .int .i64 retry] w fun e w' => e = .returned (.int .i64 t) ∧ w' = w := by
  obtain ⟨a, ha⟩ : ∃ a, flTime now = a := ⟨_, rfl⟩
  obtain ⟨r, hr⟩ : ∃ r, min (max retry 1) 8 = r := ⟨_, rfl⟩
  have h1 := flTime_in now
  have HT := hid (fltime_any now w (hid ha))
  have e : a + r = t := by rw [← H.out]; unfold flDue; rw [ha]; omega
  have hw : IntKind.i64.wrap (a + r) = t := by rw [e]; exact IntWalk.i64_in _ (by omega)
  clear ha e H
  go_enter Try.func125, Try.ntmps125
  go_wp2_with fail
  refine HT.out.mono ?_
  rintro e w' ⟨rfl, rfl⟩
  go_wp2_with fail
  go_returns
  exact ⟨rfl, rfl⟩
/-- What copied answers. -/
def FlC (w : World) (nd sq : Int) (L : List Sp) (e : Ending) (w' : World) : Prop := ∃ A n c, e = .returned (.agg #[.int .i64 nd, .int .i64 sq, .slice A n c]) ∧ L.length = n ∧ GB encSp 11 37 w' w.heap.size (.slice A n c) L ∧ Below w.heap.size w w'
set_option maxRecDepth 100000 in
set_option maxHeartbeats 4000000 in
theorem flcopied_any (nd sq : Int) (A : Option Addr) (n c : Nat) (L : List Sp) (w : World) (hA : GX encSp 11 w (· < w.heap.size) A L) (hn : Hid (L.length = n)) (hl : n ≤ 1000000) :
    Calls Try.prog 124 #[.agg #[.int .i64 nd, .int .i64 sq, .slice A n c]] w fun e w' => FlC w nd sq L e w' := by
  have hb0 := enew w (.cells #[.int .i64 nd, .int .i64 sq, .slice A n c] 45)
  have hb1 := enew (w.alloc (.cells #[.int .i64 nd, .int .i64 sq, .slice A n c] 45)) (.cells #[.int .i64 0, .int .i64 0, .slice none 0 0] 45)
  have kx := (Bk.new w 45 #[.int .i64 nd, .int .i64 sq, .slice A n c]).up hb1
  have kz := Bk.new (w.alloc (.cells #[.int .i64 nd, .int .i64 sq, .slice A n c] 45)) 45 #[.int .i64 0, .int .i64 0, .slice none 0 0]
  rw [World.size_alloc] at kz
  have HC := hid (clonesp_any A n c L _ (hA.up (estep hb0 hb1)) hn hl)
  have HBb := hid (estep hb0 hb1)
  have KX := hid kx
  have KZ := hid kz
  clear hb0 hb1 kx kz hA
  go_enter Try.func124, Try.ntmps124
  go_upto_region 1 with (fail)
  generalize (w.alloc (.cells #[.int .i64 nd, .int .i64 sq, .slice A n c] 45)).alloc (.cells #[.int .i64 0, .int .i64 0, .slice none 0 0] 45) = v0 at *
  have x2 := Bk.cell KX.out 2
  go_wp2_with fail
  refine HC.out.mono ?_
  rintro e w1 ⟨v1, rfl, hv1, hb1⟩
  obtain ⟨A1, c1, rfl, -⟩ := GB.reads encSp_len hv1
  rw [hn.out] at hv1 ⊢
  have HV := hid (And.intro hv1 hb1)
  have kx := KX.out.up hb1
  have kz := KZ.out.up hb1
  have x0 := Bk.cell kx 0
  have x1 := Bk.cell kx 1
  have x3 := Bk.cell kx 2
  have y2 := Bk.frozen kx 2
  have z0 := Bk.cell kz 0
  have z1 := Bk.cell kz 1
  have z2 := Bk.cell kz 2
  have u0 := Bk.frozen kz 0
  have u1 := Bk.frozen kz 1
  have u2 := Bk.frozen kz 2
  clear hv1 hb1 kx kz x2
  go_wp2_with fail
  have K3 := hid (flset3 (flother (g' := w.heap.size) (i := 2) (KZ.out.up HV.out.2) (by omega) (.slice A1 n c1)) (.int .i64 nd) (.int .i64 sq) (.slice A1 n c1))
  have c0 := Bk.cell K3.out 0
  have c1' := Bk.cell K3.out 1
  have c2 := Bk.cell K3.out 2
  (try simp only [Exit.inBlock, Exit.then])
  refine bodyPost_ret (v := .agg #[.int .i64 nd, .int .i64 sq, .slice A1 n c1]) (by simp [results, Try.results124, go_sem, c0, c1', c2]) rfl ?_
  have hon : OnS (fun b => b = w.heap.size ∨ b = w.heap.size + 1) w1 ((((w1.setCell ⟨w.heap.size, 2, none⟩ (.slice A1 n c1)).setCell ⟨w.heap.size + 1, 0, none⟩ (.int .i64 nd)).setCell ⟨w.heap.size + 1, 1, none⟩ (.int .i64 sq)).setCell ⟨w.heap.size + 1, 2, none⟩ (.slice A1 n c1)) := ((((OnS.refl _ w1).cell _ _ _ (Or.inl rfl)).cell _ _ _ (Or.inr rfl)).cell _ _ _ (Or.inr rfl)).cell _ _ _ (Or.inr rfl)
  have hlt := Bk.lt KZ.out
  refine ⟨A1, n, c1, rfl, hn.out, ?_, OnS.to_below (estep HBb.out HV.out.2) hon (fun b _ hb => by omega) (estep HBb.out HV.out.2).size⟩
  refine flgb HV.out.1 hon (by have := HBb.out.size; omega) (fun q hq => ?_)
  omega
end Go.Proofs.Ytpfhmpblcmednaa
namespace Go.Proofs.Ytpfhmpblcmednaa
set_option linter.unusedVariables false
set_option linter.unusedSimpArgs false
open Go.RowKit Go.Joins

/-- Few batches, each of few spans. -/
structure FlF (U : List Fs) (n : Nat) : Prop where
  len : U.length = n
  few : n ≤ 1000
  small : ∀ u ∈ U, u.L.length = u.n ∧ u.n ≤ 1000
theorem flSpans_take (U : List Fs) {i : Nat} {u : Fs} (hu : U[i]? = some u) : flSpans ((U.take (i + 1)).map Fs.snt) = flSpans ((U.take i).map Fs.snt) + u.L.length := by
  obtain ⟨hi, rfl⟩ := List.getElem?_eq_some_iff.1 hu
  rw [List.take_succ_eq_append_getElem hi, List.map_append, flSpans_app]
  simp [flSpans, Fs.snt]
theorem flSpans_le {U : List Fs} {n : Nat} (h : FlF U n) (i : Nat) : flSpans ((U.take i).map Fs.snt) ≤ i * 1000 := by
  induction i with
  | zero => simp only [List.take_zero, List.map_nil, flSpans, Nat.zero_le]
  | succ i ih =>
    by_cases hi : i < U.length
    · have hu := List.getElem?_eq_getElem hi
      rw [flSpans_take U hu]
      have := h.small _ (List.getElem_mem hi)
      omega
    · have e : U.take (i + 1) = U.take i := by rw [List.take_of_length_le (by omega), List.take_of_length_le (by omega)]
      exact Nat.le_trans (Nat.le_of_eq (by rw [e])) (Nat.le_trans ih (Nat.mul_le_mul_right _ (Nat.le_succ i)))
set_option maxRecDepth 100000 in
set_option maxHeartbeats 4000000 in
theorem flspans_any (A : Option Addr) (n c : Nat) (U : List Fs) (w : World) (hU : GX encFs 5 w (· < w.heap.size) A U) (hf : FlF U n) {k : Nat} (H : Hid (flSpans (U.map Fs.snt) = k)) :
    Calls Try.prog 59 #[.slice A n c] w fun e w' => e = .returned (.int .i64 (k : Int)) ∧ Below w.heap.size w w' := by
  have HU := hid hU
  have HF := hid hf
  have hn9 := hf.few
  clear hU hf
  go_enter Try.func59, Try.ntmps59
  go_wp2_with fail
  go_loopg [3, 8] n (fun g1 vs vi wr => ∃ i j : Nat, vi = .int .i64 i ∧ vs = .int .i64 (j : Int) ∧ i ≤ n ∧ n - i ≤ g1 ∧ Hid (flSpans ((U.take i).map Fs.snt) = j ∧ Below w.heap.size w wr))
  case atStart => exact ⟨0, 0, rfl, rfl, by omega, by omega, hid ⟨rfl, Below.refl _ _⟩⟩
  case round =>
    obtain ⟨i, j, rfl, rfl, hin, hgk, HI⟩ := hrel
    by_cases hlt : i < n
    · have hiU : i < U.length := by have := HF.out.len; omega
      have hu := List.getElem?_eq_getElem hiU
      obtain ⟨b, o, rfl, -, r0, r1, r2, r3, r4⟩ := fs_cells (HU.out.up HI.out.2) hu
      have HS := hid (flSpans_take U hu)
      have HSM := hid (HF.out.small _ (List.getElem_mem hiU))
      have HLE := hid (flSpans_le HF.out i)
      generalize U[i] = u at *
      obtain ⟨m, hm⟩ : ∃ m, u.n = m := ⟨_, rfl⟩
      rw [hm] at r2
      have HM := hid hm
      have hj9 : j ≤ 1000000 := by have := HLE.out; have := HI.out.1; omega
      have hm9 : m ≤ 1000 := by have := HSM.out.2; omega
      have hltz : (i : Int) < (n : Int) := by omega
      have hltd : decide ((i : Int) < (n : Int)) = true := decide_eq_true hltz
      have hi0 : (0 : Int) ≤ (i : Int) := by omega
      obtain ⟨q, hq⟩ : ∃ q : Nat, (j : Int) + (m : Int) = (q : Int) := ⟨j + m, by omega⟩
      have hw : IntKind.i64.wrap ((j : Int) + (m : Int)) = (q : Int) := by rw [hq]; exact IntWalk.i64_in _ (by omega)
      have HQ := hid hq
      clear hu hm hq
      go_wp2_with fail
      have HB2 := hid (enew wr (.cells #[.int .i64 u.node, .int .i64 u.seq, .slice u.A m u.c, .int .i64 u.tries, .int .i64 u.due] 123))
      go_roundg (n - (i + 1))
      case measure => omega
      case rel => exact ⟨i + 1, q, by go_num, by first | rfl | (rw [hw]) | go_num, by omega, by omega, hid ⟨by have := HS.out; have := HSM.out.1; have := HI.out.1; have := HQ.out; have := HM.out; omega, estep HI.out.2 HB2.out⟩⟩
    · obtain rfl : i = n := by omega
      have hltz : ¬ (i : Int) < (i : Int) := by omega
      have HE := hid (show j = k by rw [← H.out, ← HI.out.1, List.take_of_length_le (by have := HF.out.len; omega)])
      go_wp2_with fail
      go_returns
      exact ⟨by rw [HE.out]; rfl, HI.out.2⟩
theorem flset5 {w : World} {g : Nat} {t : TypeId} {c0 c1 c2 c3 c4 : Value} (k : Bk w g t #[c0, c1, c2, c3, c4]) (a b c d e : Value) : Bk (((((w.setCell ⟨g, 0, none⟩ a).setCell ⟨g, 1, none⟩ b).setCell ⟨g, 2, none⟩ c).setCell ⟨g, 3, none⟩ d).setCell ⟨g, 4, none⟩ e) g t #[a, b, c, d, e] := by
  have h0 : Bk (w.setCell ⟨g, 0, none⟩ a) g t #[a, c1, c2, c3, c4] := Bk.set_ k 0 a
  have h1 : Bk ((w.setCell ⟨g, 0, none⟩ a).setCell ⟨g, 1, none⟩ b) g t #[a, b, c2, c3, c4] := Bk.set_ h0 1 b
  have h2 : Bk (((w.setCell ⟨g, 0, none⟩ a).setCell ⟨g, 1, none⟩ b).setCell ⟨g, 2, none⟩ c) g t #[a, b, c, c3, c4] := Bk.set_ h1 2 c
  have h3 : Bk ((((w.setCell ⟨g, 0, none⟩ a).setCell ⟨g, 1, none⟩ b).setCell ⟨g, 2, none⟩ c).setCell ⟨g, 3, none⟩ d) g t #[a, b, c, d, c4] := Bk.set_ h2 3 d
  exact Bk.set_ h3 4 e
set_option maxRecDepth 100000 in
set_option maxHeartbeats 4000000 in
/-- Send's closure: each batch stays as it is. -/
theorem flsend1_any (nd sq : Int) (A : Option Addr) (n c : Nat) (tr du : Int) (w : World) :
    Calls Try.prog 128 #[.agg #[.int .i64 nd, .int .i64 sq, .slice A n c, .int .i64 tr, .int .i64 du]] w fun e w' => e = .returned (.tuple #[.agg #[.int .i64 nd, .int .i64 sq, .slice A n c, .int .i64 tr, .int .i64 du], .bool true]) ∧ Below w.heap.size w w' := by
  have hb0 := enew w (.cells #[.int .i64 nd, .int .i64 sq, .slice A n c, .int .i64 tr, .int .i64 du] 123)
  have hb1 := enew (w.alloc (.cells #[.int .i64 nd, .int .i64 sq, .slice A n c, .int .i64 tr, .int .i64 du] 123)) (.cells #[.int .i64 0, .int .i64 0, .slice none 0 0, .int .i64 0, .int .i64 0] 123)
  have kx := (Bk.new w 123 #[.int .i64 nd, .int .i64 sq, .slice A n c, .int .i64 tr, .int .i64 du]).up hb1
  have kz := Bk.new (w.alloc (.cells #[.int .i64 nd, .int .i64 sq, .slice A n c, .int .i64 tr, .int .i64 du] 123)) 123 #[.int .i64 0, .int .i64 0, .slice none 0 0, .int .i64 0, .int .i64 0]
  rw [World.size_alloc] at kz
  have HBb := hid (estep hb0 hb1)
  have KX := hid kx
  have KZ := hid kz
  clear hb0 hb1 kx kz
  go_enter Try.func128, Try.ntmps128
  go_upto_region 1 with (fail)
  generalize (w.alloc (.cells #[.int .i64 nd, .int .i64 sq, .slice A n c, .int .i64 tr, .int .i64 du] 123)).alloc (.cells #[.int .i64 0, .int .i64 0, .slice none 0 0, .int .i64 0, .int .i64 0] 123) = v0 at *
  have x0 := Bk.cell KX.out 0
  have x1 := Bk.cell KX.out 1
  have x2 := Bk.cell KX.out 2
  have x3 := Bk.cell KX.out 3
  have x4 := Bk.cell KX.out 4
  have z0 := Bk.cell KZ.out 0
  have z1 := Bk.cell KZ.out 1
  have z2 := Bk.cell KZ.out 2
  have z3 := Bk.cell KZ.out 3
  have z4 := Bk.cell KZ.out 4
  have u0 := Bk.frozen KZ.out 0
  have u1 := Bk.frozen KZ.out 1
  have u2 := Bk.frozen KZ.out 2
  have u3 := Bk.frozen KZ.out 3
  have u4 := Bk.frozen KZ.out 4
  go_wp2_with fail
  have K5 := hid (flset5 KZ.out (.int .i64 nd) (.int .i64 sq) (.slice A n c) (.int .i64 tr) (.int .i64 du))
  have c0 := Bk.cell K5.out 0
  have c1 := Bk.cell K5.out 1
  have c2 := Bk.cell K5.out 2
  have c3 := Bk.cell K5.out 3
  have c4 := Bk.cell K5.out 4
  (try simp only [Exit.inBlock, Exit.then])
  refine bodyPost_ret (v := .tuple #[.agg #[.int .i64 nd, .int .i64 sq, .slice A n c, .int .i64 tr, .int .i64 du], .bool true]) (by simp [results, Try.results128, go_sem, c0, c1, c2, c3, c4]) rfl ?_
  exact ⟨rfl, ((((HBb.out.setCell (Nat.le_succ _) _).setCell (Nat.le_succ _) _).setCell (Nat.le_succ _) _).setCell (Nat.le_succ _) _).setCell (Nat.le_succ _) _⟩
set_option maxRecDepth 100000 in
set_option maxHeartbeats 4000000 in
/-- Ack's closure: a batch of the number does not rest. -/
theorem flack1_any (nd sq : Int) (A : Option Addr) (n c : Nat) (tr du : Int) (g : Nat) (q : Int) (w : World) (hq : w.cell? ⟨g, 0, none⟩ = some (.int .i64 q)) {b : Bool} (hb : Hid ((!decide (sq = q)) = b)) :
    Calls Try.prog 97 #[.agg #[.int .i64 nd, .int .i64 sq, .slice A n c, .int .i64 tr, .int .i64 du], .pointer (some ⟨g, 0, none⟩)] w fun e w' => e = .returned (.tuple #[.agg #[.int .i64 nd, .int .i64 sq, .slice A n c, .int .i64 tr, .int .i64 du], .bool b]) ∧ Below w.heap.size w w' := by
  have hb0 := enew w (.cells #[.int .i64 nd, .int .i64 sq, .slice A n c, .int .i64 tr, .int .i64 du] 123)
  have hb1 := enew (w.alloc (.cells #[.int .i64 nd, .int .i64 sq, .slice A n c, .int .i64 tr, .int .i64 du] 123)) (.cells #[.int .i64 0, .int .i64 0, .slice none 0 0, .int .i64 0, .int .i64 0] 123)
  have kx := (Bk.new w 123 #[.int .i64 nd, .int .i64 sq, .slice A n c, .int .i64 tr, .int .i64 du]).up hb1
  have kz := Bk.new (w.alloc (.cells #[.int .i64 nd, .int .i64 sq, .slice A n c, .int .i64 tr, .int .i64 du] 123)) 123 #[.int .i64 0, .int .i64 0, .slice none 0 0, .int .i64 0, .int .i64 0]
  rw [World.size_alloc] at kz
  have HBb := hid (estep hb0 hb1)
  have HQ := hid (((estep hb0 hb1).cell (p := ⟨g, 0, none⟩) (lt_of_cell hq)).trans hq)
  have hgl : g < w.heap.size := lt_of_cell hq
  have hne1 : ¬ g = w.heap.size + 1 := by omega
  have hne2 : ¬ w.heap.size + 1 = g := by omega
  have KX := hid kx
  have KZ := hid kz
  clear hb0 hb1 kx kz hq
  go_enter Try.func97, Try.ntmps97
  go_upto_region 1 with (fail)
  generalize (w.alloc (.cells #[.int .i64 nd, .int .i64 sq, .slice A n c, .int .i64 tr, .int .i64 du] 123)).alloc (.cells #[.int .i64 0, .int .i64 0, .slice none 0 0, .int .i64 0, .int .i64 0] 123) = v0 at *
  have y0 := HQ.out
  have x0 := Bk.cell KX.out 0
  have x1 := Bk.cell KX.out 1
  have x2 := Bk.cell KX.out 2
  have x3 := Bk.cell KX.out 3
  have x4 := Bk.cell KX.out 4
  have z0 := Bk.cell KZ.out 0
  have z1 := Bk.cell KZ.out 1
  have z2 := Bk.cell KZ.out 2
  have z3 := Bk.cell KZ.out 3
  have z4 := Bk.cell KZ.out 4
  have u0 := Bk.frozen KZ.out 0
  have u1 := Bk.frozen KZ.out 1
  have u2 := Bk.frozen KZ.out 2
  have u3 := Bk.frozen KZ.out 3
  have u4 := Bk.frozen KZ.out 4
  go_wp2_with fail
  go_region_law (fail)
  all_goals
    have K5 := hid (flset5 KZ.out (.int .i64 nd) (.int .i64 sq) (.slice A n c) (.int .i64 tr) (.int .i64 du))
    have c0 := Bk.cell K5.out 0
    have c1 := Bk.cell K5.out 1
    have c2 := Bk.cell K5.out 2
    have c3 := Bk.cell K5.out 3
    have c4 := Bk.cell K5.out 4
    clear x0 x1 x2 x3 x4 z0 z1 z2 z3 z4 u0 u1 u2 u3 u4 y0
    have hbn : (sq != q) = b := by rw [← hb.out]; rfl
    go_wp2_with fail
    (try simp only [Exit.inBlock, Exit.then])
    refine bodyPost_ret (v := .tuple #[.agg #[.int .i64 nd, .int .i64 sq, .slice A n c, .int .i64 tr, .int .i64 du], .bool b]) (by simp [results, Try.results97, go_sem, Act.put, hbn, c0, c1, c2, c3, c4]) rfl ?_
    exact ⟨rfl, (((((HBb.out.setCell (Nat.le_succ _) _).setCell (Nat.le_succ _) _).setCell (Nat.le_succ _) _).setCell (Nat.le_succ _) _).setCell (Nat.le_succ _) _).drew⟩
end Go.Proofs.Ytpfhmpblcmednaa
namespace Go.Proofs.Ytpfhmpblcmednaa
set_option linter.unusedVariables false
set_option linter.unusedSimpArgs false
open Go.RowKit Go.Joins

/-- Of what type a block's cells are. -/
def Kd (w : World) (b : Nat) (e : TypeId) : Prop := ∃ c fz, w.heap[b]? = some (.cells c e fz)
theorem Kd.ne {w : World} {b : Nat} {e e2 : TypeId} (h : Kd w b e) (h2 : e ≠ e2) : ¬ Kd w b e2 := fun h3 => by
  obtain ⟨c, fz, h⟩ := h
  obtain ⟨c2, fz2, h3⟩ := h3
  rw [h] at h3
  injection h3 with h3
  injection h3 with _ h3
  exact h2 h3
theorem Bk.kd {w : World} {g : Nat} {t : TypeId} {cs : Array Value} (h : Bk w g t cs) : Kd w g t := ⟨cs, (0, 0), h⟩
theorem flgb2 {α : Type} {enc : α → List Value} {k : Nat} {e : TypeId} {w w' : World} {S : Nat → Prop} {base : Nat} {v : Value} {L : List α} (h : GB enc k e w base v L) (ho : OnS S w w') (hn : ∀ q, v.ownBlock = some q → ¬ S q) : GB enc k e w' base v L := by
  refine ⟨h.1, ?_⟩
  rcases h.2 with h2 | ⟨g, cap', cur, e1, e2, e3, e4⟩
  · exact Or.inl h2
  · refine Or.inr ⟨g, cap', cur, e1, e2, ?_, e4⟩
    rw [ho.block g (Array.getElem?_eq_some_iff.1 e3).1 (hn g (by rw [e1]; rfl))]
    exact e3
theorem flset3b {w : World} {g : Nat} {t : TypeId} {c0 c1 c2 c3 c4 : Value} (k : Bk w g t #[c0, c1, c2, c3, c4]) (a b c : Value) : Bk (((w.setCell ⟨g, 0, none⟩ a).setCell ⟨g, 1, none⟩ b).setCell ⟨g, 2, none⟩ c) g t #[a, b, c, c3, c4] := by
  have h0 : Bk (w.setCell ⟨g, 0, none⟩ a) g t #[a, c1, c2, c3, c4] := Bk.set_ k 0 a
  have h1 : Bk ((w.setCell ⟨g, 0, none⟩ a).setCell ⟨g, 1, none⟩ b) g t #[a, b, c2, c3, c4] := Bk.set_ h0 1 b
  exact Bk.set_ h1 2 c
/-- What a function that is handed on makes of batches: what each is then, if it rests; J is what it knows behind the first i. -/
structure RsF (B : Nat) (w0 : World) (F : Nat) (caps : Array Value) (U : List Fs) (q : Fs → Option Fs) (J : Nat → World → Prop) : Prop where
  eg : ∀ args w, (callFunc F args).run Try.prog w = .ok (.enter F args) w
  run : ∀ (i : Nat) (u : Fs) (w1 : World), U[i]? = some u → Below B w0 w1 → J i w1 → Calls Try.prog F (#[.agg #[.int .i64 u.node, .int .i64 u.seq, .slice u.A u.n u.c, .int .i64 u.tries, .int .i64 u.due]] ++ caps) w1 fun e w2 =>
    (∃ (r : Fs) (b : Bool), e = .returned (.tuple #[.agg #[.int .i64 r.node, .int .i64 r.seq, .slice r.A r.n r.c, .int .i64 r.tries, .int .i64 r.due], .bool b]) ∧ q u = if b then some r else none) ∧ J (i + 1) w2 ∧ OnS (fun b => B ≤ b ∧ ¬ Kd w1 b 123 ∧ ¬ Kd w1 b 37) w1 w2
  keep : ∀ (i : Nat) (w1 w2 : World), J i w1 → OnS (fun b => B ≤ b ∧ Kd w1 b 123) w1 w2 → J i w2
  same : ∀ u r, q u = some r → r.A = u.A ∧ r.n = u.n ∧ r.c = u.c ∧ r.L = u.L
/-- Spans in rows of the call's own. -/
def FK (w : World) (B : Nat) (V : List Fs) : Prop := ∀ u ∈ V, GB encSp 11 37 w B (.slice u.A u.n u.c) u.L ∧ u.L.length = u.n
/-- What the loop of resting knows. -/
structure RsL (B : Nat) (w0 wr : World) (U : List Fs) (q : Fs → Option Fs) (J : Nat → World → Prop) (i : Nat) (v : Value) (V : List Fs) : Prop where
  gb : GB encFs 5 123 wr B v V
  fk : FK wr B V
  eq : V.map Fs.snt = ((U.take i).filterMap q).map Fs.snt
  j : J i wr
  bel : Below B w0 wr
section
variable {B : Nat} {w0 wr w2 : World} {U V : List Fs} {q : Fs → Option Fs} {J : Nat → World → Prop} {i k : Nat} {v : Value} {S : Nat → Prop} {F : Nat} {caps : Array Value} {u r : Fs}
theorem FK.onS (h : FK wr B V) (ho : OnS S wr w2) (hS : ∀ b, Kd wr b 37 → ¬ S b) : FK w2 B V := fun u hu =>
  ⟨flgb2 (h u hu).1 ho fun q hq => hS q ((h u hu).1.kind q hq), (h u hu).2⟩
/-- Nothing but rows of batches under way is changed. -/
theorem RsL.sent (h : RsL B w0 wr U q J i v V) (hf : RsF B w0 F caps U q J) (ho : OnS (fun b => B ≤ b ∧ Kd wr b 123) wr w2) (hB : B ≤ wr.heap.size) (hv : ∀ b, v.ownBlock = some b → w2.heap[b]? = wr.heap[b]?) : RsL B w0 w2 U q J i v V := by
  refine ⟨?_, h.fk.onS ho fun b hb hS => (Kd.ne hb (by decide)) hS.2, h.eq, hf.keep i wr w2 h.j ho, OnS.to_below h.bel ho (fun k _ hk => hk.1) hB⟩
  refine ⟨h.gb.1, ?_⟩
  rcases h.gb.2 with h2 | ⟨g, cap', cur, e1, e2, e3, e4⟩
  · exact Or.inl h2
  · exact Or.inr ⟨g, cap', cur, e1, e2, (hv g (by rw [e1]; rfl)).trans e3, e4⟩
theorem RsL.up (h : RsL B w0 wr U q J i v V) (hf : RsF B w0 F caps U q J) (hb : Below wr.heap.size wr w2) (hB : B ≤ wr.heap.size) : RsL B w0 w2 U q J i v V :=
  h.sent hf (OnS.below hb) hB fun b hv => hb.block b (World.ownsRow.lt h.gb b hv).2
theorem rs_take (hu : U[i]? = some u) : (U.take (i + 1)).filterMap q = (U.take i).filterMap q ++ (q u).toList := by
  obtain ⟨hi, rfl⟩ := List.getElem?_eq_some_iff.1 hu
  have e : [U[i]].filterMap q = (q U[i]).toList := by cases h : q U[i] <;> simp [List.filterMap_cons, h]
  rw [List.take_succ_eq_append_getElem hi, List.filterMap_append, e]
/-- What the loop knows between the call and what is put behind. -/
structure RsM (B : Nat) (w0 wr : World) (U : List Fs) (q : Fs → Option Fs) (J : Nat → World → Prop) (i : Nat) (v : Value) (V : List Fs) : Prop where
  gb : GB encFs 5 123 wr B v V
  fk : FK wr B V
  eq : V.map Fs.snt = ((U.take i).filterMap q).map Fs.snt
  j : J (i + 1) wr
  bel : Below B w0 wr
theorem RsM.sent (h : RsM B w0 wr U q J i v V) (hf : RsF B w0 F caps U q J) (ho : OnS (fun b => B ≤ b ∧ Kd wr b 123) wr w2) (hB : B ≤ wr.heap.size) (hv : ∀ b, v.ownBlock = some b → w2.heap[b]? = wr.heap[b]?) : RsM B w0 w2 U q J i v V := by
  refine ⟨?_, h.fk.onS ho fun b hb hS => (Kd.ne hb (by decide)) hS.2, h.eq, hf.keep (i + 1) wr w2 h.j ho, OnS.to_below h.bel ho (fun k _ hk => hk.1) hB⟩
  refine ⟨h.gb.1, ?_⟩
  rcases h.gb.2 with h2 | ⟨g, cap', cur, e1, e2, e3, e4⟩
  · exact Or.inl h2
  · exact Or.inr ⟨g, cap', cur, e1, e2, (hv g (by rw [e1]; rfl)).trans e3, e4⟩
theorem RsM.up (h : RsM B w0 wr U q J i v V) (hf : RsF B w0 F caps U q J) (hb : Below wr.heap.size wr w2) (hB : B ≤ wr.heap.size) : RsM B w0 w2 U q J i v V :=
  h.sent hf (OnS.below hb) hB fun b hv => hb.block b (World.ownsRow.lt h.gb b hv).2
/-- One more is put behind. -/
theorem RsM.push (h : RsM B w0 wr U q J i v V) (hf : RsF B w0 F caps U q J) (hB : B ≤ wr.heap.size) {v' : Value} {x : Fs} (hG : GB encFs 5 123 w2 B v' (V ++ [x])) (hg : wr.grownBy w2 v.ownBlock) (hx : GB encSp 11 37 wr B (.slice x.A x.n x.c) x.L) (hn : x.L.length = x.n) (hu : U[i]? = some u) (hq : q u = some r) (hs : x.snt = r.snt) : RsL B w0 w2 U q J (i + 1) v' (V ++ [x]) := by
  have ho : OnS (fun b => B ≤ b ∧ Kd wr b 123) wr w2 := OnS.grown hg fun b hb => ⟨(World.ownsRow.lt h.gb b hb).1, h.gb.kind b hb⟩
  have hk : FK w2 B V := h.fk.onS ho fun b hb hS => (Kd.ne hb (by decide)) hS.2
  refine ⟨hG, fun y hy => ?_, ?_, hf.keep (i + 1) wr w2 h.j ho, OnS.to_below h.bel ho (fun k _ hk => hk.1) hB⟩
  · rcases List.mem_append.1 hy with hy | hy
    · exact hk y hy
    · obtain rfl := List.mem_singleton.1 hy
      exact ⟨flgb2 hx ho fun b hb hS => (Kd.ne (hx.kind b hb) (by decide)) hS.2, hn⟩
  · rw [rs_take hu, hq, List.map_append, List.map_append, h.eq]
    simp [hs]
theorem RsL.call2 (h : RsL B w0 wr U q J i v V) (hB : B ≤ wr.heap.size) (hj : J (i + 1) w2) (ho : OnS (fun b => B ≤ b ∧ ¬ Kd wr b 123 ∧ ¬ Kd wr b 37) wr w2) : RsM B w0 w2 U q J i v V :=
  ⟨flgb2 h.gb ho fun b hb hS => hS.2.1 (h.gb.kind b hb), h.fk.onS ho fun b hb hS => hS.2.2 hb, h.eq, hj, OnS.to_below h.bel ho (fun k _ hk => hk.1) hB⟩
/-- The function that is handed on was called. -/
theorem RsL.call (h : RsL B w0 wr U q J i v V) (hB : B ≤ wr.heap.size) (hj : J (i + 1) w2) (ho : OnS (fun b => B ≤ b ∧ ¬ Kd wr b 123 ∧ ¬ Kd wr b 37) wr w2) (hu : U[i]? = some u) (hq : q u = none) : RsL B w0 w2 U q J (i + 1) v V :=
  ⟨flgb2 h.gb ho fun b hb hS => hS.2.1 (h.gb.kind b hb), h.fk.onS ho fun b hb hS => hS.2.2 hb, by rw [rs_take hu, hq, h.eq]; simp, hj, OnS.to_below h.bel ho (fun k _ hk => hk.1) hB⟩
end
end Go.Proofs.Ytpfhmpblcmednaa
namespace Go.Proofs.Ytpfhmpblcmednaa
set_option linter.unusedVariables false
set_option linter.unusedSimpArgs false
open Go.RowKit Go.Joins

/-- What resting answers. -/
def RsR (B : Nat) (w0 : World) (U : List Fs) (q : Fs → Option Fs) (J : Nat → World → Prop) (e : Ending) (w' : World) : Prop := ∃ v V, e = .returned v ∧ RsL B w0 w' U q J U.length v V
set_option maxRecDepth 100000 in
set_option maxHeartbeats 8000000 in
theorem resting_any (B : Nat) (A : Option Addr) (n c : Nat) (U : List Fs) (F : Nat) (caps : Array Value) (q : Fs → Option Fs) (J : Nat → World → Prop) (w : World) (hf : RsF B w F caps U q J) (hU : GX encFs 5 w (· < B) A U) (hS : FP w (· < B) U) (hF : FlF U n) (hB : B ≤ w.heap.size) (hj : J 0 w) :
    Calls Try.prog 96 #[.slice A n c, .func (.func F) #[] caps] w fun e w' => RsR B w U q J e w' := by
  have HU := hid hU
  have HS := hid hS
  have HF := hid hF
  have HR := hid hf
  have HJ := hid hj
  have hn9 := hF.few
  have eg := hf.eg
  clear hU hS hF hf hj
  go_enter Try.func96, Try.ntmps96
  go_wp2_with fail
  go_loopg [5, 12] n (fun g1 v vi wr => ∃ (i : Nat) (V : List Fs), vi = .int .i64 i ∧ i ≤ n ∧ n - i ≤ g1 ∧ Hid (RsL B w wr U q J i v V))
  case atStart => exact ⟨0, [], rfl, by omega, by omega, hid ⟨GB.nil _ _, fun u hu => (by cases hu), rfl, HJ.out, Below.refl _ _⟩⟩
  case round =>
    obtain ⟨i, V, rfl, hin, hgk, HI⟩ := hrel
    obtain ⟨wz, hwz⟩ : ∃ wz, wz = wr := ⟨_, rfl⟩
    subst hwz
    by_cases hlt : i < n
    · have hiU : i < U.length := by have := HF.out.len; omega
      have hu := List.getElem?_eq_getElem hiU
      obtain ⟨b, o, rfl, hb, r0, r1, r2, r3, r4⟩ := fs_cells (HU.out.same fun b hB => HI.out.bel.block b hB) hu
      have HSM := hid (HF.out.small _ (List.getElem_mem hiU))
      have HO := hid (HS.out _ (List.getElem_mem hiU))
      have HUI := hid hu
      generalize U[i] = u at *
      have hltz : (i : Int) < (n : Int) := by omega
      have hltd : decide ((i : Int) < (n : Int)) = true := decide_eq_true hltz
      have hi0 : (0 : Int) ≤ (i : Int) := by omega
      have hb1 := enew wz (.cells #[.int .i64 u.node, .int .i64 u.seq, .slice u.A u.n u.c, .int .i64 u.tries, .int .i64 u.due] 123)
      have hBz : B ≤ wz.heap.size := Nat.le_trans hB HI.out.bel.size
      have H1 := hid (HI.out.up HR.out hb1 hBz)
      have HC := hid (HR.out.run i u _ hu H1.out.bel H1.out.j)
      clear hu hb hb1
      go_wp2_with fail
      refine HC.out.mono ?_
      rintro e w2 ⟨⟨r, bb, rfl, hq⟩, hj2, ho2⟩
      have hB1 : B ≤ (wz.alloc (.cells #[.int .i64 u.node, .int .i64 u.seq, .slice u.A u.n u.c, .int .i64 u.tries, .int .i64 u.due] 123)).heap.size := by simp; omega
      cases bb
      · have H2 := hid (H1.out.call hB1 hj2 ho2 HUI.out (by rw [hq]; rfl))
        have H3 := hid (H2.out.up HR.out (enew w2 (.cells #[.int .i64 r.node, .int .i64 r.seq, .slice r.A r.n r.c, .int .i64 r.tries, .int .i64 r.due] 123)) (Nat.le_trans hB1 ho2.size))
        clear hj2 ho2 HC hq r0 r1 r2 r3 r4 hB1 H2
        go_wp2_with fail
        go_roundg (n - (i + 1))
        case measure => omega
        case rel => exact ⟨i + 1, V, by go_num, by omega, by omega, H3⟩
      · have H2 := hid (H1.out.call2 hB1 hj2 ho2)
        have hb3 := enew w2 (.cells #[.int .i64 r.node, .int .i64 r.seq, .slice r.A r.n r.c, .int .i64 r.tries, .int .i64 r.due] 123)
        have hB2 : B ≤ w2.heap.size := Nat.le_trans hB1 ho2.size
        have H3 := hid (H2.out.up HR.out hb3 hB2)
        have hsm := HR.out.same u r (by rw [hq]; rfl)
        have HQ : Hid (q u = some r) := hid (by rw [hq]; rfl)
        have K3 := hid (Bk.new w2 123 #[.int .i64 r.node, .int .i64 r.seq, .slice r.A r.n r.c, .int .i64 r.tries, .int .i64 r.due])
        have HC2 := hid (flcopied_any r.node r.seq r.A r.n r.c u.L _ (by rw [hsm.1]; exact (HO.out.gx.same fun b hB => H3.out.bel.block b hB).imp fun b hB => Nat.lt_of_lt_of_le (show b < B from hB) (by simp; omega)) (hid (by rw [hsm.2.1]; exact HO.out.len)) (by rw [hsm.2.1]; have := HSM.out.2; omega))
        have HE := hid hsm
        have HVL := hid (fun b hv => (World.ownsRow.lt H2.out.gb b hv).2)
        have hB3 : B ≤ (w2.alloc (.cells #[.int .i64 r.node, .int .i64 r.seq, .slice r.A r.n r.c, .int .i64 r.tries, .int .i64 r.due] 123)).heap.size := by simp; omega
        have HVN : Hid (V.length ≤ 1000) := hid (by
          have h1 := congrArg List.length HI.out.eq
          rw [List.length_map, List.length_map] at h1
          have h2 := List.length_filterMap_le q (U.take i)
          have h3 := List.length_take_le i U
          omega)
        clear hj2 ho2 HC hq r0 r1 r2 r3 r4 hB1 H2 hsm hb3
        go_upto_region 7 with (fail)
        generalize w2.alloc (.cells #[.int .i64 r.node, .int .i64 r.seq, .slice r.A r.n r.c, .int .i64 r.tries, .int .i64 r.due] 123) = w3 at *
        have k0 := Bk.cell K3.out 0
        have k1 := Bk.cell K3.out 1
        have k2 := Bk.cell K3.out 2
        go_wp2_with fail
        refine HC2.out.mono ?_
        rintro e w4 ⟨A4, n4, c4, rfl, hn4, hv4, hb4⟩
        have HV4 := hid hv4
        have H4 := hid (H3.out.up HR.out hb4 hB3)
        have H4b := hid hb4.size
        have k4 := K3.out.up hb4
        have K4 := hid k4
        have k0 := Bk.cell k4 0
        have k1 := Bk.cell k4 1
        have k2 := Bk.cell k4 2
        have z0 := Bk.frozen k4 0
        have z1 := Bk.frozen k4 1
        have z2 := Bk.frozen k4 2
        clear hv4 hb4 k4 HC2
        go_upto_region 8 with (fail)
        have ho5 : OnS (fun b => b = w2.heap.size) w4 (((w4.setCell ⟨w2.heap.size, 0, none⟩ (.int .i64 r.node)).setCell ⟨w2.heap.size, 1, none⟩ (.int .i64 r.seq)).setCell ⟨w2.heap.size, 2, none⟩ (.slice A4 n4 c4)) := (((OnS.refl (fun b => b = w2.heap.size) w4).cell _ _ _ rfl).cell _ _ _ rfl).cell _ _ _ rfl
        have hkd := Bk.kd K4.out
        have H5 := hid (H4.out.sent HR.out (ho5.imp fun b _ e => (by subst e; exact ⟨hB2, hkd⟩)) (Nat.le_trans hB3 (by have := H4b.out; omega)) (fun b hv => ho5.block b (by have := HVL.out b hv; have := Bk.lt K4.out; omega) (by have := HVL.out b hv; show ¬ b = _; omega)))
        have HV5 : Hid (GB encSp 11 37 (((w4.setCell ⟨w2.heap.size, 0, none⟩ (.int .i64 r.node)).setCell ⟨w2.heap.size, 1, none⟩ (.int .i64 r.seq)).setCell ⟨w2.heap.size, 2, none⟩ (.slice A4 n4 c4)) B (.slice A4 n4 c4) u.L) := hid (flgb2 (HV4.out.more hB3) ho5 fun b hb e => (Kd.ne (e2 := 123) (HV4.out.kind b hb) (by decide)) (by have e' : b = w2.heap.size := e; subst e'; exact hkd))
        have K5 := hid (flset3b K4.out (.int .i64 r.node) (.int .i64 r.seq) (.slice A4 n4 c4))
        have hs5 := ho5.size
        have HB5 : Hid (B ≤ (((w4.setCell ⟨w2.heap.size, 0, none⟩ (.int .i64 r.node)).setCell ⟨w2.heap.size, 1, none⟩ (.int .i64 r.seq)).setCell ⟨w2.heap.size, 2, none⟩ (.slice A4 n4 c4)).heap.size) := hid (Nat.le_trans (Nat.le_trans hB3 (by have := H4b.out; omega)) hs5)
        clear k0 k1 k2 z0 z1 z2 K4 HV4 H4 ho5 hkd hs5
        generalize ((w4.setCell ⟨w2.heap.size, 0, none⟩ (.int .i64 r.node)).setCell ⟨w2.heap.size, 1, none⟩ (.int .i64 r.seq)).setCell ⟨w2.heap.size, 2, none⟩ (.slice A4 n4 c4) = w5 at *
        have k0 := Bk.cell K5.out 0
        have k1 := Bk.cell K5.out 1
        have k2 := Bk.cell K5.out 2
        have k3 := Bk.cell K5.out 3
        have k4 := Bk.cell K5.out 4
        have hx1 := gx_new (M := [(⟨r.node, r.seq, A4, n4, c4, u.L, r.tries, r.due⟩ : Fs)]) encFs_len (Bk.new w5 123 #[.int .i64 r.node, .int .i64 r.seq, .slice A4 n4 c4, .int .i64 r.tries, .int .i64 r.due]) rfl
        have hbs := enew w5 (.cells #[.int .i64 r.node, .int .i64 r.seq, .slice A4 n4 c4, .int .i64 r.tries, .int .i64 r.due] 123)
        have HX1 := hid (And.intro hx1 (And.intro (H5.out.up HR.out hbs HB5.out) (And.intro (HV5.out.below hbs) (Nat.le_trans HB5.out hbs.size))))
        clear hx1 hbs
        go_wp2_with (at_builtin; refine wpList_append_gxl rowFs rfl _ _ rfl B _ V [(⟨r.node, r.seq, A4, n4, c4, u.L, r.tries, r.due⟩ : Fs)] w5.heap.size 1 (fun b => b = w5.heap.size) rfl HX1.out.2.1.gb rfl HX1.out.1 (by simp) (by have := HVN.out; simp only [List.length_cons, List.length_nil]; omega) HX1.out.2.2.2 ?_)
        intro g6 c6 w6 m6 hm6 hG6 hg6 hl6
        have HL := hid (HX1.out.2.1.push HR.out HX1.out.2.2.2 hG6 hg6 HX1.out.2.2.1 hn4 HUI.out HQ.out (by simp only [Fs.snt, HE.out.2.2.2]))
        clear hG6 hg6 hl6 hm6 k0 k1 k2 k3 k4 HX1 H5 HV5
        go_wp2_with fail
        go_roundg (n - (i + 1))
        case measure => omega
        case rel => exact ⟨i + 1, _, by go_num, by omega, by omega, HL⟩
    · obtain rfl : i = n := by omega
      have hltz : ¬ (i : Int) < (i : Int) := by omega
      have hL := HI.out
      rw [← HF.out.len] at hL
      have HL := hid hL
      clear hL
      go_wp2_with fail
      go_returns
      exact ⟨_, V, rfl, HL.out⟩
end Go.Proofs.Ytpfhmpblcmednaa
namespace Go.Proofs.Ytpfhmpblcmednaa
set_option linter.unusedVariables false
set_option linter.unusedSimpArgs false
open Go.RowKit Go.Joins

/-- A slice of batches under way, told by its parts. -/
structure FlO (w : World) (A : Option Addr) (n c : Nat) (U : List Fs) : Prop where
  gx : GX encFs 5 w (· < w.heap.size) A U
  fp : FP w (· < w.heap.size) U
  len : U.length = n
  nil : A = none → c = 0
  cap : n ≤ c
  lim : c ≤ maxLen
theorem FlO.up {w w' : World} {A : Option Addr} {n c : Nat} {U : List Fs} (h : FlO w A n c U) (hb : Below w.heap.size w w') : FlO w' A n c U := ⟨h.gx.up hb, h.fp.up hb, h.len, h.nil, h.cap, h.lim⟩
/-- Few batches, of few spans. -/
def FlG (l : List Snt) : Prop := l.length ≤ 1000 ∧ ∀ x ∈ l, x.L.length ≤ 1000
theorem FlG.ack {l : List Snt} (h : FlG l) (a : Int) : FlG (flAck l a).1 := ⟨Nat.le_trans (flAck_len l a) h.1, fun x hx => h.2 x (List.mem_filter.1 hx).1⟩
theorem FlG.flf {w : World} {A : Option Addr} {n c : Nat} {U : List Fs} (h : FlG (U.map Fs.snt)) (ho : FlO w A n c U) : FlF U n := by
  refine ⟨ho.len, by have := h.1; rw [List.length_map, ho.len] at this; exact this, fun u hu => ⟨(ho.fp u hu).len, ?_⟩⟩
  have := h.2 u.snt (List.mem_map.2 ⟨u, hu, rfl⟩)
  have h2 := (ho.fp u hu).len
  simp only [Fs.snt] at this
  omega
/-- A list of batches under way, as a value that can be read. -/
def FlV (w : World) (v : Value) (l : List Snt) : Prop := ∃ A n c U, v = .slice A n c ∧ FlO w A n c U ∧ U.map Fs.snt = l
theorem FlV.up {w w' : World} {v : Value} {l : List Snt} (h : FlV w v l) (hb : Below w.heap.size w w') : FlV w' v l := by
  obtain ⟨A, n, c, U, e, ho, hl⟩ := h
  exact ⟨A, n, c, U, e, ho.up hb, hl⟩
theorem flo_of {w : World} {B : Nat} {A : Option Addr} {n c : Nat} {V : List Fs} (hg : GB encFs 5 123 w B (.slice A n c) V) (hk : FK w B V) : FlO w A n c V := by
  obtain ⟨A', c', e, h1, h2, h3, h4⟩ := GB.reads encFs_len hg
  simp only [Value.slice.injEq] at e
  obtain ⟨rfl, rfl, rfl⟩ := e
  refine ⟨h1.imp fun b hb => hb.2, fun u hu => ?_, rfl, h2, h3, h4⟩
  obtain ⟨hu1, hu2⟩ := hk u hu
  obtain ⟨A', c', e, k1, k2, k3, k4⟩ := GB.reads encSp_len hu1
  simp only [Value.slice.injEq] at e
  obtain ⟨e1, e2, e3⟩ := e
  exact ⟨e1 ▸ k1.imp fun b hb => hb.2, hu2, fun h => by rw [e3]; exact k2 (e1 ▸ h), by rw [e2, e3]; exact k3, by rw [e3]; exact k4⟩
/-- A list of batches under way, in blocks of its own. -/
def FlK (w : World) (B : Nat) (v : Value) (l : List Snt) : Prop := ∃ A n c U, v = .slice A n c ∧ GB encFs 5 123 w B (.slice A n c) U ∧ FK w B U ∧ U.map Fs.snt = l
theorem FlK.flv {w : World} {B : Nat} {v : Value} {l : List Snt} (h : FlK w B v l) : FlV w v l := by
  obtain ⟨A, n, c, U, e, h1, h2, h3⟩ := h
  exact ⟨A, n, c, U, e, flo_of h1 h2, h3⟩
theorem FK.below {w w' : World} {B : Nat} {V : List Fs} (h : FK w B V) (hb : Below w.heap.size w w') : FK w' B V := fun u hu => ⟨(h u hu).1.below hb, (h u hu).2⟩
theorem FK.more {w : World} {B B' : Nat} {V : List Fs} (h : FK w B V) (hb : B' ≤ B) : FK w B' V := fun u hu => ⟨(h u hu).1.more hb, (h u hu).2⟩
/-- What resting answers, as a slice. -/
theorem RsR.slice {B : Nat} {w0 w' : World} {U : List Fs} {q : Fs → Option Fs} {J : Nat → World → Prop} {e : Ending} (h : RsR B w0 U q J e w') : ∃ A n c V, e = .returned (.slice A n c) ∧ GB encFs 5 123 w' B (.slice A n c) V ∧ FK w' B V ∧ V.map Fs.snt = (U.filterMap q).map Fs.snt ∧ J U.length w' ∧ Below B w0 w' := by
  obtain ⟨v, V, rfl, hL⟩ := h
  obtain ⟨A, c, rfl, -⟩ := GB.reads encFs_len hL.gb
  exact ⟨A, V.length, c, V, rfl, hL.gb, hL.fk, by rw [hL.eq, List.take_length], hL.j, hL.bel⟩
/-- What Ack answers. -/
def FlA (w : World) (l : List Snt) (a : Int) (e : Ending) (w' : World) : Prop := ∃ (A : Option Addr) (n c k : Nat), e = .returned (.tuple #[.slice A n c, .int .i64 (k : Int)]) ∧ FlV w' (.slice A n c) (flAck l a).1 ∧ (flAck l a).2 = k ∧ Below w.heap.size w w'
/-- The same, where the list's blocks are new. -/
def FlAk (w : World) (l : List Snt) (a : Int) (e : Ending) (w' : World) : Prop := ∃ (A : Option Addr) (n c k : Nat), e = .returned (.tuple #[.slice A n c, .int .i64 (k : Int)]) ∧ FlK w' w.heap.size (.slice A n c) (flAck l a).1 ∧ (flAck l a).2 = k ∧ Below w.heap.size w w'
theorem flAck_map (U : List Fs) (a : Int) : (U.filterMap fun u => if (!decide (u.seq = a)) = true then some u else none).map Fs.snt = (flAck (U.map Fs.snt) a).1 := by
  unfold flAck
  induction U with
  | nil => rfl
  | cons u r ih =>
    rw [List.filterMap_cons, List.map_cons, List.filter_cons]
    by_cases h : u.seq = a
    · have h1 : (!decide (u.seq = a)) = false := by simp [h]
      have h2 : (!decide ((Fs.snt u).seq = a)) = false := h1
      rw [h1, h2]
      exact ih
    · have h1 : (!decide (u.seq = a)) = true := by simp [h]
      have h2 : (!decide ((Fs.snt u).seq = a)) = true := h1
      rw [h1, h2]
      exact congrArg (Fs.snt u :: ·) ih
set_option maxRecDepth 100000 in
theorem flack_fn (B : Nat) (w : World) (U : List Fs) (g : Nat) (a : Int) (hg : w.cell? ⟨g, 0, none⟩ = some (.int .i64 a)) (hgB : g < B) : RsF B w 97 #[.pointer (some ⟨g, 0, none⟩)] U (fun u => if (!decide (u.seq = a)) = true then some u else none) (fun _ _ => True) where
  eg := fun args w => by first | rfl | (unfold callFunc; rfl) | simp [callFunc]
  run := fun i u w1 hu hb _ => by
    obtain ⟨b, hbb⟩ : ∃ b, (!decide (u.seq = a)) = b := ⟨_, rfl⟩
    refine (flack1_any u.node u.seq u.A u.n u.c u.tries u.due g a w1 ((hb.cell (p := ⟨g, 0, none⟩) hgB).trans hg) (hid hbb)).mono ?_
    rintro e w2 ⟨rfl, h⟩
    exact ⟨⟨u, b, rfl, by rw [hbb]⟩, trivial, OnS.below h⟩
  keep := fun _ _ _ _ _ => trivial
  same := fun u r h => by
    split at h
    · injection h with h; subst h; exact ⟨rfl, rfl, rfl, rfl⟩
    · cases h
set_option maxRecDepth 100000 in
set_option maxHeartbeats 4000000 in
theorem flack_k (v : Value) (l : List Snt) (a : Int) (w : World) (hv : FlV w v l) (hG : FlG l) :
    Calls Try.prog 56 #[v, .int .i64 a] w fun e w' => FlAk w l a e w' := by
  obtain ⟨A, n, c, U, rfl, hO, rfl⟩ := hv
  have hb0 := enew w (.cells #[.int .i64 a] 3)
  have hc0 := Bk.cell (Bk.new w 3 #[.int .i64 a]) 0
  have HF := hid (hG.flf hO)
  have HBs := hid hb0
  have HO := hid hO
  have hl0 : w.heap.size < (w.alloc (.cells #[.int .i64 a] 3)).heap.size := by simp
  have HRS := hid (resting_any (w.alloc (.cells #[.int .i64 a] 3)).heap.size A n c U _ _ _ _ (w.alloc (.cells #[.int .i64 a] 3)) (flack_fn _ _ U w.heap.size a hc0 hl0) (hO.up hb0).gx (hO.up hb0).fp HF.out (Nat.le_refl _) trivial)
  have HG := hid hG
  clear hb0 hc0 hO hG hl0
  go_enter Try.func56, Try.ntmps56
  go_upto_region 1 with (fail)
  generalize w.alloc (.cells #[.int .i64 a] 3) = v0 at *
  go_wp2_with fail
  refine HRS.out.mono ?_
  intro e w1 hr
  obtain ⟨A1, n1, c1, V, rfl, hg1, hk1, hm1, -, hb1⟩ := hr.slice
  have hO1 := flo_of hg1 hk1
  rw [flAck_map] at hm1
  have hG1 : FlG (V.map Fs.snt) := by rw [hm1]; exact HG.out.ack a
  obtain ⟨k1, hk1'⟩ : ∃ k, flSpans (U.map Fs.snt) = k := ⟨_, rfl⟩
  obtain ⟨k2, hk2'⟩ : ∃ k, flSpans (V.map Fs.snt) = k := ⟨_, rfl⟩
  have hle := flSpans_le HF.out n
  rw [List.take_of_length_le (Nat.le_of_eq HF.out.len), hk1'] at hle
  have hfew := HF.out.few
  have hall := flAck_all (U.map Fs.snt) a
  rw [← hm1, hk1', hk2'] at hall
  obtain ⟨k3, hk3⟩ : ∃ k, (flAck (U.map Fs.snt) a).2 = k := ⟨_, rfl⟩
  rw [hk3] at hall
  have HS1 := hid (flspans_any A n c U w1 ((HO.out.up (HBs.out.trans (hb1.mono HBs.out.size))).gx) HF.out (hid hk1'))
  have HS2 := hid (fun w2 (hb : Below w1.heap.size w1 w2) => flspans_any A1 n1 c1 V w2 (hO1.up hb).gx (hG1.flf hO1) (hid hk2'))
  have H1 := hid (And.intro (And.intro hg1 hk1) (And.intro hm1 (And.intro hb1 hk3)))
  have hz : (k1 : Int) - (k2 : Int) = (k3 : Int) := by omega
  have hkk : k1 ≤ 1000000 := by have : n * 1000 ≤ 1000 * 1000 := Nat.mul_le_mul_right _ hfew; omega
  have hw : IntKind.i64.wrap ((k1 : Int) - (k2 : Int)) = (k3 : Int) := by rw [hz]; exact IntWalk.i64_in _ (by omega)
  clear hr hg1 hk1 hm1 hb1 hO1 hG1 hk1' hk2' hle hall hk3 HRS hz
  go_wp2_with fail
  refine HS1.out.mono ?_
  rintro e w2 ⟨rfl, hb2⟩
  have HB2 := hid hb2
  clear hb2 HS1
  go_wp2_with fail
  refine (HS2.out _ HB2.out).mono ?_
  rintro e w3 ⟨rfl, hb3⟩
  have HB3 := hid (estep HB2.out hb3)
  clear hb3 HS2 HB2
  go_wp2_with fail
  go_returns
  obtain ⟨f1, f2, f3, f4⟩ := H1.out
  exact ⟨A1, n1, c1, k3, by simp [hw], ⟨A1, n1, c1, V, rfl, (f1.1.below HB3.out).more HBs.out.size, (f1.2.below HB3.out).more HBs.out.size, f2⟩, f4, HBs.out.trans ((f3.trans (HB3.out.mono f3.size)).mono HBs.out.size)⟩
theorem flack_any (v : Value) (l : List Snt) (a : Int) (w : World) (hv : FlV w v l) (hG : FlG l) :
    Calls Try.prog 56 #[v, .int .i64 a] w fun e w' => FlA w l a e w' := by
  refine (flack_k v l a w hv hG).mono ?_
  rintro e w' ⟨A, n, c, k, rfl, h1, h2⟩
  exact ⟨A, n, c, k, rfl, h1.flv, h2⟩
end Go.Proofs.Ytpfhmpblcmednaa
namespace Go.Proofs.Ytpfhmpblcmednaa
set_option linter.unusedVariables false
set_option linter.unusedSimpArgs false
open Go.RowKit Go.Joins

theorem snt_at {U V : List Fs} (h : U.map Fs.snt = V.map Fs.snt) {i : Nat} {u v : Fs} (hu : U[i]? = some u) (hv : V[i]? = some v) : v.node = u.node ∧ v.seq = u.seq ∧ v.L = u.L ∧ v.tries = u.tries ∧ v.due = u.due := by
  have e := congrArg (fun l => l[i]?) h
  simp only [List.getElem?_map, hu, hv, Option.map_some, Option.some.injEq, Fs.snt, Snt.mk.injEq] at e
  obtain ⟨a, b, c, d, f⟩ := e
  exact ⟨a.symm, b.symm, c.symm, d.symm, f.symm⟩
end Go.Proofs.Ytpfhmpblcmednaa
namespace Go.Proofs.Ytpfhmpblcmednaa
set_option linter.unusedVariables false
set_option maxRecDepth 100000
set_option linter.unusedSimpArgs false
open Go.RowKit Go.Joins

def fewS (l : List Snt) : Bool := decide (l.length ≤ 30 ∧ ∀ x ∈ l, x.L.length ≤ 60)
theorem fewS_flg {l : List Snt} (h : fewS l = true) : FlG l := by
  have h2 := of_decide_eq_true h
  exact ⟨by omega, fun x hx => by have := h2.2 x hx; omega⟩
/-- A slice of batches, told by its parts. -/
structure FbO (w : World) (A : Option Addr) (n c : Nat) (U : List Fs) : Prop where
  gx : GX encBt 3 w (· < w.heap.size) A U
  fp : FP w (· < w.heap.size) U
  len : U.length = n
theorem FbO.up {w w' : World} {A : Option Addr} {n c : Nat} {U : List Fs} (h : FbO w A n c U) (hb : Below w.heap.size w w') : FbO w' A n c U := ⟨h.gx.up hb, h.fp.up hb, h.len⟩
set_option maxRecDepth 100000 in
theorem flsend_fn (B : Nat) (w : World) (U : List Fs) : RsF B w 128 #[] U some (fun _ _ => True) where
  eg := fun args w => by first | rfl | (unfold callFunc; rfl) | simp [callFunc]
  run := fun i u w1 hu hb _ => by
    refine (flsend1_any u.node u.seq u.A u.n u.c u.tries u.due w1).mono ?_
    rintro e w2 ⟨rfl, h⟩
    exact ⟨⟨u, true, rfl, rfl⟩, trivial, OnS.below h⟩
  keep := fun _ _ _ _ _ => trivial
  same := fun u r h => by injection h with h; subst h; exact ⟨rfl, rfl, rfl, rfl⟩
set_option maxRecDepth 100000 in
set_option maxHeartbeats 4000000 in
theorem flsend_k (v : Value) (l : List Snt) (nd sq : Int) (A : Option Addr) (n c : Nat) (L : List Sp) (now retry : Int) (w : World) (hv : FlV w v l) (hG : FlG l) (hA : GX encSp 11 w (· < w.heap.size) A L) (hn : Hid (L.length = n)) (hl : n ≤ 1000) :
    Calls Try.prog 89 #[v, .agg #[.int .i64 nd, .int .i64 sq, .slice A n c], .int .i64 now, .int .i64 retry] w fun e w' => ∃ v', e = .returned v' ∧ FlK w' w.heap.size v' (flSend l nd sq L now retry) ∧ Below w.heap.size w w' := by
  obtain ⟨B, m, c2, U, rfl, hO, rfl⟩ := hv
  have hb0 := enew w (.cells #[.int .i64 nd, .int .i64 sq, .slice A n c] 45)
  have KX := hid (Bk.new w 45 #[.int .i64 nd, .int .i64 sq, .slice A n c])
  have HF := hid (hG.flf hO)
  have HBs := hid hb0
  have HRS := hid (resting_any (w.alloc (.cells #[.int .i64 nd, .int .i64 sq, .slice A n c] 45)).heap.size B m c2 U _ _ _ _ (w.alloc (.cells #[.int .i64 nd, .int .i64 sq, .slice A n c] 45)) (flsend_fn _ _ U) (hO.up hb0).gx (hO.up hb0).fp HF.out (Nat.le_refl _) trivial)
  have HA := hid hA
  obtain ⟨t, ht⟩ : ∃ t, flDue now retry = t := ⟨_, rfl⟩
  have HD := hid (fun w2 => fldue_any now retry w2 (hid ht))
  have HTT := hid ht
  clear hb0 hO hG hA ht
  go_enter Try.func89, Try.ntmps89
  go_upto_region 1 with (fail)
  generalize w.alloc (.cells #[.int .i64 nd, .int .i64 sq, .slice A n c] 45) = v0 at *
  go_wp2_with fail
  refine HRS.out.mono ?_
  intro e w1 hr
  obtain ⟨A1, n1, c1, V, rfl, hg1, hk1, hm1, -, hb1⟩ := hr.slice
  rw [List.filterMap_some] at hm1
  have hnV : V.length = n1 := by
    have := hg1.1
    obtain ⟨A', c', e, -⟩ := GB.reads encFs_len hg1
    simp only [Value.slice.injEq] at e
    exact e.2.1.symm
  have H1 := hid (And.intro hg1 (And.intro hk1 (And.intro hm1 (And.intro hb1 hnV))))
  have hVm : V.length = m := by
    have h1 := congrArg List.length hm1
    simp only [List.length_map] at h1
    rw [h1, HF.out.len]
  have hm9 := HF.out.few
  have kx := KX.out.up hb1
  have x0 := Bk.cell kx 0
  have x1 := Bk.cell kx 1
  have x2 := Bk.cell kx 2
  have HC := hid (flcopied_any nd sq A n c L w1 ((HA.out.up HBs.out).up hb1) hn (by omega))
  clear hr hg1 hk1 hm1 hb1 kx HRS hnV
  go_wp2_with fail
  refine HC.out.mono ?_
  rintro e w2 ⟨A2, n2, c3, rfl, hn2, hv2, hb2⟩
  have H2 := hid (And.intro hn2 (And.intro hv2 hb2))
  clear hn2 hv2 hb2 HC x0 x1 x2
  go_wp2_with fail
  refine (HD.out _).mono ?_
  rintro e w3 ⟨rfl, rfl⟩
  have hx1 := gx_new (M := [(⟨nd, sq, A2, n2, c3, L, 1, t⟩ : Fs)]) encFs_len (Bk.new w3 123 #[.int .i64 nd, .int .i64 sq, .slice A2 n2 c3, .int .i64 1, .int .i64 t]) rfl
  have hbs := enew w3 (.cells #[.int .i64 nd, .int .i64 sq, .slice A2 n2 c3, .int .i64 1, .int .i64 t] 123)
  have hg2 := H1.out.1.below (estep H2.out.2.2 hbs)
  have HX1 := hid (And.intro hx1 (And.intro hg2 hbs))
  have HSZ := hid (Nat.le_trans H1.out.2.2.2.1.size (estep H2.out.2.2 hbs).size)
  clear hx1 hbs hg2
  go_wp2_with (at_builtin; refine wpList_append_gxl rowFs rfl _ _ rfl v0.heap.size _ V [(⟨nd, sq, A2, n2, c3, L, 1, t⟩ : Fs)] w3.heap.size 1 (fun b => b = w3.heap.size) rfl HX1.out.2.1 rfl HX1.out.1 (by simp) (by simp only [List.length_cons, List.length_nil]; omega) HSZ.out ?_)
  intro g6 c6 w6 m6 hm6 hG6 hg6 hl6
  have H6 := hid (And.intro hG6 hg6)
  clear hG6 hg6 hl6 hm6
  go_wp2_with fail
  go_returns
  obtain ⟨f1, f2, f3, f4, f5⟩ := H1.out
  obtain ⟨g1, g2, g3⟩ := H2.out
  have hbx := estep g3 HX1.out.2.2
  have hk3 : FK _ v0.heap.size V := f2.onS (S := fun _ => False) ⟨hbx.os, hbx.tape, hbx.output, hbx.size, fun k hk _ => hbx.block k hk⟩ fun _ _ h => h
  have hz3 := (g2.more f4.size).below HX1.out.2.2
  have ho6 : OnS (fun b => some b = (Value.slice A1 n1 c1).ownBlock) _ w6 := OnS.grown H6.out.2 fun b hb => hb.symm
  have hkind : ∀ b, Kd (w3.alloc (.cells #[.int .i64 nd, .int .i64 sq, .slice A2 n2 c3, .int .i64 1, .int .i64 t] 123)) b 37 → ¬ some b = (Value.slice A1 n1 c1).ownBlock := fun b hb e => Kd.ne hb (by decide) (HX1.out.2.1.kind b e.symm)
  have hk6 := hk3.onS ho6 hkind
  have hz6 := flgb2 hz3 ho6 fun q hq => hkind q (hz3.kind q hq)
  refine ⟨_, rfl, ⟨_, _, _, V ++ [(⟨nd, sq, A2, n2, c3, L, 1, t⟩ : Fs)], rfl, H6.out.1.more HBs.out.size, FK.more (fun u hu => ?_) HBs.out.size, ?_⟩, ?_⟩
  · rcases List.mem_append.1 hu with hu | hu
    · exact hk6 u hu
    · obtain rfl := List.mem_singleton.1 hu
      exact ⟨hz6, g1⟩
  · rw [List.map_append, f3, flSend, HTT.out]
    rfl
  · exact OnS.to_below (HBs.out.trans ((estep (f4.trans (hbx.mono f4.size)) (Below.refl _ _)).mono HBs.out.size)) ho6 (fun k _ hk => by have := (World.ownsRow.lt HX1.out.2.1 k hk.symm).1; have := HBs.out.size; omega) (Nat.le_trans HBs.out.size HSZ.out)
theorem flsend_any (v : Value) (l : List Snt) (nd sq : Int) (A : Option Addr) (n c : Nat) (L : List Sp) (now retry : Int) (w : World) (hv : FlV w v l) (hG : FlG l) (hA : GX encSp 11 w (· < w.heap.size) A L) (hn : Hid (L.length = n)) (hl : n ≤ 1000) :
    Calls Try.prog 89 #[v, .agg #[.int .i64 nd, .int .i64 sq, .slice A n c], .int .i64 now, .int .i64 retry] w fun e w' => ∃ v', e = .returned v' ∧ FlV w' v' (flSend l nd sq L now retry) ∧ Below w.heap.size w w' := by
  refine (flsend_k v l nd sq A n c L now retry w hv hG hA hn hl).mono ?_
  rintro e w' ⟨v', rfl, h1, h2⟩
  exact ⟨v', rfl, h1.flv, h2⟩
end Go.Proofs.Ytpfhmpblcmednaa
namespace Go.Proofs.Ytpfhmpblcmednaa
set_option linter.unusedVariables false
set_option maxRecDepth 100000
set_option linter.unusedSimpArgs false
open Go.RowKit Go.Joins

structure StJ (B : Nat) (wr : World) (ga gg : Nat) (va : Value) (Va : List Fs) (vg : Value) (Vg : List Fs) : Prop where
  ka : Bk wr ga 141 #[va]
  kg : Bk wr gg 141 #[vg]
  a : GB encBt 3 45 wr B va Va
  g : GB encBt 3 45 wr B vg Vg
  fa : FK wr B Va
  fg : FK wr B Vg
  ap : ∀ b, va.ownBlock = some b → vg.ownBlock ≠ some b
  lo : B ≤ ga ∧ B ≤ gg ∧ ga ≠ gg
/-- What the function may change. -/
def StS (B : Nat) (w : World) : Nat → Prop := fun b => B ≤ b ∧ ¬ Kd w b 123 ∧ ¬ Kd w b 37
section
variable {B : Nat} {w1 wr w2 w7 w8 : World} {ga gg q m c : Nat} {va vg : Value} {Va Vg : List Fs} {x : Fs} {S : Nat → Prop}
theorem StJ.swap (h : StJ B wr ga gg va Va vg Vg) : StJ B wr gg ga vg Vg va Va := ⟨h.kg, h.ka, h.g, h.a, h.fg, h.fa, fun b h1 h2 => h.ap b h2 h1, h.lo.2.1, h.lo.1, h.lo.2.2.symm⟩
theorem StJ.ons (h : StJ B wr ga gg va Va vg Vg) (ho : OnS S wr w2) (hS : ∀ b, S b → Kd wr b 123) : StJ B w2 ga gg va Va vg Vg := by
  have h1 : ∀ b e, Kd wr b e → 123 ≠ e → ¬ S b := fun b e hk hne hs => Kd.ne (hS b hs) hne hk
  exact ⟨h.ka.onS ho (h1 _ _ h.ka.kd (by decide)), h.kg.onS ho (h1 _ _ h.kg.kd (by decide)), flgb2 h.a ho fun q hq => h1 _ _ (h.a.kind q hq) (by decide), flgb2 h.g ho fun q hq => h1 _ _ (h.g.kind q hq) (by decide), h.fa.onS ho fun b hb => h1 _ _ hb (by decide), h.fg.onS ho fun b hb => h1 _ _ hb (by decide), h.ap, h.lo⟩
theorem StJ.up (h : StJ B wr ga gg va Va vg Vg) (hb : Below wr.heap.size wr w2) : StJ B w2 ga gg va Va vg Vg :=
  ⟨h.ka.up hb, h.kg.up hb, h.a.below hb, h.g.below hb, h.fa.onS (S := fun _ => False) ⟨hb.os, hb.tape, hb.output, hb.size, fun k hk _ => hb.block k hk⟩ fun _ _ h => h, h.fg.onS (S := fun _ => False) ⟨hb.os, hb.tape, hb.output, hb.size, fun k hk _ => hb.block k hk⟩ fun _ _ h => h, h.ap, h.lo⟩
/-- One more is put behind those that are given up. -/
theorem StJ.give (h : StJ B wr ga gg va Va vg Vg) (hG : GB encBt 3 45 w7 B (.slice (some ⟨q, 0, none⟩) m c) (Vg ++ [x])) (hg : wr.grownBy w7 vg.ownBlock) (hl : vg.ownBlock = some q ∨ q = wr.heap.size) (hx : GB encSp 11 37 wr B (.slice x.A x.n x.c) x.L) (hn : x.L.length = x.n) :
    StJ B (w7.setCell ⟨gg, 0, none⟩ (.slice (some ⟨q, 0, none⟩) m c)) ga gg va Va (.slice (some ⟨q, 0, none⟩) m c) (Vg ++ [x]) ∧ OnS (StS B wr) wr (w7.setCell ⟨gg, 0, none⟩ (.slice (some ⟨q, 0, none⟩) m c)) := by
  have ho : OnS (fun b => b = gg ∨ some b = vg.ownBlock) wr (w7.setCell ⟨gg, 0, none⟩ (.slice (some ⟨q, 0, none⟩) m c)) := (OnS.grown hg fun b hb => Or.inr hb.symm).cell gg 0 _ (Or.inl rfl)
  have hkB : ∀ b, (b = gg ∨ some b = vg.ownBlock) → Kd wr b 141 ∨ Kd wr b 45 := fun b hb => by
    rcases hb with rfl | hb
    · exact Or.inl h.kg.kd
    · exact Or.inr (h.g.kind b hb.symm)
  have hno : ∀ b e, Kd wr b e → 141 ≠ e → 45 ≠ e → ¬ (b = gg ∨ some b = vg.ownBlock) := fun b e hk h1 h2 hb => by
    rcases hkB b hb with h3 | h3
    · exact Kd.ne h3 h1 hk
    · exact Kd.ne h3 h2 hk
  have hga : ¬ (ga = gg ∨ some ga = vg.ownBlock) := fun hb => by
    rcases hb with hb | hb
    · exact h.lo.2.2 hb
    · exact Kd.ne h.ka.kd (by decide) (h.g.kind ga hb.symm)
  have kg7 : Bk w7 gg 141 #[vg] := h.kg.grown h.g (by decide) hg
  refine ⟨⟨h.ka.onS ho hga, Bk.set_ kg7 0 _, flgb2 h.a ho fun b hb hS => ?_, GB.set hG kg7 (by decide) 0 _, h.fa.onS ho fun b hb => hno b _ hb (by decide) (by decide), fun y hy => ?_, fun b hb hb2 => ?_, h.lo⟩, ho.imp fun b _ hb => ⟨?_, fun hk => hno b _ hk (by decide) (by decide) hb, fun hk => hno b _ hk (by decide) (by decide) hb⟩⟩
  · rcases hS with rfl | hS
    · exact Kd.ne h.kg.kd (by decide) (h.a.kind b hb)
    · exact h.ap b hb hS.symm
  · rcases List.mem_append.1 hy with hy | hy
    · exact (h.fg.onS ho fun b hb => hno b _ hb (by decide) (by decide)) y hy
    · obtain rfl := List.mem_singleton.1 hy
      exact ⟨flgb2 hx ho fun b hb => hno b _ (hx.kind b hb) (by decide) (by decide), hn⟩
  · have e : b = q := by
      have h2 : some q = some b := hb2
      injection h2 with h2
      exact h2.symm
    subst e
    rcases hl with hl | hl
    · exact h.ap b hb hl
    · have := (World.ownsRow.lt h.a b hb).2
      omega
  · rcases hb with rfl | hb
    · exact h.lo.2.1
    · exact (World.ownsRow.lt h.g b hb.symm).1
theorem kd_below (hb : Below w1.heap.size w1 wr) {b : Nat} (hlt : b < w1.heap.size) (e : TypeId) : Kd wr b e ↔ Kd w1 b e := by
  unfold Kd
  rw [hb.block b hlt]
/-- What is changed behind new blocks alone is changed of the world that was. -/
theorem sts_below (hb : Below w1.heap.size w1 wr) (ho : OnS (StS B wr) wr w2) : OnS (StS B w1) w1 w2 :=
  ⟨ho.os.trans hb.os, ho.tape.trans hb.tape, ho.output.trans hb.output, Nat.le_trans hb.size ho.size, fun k hk hn => (ho.block k (Nat.lt_of_lt_of_le hk hb.size) fun h => hn ⟨h.1, fun h2 => h.2.1 ((kd_below hb hk _).2 h2), fun h2 => h.2.2 ((kd_below hb hk _).2 h2)⟩).trans (hb.block k hk)⟩
theorem sts_tail (ho : OnS (StS B w1) w1 w2) (hb : Below w1.heap.size w2 w7) : OnS (StS B w1) w1 w7 :=
  ⟨hb.os.trans ho.os, hb.tape.trans ho.tape, hb.output.trans ho.output, Nat.le_trans ho.size hb.size, fun k hk hn => (hb.block k hk).trans (ho.block k hk hn)⟩
end
end Go.Proofs.Ytpfhmpblcmednaa
namespace Go.Proofs.Ytpfhmpblcmednaa
set_option linter.unusedVariables false
set_option linter.unusedSimpArgs false
open Go.RowKit Go.Joins

/-- A buffer in block g, what waits in block p, if there is any: how many there is room for. -/
def BfH (w : World) (g : Nat) (p : Option Nat) (room : Nat) (x : Bfr) : Prop :=
  ∃ v, Bk w g 140 #[.int .i64 (room : Int), v, .int .i64 (x.2 : Int)] ∧ GB encSp 11 37 w 0 v x.1 ∧ v.ownBlock = p ∧ x.1.length ≤ room ∧ room ≤ 64 ∧ 1 ≤ room
section
variable {w w' : World} {g room : Nat} {p : Option Nat} {x : Bfr} {S : Nat → Prop}
theorem GB.onS {α : Type} {enc : α → List Value} {k : Nat} {e : TypeId} {base : Nat} {v : Value} {L : List α} (h : GB enc k e w base v L) (ho : OnS S w w') (hn : ∀ q, v.ownBlock = some q → ¬ S q) : GB enc k e w' base v L := by
  refine ⟨h.1, ?_⟩
  rcases h.2 with h2 | ⟨g, cap', cur, e1, e2, e3, e4⟩
  · exact Or.inl h2
  · refine Or.inr ⟨g, cap', cur, e1, e2, ?_, e4⟩
    rw [ho.block g (Array.getElem?_eq_some_iff.1 e3).1 (hn g (by rw [e1]; rfl))]
    exact e3
theorem BfH.up (h : BfH w g p room x) (hb : Below w.heap.size w w') : BfH w' g p room x := by
  obtain ⟨v, h1, h2, h3⟩ := h
  exact ⟨v, h1.up hb, h2.below hb, h3⟩
theorem BfH.onS (h : BfH w g p room x) (ho : OnS S w w') (hg : ¬ S g) (hp : ∀ q, p = some q → ¬ S q) : BfH w' g p room x := by
  obtain ⟨v, h1, h2, h3, h4⟩ := h
  exact ⟨v, h1.onS ho hg, h2.onS ho (fun q hq => hp q (h3 ▸ hq)), h3, h4⟩
theorem BfH.lt (h : BfH w g p room x) : g < w.heap.size ∧ ∀ q, p = some q → q < w.heap.size ∧ g ≠ q := by
  obtain ⟨v, h1, h2, h3, h4⟩ := h
  refine ⟨h1.lt, fun q hq => ⟨(World.ownsRow.lt h2 q (h3.trans hq)).2, fun e => ?_⟩⟩
  subst e
  exact GB.not_bk h2 h1 (by decide) (h3.trans hq).symm
theorem BfH.few (h : BfH w g p room x) : x.1.length ≤ room ∧ room ≤ 64 ∧ 1 ≤ room := by
  obtain ⟨v, h1, h2, h3, h4⟩ := h
  exact h4
end
set_option maxRecDepth 100000 in
set_option maxHeartbeats 4000000 in
theorem bfnew_any (room : Int) (w : World) {c : Nat} (H : Hid (bfRoom room = c)) :
    Calls Try.prog 45 #[.int .i64 room] w fun e w' => ∃ g, e = .returned (.pointer (some ⟨g, 0, none⟩)) ∧ w.heap.size ≤ g ∧ BfH w' g none c ([], 0) ∧ Below w.heap.size w w' := by
  have h1 := bfRoom_pos room
  have hmm : min (max room 1) 64 = (c : Int) := by have := H.out; unfold bfRoom at this; omega
  rw [H.out] at h1
  have HC := hid h1
  clear h1 H
  go_enter Try.func45, Try.ntmps45
  go_wp2_with fail
  go_returns
  exact ⟨w.heap.size, rfl, Nat.le_refl _, ⟨_, Bk.new w _ _, GB.nil _ _, rfl, Nat.zero_le _, HC.out.2, HC.out.1⟩, enew _ _⟩
set_option maxRecDepth 100000 in
set_option maxHeartbeats 4000000 in
theorem bfLen_any (g : Nat) (p : Option Nat) (room : Nat) (x : Bfr) (w : World) (h : BfH w g p room x) {k : Nat} (H : Hid (x.1.length = k)) :
    Calls Try.prog 58 #[.pointer (some ⟨g, 0, none⟩)] w fun e w' => e = .returned (.int .i64 (k : Int)) ∧ Below w.heap.size w w' := by
  obtain ⟨v, h1, h2, -⟩ := h
  obtain ⟨A, c, rfl, -⟩ := GB.reads encSp_len h2
  rw [H.out] at h1
  have h3 : w.cell? ⟨g, 1, none⟩ = some (.slice A k c) := Bk.cell h1 1
  clear h1 h2
  go_enter Try.func58, Try.ntmps58
  go_wp2_with fail
  go_returns
  exact ⟨rfl, Below.refl _ _⟩
set_option maxRecDepth 100000 in
set_option maxHeartbeats 4000000 in
theorem bfLost_any (g : Nat) (p : Option Nat) (room : Nat) (x : Bfr) (w : World) (h : BfH w g p room x) (hx : x.2 ≤ 1099511627776) {k : Nat} (H : Hid (x.2 = k)) :
    Calls Try.prog 61 #[.pointer (some ⟨g, 0, none⟩)] w fun e w' => e = .returned (.int .i64 (k : Int)) ∧ Below w.heap.size w w' := by
  obtain ⟨v, h1, -⟩ := h
  rw [H.out] at h1 hx
  have h2 : w.cell? ⟨g, 2, none⟩ = some (.int .i64 (k : Int)) := Bk.cell h1 2
  have H2 := hid (ncount_any ⟨g, 2, none⟩ k w h2 (by omega) (by omega))
  clear h1 h2
  go_enter Try.func61, Try.ntmps61
  go_wp2_with fail
  refine H2.out.mono ?_
  rintro e w' ⟨rfl, rfl⟩
  go_wp2_with fail
  go_returns
  exact ⟨rfl, Below.refl _ _⟩
set_option maxRecDepth 100000 in
theorem bfLen_nil (w : World) : Calls Try.prog 58 #[.pointer none] w fun e w' => e = .returned (.int .i64 0) ∧ Below w.heap.size w w' := by
  go_enter Try.func58, Try.ntmps58
  go_wp2_with fail
  go_returns
  exact ⟨rfl, Below.refl _ _⟩
set_option maxRecDepth 100000 in
theorem bfLost_nil (w : World) : Calls Try.prog 61 #[.pointer none] w fun e w' => e = .returned (.int .i64 0) ∧ Below w.heap.size w w' := by
  go_enter Try.func61, Try.ntmps61
  go_wp2_with fail
  go_returns
  exact ⟨rfl, Below.refl _ _⟩
set_option maxRecDepth 100000 in
theorem bfTake_nil (n : Int) (w : World) : Calls Try.prog 88 #[.pointer none, .int .i64 n] w fun e w' => e = .returned (.slice none 0 0) ∧ Below w.heap.size w w' := by
  go_enter Try.func88, Try.ntmps88
  go_wp2_with fail
  go_returns
  exact ⟨rfl, Below.refl _ _⟩
set_option maxRecDepth 100000 in
theorem bfPut_nil (cs : Array Value) (w : World) : Calls Try.prog 47 #[.pointer none, .agg cs] w fun e w' => e = .returned (.bool false) ∧ Below w.heap.size w w' := by
  have hb := hid (enew w (.cells cs 37))
  go_enter Try.func47, Try.ntmps47
  go_wp2_with fail
  go_returns
  exact ⟨rfl, hb.out⟩
end Go.Proofs.Ytpfhmpblcmednaa
namespace Go.Proofs.Ytpfhmpblcmednaa
set_option linter.unusedVariables false
set_option linter.unusedSimpArgs false
open Go.RowKit Go.Joins

/-- What Put answers, and the buffer behind it. -/
def BfP (w : World) (g : Nat) (p : Option Nat) (room : Nat) (x : Bfr) (ok : Bool) (e : Ending) (w' : World) : Prop := e = .returned (.bool ok) ∧ ∃ p', BfH w' g p' room x ∧ OnS (fun b => b = g ∨ some b = p) w w' ∧ (p' = p ∨ ∃ q, p' = some q ∧ w.heap.size ≤ q)
theorem bfset1 {w : World} {g : Nat} {a b c : Value} (h : Bk w g 140 #[a, b, c]) (u : Value) : Bk (w.setCell ⟨g, 1, none⟩ u) g 140 #[a, u, c] := Bk.set_ h 1 u
theorem bfset2 {w : World} {g : Nat} {a b c : Value} (h : Bk w g 140 #[a, b, c]) (u : Value) : Bk (w.setCell ⟨g, 2, none⟩ u) g 140 #[a, b, u] := Bk.set_ h 2 u
theorem bf_fin {w wA w7 : World} {g room n q m c : Nat} {L : List Sp} {v : Value} {p : Option Nat} (hz : Below w.heap.size w wA) (hk : Bk wA g 140 #[.int .i64 (room : Int), v, .int .i64 (n : Int)]) (hgb : GB encSp 11 37 wA 0 v L) (hp : v.ownBlock = p) {s : Sp}
    (hF : GB encSp 11 37 w7 0 (.slice (some ⟨q, 0, none⟩) m c) (L ++ [s])) (hg : wA.grownBy w7 v.ownBlock) (hl : v.ownBlock = some q ∨ q = wA.heap.size) (hr : L.length < room) (h6 : room ≤ 64) :
    BfP w g p room (L ++ [s], n) true (.returned (.bool true)) (w7.setCell ⟨g, 1, none⟩ (.slice (some ⟨q, 0, none⟩) m c)) := by
  have k7 := hk.grown hgb (by decide) hg
  refine ⟨rfl, some q, ⟨_, bfset1 k7 _, GB.set hF k7 (by decide) 1 _, rfl, by simp; omega, h6, by omega⟩, ?_, ?_⟩
  · exact ((OnS.below hz).trans (OnS.grown hg fun b hb => Or.inr (by rw [← hp, hb]))).cell g 1 _ (Or.inl rfl)
  · rcases hl with h | h
    · exact Or.inl (by rw [← hp, h])
    · exact Or.inr ⟨q, rfl, by have := hz.size; omega⟩
set_option maxRecDepth 100000 in
set_option maxHeartbeats 4000000 in
theorem bfput_room (g : Nat) (p : Option Nat) (room : Nat) (L : List Sp) (n : Nat) (s : Sp) (w : World) (h : BfH w g p room (L, n)) (hr : L.length < room) :
    Calls Try.prog 47 #[.pointer (some ⟨g, 0, none⟩), .agg #[.int .u64 (s.hi : Int), .int .u64 (s.lo : Int), .int .u64 (s.id : Int), .int .u64 (s.up : Int), .string (bs s.name), .int .i64 s.status, .int .i64 s.seq, .int .i64 s.kids, .bool s.shade, .int .i64 s.start, .int .i64 s.fin]] w fun e w' => BfP w g p room (L ++ [s], n) true e w' := by
  obtain ⟨v, h1, h2, h3, h4, h5, h6⟩ := h
  obtain ⟨A, c, rfl, -, -, hkc, -⟩ := GB.reads encSp_len h2
  obtain ⟨k, hk⟩ : ∃ k, L.length = k := ⟨_, rfl⟩
  simp only [hk] at h1 h2 h3 h4 hkc
  have hb0 := enew w (.cells #[.int .u64 (s.hi : Int), .int .u64 (s.lo : Int), .int .u64 (s.id : Int), .int .u64 (s.up : Int), .string (bs s.name), .int .i64 s.status, .int .i64 s.seq, .int .i64 s.kids, .bool s.shade, .int .i64 s.start, .int .i64 s.fin] 37)
  have HS := hid (Bk.new w 37 #[.int .u64 (s.hi : Int), .int .u64 (s.lo : Int), .int .u64 (s.id : Int), .int .u64 (s.up : Int), .string (bs s.name), .int .i64 s.status, .int .i64 s.seq, .int .i64 s.kids, .bool s.shade, .int .i64 s.start, .int .i64 s.fin])
  have HBf := hid (And.intro (h1.up hb0) (And.intro (h2.below hb0) (And.intro h3 (And.intro hk (And.intro hb0 (And.intro hr h5))))))
  have hge : decide ((room : Int) ≤ (k : Int)) = false := decide_eq_false (by omega)
  have hge2 : decide (room ≤ k) = false := decide_eq_false (by omega)
  clear h1 h2 h3 h4 hk hb0 hr
  go_enter Try.func47, Try.ntmps47
  go_upto_region 1 with (fail)
  generalize w.alloc (.cells #[.int .u64 (s.hi : Int), .int .u64 (s.lo : Int), .int .u64 (s.id : Int), .int .u64 (s.up : Int), .string (bs s.name), .int .i64 s.status, .int .i64 s.seq, .int .i64 s.kids, .bool s.shade, .int .i64 s.start, .int .i64 s.fin] 37) = v0 at *
  have q0 : v0.cell? ⟨g, 0, none⟩ = some (.int .i64 (room : Int)) := Bk.cell HBf.out.1 0
  have q1 : v0.cell? ⟨g, 1, none⟩ = some (.slice A k c) := Bk.cell HBf.out.1 1
  have x0 : v0.cell? ⟨w.heap.size, 0, none⟩ = some (.int .u64 (s.hi : Int)) := Bk.cell HS.out 0
  have x1 : v0.cell? ⟨w.heap.size, 1, none⟩ = some (.int .u64 (s.lo : Int)) := Bk.cell HS.out 1
  have x2 : v0.cell? ⟨w.heap.size, 2, none⟩ = some (.int .u64 (s.id : Int)) := Bk.cell HS.out 2
  have x3 : v0.cell? ⟨w.heap.size, 3, none⟩ = some (.int .u64 (s.up : Int)) := Bk.cell HS.out 3
  have x4 : v0.cell? ⟨w.heap.size, 4, none⟩ = some (.string (bs s.name)) := Bk.cell HS.out 4
  have x5 : v0.cell? ⟨w.heap.size, 5, none⟩ = some (.int .i64 s.status) := Bk.cell HS.out 5
  have x6 : v0.cell? ⟨w.heap.size, 6, none⟩ = some (.int .i64 s.seq) := Bk.cell HS.out 6
  have x7 : v0.cell? ⟨w.heap.size, 7, none⟩ = some (.int .i64 s.kids) := Bk.cell HS.out 7
  have x8 : v0.cell? ⟨w.heap.size, 8, none⟩ = some (.bool s.shade) := Bk.cell HS.out 8
  have x9 : v0.cell? ⟨w.heap.size, 9, none⟩ = some (.int .i64 s.start) := Bk.cell HS.out 9
  have x10 : v0.cell? ⟨w.heap.size, 10, none⟩ = some (.int .i64 s.fin) := Bk.cell HS.out 10
  have hz : Below v0.heap.size v0 v0 := Below.refl _ _
  go_wp2_with fail
  go_quiet (fail)
  go_wp2_with fail
  have hzq : Below v0.heap.size v0 (v0.drewN (nq + 1)) := below_drewN hz _
  have hzA : Below v0.heap.size v0 ((v0.drewN (nq + 1)).alloc (.cells #[.int .u64 (s.hi : Int), .int .u64 (s.lo : Int), .int .u64 (s.id : Int), .int .u64 (s.up : Int), .string (bs s.name), .int .i64 s.status, .int .i64 s.seq, .int .i64 s.kids, .bool s.shade, .int .i64 s.start, .int .i64 s.fin] 37)) := hzq.alloc hzq.size _
  have hx := gx_new (M := [s]) encSp_len (Bk.new (v0.drewN (nq + 1)) 37 #[.int .u64 (s.hi : Int), .int .u64 (s.lo : Int), .int .u64 (s.id : Int), .int .u64 (s.up : Int), .string (bs s.name), .int .i64 s.status, .int .i64 s.seq, .int .i64 s.kids, .bool s.shade, .int .i64 s.start, .int .i64 s.fin]) rfl
  have HA := hid (And.intro hzA hx)
  have q1A := (hzA.cell (p := ⟨g, 1, none⟩) (lt_of_cell q1)).trans q1
  clear hzq hzA hx
  go_region_law (
    (refine step_append_gxl rowSp rfl _ _ rfl 0 (.slice A k c) L [s] v0.heap.size 1 (fun b => b = _) rfl (GB.below HBf.out.2.1 HA.out.1) rfl HA.out.2 (by simp) (by have := HBf.out.2.2.2.2.2.1; simp only [List.length_cons, List.length_nil]; omega) (Nat.zero_le _) ?_
     intro b7 c7 w7 m7 hm7 hF hg hl
     have k7 := (HBf.out.1.up HA.out.1).grown (GB.below HBf.out.2.1 HA.out.1) (by decide) hg
     have p1 := Bk.cell k7 1
     have p2 := Bk.frozen k7 1))
  all_goals
    have HF := hid (And.intro hF (And.intro hg hl))
    clear hF hg hl k7 hm7 x0 x1 x2 x3 x4 x5 x6 x7 x8 x9 x10 q0 q1 q1A
    go_wp2_with fail
    go_returns
    obtain ⟨f1, f2, f3, f4, f5, f6, f7⟩ := HBf.out
    exact bf_fin (estep f5 HA.out.1) (f1.up HA.out.1) (GB.below f2 HA.out.1) f3 HF.out.1 HF.out.2.1 HF.out.2.2 f6 f7
set_option maxRecDepth 100000 in
set_option maxHeartbeats 4000000 in
theorem bfput_full (g : Nat) (p : Option Nat) (room : Nat) (L : List Sp) (n : Nat) (s : Sp) (w : World) (h : BfH w g p room (L, n)) (hr : ¬ L.length < room) (hn : n + 1 ≤ 1099511627776) :
    Calls Try.prog 47 #[.pointer (some ⟨g, 0, none⟩), .agg #[.int .u64 (s.hi : Int), .int .u64 (s.lo : Int), .int .u64 (s.id : Int), .int .u64 (s.up : Int), .string (bs s.name), .int .i64 s.status, .int .i64 s.seq, .int .i64 s.kids, .bool s.shade, .int .i64 s.start, .int .i64 s.fin]] w fun e w' => BfP w g p room (L, n + 1) false e w' := by
  obtain ⟨v, h1, h2, h3, h4, h5, h6⟩ := h
  obtain ⟨A, c, rfl, -, -, hkc, -⟩ := GB.reads encSp_len h2
  obtain ⟨k, hk⟩ : ∃ k, L.length = k := ⟨_, rfl⟩
  simp only [hk] at h1 h2 h3 h4 hkc
  have hb0 := enew w (.cells #[.int .u64 (s.hi : Int), .int .u64 (s.lo : Int), .int .u64 (s.id : Int), .int .u64 (s.up : Int), .string (bs s.name), .int .i64 s.status, .int .i64 s.seq, .int .i64 s.kids, .bool s.shade, .int .i64 s.start, .int .i64 s.fin] 37)
  have HBf := hid (And.intro (h1.up hb0) (And.intro (h2.below hb0) (And.intro h3 (And.intro hk (And.intro hb0 (And.intro h4 (And.intro h5 h6)))))))
  have hge : decide ((room : Int) ≤ (k : Int)) = true := decide_eq_true (by omega)
  have hge2 : decide (room ≤ k) = true := decide_eq_true (by omega)
  clear h1 h2 h3 h4 hk hb0 hr
  go_enter Try.func47, Try.ntmps47
  go_upto_region 1 with (fail)
  generalize w.alloc (.cells #[.int .u64 (s.hi : Int), .int .u64 (s.lo : Int), .int .u64 (s.id : Int), .int .u64 (s.up : Int), .string (bs s.name), .int .i64 s.status, .int .i64 s.seq, .int .i64 s.kids, .bool s.shade, .int .i64 s.start, .int .i64 s.fin] 37) = v0 at *
  have q0 : v0.cell? ⟨g, 0, none⟩ = some (.int .i64 (room : Int)) := Bk.cell HBf.out.1 0
  have q1 : v0.cell? ⟨g, 1, none⟩ = some (.slice A k c) := Bk.cell HBf.out.1 1
  have HAd := hid (fun j => nadd_any ⟨g, 2, none⟩ n 1 (v0.drewN j) (Bk.cell HBf.out.1 2) (Bk.frozen HBf.out.1 2) hn)
  have hz : Below v0.heap.size v0 v0 := Below.refl _ _
  go_wp2_with fail
  go_quiet (fail)
  go_wp2_with fail
  refine (HAd.out _).mono ?_
  rintro e w1 ⟨rfl, hw1⟩
  have HW := hid hw1
  clear hw1 q0 q1
  go_wp2_with fail
  go_returns
  obtain ⟨f1, f2, f3, f4, f5, f6, f7⟩ := HBf.out
  have hzq : Below v0.heap.size v0 (v0.drewN nq) := below_drewN hz _
  have k1 := f1.up hzq
  have e1 := HW.out
  subst e1
  refine ⟨rfl, p, ⟨_, bfset2 k1 _, GB.set (GB.below f2 hzq) k1 (by decide) 2 _, f3, by rw [f4]; exact f6, f7⟩, (OnS.below (estep f5 hzq)).cell g 2 _ (Or.inl rfl), Or.inl rfl⟩
theorem bfput_any (g : Nat) (p : Option Nat) (room : Nat) (x : Bfr) (s : Sp) (w : World) (h : BfH w g p room x) (hn : x.2 + 1 ≤ 1099511627776) {y : Bfr} {ok : Bool} (H : Hid (bfPut room x s = (y, ok))) :
    Calls Try.prog 47 #[.pointer (some ⟨g, 0, none⟩), .agg #[.int .u64 (s.hi : Int), .int .u64 (s.lo : Int), .int .u64 (s.id : Int), .int .u64 (s.up : Int), .string (bs s.name), .int .i64 s.status, .int .i64 s.seq, .int .i64 s.kids, .bool s.shade, .int .i64 s.start, .int .i64 s.fin]] w fun e w' => BfP w g p room y ok e w' := by
  obtain ⟨L, n⟩ := x
  have e := H.out
  unfold bfPut at e
  by_cases hr : L.length < room
  · rw [if_pos hr] at e
    simp only [Prod.mk.injEq] at e
    obtain ⟨rfl, rfl⟩ := e
    exact bfput_room g p room L n s w h hr
  · rw [if_neg hr] at e
    simp only [Prod.mk.injEq] at e hn
    obtain ⟨rfl, rfl⟩ := e
    have := bfput_full g p room L n s w h hr hn
    rw [Nat.min_eq_left hn]
    exact this
end Go.Proofs.Ytpfhmpblcmednaa
namespace Go.Proofs.Ytpfhmpblcmednaa
set_option linter.unusedVariables false
set_option linter.unusedSimpArgs false
open Go.RowKit Go.Joins

section
variable {α : Type} {enc : α → List Value} {k : Nat} {e : TypeId} {P : Program} {t : TypeId} {z : Value} {bytes : Nat}
/-- append at a step of a region that draws, where there is room: what is appended may lie in the same block. -/
theorem step_append_fit (T : RowT P enc k t e z bytes) {ops : Array Oper} {o : Oper} {a : Act} {K : Act → World → Prop} {Q : Exit → Act → World → Prop} {E : Prop} {w : World} (hgd : o.guard = none) (s x : Operand)
    (ho : o.op = .call { callee := .builtin .append, args := #[s, x], argTypes := #[t, t] }) (base q n cap : Nat) (L M : List α) (ad : Addr) (m c : Nat)
    (hs : a.eval s = .slice (some ⟨q, 0, none⟩) n cap) (hn : L.length = n) (hown : GB enc k e w base (.slice (some ⟨q, 0, none⟩) n cap) L) (hx : a.eval x = .slice (some ad) m c) (hm : M.length = m) (hR : ∀ j u, (gvals enc M)[j]? = some u → w.cell? (ad.add j) = some u)
    (hroom : n + m ≤ cap) (h : ∀ w', GB enc k e w' base (.slice (some ⟨q, 0, none⟩) (n + m) cap) (L ++ M) → w.grownBy w' (some q) → K (a.put o.dst (.slice (some ⟨q, 0, none⟩) (n + m) cap)) w') :
    if Region.wanted o (yielded ops a.tmps) = true then Oper.wp P o a w K Q else E := by
  have hw : Region.wanted o (yielded ops a.tmps) = true := by simp [Region.wanted, hgd]
  rw [if_pos hw]
  subst hn hm
  obtain ⟨i0, hi, hz0, hz1, hz2⟩ := info_parts T.inf
  obtain ⟨w', hr, h2, h3⟩ := run_append_fits (P := P) w base t o.type e i0 k T.ht hi hz1 q L.length cap (gvals enc L) hown ad M.length c (gvals enc M) (gvals_len enc k T.hk M) hR (fun u hu => by
    simp only [gvals, List.mem_flatMap] at hu
    obtain ⟨y, _, hu⟩ := hu
    exact T.h1 y u hu) hroom
  unfold Oper.wp execOp
  simp only [ho, resolve, invoke, builtin, Sem.run_bind, Sem.run_pure, Result.andThen_ok, List.map_toArray, List.map_cons, List.map_nil, hs, hx, hr]
  refine h w' ?_ h3
  unfold GB
  rw [List.length_append, ← gvals_append]
  exact h2
/-- clear of what lies behind a slice's end, in its block. -/
theorem run_clear_gb (T : RowT P enc k t e z bytes) (hz1 : ∀ u ∈ z.cells.toList, u.oneCell' = true) {w : World} {base q n cap : Nat} {L : List α} (ty : TypeId) (hn : L.length = n) (hown : GB enc k e w base (.slice (some ⟨q, 0, none⟩) n cap) L) (m c : Nat) (hm : 0 < m) (hfit : n + m ≤ cap) :
    ∃ w', (Builtin.clear_ #[t] ty #[.slice (some ⟨q, n * k, none⟩) m c]).run P w = .ok (.tuple #[]) w' ∧ GB enc k e w' base (.slice (some ⟨q, 0, none⟩) n cap) L ∧ w.grownBy w' (some q) := by
  subst hn
  obtain ⟨i0, hi, hz0, hs1, hs2⟩ := info_parts T.inf
  have h := hown
  rcases h.2 with ⟨h0, _⟩ | ⟨g, cap', cur, he, e2, e3, e4, e5, e6, e7⟩
  · cases h0
  · simp only [Value.slice.injEq, Option.some.injEq, Addr.mk.injEq, and_true, true_and] at he
    obtain ⟨rfl, rfl⟩ := he
    have hzl : (Builtin.zeroCells z.cells m).toList.length = m * k := by rw [Array.length_toList, size_zeroCells, T.hzs]
    have hz2 : ∀ u ∈ (Builtin.zeroCells z.cells m).toList, u.oneCell' = true := fun u hu => by
      simp only [Builtin.zeroCells, Array.mem_toList_iff, Array.mem_map] at hu
      obtain ⟨i, _, rfl⟩ := hu
      refine hz1 _ ?_
      have h0 : i % z.cells.size < z.cells.size := Nat.mod_lt _ (by rw [T.hzs]; exact T.k0)
      rw [getElem!_pos z.cells _ h0]
      exact Array.mem_toList_iff.2 (Array.getElem_mem h0)
    have hle : L.length * k + m * k ≤ cur.size := by rw [e6, ← Nat.add_mul]; exact Nat.mul_le_mul_right _ hfit
    have hst := run_storeCells_at P q (L.length * k) e (Builtin.zeroCells z.cells m).toList 0 cur w e3 (by rw [hzl]; omega) hz2
    simp only [Nat.add_zero] at hst
    have hv : (zeroValue e).run P w = .ok z w := by
      simp [zeroValue, typeInfo, hi, hz0]
    obtain ⟨m, rfl⟩ : ∃ j, m = j + 1 := ⟨m - 1, by omega⟩
    refine ⟨_, by simp [Builtin.clear_, run_underlying T.ht, hv, hst]; rfl, ⟨hown.1, .inr ⟨q, cap, _, rfl, e2, setRow_heap w q cur _ e _ e3, e4, e5, ?_, ?_⟩⟩, ⟨rfl, rfl, rfl, by simp, fun j _ hj => setRow_other w q j _ (fun e => hj (by simp [e]))⟩⟩
    · simp only [List.size_toArray, List.length_append, List.length_take, List.length_drop, Array.length_toList, size_zeroCells, T.hzs]
      omega
    · show List.take (L.length * k) (List.take (L.length * k) cur.toList ++ (_ ++ _)) = _
      rw [List.take_append_of_le_length (by simp only [List.length_take, Array.length_toList]; omega), List.take_take, Nat.min_self]
      exact e7
theorem wpList_clear_gb (T : RowT P enc k t e z bytes) (hz1 : ∀ u ∈ z.cells.toList, u.oneCell' = true) {ops : Array Oper} {rest : List Oper} {o : Oper} {a : Act} {Q : Exit → Act → World → Prop} {w : World} (hgd : o.guard = none) (x : Operand)
    (ho : o.op = .call { callee := .builtin .clear, args := #[x], argTypes := #[t] }) (base q n cap : Nat) (L : List α) (off m c : Nat) (hx : a.eval x = .slice (some ⟨q, off, none⟩) m c) (ho2 : off = n * k) (hn : L.length = n) (hown : GB enc k e w base (.slice (some ⟨q, 0, none⟩) n cap) L) (hm : 0 < m) (hfit : n + m ≤ cap)
    (h : ∀ w', GB enc k e w' base (.slice (some ⟨q, 0, none⟩) n cap) L → w.grownBy w' (some q) → wpList P ops Q rest (a.put o.dst (.tuple #[])) w') : wpList P ops Q (o :: rest) a w := by
  subst ho2
  obtain ⟨w', hr, h2, h3⟩ := run_clear_gb T hz1 o.type hn hown m c hm hfit
  refine wpList_plain hgd fun K hK => ?_
  unfold Oper.wp execOp
  simp only [ho, resolve, invoke, builtin, Sem.run_bind, Sem.run_pure, Result.andThen_ok, List.map_toArray, List.map_cons, List.map_nil, hx, hr]
  exact hK _ _ (h w' h2 h3)
end
theorem spz_one : ∀ u ∈ (Value.agg #[.int .u64 0, .int .u64 0, .int .u64 0, .int .u64 0, .string ByteArray.empty, .int .i64 0, .int .i64 0, .int .i64 0, .bool false, .int .i64 0, .int .i64 0]).cells.toList, u.oneCell' = true := fun u hu => by
  simp [Value.cells] at hu
  rcases hu with rfl | rfl | rfl | rfl | rfl <;> rfl
end Go.Proofs.Ytpfhmpblcmednaa
namespace Go.Proofs.Ytpfhmpblcmednaa
set_option linter.unusedVariables false
set_option linter.unusedSimpArgs false
open Go.RowKit Go.Joins

set_option maxRecDepth 100000 in
set_option maxHeartbeats 4000000 in
theorem spdel_none (A : Option Addr) (n c : Nat) (w : World) (hnc : n ≤ c) :
    Calls Try.prog 127 #[.slice A n c, .int .i64 0, .int .i64 0] w fun e w' => e = .returned (.slice A n c) ∧ Below w.heap.size w w' := by
  have hn0 : (0 : Int) ≤ (n : Int) := by omega
  have hn1 : (n : Int) ≤ (c : Int) := by omega
  go_enter Try.func127, Try.ntmps127
  go_wp2_with fail
  go_returns
  exact ⟨rfl, Below.refl _ _⟩
set_option maxRecDepth 100000 in
set_option maxHeartbeats 4000000 in
theorem spdel_any (q n t c : Nat) (L : List Sp) (w : World) (h : GB encSp 11 37 w 0 (.slice (some ⟨q, 0, none⟩) n c) L) (hn : L.length = n) (ht : t ≤ n) (ht0 : 0 < t) (hl : n ≤ 1000) (hnc : n ≤ c) (hcm : c ≤ maxLen) :
    Calls Try.prog 127 #[.slice (some ⟨q, 0, none⟩) n c, .int .i64 0, .int .i64 (t : Int)] w fun e w' => e = .returned (.slice (some ⟨q, 0, none⟩) (n - t) c) ∧ GB encSp 11 37 w' 0 (.slice (some ⟨q, 0, none⟩) (n - t) c) (L.drop t) ∧ OnS (fun b => b = q) w w' := by
  have HG := hid h
  have HN := hid hn
  have hn0 : (0 : Int) ≤ (n : Int) := by omega
  have hn1 : (n : Int) ≤ (c : Int) := by omega
  have ht1 : (0 : Int) ≤ (t : Int) := by omega
  have ht2 : (t : Int) ≤ (n : Int) := by omega
  have ht3 : (t : Int) ≤ (c : Int) := by omega
  have hte : ((0 : Int) == (t : Int)) = false := by simp; omega
  have hte2 : ¬ (0 : Int) = (t : Int) := by omega
  have hte3 : ¬ t = 0 := by omega
  have hz : Below w.heap.size w w := Below.refl _ _
  obtain ⟨m, hm1⟩ : ∃ m, n - t = m := ⟨_, rfl⟩
  have hm2 : n - m = t := by omega
  have hm3 : (0 : Int) ≤ (m : Int) := by omega
  have hm4 : (m : Int) ≤ (n : Int) := by omega
  have hm5 : (m : Int) ≤ (c : Int) := by omega
  have hcm2 : ¬ c = m := by omega
  obtain ⟨ad, had, hsrc⟩ : ∃ ad : Addr, (if c = t then some (⟨q, 0, none⟩ : Addr) else some ⟨q, t * 11, none⟩) = some ad ∧ ∀ j u, (gvals encSp (L.drop t))[j]? = some u → w.drew.cell? (ad.add j) = some u := by
    obtain ⟨A, c', he, hgx, -⟩ := GB.reads encSp_len h
    simp only [Value.slice.injEq] at he
    obtain ⟨rfl, -, rfl⟩ := he
    by_cases hct : c = t
    · refine ⟨⟨q, 0, none⟩, if_pos hct, fun j u hu => ?_⟩
      have h0 : L.drop t = [] := List.drop_eq_nil_of_le (by omega)
      rw [h0] at hu
      simp [gvals] at hu
    · refine ⟨⟨q, t * 11, none⟩, if_neg hct, fun j u hu => ?_⟩
      have := hgx.drop t
      rw [Nat.zero_add] at this
      exact GX.cell encSp_len this j u hu
  have hown0 : GB encSp 11 37 w.drew 0 (.slice (some ⟨q, 0, none⟩) 0 c) [] := by
    rcases h.2 with ⟨h0, _⟩ | ⟨g, cap', cur, e1, e2, e3, e4, e5, e6, e7⟩
    · cases h0
    · simp only [Value.slice.injEq, Option.some.injEq, Addr.mk.injEq, and_true, true_and] at e1
      obtain ⟨rfl, -, rfl⟩ := e1
      exact ⟨by simp [gvals], Or.inr ⟨q, c, cur, rfl, e2, e3, Nat.zero_le _, e5, e6, by simp [gvals]⟩⟩
  have hdl : (L.drop t).length = m := by rw [List.length_drop]; omega
  have HA := hid (And.intro had (And.intro hsrc (And.intro hown0 hdl)))
  clear h hn had hsrc hown0 hdl
  go_enter Try.func127, Try.ntmps127
  go_wp2_with fail
  go_region_law (
    (refine step_append_fit rowSp rfl _ _ rfl 0 q 0 c [] (L.drop t) ad m (c - t) rfl rfl HA.out.2.2.1 (congrArg (fun z => Value.slice z m (c - t)) HA.out.1) HA.out.2.2.2 HA.out.2.1 (by omega) ?_
     intro w7 hF hg))
  all_goals
    rw [Nat.zero_add, List.nil_append] at hF
    have H7 := hid (And.intro hF hg)
    clear hF hg
    generalize (if c = t then (some (⟨q, 0, none⟩ : Addr)) else some ⟨q, t * 11, none⟩) = A9
    obtain ⟨w8, hr8, hF, hg⟩ := run_clear_gb rowSp spz_one 0 HA.out.2.2.2 H7.out.1 t (c - m) ht0 (by omega)
    have H8 := hid (And.intro hF hg)
    clear hF hg
    go_wp2_with fail
    go_returns
    rw [hm1]
    exact ⟨rfl, H8.out.1, ((OnS.refl _ w).drew.trans (OnS.grown H7.out.2 fun b hb => by injection hb with hb; exact hb.symm)).trans (OnS.grown H8.out.2 fun b hb => by injection hb with hb; exact hb.symm)⟩
end Go.Proofs.Ytpfhmpblcmednaa
namespace Go.Proofs.Ytpfhmpblcmednaa
set_option linter.unusedVariables false
set_option linter.unusedSimpArgs false
open Go.RowKit Go.Joins

theorem gb_base {α : Type} {enc : α → List Value} {k : Nat} {e : TypeId} {w : World} {A : Option Addr} {n c base : Nat} {L : List α} (hk : ∀ x, (enc x).length = k) (h : GB enc k e w base (.slice A n c) L) : (A = none ∧ c = 0 ∧ n = 0) ∨ ∃ q, A = some ⟨q, 0, none⟩ ∧ n ≤ c ∧ c ≤ maxLen := by
  rcases GB.form hk h with ⟨h1, -⟩ | ⟨g, cap, h1, -, -, h4, h5, -⟩
  · simp only [Value.slice.injEq] at h1
    exact Or.inl ⟨h1.1, h1.2.2, h1.2.1⟩
  · simp only [Value.slice.injEq] at h1
    obtain ⟨rfl, rfl, rfl⟩ := h1
    exact Or.inr ⟨g, rfl, h4, h5⟩
theorem spdel_u (A : Option Addr) (n t c : Nat) (L : List Sp) (w : World) (h : GB encSp 11 37 w 0 (.slice A n c) L) (hn : Hid (L.length = n)) (ht : t ≤ n) (hl : n ≤ 1000) {m : Nat} (hm : Hid (n - t = m)) :
    Calls Try.prog 127 #[.slice A n c, .int .i64 0, .int .i64 (t : Int)] w fun e w' => e = .returned (.slice A m c) ∧ GB encSp 11 37 w' 0 (.slice A m c) (L.drop t) ∧ OnS (fun b => some b = (Value.slice A n c).ownBlock) w w' := by
  rcases Nat.eq_zero_or_pos t with rfl | h0
  · have hmn : n = m := by have := hm.out; omega
    subst hmn
    refine (spdel_none A n c w ?_).mono ?_
    · rcases gb_base encSp_len h with ⟨-, -, h2⟩ | ⟨q, -, h2, -⟩ <;> omega
    · rintro e w' ⟨rfl, hb⟩
      exact ⟨rfl, h.below hb, OnS.below hb⟩
  · rcases gb_base encSp_len h with ⟨-, -, h2⟩ | ⟨q, rfl, h2, h3⟩
    · omega
    · have hd := spdel_any q n t c L w h hn.out ht h0 hl h2 h3
      rw [hm.out] at hd
      refine hd.mono ?_
      rintro e w' ⟨rfl, h4, h5⟩
      exact ⟨rfl, h4, h5.imp fun b _ hb => by subst hb; rfl⟩
/-- What Take answers, and the buffer behind it. -/
def BfT (w : World) (g : Nat) (p : Option Nat) (room : Nat) (y : Bfr) (out : List Sp) (e : Ending) (w' : World) : Prop := ∃ v, e = .returned v ∧ GB encSp 11 37 w' w.heap.size v out ∧ BfH w' g p room y ∧ OnS (fun b => b = g ∨ some b = p) w w'
set_option maxRecDepth 100000 in
set_option maxHeartbeats 4000000 in
theorem bftake_any (g : Nat) (p : Option Nat) (room : Nat) (x : Bfr) (i : Int) (w : World) (h : BfH w g p room x) {y : Bfr} {out : List Sp} (H : Hid (bfTake x i = (y, out))) :
    Calls Try.prog 88 #[.pointer (some ⟨g, 0, none⟩), .int .i64 i] w fun e w' => BfT w g p room y out e w' := by
  obtain ⟨L, j⟩ := x
  obtain ⟨v, h1, h2, h3, h4, h5, h6⟩ := h
  obtain ⟨A, c, rfl, hgx, -, hkc, -⟩ := GB.reads encSp_len h2
  obtain ⟨n, hn⟩ : ∃ n, L.length = n := ⟨_, rfl⟩
  obtain ⟨t, ht⟩ : ∃ t, bfN (L, j) i = t := ⟨_, rfl⟩
  have e := H.out
  unfold bfTake at e
  simp only [ht, Prod.mk.injEq] at e
  obtain ⟨rfl, rfl⟩ := e
  simp only [hn] at h1 h2 h3 h4 hkc
  have htn : t ≤ n := by have := bfN_le (L, j) i; rw [ht] at this; simp only [hn] at this; exact this
  have hmm : min (max i 0) (n : Int) = (t : Int) := by unfold bfN at ht; simp only [hn] at ht; omega
  obtain ⟨m, hm⟩ : ∃ m, n - t = m := ⟨_, rfl⟩
  have HC := hid (clonesp_any A t c (L.take t) w ((hgx.imp fun b hb => hb.2).take t) (hid (by rw [List.length_take]; omega)) (by omega))
  have HD := hid (fun w2 (hb : Below w.heap.size w w2) => spdel_u A n t c L w2 (h2.below hb) (hid hn) htn (by omega) (hid hm))
  have HX := hid (And.intro h1 (And.intro h2 (And.intro h3 (And.intro hn (And.intro hm (And.intro h4 (And.intro h5 h6)))))))
  have q1 : w.cell? ⟨g, 1, none⟩ = some (.slice A n c) := Bk.cell h1 1
  have ht1 : (0 : Int) ≤ (t : Int) := by omega
  have ht2 : (t : Int) ≤ (c : Int) := by omega
  clear h1 h2 h3 hgx ht H hn hm h4
  go_enter Try.func88, Try.ntmps88
  go_wp2_with fail
  refine HC.out.mono ?_
  rintro e w1 ⟨vt, rfl, hvt, hb1⟩
  have HV := hid (And.intro hvt hb1)
  have q2 : w1.cell? ⟨g, 1, none⟩ = some (.slice A n c) := Bk.cell (HX.out.1.up hb1) 1
  clear hvt hb1 q1 HC
  go_wp2_with fail
  refine (HD.out _ HV.out.2).mono ?_
  rintro e w2 ⟨rfl, hgb, ho⟩
  obtain ⟨f1, f2, f3, f4, f5, f6, f7, f8⟩ := HX.out
  have hng : ¬ (some g = (Value.slice A n c).ownBlock) := fun e => GB.not_bk f2 f1 (by decide) e
  have k2 := (f1.up HV.out.2).onS ho hng
  have q3 := Bk.frozen k2 1
  have q4 := Bk.cell k2 1
  have H2 := hid (And.intro hgb (And.intro ho k2))
  clear hgb ho f1 f2 f3 f4 f5 f6 f7 f8 k2 q2 HD
  go_wp2_with fail
  go_returns
  obtain ⟨f1, f2, f3, f4, f5, f6, f7, f8⟩ := HX.out
  obtain ⟨g1, g2, g3⟩ := H2.out
  have ho3 : OnS (fun b => b = g ∨ some b = p) w1 (w2.setCell ⟨g, 1, none⟩ (.slice A m c)) := (g2.imp (T := fun b => b = g ∨ some b = p) fun b _ hb => Or.inr (hb.trans f3)).cell g 1 _ (Or.inl rfl)
  have hlt := GB.not_bk f2 f1 (by decide)
  refine ⟨vt, rfl, GB.onS HV.out.1 ho3 fun q hq hS => ?_, ⟨_, bfset1 g3 _, GB.set g1 g3 (by decide) 1 _, ?_, ?_, f7, f8⟩, (OnS.below HV.out.2).trans ho3⟩
  · have := (World.ownsRow.lt HV.out.1 q hq).1
    rcases hS with rfl | hS
    · have := f1.lt; omega
    · have := (World.ownsRow.lt f2 q (f3.trans hS.symm)).2; omega
  · rw [← f3]
    cases A <;> rfl
  · simp only [List.length_drop]
    omega
end Go.Proofs.Ytpfhmpblcmednaa
namespace Go.Proofs.Ytpfhmpblcmednaa
set_option linter.unusedVariables false
set_option linter.unusedSimpArgs false
open Go.RowKit Go.Joins

/-- The definition's buffer, as a value that can be read. -/
def RfV (w : World) (N : Nat → Prop) (room : Nat) (x : Bfr) (A : Option Addr) (c : Nat) : Prop := GX encSp 11 w N A x.1 ∧ (A = none ∧ c = 0 ∨ ∃ b o, A = some ⟨b, o, none⟩) ∧ x.1.length ≤ c ∧ c ≤ maxLen
theorem bfset3 {w : World} {g : Nat} {t : TypeId} {c0 c1 c2 : Value} (k : Bk w g t #[c0, c1, c2]) (a b c : Value) : Bk (((w.setCell ⟨g, 0, none⟩ a).setCell ⟨g, 1, none⟩ b).setCell ⟨g, 2, none⟩ c) g t #[a, b, c] := by
  have h0 : Bk (w.setCell ⟨g, 0, none⟩ a) g t #[a, c1, c2] := Bk.set_ k 0 a
  have h1 : Bk ((w.setCell ⟨g, 0, none⟩ a).setCell ⟨g, 1, none⟩ b) g t #[a, b, c2] := Bk.set_ h0 1 b
  exact Bk.set_ h1 2 c
theorem bfother {w : World} {g g' i : Nat} {t : TypeId} {cs : Array Value} (k : Bk w g t cs) (hn : g ≠ g') (u : Value) : Bk (w.setCell ⟨g', i, none⟩ u) g t cs := by
  unfold Bk at k ⊢
  rw [Below.heap_setCell w ⟨g', i, none⟩ u g hn]; exact k
/-- What the definition's Take answers. -/
def RfT (w : World) (N : Nat → Prop) (room : Nat) (y : Bfr) (out : List Sp) (e : Ending) (w' : World) : Prop := ∃ A c A2 k c2 m, e = .returned (.tuple #[.agg #[.int .i64 (room : Int), .slice A m c, .int .i64 (y.2 : Int)], .slice A2 k c2]) ∧ y.1.length = m ∧ out.length = k ∧ RfV w N room y A c ∧ GX encSp 11 w N A2 out ∧ Below w.heap.size w w'
end Go.Proofs.Ytpfhmpblcmednaa
namespace Go.Proofs.Ytpfhmpblcmednaa
set_option linter.unusedVariables false
set_option linter.unusedSimpArgs false
open Go.RowKit Go.Joins

/-- What the definition's Put answers. -/
def RfP (w : World) (M : Nat → Prop) (room : Nat) (y : Bfr) (ok : Bool) (e : Ending) (w' : World) : Prop := ∃ A c m lo, e = .returned (.tuple #[.agg #[.int .i64 (room : Int), .slice A m c, .int .i64 (lo : Int)], .bool ok]) ∧ y.1.length = m ∧ y.2 = lo ∧ RfV w' (In (fun b => M b ∨ w.heap.size ≤ b) w') room y A c ∧ Below w.heap.size w w'
theorem gbase2 {α : Type} {enc : α → List Value} {k : Nat} {e : TypeId} {w : World} {A : Option Addr} {n c base : Nat} {L : List α} (hk : ∀ x, (enc x).length = k) (h : GB enc k e w base (.slice A n c) L) : (A = none ∧ c = 0) ∨ ∃ q, A = some ⟨q, 0, none⟩ := by
  rcases GB.form hk h with ⟨h1, -⟩ | ⟨g, cap, h1, -⟩
  · simp only [Value.slice.injEq] at h1
    exact Or.inl ⟨h1.1, h1.2.2⟩
  · simp only [Value.slice.injEq] at h1
    exact Or.inr ⟨g, h1.1⟩
end Go.Proofs.Ytpfhmpblcmednaa
namespace Go.Proofs.Ytpfhmpblcmednaa
set_option linter.unusedVariables false
set_option linter.unusedSimpArgs false
open Go.RowKit Go.Joins

/-- A span of which the number alone is told. -/
def spI (k : Nat) : Sp := { sp0 with id := k }
theorem spI_row (w : World) (k : Nat) : GX encSp 11 (w.alloc (.cells #[.int .u64 0, .int .u64 0, .int .u64 (k : Int), .int .u64 0, .string (ByteArray.mk #[]), .int .i64 0, .int .i64 0, .int .i64 0, .bool false, .int .i64 0, .int .i64 0] 37)) (fun b => b = w.heap.size) (some ⟨w.heap.size, 0, none⟩) [spI k] :=
  gx_new (M := [spI k]) encSp_len (Bk.new w 37 _) rfl
theorem known25_put (g : Nat) (p : Option Nat) (x : Bfr) (k : Nat) (w : World) (h : BfH w g p 1 x) (hn : x.2 + 1 ≤ 1099511627776) {y : Bfr} {ok : Bool} (H : Hid (bfPut 1 x (spI k) = (y, ok))) :
    Calls Try.prog 47 #[.pointer (some ⟨g, 0, none⟩), .agg #[.int .u64 0, .int .u64 0, .int .u64 (k : Int), .int .u64 0, .string (ByteArray.mk #[]), .int .i64 0, .int .i64 0, .int .i64 0, .bool false, .int .i64 0, .int .i64 0]] w fun e w' => BfP w g p 1 y ok e w' := bfput_any g p 1 x (spI k) w h hn H
theorem known25_same (A : Option Addr) (ca : Nat) (L : List Sp) (k : Nat) (w : World) (hA : GX encSp 11 w (· < w.heap.size) A L) (hL : L = [spI k]) :
    Calls Try.prog 21 #[.slice A 1 ca, .slice (some ⟨w.heap.size, 0, none⟩) 1 1] (w.alloc (.cells #[.int .u64 0, .int .u64 0, .int .u64 (k : Int), .int .u64 0, .string (ByteArray.mk #[]), .int .i64 0, .int .i64 0, .int .i64 0, .bool false, .int .i64 0, .int .i64 0] 37)) fun e w' => e = .returned (.bool true) ∧ Below w.heap.size w w' := by
  have hb := enew w (.cells #[.int .u64 0, .int .u64 0, .int .u64 (k : Int), .int .u64 0, .string (ByteArray.mk #[]), .int .i64 0, .int .i64 0, .int .i64 0, .bool false, .int .i64 0, .int .i64 0] 37)
  subst hL
  refine (spsame_lit A (some ⟨w.heap.size, 0, none⟩) ca 1 1 [spI k] _ (hA.up hb) ((spI_row w k).imp fun b hb => by subst hb; simp) (hid rfl) (by decide)).mono ?_
  rintro e w' ⟨rfl, h⟩
  exact ⟨rfl, estep hb h⟩
/-- What stands behind the fixed calls' beginning. -/
structure K25 (w w' : World) (g : Nat) (p : Option Nat) (x : Bfr) : Prop where
  h : BfH w' g p 1 x
  b : Below w.heap.size w w'
  g0 : w.heap.size ≤ g
  p0 : ∀ q, p = some q → w.heap.size ≤ q
section
variable {w w1 w2 : World} {g : Nat} {p p2 : Option Nat} {x y : Bfr} {ok : Bool} {e : Ending} {out : List Sp}
theorem K25.up (h : K25 w w1 g p x) (hb : Below w1.heap.size w1 w2) : K25 w w2 g p x := ⟨h.h.up hb, estep h.b hb, h.g0, h.p0⟩
theorem K25.put (h : K25 w w1 g p x) (hb : BfP w1 g p 1 y ok e w2) : e = .returned (.bool ok) ∧ ∃ p2, K25 w w2 g p2 y := by
  obtain ⟨rfl, p2, h1, h2, h3⟩ := hb
  refine ⟨rfl, p2, h1, OnS.to_below h.b h2 (fun k _ hk => ?_) h.b.size, h.g0, fun q hq => ?_⟩
  · rcases hk with rfl | hk
    · exact h.g0
    · exact h.p0 k hk.symm
  · rcases h3 with rfl | ⟨q2, h4, h5⟩
    · exact h.p0 q hq
    · rw [h4] at hq; injection hq with hq; have := h.b.size; omega
theorem K25.take (h : K25 w w1 g p x) (h2 : BfH w2 g p 1 y) (ho : OnS (fun b => b = g ∨ some b = p) w1 w2) : K25 w w2 g p y := by
  refine ⟨h2, OnS.to_below h.b ho (fun k _ hk => ?_) h.b.size, h.g0, h.p0⟩
  rcases hk with rfl | hk
  · exact h.g0
  · exact h.p0 k hk.symm
end
end Go.Proofs.Ytpfhmpblcmednaa
namespace Go.Proofs.Ytpfhmpblcmednaa
set_option linter.unusedVariables false
set_option linter.unusedSimpArgs false
open Go.RowKit Go.Joins

theorem bfPut_lost (room : Nat) (b : Bfr) (s : Sp) : (bfPut room b s).1.2 ≤ b.2 + 1 := by
  unfold bfPut
  split
  · exact Nat.le_succ _
  · simp only; omega
theorem bfTake_out (b : Bfr) (n : Int) : (bfTake b n).2.length ≤ b.1.length := by
  unfold bfTake
  simp only [List.length_take]
  omega
/-- A buffer's blocks. -/
def BfS (g : Nat) (p : Option Nat) : Nat → Prop := fun b => b = g ∨ some b = p
theorem BfH.in_ {w : World} {g room : Nat} {p : Option Nat} {x : Bfr} (h : BfH w g p room x) {b : Nat} (hb : BfS g p b) : b < w.heap.size := by
  rcases hb with rfl | hb
  · exact h.lt.1
  · exact (h.lt.2 b hb.symm).1
/-- Two buffers, apart. -/
structure BfTwo (w wr : World) (g : Nat) (p : Option Nat) (g2 : Nat) (p2 : Option Nat) (c : Nat) (x y : Bfr) : Prop where
  a : BfH wr g p c x
  b : BfH wr g2 p2 c y
  bel : Below w.heap.size w wr
  apart : ∀ k, BfS g p k → ¬ BfS g2 p2 k
  new : ∀ k, BfS g p k ∨ BfS g2 p2 k → w.heap.size ≤ k
section
variable {w wr w2 : World} {g g2 c B : Nat} {p p2 p' : Option Nat} {x y z : Bfr} {ok : Bool} {e : Ending}
theorem BfTwo.swap (h : BfTwo w wr g p g2 p2 c x y) : BfTwo w wr g2 p2 g p c y x := ⟨h.b, h.a, h.bel, fun k h1 h2 => h.apart k h2 h1, fun k hk => h.new k (Or.comm.1 hk)⟩
theorem BfTwo.up (h : BfTwo w wr g p g2 p2 c x y) (hb : Below wr.heap.size wr w2) : BfTwo w w2 g p g2 p2 c x y := ⟨h.a.up hb, h.b.up hb, estep h.bel hb, h.apart, h.new⟩
theorem BfTwo.far (h : BfTwo w wr g p g2 p2 c x y) (hb : Below B wr w2) (hB : ∀ k, BfS g p k ∨ BfS g2 p2 k → k < B) (hw : w.heap.size ≤ B) : BfTwo w w2 g p g2 p2 c x y := by
  have ho : OnS (fun k => B ≤ k) wr w2 := ⟨hb.os, hb.tape, hb.output, hb.size, fun k _ hk => hb.block k (by omega)⟩
  refine ⟨h.a.onS ho (by have := hB g (Or.inl (Or.inl rfl)); omega) (fun q hq => by have := hB q (Or.inl (Or.inr hq.symm)); omega), h.b.onS ho (by have := hB g2 (Or.inr (Or.inl rfl)); omega) (fun q hq => by have := hB q (Or.inr (Or.inr hq.symm)); omega), ?_, h.apart, h.new⟩
  exact h.bel.trans (hb.mono hw)
theorem BfTwo.start {w w1 w2 : World} (h1 : w.heap.size ≤ g) (hR : BfH w1 g none c ([], 0)) (hb1 : Below w.heap.size w w1) (hg : w1.heap.size ≤ g2) (hR2 : BfH w2 g2 none c ([], 0)) (hb2 : Below w1.heap.size w1 w2) : BfTwo w w2 g none g2 none c ([], 0) ([], 0) := by
  refine ⟨hR.up hb2, hR2, estep hb1 hb2, fun k hk hk2 => ?_, fun k hk => ?_⟩
  · rcases hk with rfl | hk
    · rcases hk2 with rfl | hk2
      · have := hR.lt.1; omega
      · cases hk2
    · cases hk
  · rcases hk with (rfl | hk) | (rfl | hk)
    · exact h1
    · cases hk
    · have := hb1.size; omega
    · cases hk
theorem BfTwo.take (h : BfTwo w wr g p g2 p2 c x y) (hx : BfH w2 g p c z) (ho : OnS (fun b => b = g ∨ some b = p) wr w2) : BfTwo w w2 g p g2 p2 c z y := by
  refine ⟨hx, h.b.onS ho (fun hS => h.apart g2 hS (Or.inl rfl)) (fun q hq hS => h.apart q hS (Or.inr hq.symm)), OnS.to_below h.bel ho (fun k _ hk => h.new k (Or.inl hk)) h.bel.size, h.apart, h.new⟩
theorem BfTwo.put (h : BfTwo w wr g p g2 p2 c x y) (hx : BfP wr g p c z ok e w2) : e = .returned (.bool ok) ∧ ∃ p', BfTwo w w2 g p' g2 p2 c z y := by
  obtain ⟨rfl, p', h1, h2, h3⟩ := hx
  have hT := h.take (z := x) (w2 := w2)
  refine ⟨rfl, p', h1, h.b.onS h2 (fun hS => h.apart g2 hS (Or.inl rfl)) (fun q hq hS => h.apart q hS (Or.inr hq.symm)), OnS.to_below h.bel h2 (fun k _ hk => h.new k (Or.inl hk)) h.bel.size, fun k hk hk2 => ?_, fun k hk => ?_⟩
  · rcases hk with rfl | hk
    · exact h.apart k (Or.inl rfl) hk2
    · rcases h3 with rfl | ⟨q, rfl, h4⟩
      · exact h.apart k (Or.inr hk) hk2
      · have := h.b.in_ hk2
        injection hk with hk
        omega
  · rcases hk with (rfl | hk) | hk
    · exact h.new k (Or.inl (Or.inl rfl))
    · rcases h3 with rfl | ⟨q, rfl, h4⟩
      · exact h.new k (Or.inl (Or.inr hk))
      · have := h.bel.size
        injection hk with hk
        omega
    · exact h.new k (Or.inr hk)
end
theorem keepSp {v w2 : World} {b o i : Nat} {s : Sp} (h : ∀ w', Below v.heap.size v w' → w'.cell? ⟨b, o + i * 11, none⟩ = some (.int .u64 (s.hi : Int)) ∧ w'.cell? ⟨b, o + i * 11 + 1, none⟩ = some (.int .u64 (s.lo : Int)) ∧ w'.cell? ⟨b, o + i * 11 + 2, none⟩ = some (.int .u64 (s.id : Int)) ∧ w'.cell? ⟨b, o + i * 11 + 3, none⟩ = some (.int .u64 (s.up : Int)) ∧ w'.cell? ⟨b, o + i * 11 + 4, none⟩ = some (.string (bs s.name)) ∧ w'.cell? ⟨b, o + i * 11 + 5, none⟩ = some (.int .i64 s.status) ∧ w'.cell? ⟨b, o + i * 11 + 6, none⟩ = some (.int .i64 s.seq) ∧ w'.cell? ⟨b, o + i * 11 + 7, none⟩ = some (.int .i64 s.kids) ∧ w'.cell? ⟨b, o + i * 11 + 8, none⟩ = some (.bool s.shade) ∧ w'.cell? ⟨b, o + i * 11 + 9, none⟩ = some (.int .i64 s.start) ∧ w'.cell? ⟨b, o + i * 11 + 10, none⟩ = some (.int .i64 s.fin)) (hb : Below v.heap.size v w2) : w2.cell? ⟨b, o + i * 11, none⟩ = some (.int .u64 (s.hi : Int)) ∧ w2.cell? ⟨b, o + i * 11 + 1, none⟩ = some (.int .u64 (s.lo : Int)) ∧ w2.cell? ⟨b, o + i * 11 + 2, none⟩ = some (.int .u64 (s.id : Int)) ∧ w2.cell? ⟨b, o + i * 11 + 3, none⟩ = some (.int .u64 (s.up : Int)) ∧ w2.cell? ⟨b, o + i * 11 + 4, none⟩ = some (.string (bs s.name)) ∧ w2.cell? ⟨b, o + i * 11 + 5, none⟩ = some (.int .i64 s.status) ∧ w2.cell? ⟨b, o + i * 11 + 6, none⟩ = some (.int .i64 s.seq) ∧ w2.cell? ⟨b, o + i * 11 + 7, none⟩ = some (.int .i64 s.kids) ∧ w2.cell? ⟨b, o + i * 11 + 8, none⟩ = some (.bool s.shade) ∧ w2.cell? ⟨b, o + i * 11 + 9, none⟩ = some (.int .i64 s.start) ∧ w2.cell? ⟨b, o + i * 11 + 10, none⟩ = some (.int .i64 s.fin) ∧ Below v.heap.size v w2 := by
  obtain ⟨r0, r1, r2, r3, r4, r5, r6, r7, r8, r9, r10⟩ := h w2 hb
  exact ⟨r0, r1, r2, r3, r4, r5, r6, r7, r8, r9, r10, hb⟩
end Go.Proofs.Ytpfhmpblcmednaa
namespace Go.Proofs.Ytpfhmpblcmednaa
set_option linter.unusedVariables false
set_option linter.unusedSimpArgs false
open Go.RowKit Go.Joins

/-- append of a row that a call has made, to one of the call's own: where the row lies then. -/
theorem wpList_append_gxw {α : Type} {enc : α → List Value} {k : Nat} {e : TypeId} {P : Program} {t : TypeId} {z : Value} {bytes : Nat} (T : RowT P enc k t e z bytes) {ops : Array Oper} {rest : List Oper} {o : Oper} {a : Act} {Q : Exit → Act → World → Prop} {w : World} (hgd : o.guard = none) (s x : Operand)
    (ho : o.op = .call { callee := .builtin .append, args := #[s, x], argTypes := #[t, t] }) (base base2 : Nat) (v y : Value) (L M : List α)
    (hs : a.eval s = v) (hown : GB enc k e w base v L) (hx : a.eval x = y) (hR : GB enc k e w base2 y M)
    (hl : L.length + M.length ≤ 10000000) (hbase : base ≤ w.heap.size) (K : ∀ v' w', GB enc k e w' base v' (L ++ M) → w.grownBy w' v.ownBlock → (v'.ownBlock = v.ownBlock ∨ v'.ownBlock = some w.heap.size) → wpList P ops Q rest (a.put o.dst v') w') : wpList P ops Q (o :: rest) a w := by
  obtain ⟨i0, hi, hz0, hz1, hz2⟩ := info_parts T.inf
  have hrefl : w.grownBy w v.ownBlock := ⟨rfl, rfl, rfl, Nat.le_refl _, fun _ _ _ => rfl⟩
  have hyf := GB.form T.hk hR
  obtain ⟨A, cap, hye, hgx, -⟩ := GB.reads T.hk hR
  subst hx
  rcases hyf with ⟨hy, rfl⟩ | ⟨q, c, hy, -⟩
  · exact wpList_append_own_none hgd s x t ho base e i0 k T.ht hi v L.length (gvals enc L) hs hown hy (K v w (by simpa using hown) hrefl (Or.inl rfl))
  · rw [hye] at hy
    simp only [Value.slice.injEq, true_and] at hy
    obtain ⟨rfl, rfl⟩ := hy
    rcases Nat.eq_zero_or_pos M.length with h0 | h0
    · have hM : M = [] := List.eq_nil_of_length_eq_zero h0
      subst hM
      rcases GB.form T.hk hown with ⟨hv, hL⟩ | ⟨g, c', hv, -, -, h4, -⟩
      · refine wpList_append_own w hgd s x t ho base e i0 z k bytes T.ht hi hz0 hz1 hz2 T.hzs T.k0 v L.length (gvals enc L) hs hown ⟨q, 0, none⟩ 0 cap [] hye (by simp) (by intro j u hj; simp at hj) (by simp) (by unfold maxLen; omega) (by have := Nat.le_trans (Nat.mul_le_mul hl T.hb) (show 10000000 * 1000 ≤ 140737488355328 by omega); simpa using this) hbase fun v' w' h1 h2 h3 => K v' w' (by simpa [GB, gvals] using h1) h2 (Or.inl ?_)
        rw [h3.2 ⟨hv, rfl⟩, hv]
      · subst hv
        obtain ⟨w', hr, h2, h3⟩ := run_append_fits (P := P) w base t o.type e i0 k T.ht hi hz1 g L.length c' (gvals enc L) hown ⟨q, 0, none⟩ 0 cap [] (by simp) (by intro j u hj; simp at hj) (by simp) h4
        refine wpList_plain hgd fun K2 hK => ?_
        unfold Oper.wp execOp
        have hye2 : a.eval x = .slice (some ⟨q, 0, none⟩) 0 cap := hye
        simp only [ho, resolve, invoke, builtin, Sem.run_bind, Sem.run_pure, Result.andThen_ok, List.map_toArray, List.map_cons, List.map_nil, hs, hye2, hr]
        exact hK _ _ (K _ w' (by simpa [GB, gvals] using h2) h3 (Or.inl rfl))
    · refine wpList_append_gxl T hgd s x ho base v L M q cap _ hs hown hye hgx h0 hl hbase fun g c w' m hm h1 h2 h3 => K _ w' h1 h2 ?_
      rcases h3 with h3 | h3
      · exact Or.inl h3.symm
      · exact Or.inr (by rw [h3]; rfl)
/-- The cells of one move. -/
theorem bm_cells {w : World} {N : Nat → Prop} {A : Option Addr} {L : List (Sp × Int)} (h : GX encBM 12 w N A L) {i : Nat} {m : Sp × Int} (hu : L[i]? = some m) : ∃ b p, A = some ⟨b, p, none⟩ ∧ N b ∧
    w.cell? ⟨b, p + i * 12, none⟩ = some (.int .u64 (m.1.hi : Int)) ∧ w.cell? ⟨b, p + i * 12 + 1, none⟩ = some (.int .u64 (m.1.lo : Int)) ∧ w.cell? ⟨b, p + i * 12 + 2, none⟩ = some (.int .u64 (m.1.id : Int)) ∧ w.cell? ⟨b, p + i * 12 + 3, none⟩ = some (.int .u64 (m.1.up : Int)) ∧ w.cell? ⟨b, p + i * 12 + 4, none⟩ = some (.string (bs m.1.name)) ∧ w.cell? ⟨b, p + i * 12 + 5, none⟩ = some (.int .i64 m.1.status) ∧ w.cell? ⟨b, p + i * 12 + 6, none⟩ = some (.int .i64 m.1.seq) ∧ w.cell? ⟨b, p + i * 12 + 7, none⟩ = some (.int .i64 m.1.kids) ∧ w.cell? ⟨b, p + i * 12 + 8, none⟩ = some (.bool m.1.shade) ∧ w.cell? ⟨b, p + i * 12 + 9, none⟩ = some (.int .i64 m.1.start) ∧ w.cell? ⟨b, p + i * 12 + 10, none⟩ = some (.int .i64 m.1.fin) ∧ w.cell? ⟨b, p + i * 12 + 11, none⟩ = some (.int .i64 m.2) := by
  obtain ⟨hi, rfl⟩ := List.getElem?_eq_some_iff.1 hu
  obtain ⟨b, p, e, h1, h2⟩ := h i hi
  exact ⟨b, p, e, h1, h2 0 (by omega), h2 1 (by omega), h2 2 (by omega), h2 3 (by omega), h2 4 (by omega), h2 5 (by omega), h2 6 (by omega), h2 7 (by omega), h2 8 (by omega), h2 9 (by omega), h2 10 (by omega), h2 11 (by omega)⟩
/-- What BufferOnce's loop knows: the buffer, what was put, what was taken. -/
structure BfO (w wr : World) (g : Nat) (p : Option Nat) (c : Nat) (X : Bfr) (vi : Value) (inn : List Sp) (vo : Value) (out : List Sp) : Prop where
  h : BfH wr g p c X
  gi : GB encSp 11 37 wr w.heap.size vi inn
  go : GB encSp 11 37 wr w.heap.size vo out
  bel : Below w.heap.size w wr
  ai : ∀ k, vi.ownBlock = some k → ¬ BfS g p k
  ao : ∀ k, vo.ownBlock = some k → ¬ BfS g p k
  io : ∀ k, vi.ownBlock = some k → vo.ownBlock ≠ some k
  new : ∀ k, BfS g p k → w.heap.size ≤ k
section
variable {w wr w2 : World} {g c : Nat} {p : Option Nat} {X Y : Bfr} {vi vo v' : Value} {inn out l : List Sp} {ok : Bool} {e : Ending}
theorem BfO.up (h : BfO w wr g p c X vi inn vo out) (hb : Below wr.heap.size wr w2) : BfO w w2 g p c X vi inn vo out := ⟨h.h.up hb, h.gi.below hb, h.go.below hb, estep h.bel hb, h.ai, h.ao, h.io, h.new⟩
theorem BfO.take (h : BfO w wr g p c X vi inn vo out) (hx : BfH w2 g p c Y) (ho : OnS (fun b => b = g ∨ some b = p) wr w2) : BfO w w2 g p c Y vi inn vo out :=
  ⟨hx, GB.onS h.gi ho h.ai, GB.onS h.go ho h.ao, OnS.to_below h.bel ho (fun k _ hk => h.new k hk) h.bel.size, h.ai, h.ao, h.io, h.new⟩
theorem BfO.put (h : BfO w wr g p c X vi inn vo out) (hx : BfP wr g p c Y ok e w2) : e = .returned (.bool ok) ∧ ∃ p', BfO w w2 g p' c Y vi inn vo out := by
  obtain ⟨rfl, p', h1, h2, h3⟩ := hx
  have hap : ∀ (v : Value) (l : List Sp), GB encSp 11 37 wr w.heap.size v l → (∀ k, v.ownBlock = some k → ¬ BfS g p k) → ∀ k, v.ownBlock = some k → ¬ BfS g p' k := fun v l hg hh k hk hS => by
    rcases hS with rfl | hS
    · exact hh k hk (Or.inl rfl)
    · rcases h3 with rfl | ⟨q, rfl, h4⟩
      · exact hh k hk (Or.inr hS)
      · have := (World.ownsRow.lt hg k hk).2
        injection hS with hS
        omega
  refine ⟨rfl, p', h1, GB.onS h.gi h2 h.ai, GB.onS h.go h2 h.ao, OnS.to_below h.bel h2 (fun k _ hk => h.new k hk) h.bel.size, hap vi inn h.gi h.ai, hap vo out h.go h.ao, h.io, fun k hk => ?_⟩
  rcases hk with rfl | hk
  · exact h.new k (Or.inl rfl)
  · rcases h3 with rfl | ⟨q, rfl, h4⟩
    · exact h.new k (Or.inr hk)
    · have := h.bel.size
      injection hk with hk
      omega
theorem BfO.outs (h : BfO w wr g p c X vi inn vo out) (hG : GB encSp 11 37 w2 w.heap.size v' l) (hg : wr.grownBy w2 vo.ownBlock) (hl : v'.ownBlock = vo.ownBlock ∨ v'.ownBlock = some wr.heap.size) : BfO w w2 g p c X vi inn v' l := by
  have ho : OnS (fun b => some b = vo.ownBlock) wr w2 := OnS.grown hg fun b hb => hb.symm
  have hlt := h.h.lt
  refine ⟨h.h.onS ho (fun hS => h.ao g hS.symm (Or.inl rfl)) (fun q hq hS => h.ao q hS.symm (Or.inr hq.symm)), GB.onS h.gi ho (fun q hq hS => h.io q hq hS.symm), hG, OnS.to_below h.bel ho (fun k _ hk => (World.ownsRow.lt h.go k hk.symm).1) h.bel.size, h.ai, fun k hk hS => ?_, fun k hk hk2 => ?_, h.new⟩
  · rcases hl with hl | hl
    · exact h.ao k (hl.symm.trans hk) hS
    · rw [hl] at hk; injection hk with hk
      have := h.h.in_ hS
      omega
  · rcases hl with hl | hl
    · exact h.io k hk (hl.symm.trans hk2)
    · rw [hl] at hk2; injection hk2 with hk2
      have := (World.ownsRow.lt h.gi k hk).2
      omega
theorem BfO.start (hg : w.heap.size ≤ g) (hR : BfH wr g none c ([], 0)) (hb : Below w.heap.size w wr) : BfO w wr g none c ([], 0) (.slice none 0 0) [] (.slice none 0 0) [] := by
  refine ⟨hR, GB.nil _ _, GB.nil _ _, hb, fun k hk => (by cases hk), fun k hk => (by cases hk), fun k hk => (by cases hk), fun k hk => ?_⟩
  rcases hk with rfl | hk
  · exact hg
  · cases hk
theorem BfO.swap (h : BfO w wr g p c X vi inn vo out) : BfO w wr g p c X vo out vi inn := ⟨h.h, h.go, h.gi, h.bel, h.ao, h.ai, fun k h1 h2 => h.io k h2 h1, h.new⟩
end
theorem keepBm {v w2 : World} {b p i : Nat} {m : Sp × Int} (h : ∀ w', Below v.heap.size v w' → w'.cell? ⟨b, p + i * 12, none⟩ = some (.int .u64 (m.1.hi : Int)) ∧ w'.cell? ⟨b, p + i * 12 + 1, none⟩ = some (.int .u64 (m.1.lo : Int)) ∧ w'.cell? ⟨b, p + i * 12 + 2, none⟩ = some (.int .u64 (m.1.id : Int)) ∧ w'.cell? ⟨b, p + i * 12 + 3, none⟩ = some (.int .u64 (m.1.up : Int)) ∧ w'.cell? ⟨b, p + i * 12 + 4, none⟩ = some (.string (bs m.1.name)) ∧ w'.cell? ⟨b, p + i * 12 + 5, none⟩ = some (.int .i64 m.1.status) ∧ w'.cell? ⟨b, p + i * 12 + 6, none⟩ = some (.int .i64 m.1.seq) ∧ w'.cell? ⟨b, p + i * 12 + 7, none⟩ = some (.int .i64 m.1.kids) ∧ w'.cell? ⟨b, p + i * 12 + 8, none⟩ = some (.bool m.1.shade) ∧ w'.cell? ⟨b, p + i * 12 + 9, none⟩ = some (.int .i64 m.1.start) ∧ w'.cell? ⟨b, p + i * 12 + 10, none⟩ = some (.int .i64 m.1.fin) ∧ w'.cell? ⟨b, p + i * 12 + 11, none⟩ = some (.int .i64 m.2)) (hb : Below v.heap.size v w2) : w2.cell? ⟨b, p + i * 12, none⟩ = some (.int .u64 (m.1.hi : Int)) ∧ w2.cell? ⟨b, p + i * 12 + 1, none⟩ = some (.int .u64 (m.1.lo : Int)) ∧ w2.cell? ⟨b, p + i * 12 + 2, none⟩ = some (.int .u64 (m.1.id : Int)) ∧ w2.cell? ⟨b, p + i * 12 + 3, none⟩ = some (.int .u64 (m.1.up : Int)) ∧ w2.cell? ⟨b, p + i * 12 + 4, none⟩ = some (.string (bs m.1.name)) ∧ w2.cell? ⟨b, p + i * 12 + 5, none⟩ = some (.int .i64 m.1.status) ∧ w2.cell? ⟨b, p + i * 12 + 6, none⟩ = some (.int .i64 m.1.seq) ∧ w2.cell? ⟨b, p + i * 12 + 7, none⟩ = some (.int .i64 m.1.kids) ∧ w2.cell? ⟨b, p + i * 12 + 8, none⟩ = some (.bool m.1.shade) ∧ w2.cell? ⟨b, p + i * 12 + 9, none⟩ = some (.int .i64 m.1.start) ∧ w2.cell? ⟨b, p + i * 12 + 10, none⟩ = some (.int .i64 m.1.fin) ∧ w2.cell? ⟨b, p + i * 12 + 11, none⟩ = some (.int .i64 m.2) ∧ Below v.heap.size v w2 := by
  obtain ⟨r0, r1, r2, r3, r4, r5, r6, r7, r8, r9, r10, r11⟩ := h w2 hb
  exact ⟨r0, r1, r2, r3, r4, r5, r6, r7, r8, r9, r10, r11, hb⟩
end Go.Proofs.Ytpfhmpblcmednaa
