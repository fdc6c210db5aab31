/- export: what ExportQuiet's loops know. -/
import Derived.Test.YtpfhmpblcmednaaE26
import Derived.Test.YtpfhmpblcmednaaE35
import Derived.Test.YtpfhmpblcmednaaE34
import Derived.Test.YtpfhmpblcmednaaE02
import Derived.Deep.RegionLaw
import Derived.Deep.RegionHeld3
import Derived.Test.YtpfhmpblcmednaaE14
import Derived.Laws.StructEq
import Derived.Test.YtpfhmpblcmednaaE23
import Derived.Test.YtpfhmpblcmednaaE05
import Derived.Test.YtpfhmpblcmednaaE25
import Derived.BigQuiet
namespace Go.Proofs.Ytpfhmpblcmednaa
set_option linter.unusedVariables false
set_option linter.unusedSimpArgs false
open Go.RowKit Go.Joins

/-- The bytes of a batch. -/
def btT (y : Snt) : List UInt8 := (writeB y.node y.seq y.L).1
set_option maxRecDepth 100000 in
set_option maxHeartbeats 4000000 in
theorem exbytes_any (nd sq : Int) (A : Option Addr) (n c : Nat) (L : List Sp) (w : World) (hA : GX encSp 11 w (· < w.heap.size) A L) (hn : Hid (L.length = n)) (hl : n ≤ 1000000) (hs : ∀ s ∈ L, okSp s) {t : List UInt8} (H : Hid ((writeB nd sq L).1 = t)) :
    Calls Try.prog 87 #[.agg #[.int .i64 nd, .int .i64 sq, .slice A n c]] w fun e w' => e = .returned (.string (bs t)) ∧ Below w.heap.size w w' := by
  have hb := enew w (.cells #[.int .i64 nd, .int .i64 sq, .slice A n c] 45)
  have kb := Bk.new w 45 #[.int .i64 nd, .int .i64 sq, .slice A n c]
  obtain ⟨z, hz⟩ : ∃ z, (writeB nd sq L).2 = z := ⟨_, rfl⟩
  have HW := hid (bwrite_any A c L nd sq (w.alloc (.cells #[.int .i64 nd, .int .i64 sq, .slice A n c] 45)) (sr_gx (hA.up hb)) (by have := hn.out; omega) hs)
  rw [hn.out, H.out, hz] at HW
  have HBf := hid hb
  clear hb hz H
  go_enter Try.func87, Try.ntmps87
  go_upto_region 1 with (fail)
  generalize w.alloc (.cells #[.int .i64 nd, .int .i64 sq, .slice A n c] 45) = v0 at *
  have q0 := Bk.cell kb 0
  have q1 := Bk.cell kb 1
  have q2 := Bk.cell kb 2
  go_wp2_with fail
  refine HW.out.mono ?_
  rintro e w1 ⟨rfl, hb1⟩
  have H1 := hid (estep HBf.out hb1)
  clear hb1 HW kb q0 q1 q2
  go_wp2_with fail
  go_returns
  exact ⟨rfl, H1.out⟩
end Go.Proofs.Ytpfhmpblcmednaa
namespace Go.Proofs.Ytpfhmpblcmednaa
set_option linter.unusedVariables false
set_option linter.unusedSimpArgs false
open Go.RowKit Go.Joins

theorem exset14 {w : World} {g gb : Nat} {nd : Int} {c : Lim} {z : Lw} {v : Value} {nx : Nat} {la : Int} {ac gv : Nat} (h : Bk w g 103 (exRow nd gb c z v nx la ac gv)) (u : Value) : Bk (w.setCell ⟨g, 14, none⟩ u) g 103 (exRow nd gb c z u nx la ac gv) := Bk.set_ h 14 u
theorem exset15 {w : World} {g gb : Nat} {nd : Int} {c : Lim} {z : Lw} {v : Value} {nx : Nat} {la : Int} {ac gv : Nat} (h : Bk w g 103 (exRow nd gb c z v nx la ac gv)) (n2 : Nat) : Bk (w.setCell ⟨g, 15, none⟩ (.int .i64 (n2 : Int))) g 103 (exRow nd gb c z v n2 la ac gv) := Bk.set_ h 15 (.int .i64 (n2 : Int))
theorem exset16 {w : World} {g gb : Nat} {nd : Int} {c : Lim} {z : Lw} {v : Value} {nx : Nat} {la : Int} {ac gv : Nat} (h : Bk w g 103 (exRow nd gb c z v nx la ac gv)) (l2 : Int) : Bk (w.setCell ⟨g, 16, none⟩ (.int .i64 l2)) g 103 (exRow nd gb c z v nx l2 ac gv) := Bk.set_ h 16 (.int .i64 l2)
theorem exset17 {w : World} {g gb : Nat} {nd : Int} {c : Lim} {z : Lw} {v : Value} {nx : Nat} {la : Int} {ac gv : Nat} (h : Bk w g 103 (exRow nd gb c z v nx la ac gv)) (n2 : Nat) : Bk (w.setCell ⟨g, 17, none⟩ (.int .i64 (n2 : Int))) g 103 (exRow nd gb c z v nx la n2 gv) := Bk.set_ h 17 (.int .i64 (n2 : Int))
theorem exset18 {w : World} {g gb : Nat} {nd : Int} {c : Lim} {z : Lw} {v : Value} {nx : Nat} {la : Int} {ac gv : Nat} (h : Bk w g 103 (exRow nd gb c z v nx la ac gv)) (n2 : Nat) : Bk (w.setCell ⟨g, 18, none⟩ (.int .i64 (n2 : Int))) g 103 (exRow nd gb c z v nx la ac n2) := Bk.set_ h 18 (.int .i64 (n2 : Int))
/-- What is under way, as an exporter may have it. -/
structure ExW (l : List Snt) : Prop where
  g : FlG l
  tr : ∀ y ∈ l, -9223372036854775808 ≤ y.tries
  ok : ∀ y ∈ l, ∀ s ∈ y.L, okSp s
/-- A list of batches can be read. -/
theorem FbK.get {w : World} {B : Nat} {A : Option Addr} {n cp : Nat} {l : List Snt} (h : FbK w B (.slice A n cp) l) : ∃ U : List Fs, U.map Fs.snt = l ∧ U.length = n ∧ GX encBt 3 w (· < w.heap.size) A U ∧ ∀ u ∈ U, GX encSp 11 w (· < w.heap.size) u.A u.L ∧ u.L.length = u.n := by
  obtain ⟨A', n', c', U, e, h1, h2, h3⟩ := h
  simp only [Value.slice.injEq] at e
  obtain ⟨rfl, rfl, rfl⟩ := e
  obtain ⟨A', c', e, k1, -⟩ := GB.reads encBt_len h1
  simp only [Value.slice.injEq] at e
  obtain ⟨rfl, e2, rfl⟩ := e
  refine ⟨U, h3, e2.symm, k1.imp fun b hb => hb.2, fun u hu => ⟨?_, (h2 u hu).2⟩⟩
  obtain ⟨A', c', e, k1, -⟩ := GB.reads encSp_len (h2 u hu).1
  simp only [Value.slice.injEq] at e
  obtain ⟨rfl, -, rfl⟩ := e
  exact k1.imp fun b hb => hb.2
theorem flSpans_take_le (l : List Snt) : ∀ i, flSpans (l.take i) ≤ flSpans l := by
  induction l with
  | nil => intro i; simp [flSpans]
  | cons y r ih =>
    intro i
    cases i with
    | zero => simp [flSpans]
    | succ i => rw [List.take_succ_cons]; simp only [flSpans]; have := ih i; omega
theorem flSpans_step (l : List Snt) (i : Nat) (h : i < l.length) : flSpans (l.take (i + 1)) = flSpans (l.take i) + l[i].L.length := by
  rw [List.take_succ_eq_append_getElem h, flSpans_app]
  simp [flSpans]
theorem flSpans_1000 (l : List Snt) (h : ∀ y ∈ l, y.L.length ≤ 1000) : flSpans l ≤ l.length * 1000 := by
  induction l with
  | nil => simp [flSpans]
  | cons y r ih =>
    have h1 := h y (List.mem_cons_self ..)
    have h2 := ih fun z hz => h z (List.mem_cons_of_mem _ hz)
    simp only [flSpans, List.length_cons]
    omega
/-- What again answers: the texts of what is sent again; the exporter then. -/
def ExA (w : World) (g gb : Nat) (p : Option Nat) (nd : Int) (c : Lim) (z : Lw) (x : Exs) (r : List Snt × List Snt × List Snt) (e : Ending) (w' : World) : Prop := ∃ (vs : Value) (A1 : Option Addr) (n1 c1 : Nat), e = .returned vs ∧ GB encS1 1 9 w' w.heap.size vs (r.2.1.map btT) ∧ n1 = r.1.length ∧
  ExH w' g gb p nd c z (.slice A1 n1 c1) { x with way := r.1, given := x.given + flSpans r.2.2 } ∧ OnS (fun b => b = g) w w'
set_option maxRecDepth 100000 in
set_option maxHeartbeats 8000000 in
theorem exagain_any (g gb : Nat) (p : Option Nat) (nd : Int) (c : Lim) (z : Lw) (v : Value) (x : Exs) (now : Int) (w : World) (h : ExH w g gb p nd c z v x) (hW : ExW x.way) (hc : LimOk c) (hgv : x.given ≤ 1000000) :
    Calls Try.prog 50 #[.pointer (some ⟨g, 0, none⟩), .int .i64 now] w fun e w' => ExA w g gb p nd c z x (flStep x.way now c.retry c.tries) e w' := by
  have Hw := hid h
  have HW := hid hW
  have HGV := hid hgv
  have HST := hid (fun w2 (hb : Below w.heap.size w w2) => flstep_k v x.way now c.retry c.tries w2 (h.up hb).f.flv hW.g ⟨by have := hc.tries; omega, hW.tr⟩)
  have HS : Hid (∀ w' : World, Below w.heap.size w w' → w'.cell? ⟨g, 9, none⟩ = some (.int .i64 c.retry) ∧ w'.cell? ⟨g, 10, none⟩ = some (.int .i64 c.tries) ∧ w'.cell? ⟨g, 14, none⟩ = some v ∧ Below w.heap.size w w') := hid (fun w' hb => ⟨Bk.cell (Hw.out.up hb).k 9, Bk.cell (Hw.out.up hb).k 10, Bk.cell (Hw.out.up hb).k 14, hb⟩)
  obtain ⟨⟨R, U2, G⟩, hst⟩ : ∃ r, flStep x.way now c.retry c.tries = r := ⟨_, rfl⟩
  have hlenR := flStep_len x.way now c.retry c.tries
  obtain ⟨hs1, hs2⟩ := flR_sub now c.retry c.tries x.way
  rw [← flStep_R] at hs1 hs2
  have hsp := flStep_spans x.way now c.retry c.tries
  have h1000 := flSpans_1000 x.way hW.g.2
  have hwl := hW.g.1
  have hfew := flStep_few now c.retry c.tries x.way ([], [], [])
  unfold FlPk at HST
  simp only [hst] at HST hlenR hs1 hs2 hsp ⊢
  have hst0 : x.way.foldl (flStep1 now c.retry c.tries) ([], [], []) = (R, U2, G) := hst
  rw [hst0] at hfew
  simp only [List.length_nil, Nat.zero_add] at hfew
  have HSP := hid (show flSpans G ≤ 1000000 from by
    have : x.way.length * 1000 ≤ 1000 * 1000 := Nat.mul_le_mul_right _ hwl
    omega)
  have HOK := hid (fun y (hy : y ∈ U2) => And.intro (HW.out.ok y (hs2 y hy)) (HW.out.g.2 y (hs2 y hy)))
  have HFW := hid (show U2.length ≤ 1000 ∧ G.length ≤ 1000 from by omega)
  have hz : Below w.heap.size w w.drew := (Below.refl _ _).drew
  clear h hW hgv hst hst0 hs1 hs2 hsp h1000 hfew hwl hlenR
  go_enter Try.func50, Try.ntmps50
  go_wp2_with fail
  go_region_held3 (fun w' => w'.cell? ⟨g, 9, none⟩ = some (.int .i64 c.retry) ∧ w'.cell? ⟨g, 10, none⟩ = some (.int .i64 c.tries) ∧ w'.cell? ⟨g, 14, none⟩ = some v ∧ Below w.heap.size w w') (first | (with_reducible exact HS.out _ hz)) (first
    | (go_at_call 86
       ((with_reducible refine (HST.out _ hz).mono ?_); rintro e w1 ⟨A1, n1, c1, A2, n2, c2, A3, n3, c3, rfl, hf1, hf2, hf3, hy⟩)
       have hzo := hz
       have hz := hz.trans (hy.mono hz.size)))
  all_goals
    have HZ := hid hz
    have hsz := hzo.size
    have hX1 := Hw.out.up hz
    have hRn : R.length = n1 := by
      obtain ⟨A', n', c', U', e, k1, -, k3⟩ := hf1
      simp only [Value.slice.injEq] at e
      obtain ⟨rfl, rfl, rfl⟩ := e
      obtain ⟨A', c', e, -⟩ := GB.reads encFs_len k1
      simp only [Value.slice.injEq] at e
      rw [← k3, List.length_map]
      exact e.2.1.symm
    have hGn : G.length = n3 := by
      obtain ⟨U', k1, k2, -⟩ := hf3.get
      rw [← k1, List.length_map, k2]
    have hUn : U2.length = n2 := by
      obtain ⟨U', k1, k2, -⟩ := hf2.get
      rw [← k1, List.length_map, k2]
    have HF := hid (And.intro hf1 (And.intro hf2 (And.intro hf3 (And.intro hRn (And.intro hGn hUn)))))
    have HX1 := hid hX1
    have HSZ := hid hsz
    have q0 := Bk.cell hX1.k 14
    have q1 := Bk.frozen hX1.k 14
    clear hz hzo hy hf1 hf2 hf3 hX1 hsz hRn hGn hUn HST HS
    go_upto_region 3 with (fail)
    have HB2 := hid (And.intro (exset14 HX1.out.k (.slice A1 n1 c1)) ((OnS.refl (fun b => b = g) w1).cell g 14 (.slice A1 n1 c1) rfl))
    clear q0 q1
    generalize w1.setCell ⟨g, 14, none⟩ (.slice A1 n1 c1) = w2 at *
    have hn3 : n3 ≤ 1000 := by have := HF.out.2.2.2.2.1; have := HFW.out.2; omega
    go_wp2_with fail
    go_loopg [39] n3 (fun g1 vi wr => ∃ i : Nat, vi = .int .i64 i ∧ i ≤ n3 ∧ n3 - i ≤ g1 ∧ Hid (Bk wr g 103 (exRow nd gb c z (.slice A1 n1 c1) x.next x.last x.acked (x.given + flSpans (G.take i))) ∧ OnS (fun b => b = g) w1 wr))
    case atStart => exact ⟨0, rfl, by omega, by omega, hid ⟨by simpa [flSpans] using HB2.out.1, HB2.out.2⟩⟩
    case round =>
      obtain ⟨i, rfl, hin, hgk, HI⟩ := hrel
      obtain ⟨wz, hwz⟩ : ∃ wz, wz = wr := ⟨_, rfl⟩
      subst hwz
      by_cases hlt : i < n3
      · have hkd : ∀ b e, Kd w1 b e → 103 ≠ e → ¬ b = g := fun b e h1 h2 h3 => Kd.ne HX1.out.k.kd h2 (h3 ▸ h1)
        obtain ⟨U, hU1, hU2, hU3, hU4⟩ := (HF.out.2.2.1.onS HI.out.2 (fun b hb => hkd b _ hb (by decide)) (fun b hb => hkd b _ hb (by decide))).get
        have hiU : i < U.length := by omega
        have hiG : i < G.length := by have := HF.out.2.2.2.2.1; omega
        obtain ⟨b, o, rfl, hB, r0, r1, r2⟩ := bt_cells hU3 (List.getElem?_eq_getElem hiU)
        have hLn := (hU4 _ (List.getElem_mem hiU)).2
        have hGi : G[i].L.length = U[i].n := by
          rw [← hLn]
          have : (U.map Fs.snt)[i]? = G[i]? := by rw [hU1]
          rw [List.getElem?_map, List.getElem?_eq_getElem hiU, List.getElem?_eq_getElem hiG] at this
          injection this with this
          rw [← this]
          rfl
        have hstp := flSpans_step G i hiG
        have hle := flSpans_take_le G (i + 1)
        rw [hGi] at hstp
        have HSS := hid hstp
        have HBd := hid hB
        clear hU1 hU3 hU4 hLn hGi hstp hkd hB
        generalize U[i] = u at *
        have hi0 : (0 : Int) ≤ (i : Int) := by omega
        have hiz : (i : Int) < (n3 : Int) := by omega
        have hid1 : decide ((i : Int) < (n3 : Int)) = true := decide_eq_true hiz
        have hin1 : decide (i < n3) = true := decide_eq_true hlt
        have hadd : IntKind.i64.wrap ((i : Int) + 1) = (i : Int) + 1 := IntWalk.i64_in _ (by omega)
        have hen := enew wz (.cells #[.int .i64 u.node, .int .i64 u.seq, .slice u.A u.n u.c] 45)
        have kb := Bk.new wz 45 #[.int .i64 u.node, .int .i64 u.seq, .slice u.A u.n u.c]
        have hk2 := HI.out.1.up hen
        have HK2 := hid hk2
        have HEN := hid (HI.out.2.up hen)
        go_upto_region 6 with (fail)
        clear r0 r1 r2
        have t2 : (wz.alloc (.cells #[.int .i64 u.node, .int .i64 u.seq, .slice u.A u.n u.c] 45)).cell? ⟨wz.heap.size, 2, none⟩ = some (.slice u.A u.n u.c) := Bk.cell kb 2
        obtain ⟨bb, hbb⟩ : ∃ bb, wz.heap.size = bb := ⟨_, rfl⟩
        clear kb hk2 hen
        generalize wz.alloc (.cells #[.int .i64 u.node, .int .i64 u.seq, .slice u.A u.n u.c] 45) = w3 at *
        rw [hbb] at t2
        have HAd := hid (fun w4 (e4 : w4 = w3.drew) => nadd_any ⟨g, 18, none⟩ (x.given + flSpans (G.take i)) u.n w4 (by subst e4; exact Bk.cell HK2.out 18) (by subst e4; exact Bk.frozen HK2.out 18) (by have := HGV.out; have := HSP.out; have := HSS.out; omega))
        have hd3 : w3.drew = w3.drew := rfl
        have HT2 : Hid (w3.drew.cell? ⟨bb, 2, none⟩ = some (.slice u.A u.n u.c)) := hid t2
        go_region_law (
          (go_simp
           go_at_call 57
           (with_reducible refine (HAd.out _ rfl).mono ?_)
           rintro e w5 ⟨rfl, hw5⟩))
        all_goals
          have e5 := hw5
          clear hw5 HAd t2 HT2 hd3
          have hcast : ((x.given + flSpans (G.take i) + u.n : Nat) : Int) = (x.given : Int) + (flSpans (G.take i) : Int) + (u.n : Int) := by push_cast; rfl
          have HN := hid ((exset18 HK2.out (x.given + flSpans (G.take i) + u.n)).drew)
          have HO := hid ((HEN.out.cell g 18 (.int .i64 ((x.given + flSpans (G.take i) + u.n : Nat) : Int)) rfl).drew)
          rw [hcast] at HN HO
          clear e5 hcast
          go_wp2_with fail
          go_roundg (n3 - (i + 1))
          case measure => omega
          case rel => exact ⟨i + 1, by go_num, by omega, by omega, hid ⟨by rw [HSS.out, ← Nat.add_assoc]; exact HN.out, HO.out⟩⟩
      · obtain rfl : i = n3 := by omega
        have HO1 := hid HI.out.2
        have hkk := HI.out.1
        rw [List.take_of_length_le (by have := HF.out.2.2.2.2.1; omega)] at hkk
        have HK1 := hid hkk
        have hn2 : n2 ≤ 1000 := by have := HF.out.2.2.2.2.2; have := HFW.out.1; omega
        have hiz : ¬ (i : Int) < (i : Int) := by omega
        have hkd : ∀ b e, Kd w1 b e → 103 ≠ e → ¬ b = g := fun b e h1 h2 h3 => Kd.ne HX1.out.k.kd h2 (h3 ▸ h1)
        obtain ⟨U, hU1, hU2, hU3, hU4⟩ := (HF.out.2.1.onS HO1.out (fun b hb => hkd b _ hb (by decide)) (fun b hb => hkd b _ hb (by decide))).get
        have HU := hid (And.intro hU1 (And.intro hU2 (And.intro hU3 hU4)))
        clear HI hkk hU1 hU2 hU3 hU4 hkd hgk
        go_wp2_with fail
        go_loopg [10, 53] n2 (fun g2 vs vj wr => ∃ j : Nat, vj = .int .i64 j ∧ j ≤ n2 ∧ n2 - j ≤ g2 ∧ Hid (GB encS1 1 9 wr wz.heap.size vs ((U2.map btT).take j) ∧ Below wz.heap.size wz wr))
        case atStart => exact ⟨0, rfl, by omega, by omega, hid ⟨GB.nil _ _, Below.refl _ _⟩⟩
        case round =>
          obtain ⟨j, rfl, hjn, hgj, HJ⟩ := hrel
          obtain ⟨wy, hwy⟩ : ∃ wy, wy = wr := ⟨_, rfl⟩
          subst hwy
          by_cases hjl : j < n2
          · have hjU : j < U.length := by have := HU.out.2.1; omega
            have hj2 : j < U2.length := by have := HF.out.2.2.2.2.2; omega
            obtain ⟨b, o, rfl, hB, r0, r1, r2⟩ := bt_cells (HU.out.2.2.1.up HJ.out.2) (List.getElem?_eq_getElem hjU)
            have hu4 := HU.out.2.2.2 _ (List.getElem_mem hjU)
            have hUj : U2[j] = (U[j]).snt := by
              have : (U.map Fs.snt)[j]? = U2[j]? := by rw [HU.out.1]
              rw [List.getElem?_map, List.getElem?_eq_getElem hjU, List.getElem?_eq_getElem hj2] at this
              injection this with this
              exact this.symm
            have hok := HOK.out _ (List.getElem_mem hj2)
            obtain ⟨t, ht⟩ : ∃ t, btT U2[j] = t := ⟨_, rfl⟩
            have htk : (U2.map btT).take (j + 1) = (U2.map btT).take j ++ [t] := by rw [List.take_succ_eq_append_getElem (by rw [List.length_map]; exact hj2), List.getElem_map, ht]
            rw [hUj] at hok ht
            have HT := hid (And.intro hu4 (And.intro hok (And.intro ht htk)))
            have hl2 : ((U2.map btT).take j).length = j := by rw [List.length_take, List.length_map]; omega
            have HL2 := hid hl2
            clear hu4 hUj hok ht htk hB hl2
            generalize U[j] = u at *
            have hj0 : (0 : Int) ≤ (j : Int) := by omega
            have hjz : (j : Int) < (n2 : Int) := by omega
            have hjd : decide ((j : Int) < (n2 : Int)) = true := decide_eq_true hjz
            have hjd2 : decide (j < n2) = true := decide_eq_true hjl
            have hadd : IntKind.i64.wrap ((j : Int) + 1) = (j : Int) + 1 := IntWalk.i64_in _ (by omega)
            have hen := enew wy (.cells #[.int .i64 u.node, .int .i64 u.seq, .slice u.A u.n u.c] 45)
            have kb := Bk.new wy 45 #[.int .i64 u.node, .int .i64 u.seq, .slice u.A u.n u.c]
            have HEN := hid (And.intro (HJ.out.1.below hen) (HJ.out.2.trans (hen.mono HJ.out.2.size)))
            have hgx := (HT.out.1.1.up HJ.out.2).up hen
            have HBY := hid (exbytes_any u.node u.seq u.A u.n u.c u.L _ hgx (hid HT.out.1.2) (by have := HT.out.2.1.2; have := HT.out.1.2; simp only [Fs.snt] at *; omega) HT.out.2.1.1 (hid HT.out.2.2.1))
            go_upto_region 12 with (fail)
            clear r0 r1 r2 hgx hen
            have t0 := Bk.cell kb 0
            have t1 := Bk.cell kb 1
            have t2 := Bk.cell kb 2
            clear kb
            generalize wy.alloc (.cells #[.int .i64 u.node, .int .i64 u.seq, .slice u.A u.n u.c] 45) = w3 at *
            go_wp2_with fail
            refine HBY.out.mono ?_
            rintro e w4 ⟨rfl, hb4⟩
            have hen4 := enew w4 (.cells #[.string (bs t)] 9)
            have hx4 := gx_new (M := [t]) encS1_len (Bk.new w4 9 #[.string (bs t)]) rfl
            have H4 := hid (And.intro ((HEN.out.1.below hb4).below hen4) (And.intro ((HEN.out.2.trans (hb4.mono HEN.out.2.size)).trans (hen4.mono (Nat.le_trans HEN.out.2.size hb4.size))) hx4))
            clear hb4 hen4 hx4 t0 t1 t2 HBY
            go_wp2_with (at_builtin; refine wpList_append_gxl rowS1 rfl _ _ rfl wz.heap.size _ ((U2.map btT).take j) [t] w4.heap.size 1 (fun b => b = w4.heap.size) rfl H4.out.1 rfl H4.out.2.2 (by simp) (by rw [HL2.out]; simp only [List.length_cons, List.length_nil]; omega) (H4.out.2.1.size) ?_)
            intro g6 c6 w6 m6 hm6 hG6 hg6 hl6
            have hb6 := OnS.to_below H4.out.2.1 (OnS.grown (S := fun b => some b = Value.ownBlock _) hg6 fun b hb => hb.symm) (fun k _ hk => (World.ownsRow.lt H4.out.1 k hk.symm).1) H4.out.2.1.size
            rw [← HT.out.2.2.2] at hG6
            have H6 := hid (And.intro hG6 hb6)
            clear hG6 hg6 hl6 hm6 hb6
            go_wp2_with fail
            go_roundg (n2 - (j + 1))
            case measure => omega
            case rel => exact ⟨j + 1, by go_num, by omega, by omega, H6⟩
          · obtain rfl : j = n2 := by omega
            have hjz : ¬ (j : Int) < (j : Int) := by omega
            have hgb := HJ.out.1
            rw [List.take_of_length_le (by rw [List.length_map]; have := HF.out.2.2.2.2.2; omega)] at hgb
            have HG := hid hgb
            clear hgb
            go_wp2_with fail
            go_returns
            have hkd : ∀ b e, Kd w1 b e → 103 ≠ e → ¬ b = g := fun b e h1 h2 h3 => Kd.ne HX1.out.k.kd h2 (h3 ▸ h1)
            have ho9 : OnS (fun b => b = g) w1 wy := HO1.out.up HJ.out.2
            refine ⟨_, A1, n1, c1, rfl, HG.out.more (Nat.le_trans HZ.out.size HO1.out.size), HF.out.2.2.2.1.symm, HX1.out.self ho9 (HK1.out.up HJ.out.2) rfl ?_, (OnS.below HZ.out).trans ho9⟩
            refine (HF.out.1.fln.imp fun b hb hn hp => ?_).onS ho9 (fun b hb => hkd b _ hb (by decide)) (fun b hb _ => hkd b _ hb (by decide))
            have := Hw.out.lt b (Or.inr (Or.inr hp))
            have := HSZ.out
            omega
end Go.Proofs.Ytpfhmpblcmednaa
namespace Go.Proofs.Ytpfhmpblcmednaa
set_option linter.unusedVariables false
set_option linter.unusedSimpArgs false
open Go.RowKit Go.Joins

/-- Blocks of another type are other ones. -/
theorem ExH.kds {w w' : World} {g gb : Nat} {p : Option Nat} {nd : Int} {c : Lim} {z : Lw} {v : Value} {x : Exs} {S : Nat → Prop} (h : ExH w g gb p nd c z v x) (ho : OnS S w w') (hS : ∀ b, S b → Kd w b 45) : ExH w' g gb p nd c z v x :=
  ⟨h.k.onS ho fun e => Kd.ne h.k.kd (by decide) (hS _ e), h.b.onS ho (fun e => Kd.ne h.b.kd.1 (by decide) (hS _ e)) (fun q hq e => Kd.ne (h.b.kd.2 q hq) (by decide) (hS _ e)), h.f.onS ho (fun b hb e => Kd.ne hb (by decide) (hS _ e)) (fun b hb _ e => Kd.ne hb (by decide) (hS _ e))⟩
theorem btons3 (w : World) (g : Nat) (a b c : Value) : OnS (fun b => b = g) w (((w.setCell ⟨g, 0, none⟩ a).setCell ⟨g, 1, none⟩ b).setCell ⟨g, 2, none⟩ c) := (((OnS.refl (fun b => b = g) w).cell g 0 a rfl).cell g 1 b rfl).cell g 2 c rfl
theorem OnS.alloc2 {S : Nat → Prop} {a b : World} (h : OnS S a b) (o : Obj) : OnS S a (b.alloc o) := h.up (enew b o)
theorem bftake_s (g : Nat) (p : Option Nat) (room : Nat) (x : Bfr) (i : Int) (w : World) (h : BfH w g p room x) {y : Bfr} {out : List Sp} (H : Hid (bfTake x i = (y, out))) {m : Nat} (hm : Hid (out.length = m)) :
    Calls Try.prog 88 #[.pointer (some ⟨g, 0, none⟩), .int .i64 i] w fun e w' => ∃ A c, e = .returned (.slice A m c) ∧ GB encSp 11 37 w' w.heap.size (.slice A m c) out ∧ BfH w' g p room y ∧ OnS (fun b => b = g ∨ some b = p) w w' := by
  refine (bftake_any g p room x i w h H).mono ?_
  rintro e w' ⟨v, rfl, h1, h2, h3⟩
  obtain ⟨A, c, rfl, -⟩ := GB.reads encSp_len h1
  rw [hm.out] at h1 ⊢
  exact ⟨A, c, rfl, h1, h2, h3⟩
theorem flsend_s (v : Value) (l : List Snt) (nd sq : Int) (A : Option Addr) (n c : Nat) (L : List Sp) (now retry : Int) (w : World) (hv : FlV w v l) (hG : FlG l) (hA : GX encSp 11 w (· < w.heap.size) A L) (hn : Hid (L.length = n)) (hl : n ≤ 1000) :
    Calls Try.prog 89 #[v, .agg #[.int .i64 nd, .int .i64 sq, .slice A n c], .int .i64 now, .int .i64 retry] w fun e w' => ∃ A' n' c', e = .returned (.slice A' n' c') ∧ FlK w' w.heap.size (.slice A' n' c') (flSend l nd sq L now retry) ∧ Below w.heap.size w w' := by
  refine (flsend_k v l nd sq A n c L now retry w hv hG hA hn hl).mono ?_
  rintro e w' ⟨v', rfl, ⟨A', n', c', U, rfl, h1⟩, h2⟩
  exact ⟨A', n', c', rfl, ⟨A', n', c', U, rfl, h1⟩, h2⟩
/-- The new batch. -/
def exB (nd : Int) (c : Lim) (x : Exs) (now : Int) : Snt := ⟨nd, (x.next : Int), (bfTake x.buf c.batch).2, 1, flDue now c.retry⟩
/-- The exporter behind a new batch. -/
def exBx (nd : Int) (c : Lim) (x : Exs) (now : Int) : Exs := ⟨(bfTake x.buf c.batch).1, x.way ++ [exB nd c x now], x.next + 1, now, x.acked, x.given⟩
set_option maxRecDepth 100000 in
set_option maxHeartbeats 8000000 in
theorem exbegin_any (g gb : Nat) (p : Option Nat) (nd : Int) (c : Lim) (z : Lw) (v : Value) (x : Exs) (now : Int) (w : World) (h : ExH w g gb p nd c z v x) (hW : ExW x.way) (hbk : ∀ s ∈ x.buf.1, okSp s) (hc : LimOk c) (hnx : x.next ≤ 1000000) {t : List UInt8} (ht : Hid (btT (exB nd c x now) = t)) :
    Calls Try.prog 52 #[.pointer (some ⟨g, 0, none⟩), .int .i64 now] w fun e w' => ∃ v', e = .returned (.string (bs t)) ∧ ExH w' g gb p nd c z v' (exBx nd c x now) ∧ OnS (exS g gb p) w w' := by
  obtain ⟨nx, hnxe⟩ : ∃ nx, x.next = nx := ⟨_, rfl⟩
  obtain ⟨⟨Y, L⟩, hY⟩ : ∃ r, bfTake x.buf c.batch = r := ⟨_, rfl⟩
  obtain ⟨m, hm⟩ : ∃ m, L.length = m := ⟨_, rfl⟩
  have hLe : L = x.buf.1.take (bfN x.buf c.batch) := by have := congrArg Prod.snd hY; exact this.symm
  have hm9 : m ≤ 1000 := by
    have := h.b.few
    rw [← hm, hLe, List.length_take]
    omega
  have hokL : ∀ s ∈ L, okSp s := fun s hs => hbk s (List.mem_of_mem_take (hLe ▸ hs))
  have hte : (writeB nd (nx : Int) L).1 = t := by
    have := ht.out
    unfold btT exB at this
    simp only [hnxe, hY] at this
    exact this
  have hyx : exBx nd c x now = ⟨Y, x.way ++ [⟨nd, (nx : Int), L, 1, flDue now c.retry⟩], nx + 1, now, x.acked, x.given⟩ := by
    unfold exBx exB
    simp only [hnxe, hY]
  rw [hyx]
  have hk := h.k
  rw [hnxe] at hk hnx
  have Hw := hid h
  have HW := hid hW
  have HY := hid hY
  have HM := hid (And.intro hm (And.intro hm9 (And.intro hokL hte)))
  have HNX := hid hnxe
  have hen := enew w (.cells #[.int .i64 0, .int .i64 0, .slice none 0 0] 45)
  have HTK := hid (fun w2 (hb : Below w.heap.size w w2) => bftake_s gb p (exRoom c) x.buf c.batch w2 (h.b.up hb) HY (hid hm))
  have HK := hid hk
  have HS : Hid (∀ w' : World, OnS (fun b => b = gb ∨ some b = p ∨ b = w.heap.size) w w' → w'.cell? ⟨g, 0, none⟩ = some (.pointer (some ⟨gb, 0, none⟩)) ∧ w'.cell? ⟨g, 1, none⟩ = some (.int .i64 nd) ∧ w'.cell? ⟨g, 6, none⟩ = some (.int .i64 c.batch) ∧ w'.cell? ⟨g, 15, none⟩ = some (.int .i64 (nx : Int))) := hid (fun w' ho => by
    have h9 := HK.out.onS ho (fun e => by
      have h1 := Hw.out.ne
      rcases e with e | e | e
      · exact h1.1 e
      · exact h1.2 e
      · have := HK.out.lt; omega)
    exact ⟨Bk.cell h9 0, Bk.cell h9 1, Bk.cell h9 6, Bk.cell h9 15⟩)
  have hz : Below w.heap.size w w.drew := (Below.refl _ _).drew
  have hzA : Below w.heap.size w (w.alloc (.cells #[.int .i64 0, .int .i64 0, .slice none 0 0] 45)).drew := hen.drew
  have ho0 : OnS (fun b => b = gb ∨ some b = p ∨ b = w.heap.size) w w.drew := (OnS.refl _ _).drew
  have hoA : OnS (fun b => b = gb ∨ some b = p ∨ b = w.heap.size) w (w.alloc (.cells #[.int .i64 0, .int .i64 0, .slice none 0 0] 45)).drew := OnS.below hzA
  have KZ := hid ((Bk.new w 45 #[.int .i64 0, .int .i64 0, .slice none 0 0]).drew)
  have HLT := hid h.lt
  clear h hW hbk hY hm hLe hm9 hokL hte hyx hk hnxe ht
  go_enter Try.func52, Try.ntmps52
  go_wp2_with fail
  go_region_held3 (fun w' => w'.cell? ⟨g, 0, none⟩ = some (.pointer (some ⟨gb, 0, none⟩)) ∧ w'.cell? ⟨g, 1, none⟩ = some (.int .i64 nd) ∧ w'.cell? ⟨g, 6, none⟩ = some (.int .i64 c.batch) ∧ w'.cell? ⟨g, 15, none⟩ = some (.int .i64 (nx : Int))) (first | (with_reducible exact HS.out _ ho0) | (with_reducible exact HS.out _ hoA) | (with_reducible exact HS.out _ (OnS.below hen)) | (with_reducible exact HS.out _ ho1) | (with_reducible exact HS.out _ (OnS.alloc2 ho1 _)) | (with_reducible exact HS.out _ (ho1.cell _ 0 _ (Or.inr (Or.inr rfl)))) | (with_reducible exact HS.out _ ((ho1.cell _ 0 _ (Or.inr (Or.inr rfl))).cell _ 1 _ (Or.inr (Or.inr rfl)))) | (with_reducible exact HS.out _ (((ho1.cell _ 0 _ (Or.inr (Or.inr rfl))).cell _ 1 _ (Or.inr (Or.inr rfl))).cell _ 2 _ (Or.inr (Or.inr rfl))))) (first
    | (go_at_call 88
       ((with_reducible refine (HTK.out _ hz).mono ?_); rintro e w3 ⟨Al, cL, rfl, hgt, hbf, hot⟩)
       have hwb := hz
       have ho1 := ho0.trans (hot.imp fun b _ hb => hb.elim Or.inl fun hb => Or.inr (Or.inl hb)))
    | (go_at_call 88
       ((with_reducible refine (HTK.out _ hzA).mono ?_); rintro e w3 ⟨Al, cL, rfl, hgt, hbf, hot⟩)
       have hwb := hzA
       have ho1 := hoA.trans (hot.imp fun b _ hb => hb.elim Or.inl fun hb => Or.inr (Or.inl hb))
       have kz3 := KZ.out.onS hot (fun e => by
         rcases e with e | e
         · have := HLT.out gb (Or.inr (Or.inl rfl)); omega
         · have := HLT.out w.heap.size (Or.inr (Or.inr e)); omega)
       have z0 := Bk.cell kz3 0
       have z1 := Bk.cell kz3 1
       have z2 := Bk.cell kz3 2
       have u0 := Bk.frozen kz3 0
       have u1 := Bk.frozen kz3 1
       have u2 := Bk.frozen kz3 2))
  all_goals
    have hX3 : ExH w3 g gb p nd c z v { x with buf := Y } := (Hw.out.up hwb).buf hot hbf (Or.inl rfl) ⟨rfl, rfl, rfl, rfl⟩ rfl
    have hoB : OnS (fun b => exS g gb p b ∨ b = w.heap.size) w w3 := (OnS.below hwb).trans (hot.imp fun b _ hb => Or.inl (Or.inr hb))
    first
    | (have h7 := btons3 w3 w.heap.size (.int .i64 nd) (.int .i64 (nx : Int)) (.slice Al m cL)
       have KZ4 := hid (flset3 kz3 (.int .i64 nd) (.int .i64 (nx : Int)) (.slice Al m cL))
       have HX4 := hid (hX3.kds h7 fun b e => e ▸ kz3.kd)
       have HG4 := hid (flgb2 hgt h7 fun q hq e => Kd.ne (e ▸ kz3.kd) (by decide) (hgt.kind q hq))
       have HO4 := hid ((hoB.trans (h7.imp fun b _ e => Or.inr e)).imp (T := exS g gb p) fun b hb e => e.elim id fun e => by omega)
       clear z0 z1 z2 u0 u1 u2 kz3 h7 ho1 hX3 hoB hgt hbf hot
       generalize ((w3.setCell ⟨w.heap.size, 0, none⟩ (.int .i64 nd)).setCell ⟨w.heap.size, 1, none⟩ (.int .i64 (nx : Int))).setCell ⟨w.heap.size, 2, none⟩ (.slice Al m cL) = w4 at *
       generalize w.heap.size = bz at KZ4 ⊢)
    | (have h7 := enew w3 (.cells #[.int .i64 nd, .int .i64 (nx : Int), .slice Al m cL] 45)
       have KZ4 := hid (Bk.new w3 45 #[.int .i64 nd, .int .i64 (nx : Int), .slice Al m cL])
       have HX4 := hid (hX3.up h7)
       have HG4 := hid (hgt.below h7)
       have HO4 := hid ((hoB.up h7).imp (T := exS g gb p) fun b hb e => e.elim id fun e => by omega)
       clear h7 ho1 hX3 hoB hgt hbf hot
       generalize w3.alloc (.cells #[.int .i64 nd, .int .i64 (nx : Int), .slice Al m cL] 45) = w4 at *
       generalize w3.heap.size = bz at KZ4 ⊢)
    have hx4 := HX4.out
    have q14 : w4.cell? ⟨g, 14, none⟩ = some v := Bk.cell hx4.k 14
    have q9 : w4.cell? ⟨g, 9, none⟩ = some (.int .i64 c.retry) := Bk.cell hx4.k 9
    have b0 : w4.cell? ⟨bz, 0, none⟩ = some (.int .i64 nd) := Bk.cell KZ4.out 0
    have b1 : w4.cell? ⟨bz, 1, none⟩ = some (.int .i64 (nx : Int)) := Bk.cell KZ4.out 1
    have b2 : w4.cell? ⟨bz, 2, none⟩ = some (.slice Al m cL) := Bk.cell KZ4.out 2
    have hz4 : Below w4.heap.size w4 w4.drew := (Below.refl _ _).drew
    have hgx4 : GX encSp 11 w4 (· < w4.heap.size) Al L := by
      obtain ⟨A', c', e, k1, -⟩ := GB.reads encSp_len HG4.out
      simp only [Value.slice.injEq] at e
      obtain ⟨rfl, -, rfl⟩ := e
      exact k1.imp fun b hb => hb.2
    have HGX := hid hgx4
    have HSD := hid (flsend_s v x.way nd (nx : Int) Al m cL L now c.retry w4.drew (hx4.f.up hz4).flv HW.out.g (hgx4.up hz4) (hid HM.out.1) HM.out.2.1)
    have HZ4 := hid hz4
    clear hx4 hz4 hgx4
    go_upto_region 2 with (fail)
    go_region_law (
      (go_simp
       go_at_call 89
       (with_reducible refine HSD.out.mono ?_)
       rintro e w6 ⟨A6, n6, c6, rfl, hf6, hb6⟩
       have k6 := (HX4.out.up HZ4.out).k.up hb6
       have p0 : w6.cell? ⟨g, 14, none⟩ = some v := Bk.cell k6 14
       have p1 := Bk.frozen k6 14))
    all_goals
      have H6 := hid (And.intro hf6 (And.intro ((HX4.out.up HZ4.out).up hb6) (And.intro ((KZ4.out.up HZ4.out).up hb6) (estep HZ4.out hb6))))
      clear hf6 hb6 k6 p0 p1 q14 q9 b0 b1 b2 HSD
      go_upto_region 3 with (fail)
      have h7o := (OnS.refl (fun b => b = g) w6).cell g 14 (.slice A6 n6 c6) rfl
      have k7 := exset14 H6.out.2.1.k (.slice A6 n6 c6)
      have H7 := hid (And.intro k7 h7o)
      generalize w6.setCell ⟨g, 14, none⟩ (.slice A6 n6 c6) = w7 at *
      have q15 : w7.cell? ⟨g, 15, none⟩ = some (.int .i64 (x.next : Int)) := Bk.cell k7 15
      have f15 := Bk.frozen k7 15
      rw [HNX.out] at q15
      have hadd : IntKind.i64.wrap ((nx : Int) + 1) = ((nx + 1 : Nat) : Int) := by rw [show (nx : Int) + 1 = ((nx + 1 : Nat) : Int) by omega]; exact IntWalk.i64_in _ (by omega)
      clear k7 h7o
      go_upto_region 4 with (fail)
      have hc1 : ((nx + 1 : Nat) : Int) = (nx : Int) + 1 := by omega
      have h8o := H7.out.2.cell g 15 (.int .i64 ((nx + 1 : Nat) : Int)) rfl
      have k8 := exset15 H7.out.1 (nx + 1)
      rw [hc1] at h8o k8
      have H8 := hid (And.intro k8 h8o)
      generalize w7.setCell ⟨g, 15, none⟩ (.int .i64 ((nx : Int) + 1)) = w8 at *
      have q16 : w8.cell? ⟨g, 16, none⟩ = some (.int .i64 x.last) := Bk.cell k8 16
      have f16 := Bk.frozen k8 16
      clear k8 h8o q15 f15 hadd hc1
      go_upto_region 5 with (fail)
      have h9o := H8.out.2.cell g 16 (.int .i64 now) rfl
      have k9 := exset16 H8.out.1 now
      have H9 := hid (And.intro k9 h9o)
      generalize w8.setCell ⟨g, 16, none⟩ (.int .i64 now) = w9 at *
      have hgk : ∀ b e, Kd w6 b e → 103 ≠ e → ¬ b = g := fun b e h1 h2 h3 => Kd.ne H6.out.2.1.k.kd h2 (h3 ▸ h1)
      have kz9 := H6.out.2.2.1.onS h9o (hgk _ _ H6.out.2.2.1.kd (by decide))
      have b0 : w9.cell? ⟨bz, 0, none⟩ = some (.int .i64 nd) := Bk.cell kz9 0
      have b1 : w9.cell? ⟨bz, 1, none⟩ = some (.int .i64 (nx : Int)) := Bk.cell kz9 1
      have b2 : w9.cell? ⟨bz, 2, none⟩ = some (.slice Al m cL) := Bk.cell kz9 2
      have hgb9 := flgb2 (HG4.out.below H6.out.2.2.2) h9o fun q hq => hgk q _ ((HG4.out.below H6.out.2.2.2).kind q hq) (by decide)
      have hgx9 : GX encSp 11 w9 (· < w9.heap.size) Al L := by
        obtain ⟨A', c', e, k1, -⟩ := GB.reads encSp_len hgb9
        simp only [Value.slice.injEq] at e
        obtain ⟨rfl, -, rfl⟩ := e
        exact k1.imp fun b hb => hb.2
      have HBY := hid (exbytes_any nd (nx : Int) Al m cL L w9 hgx9 (hid HM.out.1) (by have := HM.out.2.1; omega) HM.out.2.2.1 (hid HM.out.2.2.2))
      clear k9 h9o q16 f16 kz9 hgb9 hgx9 hgk
      go_wp2_with fail
      refine HBY.out.mono ?_
      rintro e w10 ⟨rfl, hb10⟩
      have H10 := hid hb10
      clear hb10 HBY b0 b1 b2
      go_wp2_with fail
      go_returns
      have hkd : ∀ b e, Kd w6 b e → 103 ≠ e → ¬ b = g := fun b e h1 h2 h3 => Kd.ne H6.out.2.1.k.kd h2 (h3 ▸ h1)
      have hsz := HO4.out.size
      refine ⟨_, rfl, (H6.out.2.1.self (y := ⟨Y, x.way ++ [⟨nd, (nx : Int), L, 1, flDue now c.retry⟩], nx + 1, now, x.acked, x.given⟩) H9.out.2 H9.out.1 rfl ?_).up H10.out, ((HO4.out.up H6.out.2.2.2).trans (H9.out.2.imp fun b _ e => Or.inl e)).up H10.out⟩
      refine (H6.out.1.fln.imp fun b hb hn hp => ?_).onS H9.out.2 (fun b hb => hkd b _ hb (by decide)) (fun b hb _ => hkd b _ hb (by decide))
      have h1 := HLT.out b (Or.inr (Or.inr hp))
      have h2 := HZ4.out.size
      omega
end Go.Proofs.Ytpfhmpblcmednaa
namespace Go.Proofs.Ytpfhmpblcmednaa
set_option linter.unusedVariables false
set_option linter.unusedSimpArgs false
open Go.RowKit Go.Joins

/-- What an exporter may be: few batches under way, few spans in each, all of them spans that may be, times in their range. -/
structure ExP (nd : Int) (c : Lim) (x : Exs) : Prop where
  lim : LimOk c
  w : ExW x.way
  b : ∀ s ∈ x.buf.1, okSp s
  nx : x.next ≤ 1000000
  gv : x.given ≤ 1000000
  ac : x.acked ≤ 1000000
  lo : x.buf.2 ≤ 1000000
  la : 0 ≤ x.last ∧ x.last ≤ 1099511627776
theorem FlN.slice {w : World} {N : Nat → Prop} {v : Value} {l : List Snt} (h : FlN w N v l) : ∃ A cap, v = .slice A l.length cap := by
  obtain ⟨A, n, c, U, rfl, h1, h2, h3, h4⟩ := h
  obtain ⟨A', c', e, -⟩ := GB.reads encFs_len h1
  simp only [Value.slice.injEq] at e
  refine ⟨A, c, ?_⟩
  rw [← h4, List.length_map, e.2.1]
theorem flStep_tries (l : List Snt) (now retry tries : Int) {B : Int} (h : ∀ y ∈ l, B ≤ y.tries) : ∀ y ∈ (flStep l now retry tries).1, B ≤ y.tries := by
  rw [flStep_R]
  induction l with
  | nil => intro y hy; cases hy
  | cons u l ih =>
    have hu := h u (List.mem_cons_self ..)
    have ih2 := ih fun y hy => h y (List.mem_cons_of_mem _ hy)
    intro y hy
    rw [flR_cons] at hy
    by_cases c1 : flTime now < u.due
    · rw [if_pos c1] at hy
      rcases List.mem_cons.1 hy with rfl | hy
      · exact hu
      · exact ih2 y hy
    · rw [if_neg c1] at hy
      by_cases c2 : tries ≤ u.tries
      · rw [if_pos c2] at hy
        exact ih2 y hy
      · rw [if_neg c2] at hy
        rcases List.mem_cons.1 hy with rfl | hy
        · show B ≤ u.tries + 1
          omega
        · exact ih2 y hy
/-- The exporter behind a call that sends: in other blocks. -/
def ExE (w : World) (g gb : Nat) (p : Option Nat) (nd : Int) (c : Lim) (z : Lw) (y : Exs) (w' : World) : Prop := ∃ v' p', ExH w' g gb p' nd c z v' y ∧ OnS (exS g gb p) w w' ∧ (p' = p ∨ ∃ q, p' = some q ∧ w.heap.size ≤ q)
set_option maxRecDepth 100000 in
set_option maxHeartbeats 8000000 in
theorem exstep_any (g gb : Nat) (p : Option Nat) (nd : Int) (c : Lim) (z : Lw) (v : Value) (x : Exs) (raw : Int) (w : World) (h : ExH w g gb p nd c z v x) (hP : ExP nd c x) {y : Exs} {o : List Snt} (H : Hid (exStep nd c x raw = (y, o))) :
    Calls Try.prog 16 #[.pointer (some ⟨g, 0, none⟩), .int .i64 raw] w fun e w' => ∃ A k cap, e = .returned (.slice A k cap) ∧ o.length = k ∧ GB encS1 1 9 w' w.heap.size (.slice A k cap) (o.map btT) ∧ ExE w g gb p nd c z y w' := by
  obtain ⟨t, ht⟩ : ∃ t, flTime raw = t := ⟨_, rfl⟩
  have htr := flTime_in raw
  rw [ht] at htr
  have hmm : min (max raw 0) 1099511627776 = t := by rw [← ht]; unfold flTime; omega
  obtain ⟨⟨R, U2, G⟩, hst⟩ : ∃ r, flStep x.way t c.retry c.tries = r := ⟨_, rfl⟩
  have e := H.out
  unfold exStep at e
  simp only [ht, hst] at e
  have HAG := hid (exagain_any g gb p nd c z v x t w h hP.w hP.lim hP.gv)
  rw [hst] at HAG
  obtain ⟨hs1, hs2⟩ := flR_sub t c.retry c.tries x.way
  rw [← flStep_R, hst] at hs1 hs2
  have hlR := flStep_len x.way t c.retry c.tries
  rw [hst] at hlR
  have hfew := flStep_few t c.retry c.tries x.way ([], [], [])
  have hst0 : x.way.foldl (flStep1 t c.retry c.tries) ([], [], []) = (R, U2, G) := hst
  rw [hst0] at hfew
  simp only [List.length_nil, Nat.zero_add] at hfew hlR
  have htr1 := flStep_tries x.way t c.retry c.tries hP.w.tr
  rw [hst] at htr1
  have HR : Hid (ExW R) := hid ⟨⟨by have := hP.w.g.1; omega, fun y hy => by
      obtain ⟨q, hq, -, -, e⟩ := hs1 y hy
      rw [e]
      exact hP.w.g.2 q hq⟩, htr1, fun y hy => by
      obtain ⟨q, hq, -, -, e⟩ := hs1 y hy
      rw [e]
      exact hP.w.ok q hq⟩
  have HU := hid (show U2.length ≤ 1000 from by have := hP.w.g.1; omega)
  have HPp := hid hP
  have HE := hid e
  have HLT := hid h.lt
  clear ht hst hst0 hs1 hs2 hlR hfew htr1 e H h hP
  go_enter Try.func16, Try.ntmps16
  go_wp2_with fail
  refine HAG.out.mono ?_
  rintro e w1 ⟨vs, A1, n1, c1, rfl, hgs, rfl, hx1, ho1⟩
  obtain ⟨k, hk⟩ : ∃ k, U2.length = k := ⟨_, rfl⟩
  obtain ⟨As, cs, evs, -⟩ := GB.reads encS1_len hgs
  rw [List.length_map, hk] at evs
  subst evs
  simp only at hx1
  obtain ⟨r, hr⟩ : ∃ r, exNew c { x with way := R, given := x.given + flSpans G } R.length t = r := ⟨_, rfl⟩
  have hr2 : exNew c x R.length t = r := hr
  have HRD := hid (exready_any g gb p nd c z A1 R.length c1 { x with way := R, given := x.given + flSpans G } t w1 hx1 htr HPp.out.la (hid hr))
  have H1 := hid (And.intro hx1 (And.intro ho1 (And.intro hgs hk)))
  have e2 := HE.out
  rw [hr2] at e2
  have HE2 := hid e2
  clear e2
  clear hx1 ho1 hgs hr hr2 HAG hk
  go_wp2_with fail
  refine HRD.out.mono ?_
  rintro e w2 ⟨rfl, hb2⟩
  have H2 := hid (And.intro (H1.out.1.up hb2) (And.intro (H1.out.2.1.up hb2) (H1.out.2.2.1.below hb2)))
  clear hb2 HRD
  cases r
  · have e9 := HE2.out
    simp only [Bool.false_eq_true, if_false, Prod.mk.injEq] at e9
    obtain ⟨rfl, rfl⟩ := e9
    go_wp2_with fail
    go_returns
    refine ⟨As, k, cs, rfl, H1.out.2.2.2, H2.out.2.2, _, p, H2.out.1, H2.out.2.1.imp fun b _ e => Or.inl e, Or.inl rfl⟩
  · have e9 := HE2.out
    simp only [if_true, Prod.mk.injEq] at e9
    obtain ⟨rfl, rfl⟩ := e9
    obtain ⟨tx, htx⟩ : ∃ tx, btT (exB nd c { x with way := R, given := x.given + flSpans G } t) = tx := ⟨_, rfl⟩
    have HBG := hid (exbegin_any g gb p nd c z (.slice A1 R.length c1) { x with way := R, given := x.given + flSpans G } t w2 H2.out.1 HR.out HPp.out.b HPp.out.lim HPp.out.nx (hid htx))
    have HTX := hid htx
    clear htx
    go_wp2_with fail
    refine HBG.out.mono ?_
    rintro e w3 ⟨v3, rfl, hx3, ho3⟩
    have hen3 := enew w3 (.cells #[.string (bs tx)] 9)
    have hx3s := gx_new (M := [tx]) encS1_len (Bk.new w3 9 #[.string (bs tx)]) rfl
    have hgs3 : GB encS1 1 9 w3 w.heap.size (.slice As k cs) (U2.map btT) := flgb2 H2.out.2.2 ho3 fun q hq e => by
      have hq1 := (World.ownsRow.lt H2.out.2.2 q hq).1
      have := HLT.out q e
      omega
    have H3 := hid (And.intro (hx3.up hen3) (And.intro (ho3.up hen3) (And.intro (hgs3.below hen3) hx3s)))
    have HSZ := hid (Nat.le_trans H2.out.2.1.size (Nat.le_trans ho3.size hen3.size))
    clear hx3 ho3 hen3 hgs3 hx3s HBG
    go_wp2_with (at_builtin; refine wpList_append_gxl rowS1 rfl _ _ rfl w.heap.size _ (U2.map btT) [tx] w3.heap.size 1 (fun b => b = w3.heap.size) rfl H3.out.2.2.1 rfl H3.out.2.2.2 (by simp) (by rw [List.length_map]; have := HU.out; simp only [List.length_cons, List.length_nil]; omega) HSZ.out ?_)
    intro g6 c6 w6 m6 hm6 hG6 hg6 hl6
    have H6 := hid (And.intro hG6 (And.intro hg6 hm6.out))
    clear hG6 hg6 hl6 hm6
    go_wp2_with fail
    go_returns
    have hkS : ∀ b, some b = (Value.slice As k cs).ownBlock → Kd (w3.alloc (.cells #[.string (bs tx)] 9)) b 9 := fun b hb => H3.out.2.2.1.kind b hb.symm
    have ho6 : OnS (fun b => some b = (Value.slice As k cs).ownBlock) _ w6 := OnS.grown H6.out.2.1 fun b hb => hb.symm
    have hx6 : ExH w6 g gb p nd c z v3 _ := ⟨H3.out.1.k.onS ho6 fun e => Kd.ne H3.out.1.k.kd (by decide) (hkS _ e), H3.out.1.b.onS ho6 (fun e => Kd.ne H3.out.1.b.kd.1 (by decide) (hkS _ e)) (fun q hq e => Kd.ne (H3.out.1.b.kd.2 q hq) (by decide) (hkS _ e)), H3.out.1.f.onS ho6 (fun b hb e => Kd.ne hb (by decide) (hkS _ e)) (fun b hb _ e => Kd.ne hb (by decide) (hkS _ e))⟩
    refine ⟨_, m6, c6, rfl, ?_, ?_, v3, p, hx6, ?_, Or.inl rfl⟩
    · rw [List.length_append, H6.out.2.2]; rfl
    · rw [List.map_append, List.map_cons, List.map_nil]
      have : btT ⟨nd, (x.next : Int), (bfTake x.buf c.batch).2, 1, flDue t c.retry⟩ = tx := HTX.out
      rw [this]
      exact H6.out.1
    · refine (((H2.out.2.1.imp (T := fun b => exS g gb p b ∨ w.heap.size ≤ b) fun b _ e => Or.inl (Or.inl e)).trans (H3.out.2.1.imp fun b _ e => Or.inl e)).trans (ho6.imp fun b _ e => Or.inr (World.ownsRow.lt H3.out.2.2.1 b e.symm).1)).imp fun b hb e => e.elim id fun e => by omega
set_option maxRecDepth 100000 in
set_option maxHeartbeats 8000000 in
theorem exput_any (g gb : Nat) (p : Option Nat) (nd : Int) (c : Lim) (z : Lw) (v : Value) (x : Exs) (s : Sp) (w : World) (h : ExH w g gb p nd c z v x) (hs : s.name.length ≤ 140737488351232) (hlo : x.buf.2 ≤ 1000000) {y : Exs} {r : Int} (H : Hid (exPut c x s = (y, r))) :
    Calls Try.prog 14 #[.pointer (some ⟨g, 0, none⟩), .agg #[.int .u64 (s.hi : Int), .int .u64 (s.lo : Int), .int .u64 (s.id : Int), .int .u64 (s.up : Int), .string (bs s.name), .int .i64 s.status, .int .i64 s.seq, .int .i64 s.kids, .bool s.shade, .int .i64 s.start, .int .i64 s.fin]] w fun e w' => e = .returned (.int .i64 r) ∧ ExE w g gb p nd c z y w' := by
  have hnot := enot
  obtain ⟨k, hk⟩ : ∃ k, chkS s = k := ⟨_, rfl⟩
  have HCK := hid (fun w2 => spcheck_at s.hi s.lo s.id s.up s.name s.status s.seq s.kids s.shade s.start s.fin w2 hs (hid hk))
  have hb1 := enew w (.cells #[.int .u64 (s.hi : Int), .int .u64 (s.lo : Int), .int .u64 (s.id : Int), .int .u64 (s.up : Int), .string (bs s.name), .int .i64 s.status, .int .i64 s.seq, .int .i64 s.kids, .bool s.shade, .int .i64 s.start, .int .i64 s.fin] 37)
  have KS := hid (Bk.new w 37 #[.int .u64 (s.hi : Int), .int .u64 (s.lo : Int), .int .u64 (s.id : Int), .int .u64 (s.up : Int), .string (bs s.name), .int .i64 s.status, .int .i64 s.seq, .int .i64 s.kids, .bool s.shade, .int .i64 s.start, .int .i64 s.fin])
  have HX := hid (h.up hb1)
  have HB1 := hid hb1
  have HLT := hid h.lt
  have e := H.out
  unfold exPut at e
  rw [hk] at e
  have HE := hid e
  clear e H h hb1 hk
  go_enter Try.func14, Try.ntmps14
  go_upto_region 3 with (fail)
  generalize w.alloc (.cells #[.int .u64 (s.hi : Int), .int .u64 (s.lo : Int), .int .u64 (s.id : Int), .int .u64 (s.up : Int), .string (bs s.name), .int .i64 s.status, .int .i64 s.seq, .int .i64 s.kids, .bool s.shade, .int .i64 s.start, .int .i64 s.fin] 37) = v0 at *
  have x0 := Bk.cell KS.out 0
  have x1 := Bk.cell KS.out 1
  have x2 := Bk.cell KS.out 2
  have x3 := Bk.cell KS.out 3
  have x4 := Bk.cell KS.out 4
  have x5 := Bk.cell KS.out 5
  have x6 := Bk.cell KS.out 6
  have x7 := Bk.cell KS.out 7
  have x8 := Bk.cell KS.out 8
  have x9 := Bk.cell KS.out 9
  have x10 := Bk.cell KS.out 10
  go_wp2_with fail
  refine (HCK.out _).mono ?_
  rintro e w1 ⟨rfl, hb⟩
  have HX1 := hid (HX.out.up hb)
  have KS1 := hid (KS.out.up hb)
  have HB2 := hid (estep HB1.out hb)
  clear hb HCK x0 x1 x2 x3 x4 x5 x6 x7 x8 x9 x10
  by_cases h0 : k = 0
  · subst h0
    obtain ⟨⟨Y, ok⟩, hY⟩ : ∃ r, bfPut (exRoom c) x.buf s = r := ⟨_, rfl⟩
    have e9 := HE.out
    simp only [ne_eq, not_true_eq_false, if_false, hY, Prod.mk.injEq] at e9
    obtain ⟨rfl, rfl⟩ := e9
    have HPT := hid (fun w2 (hb : Below w1.heap.size w1 w2) => bfput_any gb p (exRoom c) x.buf s w2 (HX1.out.b.up hb) (by omega) (hid hY))
    have hz : Below w1.heap.size w1 w1.drew := (Below.refl _ _).drew
    have hng : Hid (¬ (w.heap.size = gb ∨ some w.heap.size = p)) := hid (fun e => by
      rcases e with e | e
      · have := HLT.out gb (Or.inr (Or.inl rfl)); omega
      · have := HLT.out w.heap.size (Or.inr (Or.inr e)); omega)
    have HS : Hid (∀ w' : World, OnS (fun b => b = gb ∨ some b = p) w1 w' → w'.cell? ⟨g, 0, none⟩ = some (.pointer (some ⟨gb, 0, none⟩)) ∧ w'.cell? ⟨w.heap.size, 0, none⟩ = some (.int .u64 (s.hi : Int)) ∧ w'.cell? ⟨w.heap.size, 1, none⟩ = some (.int .u64 (s.lo : Int)) ∧ w'.cell? ⟨w.heap.size, 2, none⟩ = some (.int .u64 (s.id : Int)) ∧ w'.cell? ⟨w.heap.size, 3, none⟩ = some (.int .u64 (s.up : Int)) ∧ w'.cell? ⟨w.heap.size, 4, none⟩ = some (.string (bs s.name)) ∧ w'.cell? ⟨w.heap.size, 5, none⟩ = some (.int .i64 s.status) ∧ w'.cell? ⟨w.heap.size, 6, none⟩ = some (.int .i64 s.seq) ∧ w'.cell? ⟨w.heap.size, 7, none⟩ = some (.int .i64 s.kids) ∧ w'.cell? ⟨w.heap.size, 8, none⟩ = some (.bool s.shade) ∧ w'.cell? ⟨w.heap.size, 9, none⟩ = some (.int .i64 s.start) ∧ w'.cell? ⟨w.heap.size, 10, none⟩ = some (.int .i64 s.fin)) := hid (fun w' ho => by
      have k1 := HX1.out.k.onS ho (fun e => by
        rcases e with e | e
        · exact HX1.out.ne.1 e
        · exact HX1.out.ne.2 e)
      have k2 := KS1.out.onS ho hng.out
      exact ⟨Bk.cell k1 0, Bk.cell k2 0, Bk.cell k2 1, Bk.cell k2 2, Bk.cell k2 3, Bk.cell k2 4, Bk.cell k2 5, Bk.cell k2 6, Bk.cell k2 7, Bk.cell k2 8, Bk.cell k2 9, Bk.cell k2 10⟩)
    have ho0 : OnS (fun b => b = gb ∨ some b = p) w1 w1.drew := (OnS.refl _ _).drew
    clear hY
    go_wp2_with fail
    go_region_held3 (fun w' => w'.cell? ⟨g, 0, none⟩ = some (.pointer (some ⟨gb, 0, none⟩)) ∧ w'.cell? ⟨w.heap.size, 0, none⟩ = some (.int .u64 (s.hi : Int)) ∧ w'.cell? ⟨w.heap.size, 1, none⟩ = some (.int .u64 (s.lo : Int)) ∧ w'.cell? ⟨w.heap.size, 2, none⟩ = some (.int .u64 (s.id : Int)) ∧ w'.cell? ⟨w.heap.size, 3, none⟩ = some (.int .u64 (s.up : Int)) ∧ w'.cell? ⟨w.heap.size, 4, none⟩ = some (.string (bs s.name)) ∧ w'.cell? ⟨w.heap.size, 5, none⟩ = some (.int .i64 s.status) ∧ w'.cell? ⟨w.heap.size, 6, none⟩ = some (.int .i64 s.seq) ∧ w'.cell? ⟨w.heap.size, 7, none⟩ = some (.int .i64 s.kids) ∧ w'.cell? ⟨w.heap.size, 8, none⟩ = some (.bool s.shade) ∧ w'.cell? ⟨w.heap.size, 9, none⟩ = some (.int .i64 s.start) ∧ w'.cell? ⟨w.heap.size, 10, none⟩ = some (.int .i64 s.fin)) (first | (with_reducible exact HS.out _ ho0) | (with_reducible exact HS.out _ ho1)) (first
      | (go_at_call 47
         ((with_reducible refine (HPT.out _ hz).mono ?_); rintro e w3 ⟨rfl, p', hbf, hot, hpp⟩)
         have ho1 := ho0.trans hot))
    all_goals
      have h3 := (HX1.out.up hz).buf (y := { x with buf := Y }) hot hbf (hpp.imp id fun ⟨q, e1, e2⟩ => ⟨q, e1, e2⟩) ⟨rfl, rfl, rfl, rfl⟩ rfl
      have H3 := hid (And.intro h3 (And.intro ((OnS.below HB2.out).trans ((OnS.below hz).trans (hot.imp (T := exS g gb p) fun b _ e => Or.inr e))) (And.intro hpp (estep HB2.out hz).size)))
      clear hot hbf hpp hz ho0 ho1 h3 HPT HS
      cases ok
      · go_wp2_with fail
        go_returns
        refine ⟨rfl, v, p', H3.out.1, H3.out.2.1, H3.out.2.2.1.imp id fun ⟨q, e1, e2⟩ => ⟨q, e1, ?_⟩⟩
        have := H3.out.2.2.2
        omega
      · go_wp2_with fail
        go_returns
        refine ⟨rfl, v, p', H3.out.1, H3.out.2.1, H3.out.2.2.1.imp id fun ⟨q, e1, e2⟩ => ⟨q, e1, ?_⟩⟩
        have := H3.out.2.2.2
        omega
  · have hd : decide (k = 0) = false := decide_eq_false h0
    have hne : (k != 0) = true := by simpa using h0
    have hneq : (k == 0) = false := by simpa using h0
    have e9 := HE.out
    rw [if_pos h0] at e9
    simp only [Prod.mk.injEq] at e9
    obtain ⟨rfl, rfl⟩ := e9
    go_wp2_with fail
    go_returns
    exact ⟨rfl, v, p, HX1.out, OnS.below HB2.out, Or.inl rfl⟩
set_option maxRecDepth 100000 in
set_option maxHeartbeats 8000000 in
theorem exack_any (g gb : Nat) (p : Option Nat) (nd : Int) (c : Lim) (z : Lw) (v : Value) (x : Exs) (q : Int) (w : World) (h : ExH w g gb p nd c z v x) (hG : FlG x.way) (hac : x.acked ≤ 1000000) {y : Exs} {k : Nat} (H : Hid (exAck x q = (y, k))) :
    Calls Try.prog 18 #[.pointer (some ⟨g, 0, none⟩), .int .i64 q] w fun e w' => e = .returned (.int .i64 (k : Int)) ∧ ExE w g gb p nd c z y w' := by
  obtain ⟨⟨R, k0⟩, hR⟩ : ∃ r, flAck x.way q = r := ⟨_, rfl⟩
  have e := H.out
  unfold exAck at e
  simp only [hR, Prod.mk.injEq] at e
  obtain ⟨rfl, rfl⟩ := e
  have hk9 : k0 ≤ 1000000 := by
    have h1 := flAck_all x.way q
    rw [hR] at h1
    have h2 := flSpans_1000 x.way hG.2
    have h3 : x.way.length * 1000 ≤ 1000 * 1000 := Nat.mul_le_mul_right _ hG.1
    simp only at h1
    omega
  have HFA := hid (flack_k v x.way q w h.f.flv hG)
  unfold FlAk at HFA
  simp only [hR] at HFA
  have Hw := hid h
  have HLT := hid h.lt
  have q14 : w.cell? ⟨g, 14, none⟩ = some v := Bk.cell h.k 14
  clear H hG h hR
  go_enter Try.func18, Try.ntmps18
  go_wp2_with fail
  refine HFA.out.mono ?_
  rintro e w1 ⟨A1, n1, c1, k1, rfl, hf1, rfl, hb1⟩
  have H1 := hid (And.intro hf1 (And.intro (Hw.out.up hb1) hb1))
  have p0 : w1.cell? ⟨g, 14, none⟩ = some v := Bk.cell (Hw.out.up hb1).k 14
  have p1 := Bk.frozen (Hw.out.up hb1).k 14
  clear hf1 hb1 HFA q14
  go_upto_region 5 with (fail)
  have k2 := exset14 H1.out.2.1.k (.slice A1 n1 c1)
  have HAd := hid (nadd_any ⟨g, 17, none⟩ x.acked k0 _ (Bk.cell k2 17) (Bk.frozen k2 17) (by omega))
  have H2 := hid (And.intro k2 ((OnS.refl (fun b => b = g) w1).cell g 14 (.slice A1 n1 c1) rfl))
  clear k2 p0 p1
  generalize w1.setCell ⟨g, 14, none⟩ (.slice A1 n1 c1) = w2 at *
  go_wp2_with fail
  refine HAd.out.mono ?_
  rintro e w3 ⟨rfl, hw3⟩
  have HW := hid hw3
  clear hw3 HAd
  go_wp2_with fail
  go_returns
  have e3 := HW.out
  subst e3
  have ho3 := H2.out.2.cell g 17 (.int .i64 ((x.acked + k0 : Nat) : Int)) rfl
  have hkd : ∀ b e, Kd w1 b e → 103 ≠ e → ¬ b = g := fun b e h1 h2 h3 => Kd.ne H1.out.2.1.k.kd h2 (h3 ▸ h1)
  refine ⟨rfl, _, p, H1.out.2.1.self (y := { x with way := R, acked := x.acked + k0 }) ho3 (exset17 H2.out.1 (x.acked + k0)) rfl ?_, (OnS.below H1.out.2.2).trans (ho3.imp fun b _ e => Or.inl e), Or.inl rfl⟩
  refine (H1.out.1.fln.imp fun b hb hn hp => ?_).onS ho3 (fun b hb => hkd b _ hb (by decide)) (fun b hb _ => hkd b _ hb (by decide))
  have := HLT.out b (Or.inr (Or.inr hp))
  omega
set_option maxRecDepth 100000 in
set_option maxHeartbeats 8000000 in
theorem exnew_no (nd : Int) (c : Lim) (z : Lw) (Ai : Option Addr) (ni ci : Nat) (w : World) (hn : 7 < nd) :
    Calls Try.prog 13 #[.int .i64 nd, .agg #[.int .i64 z.work, .int .i64 z.side, .int .i64 z.aux, .int .i64 c.buffer, .int .i64 c.batch, .int .i64 c.every, .int .i64 c.flight, .int .i64 c.retry, .int .i64 c.tries, .int .i64 z.traces, .int .i64 z.lines, .slice Ai ni ci]] w fun e w' => e = .returned (.tuple #[.pointer none, .int .i64 12]) ∧ Below w.heap.size w w' := by
  have hb := hid (enew w (.cells #[.int .i64 z.work, .int .i64 z.side, .int .i64 z.aux, .int .i64 c.buffer, .int .i64 c.batch, .int .i64 c.every, .int .i64 c.flight, .int .i64 c.retry, .int .i64 c.tries, .int .i64 z.traces, .int .i64 z.lines, .slice Ai ni ci] 24))
  have hd0 : decide (nd < 0) = false := decide_eq_false (by omega)
  have hd1 : decide (7 < nd) = true := decide_eq_true hn
  go_enter Try.func13, Try.ntmps13
  go_wp2_with fail
  go_returns
  exact ⟨rfl, hb.out⟩
set_option maxRecDepth 100000 in
set_option maxHeartbeats 8000000 in
theorem exnew_any (nd : Int) (c : Lim) (z : Lw) (Ai : Option Addr) (ni ci : Nat) (w : World) (hn : 0 ≤ nd ∧ nd ≤ 7) (hc : limB c = true) :
    Calls Try.prog 13 #[.int .i64 nd, .agg #[.int .i64 z.work, .int .i64 z.side, .int .i64 z.aux, .int .i64 c.buffer, .int .i64 c.batch, .int .i64 c.every, .int .i64 c.flight, .int .i64 c.retry, .int .i64 c.tries, .int .i64 z.traces, .int .i64 z.lines, .slice Ai ni ci]] w fun e w' => ∃ g gb, e = .returned (.tuple #[.pointer (some ⟨g, 0, none⟩), .int .i64 0]) ∧ ExH w' g gb none nd c z (.slice none 0 0) ex0 ∧ (∀ b, exS g gb none b → w.heap.size ≤ b) ∧ Below w.heap.size w w' := by
  have hb1 := enew w (.cells #[.int .i64 z.work, .int .i64 z.side, .int .i64 z.aux, .int .i64 c.buffer, .int .i64 c.batch, .int .i64 c.every, .int .i64 c.flight, .int .i64 c.retry, .int .i64 c.tries, .int .i64 z.traces, .int .i64 z.lines, .slice Ai ni ci] 24)
  have KL := hid (Bk.new w 24 #[.int .i64 z.work, .int .i64 z.side, .int .i64 z.aux, .int .i64 c.buffer, .int .i64 c.batch, .int .i64 c.every, .int .i64 c.flight, .int .i64 c.retry, .int .i64 c.tries, .int .i64 z.traces, .int .i64 z.lines, .slice Ai ni ci])
  have HB1 := hid hb1
  have hd0 : decide (nd < 0) = false := decide_eq_false (by omega)
  have hd1 : decide (7 < nd) = false := decide_eq_false (by omega)
  have HCK := hid (fun w2 => excheck_any c z (.slice Ai ni ci) w2 (r := 0) (hid (by unfold limE; rw [if_pos hc])))
  clear hb1
  go_enter Try.func13, Try.ntmps13
  go_upto_region 1 with (fail)
  generalize w.alloc (.cells #[.int .i64 z.work, .int .i64 z.side, .int .i64 z.aux, .int .i64 c.buffer, .int .i64 c.batch, .int .i64 c.every, .int .i64 c.flight, .int .i64 c.retry, .int .i64 c.tries, .int .i64 z.traces, .int .i64 z.lines, .slice Ai ni ci] 24) = v0 at *
  have x0 := Bk.cell KL.out 0
  have x1 := Bk.cell KL.out 1
  have x2 := Bk.cell KL.out 2
  have x3 := Bk.cell KL.out 3
  have x4 := Bk.cell KL.out 4
  have x5 := Bk.cell KL.out 5
  have x6 := Bk.cell KL.out 6
  have x7 := Bk.cell KL.out 7
  have x8 := Bk.cell KL.out 8
  have x9 := Bk.cell KL.out 9
  have x10 := Bk.cell KL.out 10
  have x11 := Bk.cell KL.out 11
  go_wp2_with fail
  refine (HCK.out _).mono ?_
  rintro e w1 ⟨rfl, hb⟩
  have KL1 := hid (KL.out.up hb)
  have HB2 := hid (estep HB1.out hb)
  clear hb HCK x0 x1 x2 x3 x4 x5 x6 x7 x8 x9 x10 x11
  have p0 : w1.cell? ⟨w.heap.size, 11, none⟩ = some (.slice Ai ni ci) := Bk.cell KL1.out 11
  have p1 := Bk.frozen KL1.out 11
  go_upto_region 7 with (fail)
  have K2 : Hid (Bk (w1.setCell ⟨w.heap.size, 11, none⟩ (.slice none 0 0)) w.heap.size 24 #[.int .i64 z.work, .int .i64 z.side, .int .i64 z.aux, .int .i64 c.buffer, .int .i64 c.batch, .int .i64 c.every, .int .i64 c.flight, .int .i64 c.retry, .int .i64 c.tries, .int .i64 z.traces, .int .i64 z.lines, .slice none 0 0]) := hid (Bk.set_ KL1.out 11 (.slice none 0 0))
  have HB3 := hid (Below.setCell (p := ⟨w.heap.size, 11, none⟩) HB2.out (Nat.le_refl _) (.slice none 0 0))
  clear p0 p1
  generalize w1.setCell ⟨w.heap.size, 11, none⟩ (.slice none 0 0) = w2 at *
  have HNW := hid (fun w4 => bfnew_any c.buffer w4 (c := exRoom c) (hid rfl))
  have HS : Hid (∀ w' : World, Below w2.heap.size w2 w' → w'.cell? ⟨w.heap.size, 0, none⟩ = some (.int .i64 z.work) ∧ w'.cell? ⟨w.heap.size, 1, none⟩ = some (.int .i64 z.side) ∧ w'.cell? ⟨w.heap.size, 2, none⟩ = some (.int .i64 z.aux) ∧ w'.cell? ⟨w.heap.size, 3, none⟩ = some (.int .i64 c.buffer) ∧ w'.cell? ⟨w.heap.size, 4, none⟩ = some (.int .i64 c.batch) ∧ w'.cell? ⟨w.heap.size, 5, none⟩ = some (.int .i64 c.every) ∧ w'.cell? ⟨w.heap.size, 6, none⟩ = some (.int .i64 c.flight) ∧ w'.cell? ⟨w.heap.size, 7, none⟩ = some (.int .i64 c.retry) ∧ w'.cell? ⟨w.heap.size, 8, none⟩ = some (.int .i64 c.tries) ∧ w'.cell? ⟨w.heap.size, 9, none⟩ = some (.int .i64 z.traces) ∧ w'.cell? ⟨w.heap.size, 10, none⟩ = some (.int .i64 z.lines) ∧ w'.cell? ⟨w.heap.size, 11, none⟩ = some (.slice none 0 0)) := hid (fun w' hb => ⟨Bk.cell (K2.out.up hb) 0, Bk.cell (K2.out.up hb) 1, Bk.cell (K2.out.up hb) 2, Bk.cell (K2.out.up hb) 3, Bk.cell (K2.out.up hb) 4, Bk.cell (K2.out.up hb) 5, Bk.cell (K2.out.up hb) 6, Bk.cell (K2.out.up hb) 7, Bk.cell (K2.out.up hb) 8, Bk.cell (K2.out.up hb) 9, Bk.cell (K2.out.up hb) 10, Bk.cell (K2.out.up hb) 11⟩)
  have hz : Below w2.heap.size w2 w2.drew := (Below.refl _ _).drew
  go_region_held3 (fun w' => w'.cell? ⟨w.heap.size, 0, none⟩ = some (.int .i64 z.work) ∧ w'.cell? ⟨w.heap.size, 1, none⟩ = some (.int .i64 z.side) ∧ w'.cell? ⟨w.heap.size, 2, none⟩ = some (.int .i64 z.aux) ∧ w'.cell? ⟨w.heap.size, 3, none⟩ = some (.int .i64 c.buffer) ∧ w'.cell? ⟨w.heap.size, 4, none⟩ = some (.int .i64 c.batch) ∧ w'.cell? ⟨w.heap.size, 5, none⟩ = some (.int .i64 c.every) ∧ w'.cell? ⟨w.heap.size, 6, none⟩ = some (.int .i64 c.flight) ∧ w'.cell? ⟨w.heap.size, 7, none⟩ = some (.int .i64 c.retry) ∧ w'.cell? ⟨w.heap.size, 8, none⟩ = some (.int .i64 c.tries) ∧ w'.cell? ⟨w.heap.size, 9, none⟩ = some (.int .i64 z.traces) ∧ w'.cell? ⟨w.heap.size, 10, none⟩ = some (.int .i64 z.lines) ∧ w'.cell? ⟨w.heap.size, 11, none⟩ = some (.slice none 0 0)) (first | (with_reducible exact HS.out _ hz) | (with_reducible exact HS.out _ (hz.alloc hz.size _))) (first
    | (go_at_call 45
       ((with_reducible refine (HNW.out _).mono ?_); rintro e w3 ⟨gb, rfl, hgb, hbf, hb3⟩)
       have hz2 := hz
       have hz := hz.trans (hb3.mono hz.size)))
  all_goals
    have HX := hid (And.intro hgb (And.intro hbf (And.intro hz hz2.size)))
    clear hgb hbf hz hz2 hb3 HNW HS
    go_wp2_with fail
    go_returns
    have hen := enew w3 (.cells (exRow nd gb c z (.slice none 0 0) 0 0 0 0) 103)
    refine ⟨w3.heap.size, gb, rfl, ⟨Bk.new w3 103 (exRow nd gb c z (.slice none 0 0) 0 0 0 0), HX.out.2.1.up hen, FlN.nil _ _⟩, fun b hb => ?_, estep (estep HB3.out HX.out.2.2.1) hen⟩
    have h1 := HB3.out.size
    have h2 := HX.out.2.2.1.size
    rcases hb with rfl | rfl | hb
    · omega
    · have := HX.out.1; have := HX.out.2.2.2; omega
    · cases hb
end Go.Proofs.Ytpfhmpblcmednaa
namespace Go.Proofs.Ytpfhmpblcmednaa
set_option linter.unusedVariables false
set_option linter.unusedSimpArgs false
open Go.RowKit Go.Joins

theorem fseqnil (a : Option Addr) (n c : Nat) (w : World) : (binOp .eql 52 (.slice a n c) (.slice none 0 0)).run Try.prog w = .ok (.bool a.isNone) w := by
  simp only [binOp]
  simp [run_equal_slice_nil w 52 123 a n c Try.underlying52]
set_option maxRecDepth 100000 in
set_option maxHeartbeats 4000000 in
theorem clonefs_any (A : Option Addr) (n c : Nat) (L : List Fs) (w : World) (h1 : GX encFs 5 w (· < w.heap.size) A L) (hn : Hid (L.length = n)) (hl : n ≤ 1000000) :
    Calls Try.prog 62 #[.slice A n c] w fun e w' => ∃ v, e = .returned v ∧ GB encFs 5 123 w' w.heap.size v L ∧ Below w.heap.size w w' := by
  have heq := fseqnil
  rcases A with _ | ad
  · have hL0 : L = [] := by
      rcases L with _ | ⟨p, r⟩
      · rfl
      · obtain ⟨b, o, e, _⟩ := h1 0 (by simp)
        cases e
    subst hL0
    have hn0 := hn.out
    clear hn
    go_enter Try.func62, Try.ntmps62
    go_wp2_with fail
    go_returns
    exact ⟨_, rfl, GB.nil _ _, Below.refl _ _⟩
  · have hb0 := enew w (.cells #[] 123)
    have hown0 : GB encFs 5 123 (w.alloc (.cells #[] 123)) w.heap.size (.slice (some ⟨w.heap.size, 0, none⟩) 0 0) [] := by
      have := World.ownsRow_lit (e := 123) (size := 5) w #[] 0 (Nat.le_refl _) (by unfold maxLen; omega) (by simp)
      simpa [GB, gvals] using this
    have H0 := hid (And.intro hb0 (And.intro hown0 (h1.up hb0)))
    clear hb0 hown0 h1
    go_enter Try.func62, Try.ntmps62
    go_wp2_with (at_builtin; refine wpList_append_gx (W0 := w) rowFs rfl _ _ rfl w.heap.size (.slice (some ⟨w.heap.size, 0, none⟩) 0 0) [] L (some ad) c _ rfl H0.out.2.1 (by rw [hn.out]; rfl) H0.out.2.2 (fun h => by cases h) (by have := hn.out; simp; omega) H0.out.1 (Nat.le_refl _) ?_)
    intro v1 w1 hown1 hbel1 _
    have H1 := hid (And.intro hown1 hbel1)
    clear hown1 hbel1
    go_wp2_with fail
    go_returns
    exact ⟨_, rfl, H1.out.1, H1.out.2⟩
theorem clonesp_s (A : Option Addr) (n c : Nat) (L : List Sp) (w : World) (h1 : GX encSp 11 w (· < w.heap.size) A L) (hn : Hid (L.length = n)) (hl : n ≤ 1000000) :
    Calls Try.prog 63 #[.slice A n c] w fun e w' => ∃ A' c', e = .returned (.slice A' n c') ∧ GB encSp 11 37 w' w.heap.size (.slice A' n c') L ∧ Below w.heap.size w w' := by
  refine (clonesp_any A n c L w h1 hn hl).mono ?_
  rintro e w' ⟨v, rfl, h2, h3⟩
  obtain ⟨A', c', rfl, -⟩ := GB.reads encSp_len h2
  rw [hn.out] at h2 ⊢
  exact ⟨A', c', rfl, h2, h3⟩
/-- A list of batches of the call's own, whose spans are cloned one after another. -/
structure SnI (w wr : World) (b n : Nat) (cur : Array Value) : Prop where
  k : Bk wr b 123 cur
  r : ∀ j, j < n → ∃ A m c L, cur[j * 5 + 2]? = some (.slice A m c) ∧ GX encSp 11 wr (fun q => q < wr.heap.size ∧ q ≠ b) A L ∧ L.length = m ∧ m ≤ 1000
  lo : w.heap.size ≤ b
  bel : Below w.heap.size w wr
theorem SnI.step {w wr w2 : World} {b n i m c : Nat} {cur : Array Value} {A : Option Addr} {L : List Sp} (h : SnI w wr b n cur) (hi : i < n) (hb : Below wr.heap.size wr w2) (hg : GB encSp 11 37 w2 wr.heap.size (.slice A m c) L) (hL : L.length = m) (hm : m ≤ 1000) :
    SnI w (w2.setCell ⟨b, i * 5 + 2, none⟩ (.slice A m c)) b n (cur.setIfInBounds (i * 5 + 2) (.slice A m c)) := by
  have hlt := h.k.lt
  have ho : OnS (fun q => q = b) w2 (w2.setCell ⟨b, i * 5 + 2, none⟩ (.slice A m c)) := (OnS.refl (fun q => q = b) w2).cell b _ _ rfl
  refine ⟨(h.k.up hb).set_ _ _, fun j hj => ?_, h.lo, Below.setCell (p := ⟨b, i * 5 + 2, none⟩) (estep h.bel hb) h.lo _⟩
  by_cases e : j = i
  · subst e
    obtain ⟨A0, m0, c0, L0, e0, -⟩ := h.r j hj
    have hsz : j * 5 + 2 < cur.size := (Array.getElem?_eq_some_iff.1 e0).1
    refine ⟨A, m, c, L, by simp [Array.getElem?_setIfInBounds, hsz], ?_, hL, hm⟩
    obtain ⟨A', c', e, k1, -⟩ := GB.reads encSp_len hg
    simp only [Value.slice.injEq] at e
    obtain ⟨rfl, -, rfl⟩ := e
    exact (k1.same fun q hq => ho.block q hq.2 (by omega)).imp fun q hq => ⟨Nat.lt_of_lt_of_le hq.2 ho.size, by omega⟩
  · obtain ⟨A0, m0, c0, L0, e0, e1, e2, e3⟩ := h.r j hj
    refine ⟨A0, m0, c0, L0, ?_, ?_, e2, e3⟩
    · rw [Array.getElem?_setIfInBounds_ne (by omega)]
      exact e0
    · exact ((e1.same fun q hq => hb.block q hq.1).same fun q hq => ho.block q (Nat.lt_of_lt_of_le hq.1 hb.size) hq.2).imp fun q hq => ⟨Nat.lt_of_lt_of_le hq.1 (Nat.le_trans hb.size ho.size), hq.2⟩
set_option maxRecDepth 100000 in
set_option maxHeartbeats 8000000 in
theorem exsent_any (g gb : Nat) (p : Option Nat) (nd : Int) (c : Lim) (z : Lw) (v : Value) (x : Exs) (w : World) (h : ExH w g gb p nd c z v x) (hG : FlG x.way) {n : Nat} (hn : Hid (x.way.length = n)) :
    Calls Try.prog 20 #[.pointer (some ⟨g, 0, none⟩)] w fun e w' => (∃ A c, e = .returned (.slice A n c)) ∧ Below w.heap.size w w' := by
  have q14 : w.cell? ⟨g, 14, none⟩ = some v := Bk.cell h.k 14
  obtain ⟨A0, n0, c0, U, rfl, k1, k2, k3, k4⟩ := h.f
  have hnU : U.length = n := by rw [← hn.out, ← k4, List.length_map]
  obtain ⟨A', c', e, k5, -⟩ := GB.reads encFs_len k1
  simp only [Value.slice.injEq] at e
  obtain ⟨rfl, e2, rfl⟩ := e
  rw [hnU] at e2
  subst e2
  have hn9 : n0 ≤ 1000 := by have := hG.1; have := hn.out; omega
  have HCL := hid (clonefs_any A0 n0 c0 U w (k5.imp fun b hb => hb.2) (hid hnU) (by omega))
  have HUR := hid (fun j (hj : j < U.length) => And.intro (k2 U[j] (List.getElem_mem hj)) (show U[j].n ≤ 1000 from by
    have h1 := (k2 U[j] (List.getElem_mem hj)).2
    have h2 := hG.2 (Fs.snt U[j]) (by rw [← k4]; exact List.mem_map.2 ⟨_, List.getElem_mem hj, rfl⟩)
    simp only [Fs.snt] at h2
    omega))
  have HNU := hid hnU
  clear k1 k2 k3 k4 k5 h hG hn hnU
  go_enter Try.func20, Try.ntmps20
  go_wp2_with fail
  refine HCL.out.mono ?_
  rintro e w1 ⟨v1, rfl, hg1, hb1⟩
  rcases hg1.2 with ⟨e0, e1⟩ | ⟨b, cap, cur, e1, e2, e3, e4, e5, e6, e7⟩
  · have hn0 : n0 = 0 := by have := HNU.out; omega
    subst e0 hn0
    have H1 := hid hb1
    clear hg1 hb1 HCL q14 e1
    go_wp2_with fail
    go_loopw [15] (fun i wr => i = .int .i64 0 ∧ Hid (Below w.heap.size w wr)) (fun i _ => 0)
    case atStart => exact ⟨rfl, H1⟩
    case round =>
      obtain ⟨rfl, HK⟩ := hrel
      go_wp2_with fail
      go_returns
      exact ⟨⟨_, _, rfl⟩, HK.out⟩
  · have hI : SnI w w1 b n0 cur := by
      refine ⟨e3, fun j hj => ?_, e2, hb1⟩
      have hjU : j < U.length := by have := HNU.out; omega
      obtain ⟨hr1, hr2⟩ := HUR.out j hjU
      refine ⟨U[j].A, U[j].n, U[j].c, U[j].L, ?_, ?_, hr1.2, hr2⟩
      · obtain ⟨A', c', ev, k5, -⟩ := GB.reads encFs_len hg1
        rw [ev] at e1
        simp only [Value.slice.injEq] at e1
        obtain ⟨rfl, -, -⟩ := e1
        obtain ⟨b', p', ea, -, -, -, q2, -⟩ := fs_cells k5 (List.getElem?_eq_getElem hjU)
        simp only [Option.some.injEq, Addr.mk.injEq, and_true] at ea
        obtain ⟨rfl, rfl⟩ := ea
        rw [Nat.zero_add] at q2
        rw [← q2]
        exact (Bk.cell (show Bk w1 b 123 cur from e3) _).symm
      · obtain ⟨A', c', ev, k5, -⟩ := GB.reads encSp_len hr1.1
        simp only [Value.slice.injEq] at ev
        obtain ⟨rfl, -, rfl⟩ := ev
        exact (k5.same fun q hq => hb1.block q hq.2).imp fun q hq => ⟨Nat.lt_of_lt_of_le hq.2 hb1.size, by have := hq.2; omega⟩
    have hlU := HNU.out
    rw [hlU] at e1
    subst e1
    have HI0 := hid hI
    clear hg1 hb1 HCL q14 e2 e3 e4 e5 e6 e7 hI HUR
    go_wp2_with fail
    go_loopg [15] n0 (fun g1 vi wr => ∃ (i : Nat) (cr : Array Value), vi = .int .i64 i ∧ i ≤ n0 ∧ n0 - i ≤ g1 ∧ Hid (SnI w wr b n0 cr))
    case atStart => exact ⟨0, cur, rfl, by omega, by omega, HI0⟩
    case round =>
      obtain ⟨i, cr, rfl, hin, hgk, HI⟩ := hrel
      obtain ⟨wz, hwz⟩ : ∃ wz, wz = wr := ⟨_, rfl⟩
      subst hwz
      by_cases hlt : i < n0
      · obtain ⟨A5, m5, c5, L5, r0, r1, r2, r3⟩ := HI.out.r i hlt
        have hc2 : wz.cell? ⟨b, i * 5 + 2, none⟩ = some (.slice A5 m5 c5) := (Bk.cell HI.out.k _).trans r0
        have hf2 := Bk.frozen HI.out.k (i * 5 + 2)
        have hi0 : (0 : Int) ≤ (i : Int) := by omega
        have hiz : (i : Int) < (n0 : Int) := by omega
        have hidd : decide ((i : Int) < (n0 : Int)) = true := decide_eq_true hiz
        have hidn : decide (i < n0) = true := decide_eq_true hlt
        have hadd : IntKind.i64.wrap ((i : Int) + 1) = (i : Int) + 1 := IntWalk.i64_in _ (by omega)
        have HC := hid (clonesp_s A5 m5 c5 L5 wz (r1.imp fun q hq => hq.1) (hid r2) (by omega))
        have HR := hid (And.intro r2 r3)
        clear r0 r1 r2 r3 hf2
        go_wp2_with fail
        refine HC.out.mono ?_
        rintro e w2 ⟨A6, c6, rfl, hg6, hb6⟩
        have k2 := HI.out.k.up hb6
        have hc3 : w2.cell? ⟨b, i * 5 + 2, none⟩ = some (.slice A5 m5 c5) := (hb6.cell (lt_of_cell hc2)).trans hc2
        have hf3 := Bk.frozen k2 (i * 5 + 2)
        have H6 := hid (HI.out.step hlt hb6 hg6 HR.out.1 HR.out.2)
        clear hg6 hb6 hc2 k2 HC
        go_wp2_with fail
        go_roundg (n0 - (i + 1))
        case measure => omega
        case rel => exact ⟨i + 1, _, by go_num, by omega, by omega, H6⟩
      · obtain rfl : i = n0 := by omega
        have hiz : ¬ (i : Int) < (i : Int) := by omega
        go_wp2_with fail
        go_returns
        exact ⟨⟨_, _, rfl⟩, HI.out.bel⟩
end Go.Proofs.Ytpfhmpblcmednaa
namespace Go.Proofs.Ytpfhmpblcmednaa
set_option linter.unusedVariables false
set_option linter.unusedSimpArgs false
open Go.RowKit Go.Joins

theorem tlset7 {w : World} {g : Nat} {t : TypeId} {c0 c1 c2 c3 c4 c5 c6 : Value} (k : Bk w g t #[c0, c1, c2, c3, c4, c5, c6]) (a0 a1 a2 a3 a4 a5 a6 : Value) : Bk (((((((w.setCell ⟨g, 0, none⟩ (a0)).setCell ⟨g, 1, none⟩ (a1)).setCell ⟨g, 2, none⟩ (a2)).setCell ⟨g, 3, none⟩ (a3)).setCell ⟨g, 4, none⟩ (a4)).setCell ⟨g, 5, none⟩ (a5)).setCell ⟨g, 6, none⟩ (a6)) g t #[a0, a1, a2, a3, a4, a5, a6] := by
  have h0 : Bk (w.setCell ⟨g, 0, none⟩ (a0)) g t #[a0, c1, c2, c3, c4, c5, c6] := Bk.set_ k 0 a0
  have h1 : Bk ((w.setCell ⟨g, 0, none⟩ (a0)).setCell ⟨g, 1, none⟩ (a1)) g t #[a0, a1, c2, c3, c4, c5, c6] := Bk.set_ h0 1 a1
  have h2 : Bk (((w.setCell ⟨g, 0, none⟩ (a0)).setCell ⟨g, 1, none⟩ (a1)).setCell ⟨g, 2, none⟩ (a2)) g t #[a0, a1, a2, c3, c4, c5, c6] := Bk.set_ h1 2 a2
  have h3 : Bk ((((w.setCell ⟨g, 0, none⟩ (a0)).setCell ⟨g, 1, none⟩ (a1)).setCell ⟨g, 2, none⟩ (a2)).setCell ⟨g, 3, none⟩ (a3)) g t #[a0, a1, a2, a3, c4, c5, c6] := Bk.set_ h2 3 a3
  have h4 : Bk (((((w.setCell ⟨g, 0, none⟩ (a0)).setCell ⟨g, 1, none⟩ (a1)).setCell ⟨g, 2, none⟩ (a2)).setCell ⟨g, 3, none⟩ (a3)).setCell ⟨g, 4, none⟩ (a4)) g t #[a0, a1, a2, a3, a4, c5, c6] := Bk.set_ h3 4 a4
  have h5 : Bk ((((((w.setCell ⟨g, 0, none⟩ (a0)).setCell ⟨g, 1, none⟩ (a1)).setCell ⟨g, 2, none⟩ (a2)).setCell ⟨g, 3, none⟩ (a3)).setCell ⟨g, 4, none⟩ (a4)).setCell ⟨g, 5, none⟩ (a5)) g t #[a0, a1, a2, a3, a4, a5, c6] := Bk.set_ h4 5 a5
  exact Bk.set_ h5 6 a6
theorem tlbel7 {w0 w : World} {B g : Nat} (h : Below B w0 w) (hg : B ≤ g) (a0 a1 a2 a3 a4 a5 a6 : Value) : Below B w0 (((((((w.setCell ⟨g, 0, none⟩ (a0)).setCell ⟨g, 1, none⟩ (a1)).setCell ⟨g, 2, none⟩ (a2)).setCell ⟨g, 3, none⟩ (a3)).setCell ⟨g, 4, none⟩ (a4)).setCell ⟨g, 5, none⟩ (a5)).setCell ⟨g, 6, none⟩ (a6)) :=
  ((((((h.setCell (p := ⟨g, 0, none⟩) hg a0).setCell (p := ⟨g, 1, none⟩) hg a1).setCell (p := ⟨g, 2, none⟩) hg a2).setCell (p := ⟨g, 3, none⟩) hg a3).setCell (p := ⟨g, 4, none⟩) hg a4).setCell (p := ⟨g, 5, none⟩) hg a5).setCell (p := ⟨g, 6, none⟩) hg a6
/-- A tally, as its cells tell. -/
def tlV (x : Exs) : Value := .agg #[.int .i64 (exSum x : Int), .int .i64 0, .int .i64 (x.buf.1.length : Int), .int .i64 (flSpans x.way : Int), .int .i64 (x.acked : Int), .int .i64 (x.buf.2 : Int), .int .i64 (x.given : Int)]
set_option maxRecDepth 100000 in
set_option maxHeartbeats 16000000 in
theorem exN_any (a : Addr) (x : Int) (w : World) (h : w.cell? a = some (.int .i64 x)) (h1 : -9223372036854775808 ≤ x) (h2 : x ≤ 9223372036854775807) :
    Calls Try.prog 60 #[.pointer (some a)] w fun e w' => e = .returned (.int .i64 x) ∧ Below w.heap.size w w' := by
  refine (ncount_any a x w h h1 h2).mono ?_
  rintro e w' ⟨rfl, rfl⟩
  exact ⟨rfl, Below.refl _ _⟩
set_option maxRecDepth 100000 in
set_option maxHeartbeats 16000000 in
theorem extally_any (g gb : Nat) (p : Option Nat) (nd : Int) (c : Lim) (z : Lw) (v : Value) (x : Exs) (w : World) (h : ExH w g gb p nd c z v x) (hG : FlG x.way) (h64 : x.acked ≤ 1000000 ∧ x.given ≤ 1000000 ∧ x.buf.2 ≤ 1000000) :
    Calls Try.prog 19 #[.pointer (some ⟨g, 0, none⟩)] w fun e w' => e = .returned (tlV x) ∧ Below w.heap.size w w' := by
  obtain ⟨q1, h1⟩ : ∃ q, x.buf.1.length = q := ⟨_, rfl⟩
  obtain ⟨q2, h2⟩ : ∃ q, flSpans x.way = q := ⟨_, rfl⟩
  obtain ⟨q3, h3⟩ : ∃ q, x.acked = q := ⟨_, rfl⟩
  obtain ⟨q4, h4⟩ : ∃ q, x.buf.2 = q := ⟨_, rfl⟩
  obtain ⟨q5, h5⟩ : ∃ q, x.given = q := ⟨_, rfl⟩
  have hq1 : q1 ≤ 64 := by have := h.b.few; omega
  have hq2 : q2 ≤ 1000000 := by
    have e1 := flSpans_1000 x.way hG.2
    have e2 : x.way.length * 1000 ≤ 1000 * 1000 := Nat.mul_le_mul_right _ hG.1
    omega
  have hs : (exSum x : Int) = (q1 : Int) + (q2 : Int) + (q3 : Int) + (q4 : Int) + (q5 : Int) := by unfold exSum; omega
  have hv : tlV x = .agg #[.int .i64 ((q1 : Int) + (q2 : Int) + (q3 : Int) + (q4 : Int) + (q5 : Int)), .int .i64 0, .int .i64 (q1 : Int), .int .i64 (q2 : Int), .int .i64 (q3 : Int), .int .i64 (q4 : Int), .int .i64 (q5 : Int)] := by
    unfold tlV
    rw [hs, h1, h2, h3, h4, h5]
  rw [hv]
  rw [h3, h4, h5] at h64
  have ha1 : IntKind.i64.wrap ((q1 : Int) + (q2 : Int)) = (q1 : Int) + (q2 : Int) := IntWalk.i64_in _ (by omega)
  have ha2 : IntKind.i64.wrap ((q1 : Int) + (q2 : Int) + (q3 : Int)) = (q1 : Int) + (q2 : Int) + (q3 : Int) := IntWalk.i64_in _ (by omega)
  have ha3 : IntKind.i64.wrap ((q1 : Int) + (q2 : Int) + (q3 : Int) + (q4 : Int)) = (q1 : Int) + (q2 : Int) + (q3 : Int) + (q4 : Int) := IntWalk.i64_in _ (by omega)
  have ha4 : IntKind.i64.wrap ((q1 : Int) + (q2 : Int) + (q3 : Int) + (q4 : Int) + (q5 : Int)) = (q1 : Int) + (q2 : Int) + (q3 : Int) + (q4 : Int) + (q5 : Int) := IntWalk.i64_in _ (by omega)
  have hb0 := enew w (.cells #[.int .i64 0, .int .i64 0, .int .i64 0, .int .i64 0, .int .i64 0, .int .i64 0, .int .i64 0] 50)
  have hX := h.up hb0
  have hk := hX.k
  rw [h3, h5] at hk
  have HR := hid (Bk.new w 50 #[.int .i64 0, .int .i64 0, .int .i64 0, .int .i64 0, .int .i64 0, .int .i64 0, .int .i64 0])
  have HB0 := hid hb0
  have HX := hid hX
  have HK := hid hk
  have HQ := hid (And.intro h1 (And.intro h2 h4))
  have HG := hid hG
  have HLT := hid h.lt
  clear hs hv hb0 hX hk h h1 h2 h3 h4 h5 hG
  go_enter Try.func19, Try.ntmps19
  go_upto_region 4 with (fail)
  generalize w.alloc (.cells #[.int .i64 0, .int .i64 0, .int .i64 0, .int .i64 0, .int .i64 0, .int .i64 0, .int .i64 0] 50) = v0 at *
  have H1c := hid (fun w2 (hb : Below v0.heap.size v0 w2) => bfLen_any gb p (exRoom c) x.buf w2 (HX.out.b.up hb) (hid HQ.out.1))
  have H2c := hid (fun w2 (hb : Below v0.heap.size v0 w2) => flspans_v v x.way w2 (HX.out.f.up hb).flv HG.out (hid HQ.out.2.1))
  have H3c := hid (fun w2 (hb : Below v0.heap.size v0 w2) => exN_any ⟨g, 17, none⟩ (q3 : Int) w2 (Bk.cell (HK.out.up hb) 17) (by omega) (by omega))
  have H4c := hid (fun w2 (hb : Below v0.heap.size v0 w2) => bfLost_any gb p (exRoom c) x.buf w2 (HX.out.b.up hb) (by have := HQ.out.2.2; omega) (hid HQ.out.2.2))
  have H5c := hid (fun w2 (hb : Below v0.heap.size v0 w2) => exN_any ⟨g, 18, none⟩ (q5 : Int) w2 (Bk.cell (HK.out.up hb) 18) (by omega) (by omega))
  have HS : Hid (∀ w' : World, Below v0.heap.size v0 w' → w'.cell? ⟨g, 0, none⟩ = some (.pointer (some ⟨gb, 0, none⟩)) ∧ w'.cell? ⟨g, 14, none⟩ = some v ∧ Below v0.heap.size v0 w') := hid (fun w' hb => ⟨Bk.cell (HK.out.up hb) 0, Bk.cell (HK.out.up hb) 14, hb⟩)
  have hz : Below v0.heap.size v0 v0.drew := (Below.refl _ _).drew
  have hzA : Below v0.heap.size v0 (v0.alloc (.cells #[.int .i64 0, .int .i64 0, .int .i64 0, .int .i64 0, .int .i64 0, .int .i64 0, .int .i64 0] 50)).drew := (enew v0 (.cells #[.int .i64 0, .int .i64 0, .int .i64 0, .int .i64 0, .int .i64 0, .int .i64 0, .int .i64 0] 50)).drew
  go_region_held3 (fun w' => w'.cell? ⟨g, 0, none⟩ = some (.pointer (some ⟨gb, 0, none⟩)) ∧ w'.cell? ⟨g, 14, none⟩ = some v ∧ Below v0.heap.size v0 w') (first | (with_reducible exact HS.out _ hz) | (with_reducible exact HS.out _ (hz.alloc hz.size _)) | (with_reducible exact HS.out _ hzA) | (exact HS.out _ (tlbel7 hz hzt _ _ _ _ _ _ _)) | fail) (first
    | (go_at_call 58
       have kt0 := kt
       ((with_reducible refine (H1c.out _ hz).mono ?_); rintro e wn ⟨rfl, hy⟩)
       have kt1 := kt0.up hy
       have hz1 := hz.trans (hy.mono hz.size)
       clear kt0 kt hz hy z0 u0 z1 u1 z2 u2 z3 u3 z4 u4 z5 u5 z6 u6
       have kt := kt1
       have hz := hz1
       clear kt1 hz1
       have z0 := Bk.cell kt 0
       have u0 := Bk.frozen kt 0
       have z1 := Bk.cell kt 1
       have u1 := Bk.frozen kt 1
       have z2 := Bk.cell kt 2
       have u2 := Bk.frozen kt 2
       have z3 := Bk.cell kt 3
       have u3 := Bk.frozen kt 3
       have z4 := Bk.cell kt 4
       have u4 := Bk.frozen kt 4
       have z5 := Bk.cell kt 5
       have u5 := Bk.frozen kt 5
       have z6 := Bk.cell kt 6
       have u6 := Bk.frozen kt 6)
    | (go_at_call 58
       ((with_reducible refine (H1c.out _ hz).mono ?_); rintro e wk ⟨rfl, hy⟩)
       have hz1 := hz.trans (hy.mono hz.size)
       clear hz hy
       have hz := hz1
       clear hz1)
    | (go_at_call 59
       have kt0 := kt
       ((with_reducible refine (H2c.out _ hz).mono ?_); rintro e wn ⟨rfl, hy⟩)
       have kt1 := kt0.up hy
       have hz1 := hz.trans (hy.mono hz.size)
       clear kt0 kt hz hy z0 u0 z1 u1 z2 u2 z3 u3 z4 u4 z5 u5 z6 u6
       have kt := kt1
       have hz := hz1
       clear kt1 hz1
       have z0 := Bk.cell kt 0
       have u0 := Bk.frozen kt 0
       have z1 := Bk.cell kt 1
       have u1 := Bk.frozen kt 1
       have z2 := Bk.cell kt 2
       have u2 := Bk.frozen kt 2
       have z3 := Bk.cell kt 3
       have u3 := Bk.frozen kt 3
       have z4 := Bk.cell kt 4
       have u4 := Bk.frozen kt 4
       have z5 := Bk.cell kt 5
       have u5 := Bk.frozen kt 5
       have z6 := Bk.cell kt 6
       have u6 := Bk.frozen kt 6)
    | (go_at_call 59
       ((with_reducible refine (H2c.out _ hz).mono ?_); rintro e wk ⟨rfl, hy⟩)
       have hz1 := hz.trans (hy.mono hz.size)
       clear hz hy
       have hz := hz1
       clear hz1)
    | (go_at_call 59
       ((with_reducible refine (H2c.out _ (hz.alloc hz.size _)).mono ?_); rintro e wn ⟨rfl, hy⟩)
       have kt := (Bk.new wk 50 #[.int .i64 0, .int .i64 0, .int .i64 0, .int .i64 0, .int .i64 0, .int .i64 0, .int .i64 0]).up hy
       have hzt := hz.size
       have hz1 := (hz.alloc hz.size _).trans (hy.mono (hz.alloc hz.size _).size)
       clear hz hy
       have hz := hz1
       clear hz1
       obtain ⟨bt, hbt⟩ : ∃ bt, wk.heap.size = bt := ⟨_, rfl⟩
       rw [hbt] at kt hzt ⊢
       clear hbt
       have z0 := Bk.cell kt 0
       have u0 := Bk.frozen kt 0
       have z1 := Bk.cell kt 1
       have u1 := Bk.frozen kt 1
       have z2 := Bk.cell kt 2
       have u2 := Bk.frozen kt 2
       have z3 := Bk.cell kt 3
       have u3 := Bk.frozen kt 3
       have z4 := Bk.cell kt 4
       have u4 := Bk.frozen kt 4
       have z5 := Bk.cell kt 5
       have u5 := Bk.frozen kt 5
       have z6 := Bk.cell kt 6
       have u6 := Bk.frozen kt 6)
    | (go_at_call 60
       have kt0 := kt
       ((with_reducible refine (H3c.out _ hz).mono ?_); rintro e wn ⟨rfl, hy⟩)
       have kt1 := kt0.up hy
       have hz1 := hz.trans (hy.mono hz.size)
       clear kt0 kt hz hy z0 u0 z1 u1 z2 u2 z3 u3 z4 u4 z5 u5 z6 u6
       have kt := kt1
       have hz := hz1
       clear kt1 hz1
       have z0 := Bk.cell kt 0
       have u0 := Bk.frozen kt 0
       have z1 := Bk.cell kt 1
       have u1 := Bk.frozen kt 1
       have z2 := Bk.cell kt 2
       have u2 := Bk.frozen kt 2
       have z3 := Bk.cell kt 3
       have u3 := Bk.frozen kt 3
       have z4 := Bk.cell kt 4
       have u4 := Bk.frozen kt 4
       have z5 := Bk.cell kt 5
       have u5 := Bk.frozen kt 5
       have z6 := Bk.cell kt 6
       have u6 := Bk.frozen kt 6)
    | (go_at_call 60
       ((with_reducible refine (H3c.out _ hz).mono ?_); rintro e wk ⟨rfl, hy⟩)
       have hz1 := hz.trans (hy.mono hz.size)
       clear hz hy
       have hz := hz1
       clear hz1)
    | (go_at_call 60
       ((with_reducible refine (H3c.out _ (hz.alloc hz.size _)).mono ?_); rintro e wn ⟨rfl, hy⟩)
       have kt := (Bk.new wk 50 #[.int .i64 0, .int .i64 0, .int .i64 0, .int .i64 0, .int .i64 0, .int .i64 0, .int .i64 0]).up hy
       have hzt := hz.size
       have hz1 := (hz.alloc hz.size _).trans (hy.mono (hz.alloc hz.size _).size)
       clear hz hy
       have hz := hz1
       clear hz1
       obtain ⟨bt, hbt⟩ : ∃ bt, wk.heap.size = bt := ⟨_, rfl⟩
       rw [hbt] at kt hzt ⊢
       clear hbt
       have z0 := Bk.cell kt 0
       have u0 := Bk.frozen kt 0
       have z1 := Bk.cell kt 1
       have u1 := Bk.frozen kt 1
       have z2 := Bk.cell kt 2
       have u2 := Bk.frozen kt 2
       have z3 := Bk.cell kt 3
       have u3 := Bk.frozen kt 3
       have z4 := Bk.cell kt 4
       have u4 := Bk.frozen kt 4
       have z5 := Bk.cell kt 5
       have u5 := Bk.frozen kt 5
       have z6 := Bk.cell kt 6
       have u6 := Bk.frozen kt 6)
    | (go_at_call 61
       have kt0 := kt
       ((with_reducible refine (H4c.out _ hz).mono ?_); rintro e wn ⟨rfl, hy⟩)
       have kt1 := kt0.up hy
       have hz1 := hz.trans (hy.mono hz.size)
       clear kt0 kt hz hy z0 u0 z1 u1 z2 u2 z3 u3 z4 u4 z5 u5 z6 u6
       have kt := kt1
       have hz := hz1
       clear kt1 hz1
       have z0 := Bk.cell kt 0
       have u0 := Bk.frozen kt 0
       have z1 := Bk.cell kt 1
       have u1 := Bk.frozen kt 1
       have z2 := Bk.cell kt 2
       have u2 := Bk.frozen kt 2
       have z3 := Bk.cell kt 3
       have u3 := Bk.frozen kt 3
       have z4 := Bk.cell kt 4
       have u4 := Bk.frozen kt 4
       have z5 := Bk.cell kt 5
       have u5 := Bk.frozen kt 5
       have z6 := Bk.cell kt 6
       have u6 := Bk.frozen kt 6)
    | (go_at_call 61
       ((with_reducible refine (H4c.out _ hz).mono ?_); rintro e wk ⟨rfl, hy⟩)
       have hz1 := hz.trans (hy.mono hz.size)
       clear hz hy
       have hz := hz1
       clear hz1)
    | (go_at_call 61
       ((with_reducible refine (H4c.out _ (hz.alloc hz.size _)).mono ?_); rintro e wn ⟨rfl, hy⟩)
       have kt := (Bk.new wk 50 #[.int .i64 0, .int .i64 0, .int .i64 0, .int .i64 0, .int .i64 0, .int .i64 0, .int .i64 0]).up hy
       have hzt := hz.size
       have hz1 := (hz.alloc hz.size _).trans (hy.mono (hz.alloc hz.size _).size)
       clear hz hy
       have hz := hz1
       clear hz1
       obtain ⟨bt, hbt⟩ : ∃ bt, wk.heap.size = bt := ⟨_, rfl⟩
       rw [hbt] at kt hzt ⊢
       clear hbt
       have z0 := Bk.cell kt 0
       have u0 := Bk.frozen kt 0
       have z1 := Bk.cell kt 1
       have u1 := Bk.frozen kt 1
       have z2 := Bk.cell kt 2
       have u2 := Bk.frozen kt 2
       have z3 := Bk.cell kt 3
       have u3 := Bk.frozen kt 3
       have z4 := Bk.cell kt 4
       have u4 := Bk.frozen kt 4
       have z5 := Bk.cell kt 5
       have u5 := Bk.frozen kt 5
       have z6 := Bk.cell kt 6
       have u6 := Bk.frozen kt 6)
    | (go_at_call 60
       have kt0 := kt
       ((with_reducible refine (H5c.out _ hz).mono ?_); rintro e wn ⟨rfl, hy⟩)
       have kt1 := kt0.up hy
       have hz1 := hz.trans (hy.mono hz.size)
       clear kt0 kt hz hy z0 u0 z1 u1 z2 u2 z3 u3 z4 u4 z5 u5 z6 u6
       have kt := kt1
       have hz := hz1
       clear kt1 hz1
       have z0 := Bk.cell kt 0
       have u0 := Bk.frozen kt 0
       have z1 := Bk.cell kt 1
       have u1 := Bk.frozen kt 1
       have z2 := Bk.cell kt 2
       have u2 := Bk.frozen kt 2
       have z3 := Bk.cell kt 3
       have u3 := Bk.frozen kt 3
       have z4 := Bk.cell kt 4
       have u4 := Bk.frozen kt 4
       have z5 := Bk.cell kt 5
       have u5 := Bk.frozen kt 5
       have z6 := Bk.cell kt 6
       have u6 := Bk.frozen kt 6)
    | (go_at_call 60
       ((with_reducible refine (H5c.out _ hz).mono ?_); rintro e wk ⟨rfl, hy⟩)
       have hz1 := hz.trans (hy.mono hz.size)
       clear hz hy
       have hz := hz1
       clear hz1)
    | (go_at_call 60
       ((with_reducible refine (H5c.out _ (hz.alloc hz.size _)).mono ?_); rintro e wn ⟨rfl, hy⟩)
       have kt := (Bk.new wk 50 #[.int .i64 0, .int .i64 0, .int .i64 0, .int .i64 0, .int .i64 0, .int .i64 0, .int .i64 0]).up hy
       have hzt := hz.size
       have hz1 := (hz.alloc hz.size _).trans (hy.mono (hz.alloc hz.size _).size)
       clear hz hy
       have hz := hz1
       clear hz1
       obtain ⟨bt, hbt⟩ : ∃ bt, wk.heap.size = bt := ⟨_, rfl⟩
       rw [hbt] at kt hzt ⊢
       clear hbt
       have z0 := Bk.cell kt 0
       have u0 := Bk.frozen kt 0
       have z1 := Bk.cell kt 1
       have u1 := Bk.frozen kt 1
       have z2 := Bk.cell kt 2
       have u2 := Bk.frozen kt 2
       have z3 := Bk.cell kt 3
       have u3 := Bk.frozen kt 3
       have z4 := Bk.cell kt 4
       have u4 := Bk.frozen kt 4
       have z5 := Bk.cell kt 5
       have u5 := Bk.frozen kt 5
       have z6 := Bk.cell kt 6
       have u6 := Bk.frozen kt 6)
    | (go_at_call 58
       ((with_reducible refine (H1c.out _ hzA).mono ?_); rintro e wn ⟨rfl, hy⟩)
       have kt := ((Bk.new v0 50 #[.int .i64 0, .int .i64 0, .int .i64 0, .int .i64 0, .int .i64 0, .int .i64 0, .int .i64 0]).drew).up hy
       have hz1 := hzA.trans (hy.mono hzA.size)
       clear hz hy
       have hz := hz1
       clear hz1
       obtain ⟨bt, hbt⟩ : ∃ bt, v0.heap.size = bt := ⟨_, rfl⟩
       have hzt : v0.heap.size ≤ bt := by omega
       rw [hbt] at kt ⊢
       clear hbt
       have z0 := Bk.cell kt 0
       have u0 := Bk.frozen kt 0
       have z1 := Bk.cell kt 1
       have u1 := Bk.frozen kt 1
       have z2 := Bk.cell kt 2
       have u2 := Bk.frozen kt 2
       have z3 := Bk.cell kt 3
       have u3 := Bk.frozen kt 3
       have z4 := Bk.cell kt 4
       have u4 := Bk.frozen kt 4
       have z5 := Bk.cell kt 5
       have u5 := Bk.frozen kt 5
       have z6 := Bk.cell kt 6
       have u6 := Bk.frozen kt 6))
  all_goals
    first
    | (have K7 := tlset7 kt (.int .i64 0) (.int .i64 0) (.int .i64 (q1 : Int)) (.int .i64 (q2 : Int)) (.int .i64 (q3 : Int)) (.int .i64 (q4 : Int)) (.int .i64 (q5 : Int))
       have HZT := hid hzt
       have B7 := tlbel7 hz hzt (.int .i64 0) (.int .i64 0) (.int .i64 (q1 : Int)) (.int .i64 (q2 : Int)) (.int .i64 (q3 : Int)) (.int .i64 (q4 : Int)) (.int .i64 (q5 : Int))
       clear kt hzt hz z0 u0 z1 u1 z2 u2 z3 u3 z4 u4 z5 u5 z6 u6
       generalize (((((((wn.setCell ⟨bt, 0, none⟩ (.int .i64 0)).setCell ⟨bt, 1, none⟩ (.int .i64 0)).setCell ⟨bt, 2, none⟩ (.int .i64 (q1 : Int))).setCell ⟨bt, 3, none⟩ (.int .i64 (q2 : Int))).setCell ⟨bt, 4, none⟩ (.int .i64 (q3 : Int))).setCell ⟨bt, 5, none⟩ (.int .i64 (q4 : Int))).setCell ⟨bt, 6, none⟩ (.int .i64 (q5 : Int))) = W7 at *)
    | (have K7 := Bk.new wk 50 #[.int .i64 0, .int .i64 0, .int .i64 (q1 : Int), .int .i64 (q2 : Int), .int .i64 (q3 : Int), .int .i64 (q4 : Int), .int .i64 (q5 : Int)]
       have HZT := hid hz.size
       have B7 := hz.alloc hz.size (.cells #[.int .i64 0, .int .i64 0, .int .i64 (q1 : Int), .int .i64 (q2 : Int), .int .i64 (q3 : Int), .int .i64 (q4 : Int), .int .i64 (q5 : Int)] 50)
       clear hz
       generalize wk.alloc (.cells #[.int .i64 0, .int .i64 0, .int .i64 (q1 : Int), .int .i64 (q2 : Int), .int .i64 (q3 : Int), .int .i64 (q4 : Int), .int .i64 (q5 : Int)] 50) = W7 at *
       obtain ⟨bt, hbt⟩ : ∃ bt, wk.heap.size = bt := ⟨_, rfl⟩
       rw [hbt] at K7 HZT ⊢
       clear hbt)
    have d0 := Bk.cell K7 0
    have d2 := Bk.cell K7 2
    have d3 := Bk.cell K7 3
    have d4 := Bk.cell K7 4
    have d5 := Bk.cell K7 5
    have d6 := Bk.cell K7 6
    have f0 := Bk.frozen K7 0
    have HK7 := hid K7
    have HB7 := hid B7
    clear K7 B7 H1c H2c H3c H4c H5c HS hzA
    go_upto_region 6 with (fail)
    have K8 : Bk _ bt 50 #[.int .i64 ((q1 : Int) + (q2 : Int) + (q3 : Int) + (q4 : Int) + (q5 : Int)), .int .i64 0, .int .i64 (q1 : Int), .int .i64 (q2 : Int), .int .i64 (q3 : Int), .int .i64 (q4 : Int), .int .i64 (q5 : Int)] := Bk.set_ HK7.out 0 (.int .i64 ((q1 : Int) + (q2 : Int) + (q3 : Int) + (q4 : Int) + (q5 : Int)))
    have B8 := Below.setCell HB7.out (p := ⟨bt, 0, none⟩) HZT.out (.int .i64 ((q1 : Int) + (q2 : Int) + (q3 : Int) + (q4 : Int) + (q5 : Int)))
    generalize W7.setCell ⟨bt, 0, none⟩ (.int .i64 ((q1 : Int) + (q2 : Int) + (q3 : Int) + (q4 : Int) + (q5 : Int))) = W8 at *
    have KR := HR.out.up B8
    have HK8 := hid K8
    have HB8 := hid B8
    have HKR := hid KR
    clear d0 d2 d3 d4 d5 d6 f0
    have e0 := Bk.cell K8 0
    have x0 := Bk.cell KR 0
    have y0 := Bk.frozen KR 0
    have e1 := Bk.cell K8 1
    have x1 := Bk.cell KR 1
    have y1 := Bk.frozen KR 1
    have e2 := Bk.cell K8 2
    have x2 := Bk.cell KR 2
    have y2 := Bk.frozen KR 2
    have e3 := Bk.cell K8 3
    have x3 := Bk.cell KR 3
    have y3 := Bk.frozen KR 3
    have e4 := Bk.cell K8 4
    have x4 := Bk.cell KR 4
    have y4 := Bk.frozen KR 4
    have e5 := Bk.cell K8 5
    have x5 := Bk.cell KR 5
    have y5 := Bk.frozen KR 5
    have e6 := Bk.cell K8 6
    have x6 := Bk.cell KR 6
    have y6 := Bk.frozen KR 6
    clear K8 B8 KR
    have K9 := tlset7 HKR.out (.int .i64 ((q1 : Int) + (q2 : Int) + (q3 : Int) + (q4 : Int) + (q5 : Int))) (.int .i64 0) (.int .i64 (q1 : Int)) (.int .i64 (q2 : Int)) (.int .i64 (q3 : Int)) (.int .i64 (q4 : Int)) (.int .i64 (q5 : Int))
    have s0 := Bk.cell K9 0
    have s1 := Bk.cell K9 1
    have s2 := Bk.cell K9 2
    have s3 := Bk.cell K9 3
    have s4 := Bk.cell K9 4
    have s5 := Bk.cell K9 5
    have s6 := Bk.cell K9 6
    have HB9 := hid (tlbel7 (HB0.out.trans (HB8.out.mono HB0.out.size)) (Nat.le_refl _) (.int .i64 ((q1 : Int) + (q2 : Int) + (q3 : Int) + (q4 : Int) + (q5 : Int))) (.int .i64 0) (.int .i64 (q1 : Int)) (.int .i64 (q2 : Int)) (.int .i64 (q3 : Int)) (.int .i64 (q4 : Int)) (.int .i64 (q5 : Int)))
    clear K9
    go_wp2_with fail
    (try simp only [Exit.inBlock, Exit.then])
    refine bodyPost_ret (v := .agg #[.int .i64 ((q1 : Int) + (q2 : Int) + (q3 : Int) + (q4 : Int) + (q5 : Int)), .int .i64 0, .int .i64 (q1 : Int), .int .i64 (q2 : Int), .int .i64 (q3 : Int), .int .i64 (q4 : Int), .int .i64 (q5 : Int)]) (by simp [results, Try.results19, go_sem, s0, s1, s2, s3, s4, s5, s6]) rfl ?_
    exact ⟨rfl, HB9.out⟩
end Go.Proofs.Ytpfhmpblcmednaa
namespace Go.Proofs.Ytpfhmpblcmednaa
set_option linter.unusedVariables false
set_option linter.unusedSimpArgs false
open Go.RowKit Go.Joins

/-- An exporter that was made behind w. -/
structure E27 (w wr : World) (g gb : Nat) (p : Option Nat) (nd : Int) (c : Lim) (z : Lw) (x : Exs) : Prop where
  h : ∃ v, ExH wr g gb p nd c z v x
  own : ∀ b, exS g gb p b → w.heap.size ≤ b
  bel : Below w.heap.size w wr
/-- The exporter behind a call. -/
def E27r (w wr : World) (g gb : Nat) (p : Option Nat) (nd : Int) (c : Lim) (z : Lw) (y : Exs) (w2 : World) : Prop := ∃ p', E27 w w2 g gb p' nd c z y ∧ OnS (exS g gb p) wr w2 ∧ ∀ b, b < wr.heap.size → ¬ exS g gb p b → ¬ exS g gb p' b
section
variable {w wr w2 : World} {g gb : Nat} {p : Option Nat} {nd : Int} {c : Lim} {z : Lw} {x : Exs}
theorem E27.up (h : E27 w wr g gb p nd c z x) (hb : Below wr.heap.size wr w2) : E27 w w2 g gb p nd c z x := by
  obtain ⟨v, h1⟩ := h.h
  exact ⟨⟨v, h1.up hb⟩, h.own, estep h.bel hb⟩
theorem E27.lt (h : E27 w wr g gb p nd c z x) : ∀ b, exS g gb p b → b < wr.heap.size := by
  obtain ⟨v, h1⟩ := h.h
  exact h1.lt
theorem e27_of {y : Exs} (h : E27 w wr g gb p nd c z x) (k : ExE wr g gb p nd c z y w2) : E27r w wr g gb p nd c z y w2 := by
  obtain ⟨v', p', k1, k2, k3⟩ := k
  have hb : Below w.heap.size w w2 := OnS.to_below h.bel k2 (fun k _ hk => h.own k hk) h.bel.size
  refine ⟨p', ⟨⟨v', k1⟩, fun b hb => ?_, hb⟩, k2, fun b hb hn hS => ?_⟩
  · rcases hb with e | e | e
    · exact h.own b (Or.inl e)
    · exact h.own b (Or.inr (Or.inl e))
    · rcases k3 with k3 | ⟨q, e1, e2⟩
      · exact h.own b (Or.inr (Or.inr (e.trans k3)))
      · rw [e1] at e
        injection e with e
        have := h.bel.size
        omega
  · rcases hS with e | e | e
    · exact hn (Or.inl e)
    · exact hn (Or.inr (Or.inl e))
    · rcases k3 with k3 | ⟨q, e1, e2⟩
      · exact hn (Or.inr (Or.inr (e.trans k3)))
      · rw [e1] at e
        injection e with e
        omega
theorem e27_new (c : Lim) (z : Lw) (Ai : Option Addr) (ni ci : Nat) (w wr : World) (hw : Below w.heap.size w wr) (hn : 0 ≤ nd ∧ nd ≤ 7) (hc : limB c = true) :
    Calls Try.prog 13 #[.int .i64 nd, .agg #[.int .i64 z.work, .int .i64 z.side, .int .i64 z.aux, .int .i64 c.buffer, .int .i64 c.batch, .int .i64 c.every, .int .i64 c.flight, .int .i64 c.retry, .int .i64 c.tries, .int .i64 z.traces, .int .i64 z.lines, .slice Ai ni ci]] wr fun e w' => ∃ g gb, e = .returned (.tuple #[.pointer (some ⟨g, 0, none⟩), .int .i64 0]) ∧ E27 w w' g gb none nd c z ex0 ∧ (∀ b, b < wr.heap.size → ¬ exS g gb none b) ∧ Below wr.heap.size wr w' := by
  refine (exnew_any nd c z Ai ni ci wr hn hc).mono ?_
  rintro e w' ⟨g, gb, rfl, h1, h2, h3⟩
  exact ⟨g, gb, rfl, ⟨⟨_, h1⟩, fun b hb => Nat.le_trans hw.size (h2 b hb), estep hw h3⟩, fun b hb hS => by have := h2 b hS; omega, h3⟩
theorem e27_put (s : Sp) (h : E27 w wr g gb p nd c z x) (hs : s.name.length ≤ 140737488351232) (hlo : x.buf.2 ≤ 1000000) {y : Exs} {r : Int} (H : Hid (exPut c x s = (y, r))) :
    Calls Try.prog 14 #[.pointer (some ⟨g, 0, none⟩), .agg #[.int .u64 (s.hi : Int), .int .u64 (s.lo : Int), .int .u64 (s.id : Int), .int .u64 (s.up : Int), .string (bs s.name), .int .i64 s.status, .int .i64 s.seq, .int .i64 s.kids, .bool s.shade, .int .i64 s.start, .int .i64 s.fin]] wr fun e w' => e = .returned (.int .i64 r) ∧ E27r w wr g gb p nd c z y w' := by
  obtain ⟨v, h1⟩ := h.h
  refine (exput_any g gb p nd c z v x s wr h1 hs hlo H).mono ?_
  rintro e w' ⟨rfl, h2⟩
  exact ⟨rfl, e27_of h h2⟩
theorem e27_step (raw : Int) (h : E27 w wr g gb p nd c z x) (hP : ExP nd c x) {y : Exs} {o : List Snt} (H : Hid (exStep nd c x raw = (y, o))) {k : Nat} (hk : Hid (o.length = k)) :
    Calls Try.prog 16 #[.pointer (some ⟨g, 0, none⟩), .int .i64 raw] wr fun e w' => ∃ A cap, e = .returned (.slice A k cap) ∧ GB encS1 1 9 w' wr.heap.size (.slice A k cap) (o.map btT) ∧ E27r w wr g gb p nd c z y w' := by
  obtain ⟨v, h1⟩ := h.h
  refine (exstep_any g gb p nd c z v x raw wr h1 hP H).mono ?_
  rintro e w' ⟨A, k', cap, rfl, hk', h2, h3⟩
  obtain rfl := hk'.symm.trans hk.out
  exact ⟨A, cap, rfl, h2, e27_of h h3⟩
theorem e27_ack (q : Int) (h : E27 w wr g gb p nd c z x) (hP : ExP nd c x) {y : Exs} {k : Nat} (H : Hid (exAck x q = (y, k))) :
    Calls Try.prog 18 #[.pointer (some ⟨g, 0, none⟩), .int .i64 q] wr fun e w' => e = .returned (.int .i64 (k : Int)) ∧ E27r w wr g gb p nd c z y w' := by
  obtain ⟨v, h1⟩ := h.h
  refine (exack_any g gb p nd c z v x q wr h1 hP.w.g hP.ac H).mono ?_
  rintro e w' ⟨rfl, h2⟩
  exact ⟨rfl, e27_of h h2⟩
theorem e27_sent (h : E27 w wr g gb p nd c z x) (hP : ExP nd c x) {n : Nat} (hn : Hid (x.way.length = n)) :
    Calls Try.prog 20 #[.pointer (some ⟨g, 0, none⟩)] wr fun e w' => (∃ A c, e = .returned (.slice A n c)) ∧ Below wr.heap.size wr w' := by
  obtain ⟨v, h1⟩ := h.h
  exact exsent_any g gb p nd c z v x wr h1 hP.w.g hn
theorem e27_tally (h : E27 w wr g gb p nd c z x) (hP : ExP nd c x) :
    Calls Try.prog 19 #[.pointer (some ⟨g, 0, none⟩)] wr fun e w' => e = .returned (tlV x) ∧ Below wr.heap.size wr w' := by
  obtain ⟨v, h1⟩ := h.h
  exact extally_any g gb p nd c z v x wr h1 hP.w.g ⟨hP.ac, hP.gv, hP.lo⟩
end
end Go.Proofs.Ytpfhmpblcmednaa
namespace Go.Proofs.Ytpfhmpblcmednaa
set_option linter.unusedVariables false
set_option linter.unusedSimpArgs false
open Go.RowKit Go.ChangeShapes Go.WideShapes Go.Deep Go.Joins

theorem tl_guard (op : BinOp) (p q : Operand) (xs ys : Array Value) (w : World) : (eqGuard op 50 p q (.agg xs) (.agg ys)).run Try.prog w = .ok () w := run_eqGuard_agg w op _ p q xs ys (by kernel_rfl)
theorem tl_eqIn (k : Nat) (w : World) (a b c d e f g : Int) : (Op.equalIn (k + 2) 50 (.agg #[.int .i64 a, .int .i64 b, .int .i64 c, .int .i64 d, .int .i64 e, .int .i64 f, .int .i64 g]) (.agg #[.int .i64 a, .int .i64 b, .int .i64 c, .int .i64 d, .int .i64 e, .int .i64 f, .int .i64 g])).run Try.prog w = .ok true w := by
  have us2 := Try.underlying3
  have as2 := Try.isAgg3
  have zs2 := Try.sizeOf3
  rw [run_equalIn_agg w (k + 1) _ _ _ (by kernel_rfl) (by kernel_rfl)]
  simp only [Program.fieldsOf, Try.underlying50]
  go_simp
theorem tl_eql (w : World) (a b c d e f g : Int) : (binOp .eql 50 (.agg #[.int .i64 a, .int .i64 b, .int .i64 c, .int .i64 d, .int .i64 e, .int .i64 f, .int .i64 g]) (.agg #[.int .i64 a, .int .i64 b, .int .i64 c, .int .i64 d, .int .i64 e, .int .i64 f, .int .i64 g])).run Try.prog w = .ok (.bool true) w := by
  rw [run_eql_struct, show (10000 : Nat) = 9998 + 2 from rfl, tl_eqIn]; rfl
set_option maxRecDepth 100000 in
theorem exput_nil (w : World) : Calls Try.prog 14 #[.pointer none, .agg #[.int .u64 0, .int .u64 0, .int .u64 0, .int .u64 0, .string (ByteArray.mk #[]), .int .i64 0, .int .i64 0, .int .i64 0, .bool false, .int .i64 0, .int .i64 0]] w fun e w' => e = .returned (.int .i64 1) ∧ Below w.heap.size w w' := by
  have hb := hid (enew w (.cells #[.int .u64 0, .int .u64 0, .int .u64 0, .int .u64 0, .string (ByteArray.mk #[]), .int .i64 0, .int .i64 0, .int .i64 0, .bool false, .int .i64 0, .int .i64 0] 37))
  go_enter Try.func14, Try.ntmps14
  go_wp2_with fail
  go_returns
  exact ⟨rfl, hb.out⟩
set_option maxRecDepth 100000 in
theorem exstep_nil (n : Int) (w : World) : Calls Try.prog 16 #[.pointer none, .int .i64 n] w fun e w' => e = .returned (.slice none 0 0) ∧ Below w.heap.size w w' := by
  go_enter Try.func16, Try.ntmps16
  go_wp2_with fail
  go_returns
  exact ⟨rfl, Below.refl _ _⟩
set_option maxRecDepth 100000 in
theorem exack_nil (n : Int) (w : World) : Calls Try.prog 18 #[.pointer none, .int .i64 n] w fun e w' => e = .returned (.int .i64 0) ∧ Below w.heap.size w w' := by
  go_enter Try.func18, Try.ntmps18
  go_wp2_with fail
  go_returns
  exact ⟨rfl, Below.refl _ _⟩
set_option maxRecDepth 100000 in
theorem exsent_nil (w : World) : Calls Try.prog 20 #[.pointer none] w fun e w' => e = .returned (.slice none 0 0) ∧ Below w.heap.size w w' := by
  go_enter Try.func20, Try.ntmps20
  go_wp2_with fail
  go_returns
  exact ⟨rfl, Below.refl _ _⟩
set_option maxRecDepth 100000 in
set_option maxHeartbeats 4000000 in
theorem extally_nil (w : World) : Calls Try.prog 19 #[.pointer none] w fun e w' => e = .returned (.agg #[.int .i64 0, .int .i64 0, .int .i64 0, .int .i64 0, .int .i64 0, .int .i64 0, .int .i64 0]) ∧ Below w.heap.size w w' := by
  have HB0 := hid (enew w (.cells #[.int .i64 0, .int .i64 0, .int .i64 0, .int .i64 0, .int .i64 0, .int .i64 0, .int .i64 0] 50))
  have k0 := Bk.new w 50 #[.int .i64 0, .int .i64 0, .int .i64 0, .int .i64 0, .int .i64 0, .int .i64 0, .int .i64 0]
  go_enter Try.func19, Try.ntmps19
  go_upto_region 1 with (fail)
  generalize w.alloc (.cells #[.int .i64 0, .int .i64 0, .int .i64 0, .int .i64 0, .int .i64 0, .int .i64 0, .int .i64 0] 50) = v0 at *
  have HB1 := hid (tlbel7 HB0.out (Nat.le_refl _) (.int .i64 0) (.int .i64 0) (.int .i64 0) (.int .i64 0) (.int .i64 0) (.int .i64 0) (.int .i64 0))
  obtain ⟨r, hr⟩ : ∃ r, w.heap.size = r := ⟨_, rfl⟩
  rw [hr] at k0 HB1 ⊢
  have K1 := tlset7 k0 (.int .i64 0) (.int .i64 0) (.int .i64 0) (.int .i64 0) (.int .i64 0) (.int .i64 0) (.int .i64 0)
  have x0 := Bk.cell k0 0
  have u0 := Bk.frozen k0 0
  have d0 := Bk.cell K1 0
  have x1 := Bk.cell k0 1
  have u1 := Bk.frozen k0 1
  have d1 := Bk.cell K1 1
  have x2 := Bk.cell k0 2
  have u2 := Bk.frozen k0 2
  have d2 := Bk.cell K1 2
  have x3 := Bk.cell k0 3
  have u3 := Bk.frozen k0 3
  have d3 := Bk.cell K1 3
  have x4 := Bk.cell k0 4
  have u4 := Bk.frozen k0 4
  have d4 := Bk.cell K1 4
  have x5 := Bk.cell k0 5
  have u5 := Bk.frozen k0 5
  have d5 := Bk.cell K1 5
  have x6 := Bk.cell k0 6
  have u6 := Bk.frozen k0 6
  have d6 := Bk.cell K1 6
  have HR := hid hr
  clear k0 K1 hr HB0
  go_wp2_with fail
  (try simp only [Exit.inBlock, Exit.then])
  refine bodyPost_ret (v := .agg #[.int .i64 0, .int .i64 0, .int .i64 0, .int .i64 0, .int .i64 0, .int .i64 0, .int .i64 0]) (by simp [results, Try.results19, go_sem, d0, d1, d2, d3, d4, d5, d6]) rfl ?_
  exact ⟨rfl, by rw [HR.out]; exact HB1.out⟩
set_option maxRecDepth 100000 in
set_option maxHeartbeats 4000000 in
theorem nothing27_any (w : World) : Calls Try.prog 44 #[] w fun e w' => e = .returned (.bool true) ∧ Below w.heap.size w w' := by
  have hg := tl_guard
  have hq := tl_eql
  have H1 := hid exput_nil
  have H2 := hid (exstep_nil 1)
  have H3 := hid (exack_nil 0)
  have H4 := hid exsent_nil
  have H5 := hid extally_nil
  go_enter Try.func44, Try.ntmps44
  go_wp2_with fail
  refine (H1.out _).mono ?_
  rintro e w1 ⟨rfl, hb1⟩
  have B1 := hid hb1
  clear hb1 H1
  go_wp2_with fail
  refine (H2.out _).mono ?_
  rintro e w2 ⟨rfl, hb2⟩
  have B2 := hid (estep B1.out hb2)
  clear hb2 H2
  go_wp2_with fail
  refine (H3.out _).mono ?_
  rintro e w3 ⟨rfl, hb3⟩
  have B3 := hid (estep B2.out hb3)
  clear hb3 H3
  go_wp2_with fail
  refine (H4.out _).mono ?_
  rintro e w4 ⟨rfl, hb4⟩
  have B4 := hid (estep B3.out hb4)
  clear hb4 H4
  go_wp2_with fail
  refine (H5.out _).mono ?_
  rintro e w5 ⟨rfl, hb5⟩
  have B5 := hid (estep B4.out hb5)
  clear hb5 H5
  go_wp2_with fail
  go_returns
  exact ⟨rfl, B5.out⟩
theorem lmset12 {w : World} {g : Nat} {t : TypeId} {c0 c1 c2 c3 c4 c5 c6 c7 c8 c9 c10 c11 : Value} (k : Bk w g t #[c0, c1, c2, c3, c4, c5, c6, c7, c8, c9, c10, c11]) (a0 a1 a2 a3 a4 a5 a6 a7 a8 a9 a10 a11 : Value) : Bk ((((((((((((w.setCell ⟨g, 0, none⟩ a0).setCell ⟨g, 1, none⟩ a1).setCell ⟨g, 2, none⟩ a2).setCell ⟨g, 3, none⟩ a3).setCell ⟨g, 4, none⟩ a4).setCell ⟨g, 5, none⟩ a5).setCell ⟨g, 6, none⟩ a6).setCell ⟨g, 7, none⟩ a7).setCell ⟨g, 8, none⟩ a8).setCell ⟨g, 9, none⟩ a9).setCell ⟨g, 10, none⟩ a10).setCell ⟨g, 11, none⟩ a11) g t #[a0, a1, a2, a3, a4, a5, a6, a7, a8, a9, a10, a11] := by
  have h1 : Bk (w.setCell ⟨g, 0, none⟩ a0) g t #[a0, c1, c2, c3, c4, c5, c6, c7, c8, c9, c10, c11] := Bk.set_ k 0 a0
  have h2 : Bk ((w.setCell ⟨g, 0, none⟩ a0).setCell ⟨g, 1, none⟩ a1) g t #[a0, a1, c2, c3, c4, c5, c6, c7, c8, c9, c10, c11] := Bk.set_ h1 1 a1
  have h3 : Bk (((w.setCell ⟨g, 0, none⟩ a0).setCell ⟨g, 1, none⟩ a1).setCell ⟨g, 2, none⟩ a2) g t #[a0, a1, a2, c3, c4, c5, c6, c7, c8, c9, c10, c11] := Bk.set_ h2 2 a2
  have h4 : Bk ((((w.setCell ⟨g, 0, none⟩ a0).setCell ⟨g, 1, none⟩ a1).setCell ⟨g, 2, none⟩ a2).setCell ⟨g, 3, none⟩ a3) g t #[a0, a1, a2, a3, c4, c5, c6, c7, c8, c9, c10, c11] := Bk.set_ h3 3 a3
  have h5 : Bk (((((w.setCell ⟨g, 0, none⟩ a0).setCell ⟨g, 1, none⟩ a1).setCell ⟨g, 2, none⟩ a2).setCell ⟨g, 3, none⟩ a3).setCell ⟨g, 4, none⟩ a4) g t #[a0, a1, a2, a3, a4, c5, c6, c7, c8, c9, c10, c11] := Bk.set_ h4 4 a4
  have h6 : Bk ((((((w.setCell ⟨g, 0, none⟩ a0).setCell ⟨g, 1, none⟩ a1).setCell ⟨g, 2, none⟩ a2).setCell ⟨g, 3, none⟩ a3).setCell ⟨g, 4, none⟩ a4).setCell ⟨g, 5, none⟩ a5) g t #[a0, a1, a2, a3, a4, a5, c6, c7, c8, c9, c10, c11] := Bk.set_ h5 5 a5
  have h7 : Bk (((((((w.setCell ⟨g, 0, none⟩ a0).setCell ⟨g, 1, none⟩ a1).setCell ⟨g, 2, none⟩ a2).setCell ⟨g, 3, none⟩ a3).setCell ⟨g, 4, none⟩ a4).setCell ⟨g, 5, none⟩ a5).setCell ⟨g, 6, none⟩ a6) g t #[a0, a1, a2, a3, a4, a5, a6, c7, c8, c9, c10, c11] := Bk.set_ h6 6 a6
  have h8 : Bk ((((((((w.setCell ⟨g, 0, none⟩ a0).setCell ⟨g, 1, none⟩ a1).setCell ⟨g, 2, none⟩ a2).setCell ⟨g, 3, none⟩ a3).setCell ⟨g, 4, none⟩ a4).setCell ⟨g, 5, none⟩ a5).setCell ⟨g, 6, none⟩ a6).setCell ⟨g, 7, none⟩ a7) g t #[a0, a1, a2, a3, a4, a5, a6, a7, c8, c9, c10, c11] := Bk.set_ h7 7 a7
  have h9 : Bk (((((((((w.setCell ⟨g, 0, none⟩ a0).setCell ⟨g, 1, none⟩ a1).setCell ⟨g, 2, none⟩ a2).setCell ⟨g, 3, none⟩ a3).setCell ⟨g, 4, none⟩ a4).setCell ⟨g, 5, none⟩ a5).setCell ⟨g, 6, none⟩ a6).setCell ⟨g, 7, none⟩ a7).setCell ⟨g, 8, none⟩ a8) g t #[a0, a1, a2, a3, a4, a5, a6, a7, a8, c9, c10, c11] := Bk.set_ h8 8 a8
  have h10 : Bk ((((((((((w.setCell ⟨g, 0, none⟩ a0).setCell ⟨g, 1, none⟩ a1).setCell ⟨g, 2, none⟩ a2).setCell ⟨g, 3, none⟩ a3).setCell ⟨g, 4, none⟩ a4).setCell ⟨g, 5, none⟩ a5).setCell ⟨g, 6, none⟩ a6).setCell ⟨g, 7, none⟩ a7).setCell ⟨g, 8, none⟩ a8).setCell ⟨g, 9, none⟩ a9) g t #[a0, a1, a2, a3, a4, a5, a6, a7, a8, a9, c10, c11] := Bk.set_ h9 9 a9
  have h11 : Bk (((((((((((w.setCell ⟨g, 0, none⟩ a0).setCell ⟨g, 1, none⟩ a1).setCell ⟨g, 2, none⟩ a2).setCell ⟨g, 3, none⟩ a3).setCell ⟨g, 4, none⟩ a4).setCell ⟨g, 5, none⟩ a5).setCell ⟨g, 6, none⟩ a6).setCell ⟨g, 7, none⟩ a7).setCell ⟨g, 8, none⟩ a8).setCell ⟨g, 9, none⟩ a9).setCell ⟨g, 10, none⟩ a10) g t #[a0, a1, a2, a3, a4, a5, a6, a7, a8, a9, a10, c11] := Bk.set_ h10 10 a10
  exact Bk.set_ h11 11 a11
theorem lmbel12 {w0 w : World} {B g : Nat} (h : Below B w0 w) (hg : B ≤ g) (a0 a1 a2 a3 a4 a5 a6 a7 a8 a9 a10 a11 : Value) : Below B w0 ((((((((((((w.setCell ⟨g, 0, none⟩ a0).setCell ⟨g, 1, none⟩ a1).setCell ⟨g, 2, none⟩ a2).setCell ⟨g, 3, none⟩ a3).setCell ⟨g, 4, none⟩ a4).setCell ⟨g, 5, none⟩ a5).setCell ⟨g, 6, none⟩ a6).setCell ⟨g, 7, none⟩ a7).setCell ⟨g, 8, none⟩ a8).setCell ⟨g, 9, none⟩ a9).setCell ⟨g, 10, none⟩ a10).setCell ⟨g, 11, none⟩ a11) :=
  ((((((((((((h.setCell (p := ⟨g, 0, none⟩) hg a0).setCell (p := ⟨g, 1, none⟩) hg a1).setCell (p := ⟨g, 2, none⟩) hg a2).setCell (p := ⟨g, 3, none⟩) hg a3).setCell (p := ⟨g, 4, none⟩) hg a4).setCell (p := ⟨g, 5, none⟩) hg a5).setCell (p := ⟨g, 6, none⟩) hg a6).setCell (p := ⟨g, 7, none⟩) hg a7).setCell (p := ⟨g, 8, none⟩) hg a8).setCell (p := ⟨g, 9, none⟩) hg a9).setCell (p := ⟨g, 10, none⟩) hg a10).setCell (p := ⟨g, 11, none⟩) hg a11)
set_option maxRecDepth 100000 in
set_option maxHeartbeats 4000000 in
theorem limits27_any (w : World) : Calls Try.prog 40 #[] w fun e w' => e = .returned (.agg #[.int .i64 0, .int .i64 0, .int .i64 0, .int .i64 3, .int .i64 2, .int .i64 4, .int .i64 2, .int .i64 2, .int .i64 2, .int .i64 0, .int .i64 0, .slice none 0 0]) ∧ Below w.heap.size w w' := by
  have k0 := Bk.new w 24 #[.int .i64 0, .int .i64 0, .int .i64 0, .int .i64 0, .int .i64 0, .int .i64 0, .int .i64 0, .int .i64 0, .int .i64 0, .int .i64 0, .int .i64 0, .slice none 0 0]
  have HB0 := hid (enew w (.cells #[.int .i64 0, .int .i64 0, .int .i64 0, .int .i64 0, .int .i64 0, .int .i64 0, .int .i64 0, .int .i64 0, .int .i64 0, .int .i64 0, .int .i64 0, .slice none 0 0] 24))
  go_enter Try.func40, Try.ntmps40
  go_upto_region 1 with (fail)
  generalize w.alloc (.cells #[.int .i64 0, .int .i64 0, .int .i64 0, .int .i64 0, .int .i64 0, .int .i64 0, .int .i64 0, .int .i64 0, .int .i64 0, .int .i64 0, .int .i64 0, .slice none 0 0] 24) = v0 at *
  have HB1 := hid (lmbel12 HB0.out (Nat.le_refl _) (.int .i64 0) (.int .i64 0) (.int .i64 0) (.int .i64 3) (.int .i64 2) (.int .i64 4) (.int .i64 2) (.int .i64 2) (.int .i64 2) (.int .i64 0) (.int .i64 0) (.slice none 0 0))
  obtain ⟨r, hr⟩ : ∃ r, w.heap.size = r := ⟨_, rfl⟩
  rw [hr] at k0 HB1 ⊢
  have K1 := lmset12 k0 (.int .i64 0) (.int .i64 0) (.int .i64 0) (.int .i64 3) (.int .i64 2) (.int .i64 4) (.int .i64 2) (.int .i64 2) (.int .i64 2) (.int .i64 0) (.int .i64 0) (.slice none 0 0)
  have x0 := Bk.cell k0 0
  have u0 := Bk.frozen k0 0
  have d0 := Bk.cell K1 0
  have x1 := Bk.cell k0 1
  have u1 := Bk.frozen k0 1
  have d1 := Bk.cell K1 1
  have x2 := Bk.cell k0 2
  have u2 := Bk.frozen k0 2
  have d2 := Bk.cell K1 2
  have x3 := Bk.cell k0 3
  have u3 := Bk.frozen k0 3
  have d3 := Bk.cell K1 3
  have x4 := Bk.cell k0 4
  have u4 := Bk.frozen k0 4
  have d4 := Bk.cell K1 4
  have x5 := Bk.cell k0 5
  have u5 := Bk.frozen k0 5
  have d5 := Bk.cell K1 5
  have x6 := Bk.cell k0 6
  have u6 := Bk.frozen k0 6
  have d6 := Bk.cell K1 6
  have x7 := Bk.cell k0 7
  have u7 := Bk.frozen k0 7
  have d7 := Bk.cell K1 7
  have x8 := Bk.cell k0 8
  have u8 := Bk.frozen k0 8
  have d8 := Bk.cell K1 8
  have x9 := Bk.cell k0 9
  have u9 := Bk.frozen k0 9
  have d9 := Bk.cell K1 9
  have x10 := Bk.cell k0 10
  have u10 := Bk.frozen k0 10
  have d10 := Bk.cell K1 10
  have x11 := Bk.cell k0 11
  have u11 := Bk.frozen k0 11
  have d11 := Bk.cell K1 11
  have HR := hid hr
  clear k0 K1 hr HB0
  go_wp2_with fail
  (try simp only [Exit.inBlock, Exit.then])
  refine bodyPost_ret (v := .agg #[.int .i64 0, .int .i64 0, .int .i64 0, .int .i64 3, .int .i64 2, .int .i64 4, .int .i64 2, .int .i64 2, .int .i64 2, .int .i64 0, .int .i64 0, .slice none 0 0]) (by simp [results, Try.results40, go_sem, d0, d1, d2, d3, d4, d5, d6, d7, d8, d9, d10, d11]) rfl ?_
  exact ⟨rfl, by rw [HR.out]; exact HB1.out⟩
end Go.Proofs.Ytpfhmpblcmednaa
namespace Go.Proofs.Ytpfhmpblcmednaa
set_option linter.unusedVariables false
set_option linter.unusedSimpArgs false
open Go.RowKit Go.Joins

def s27 : Sp := ⟨0, 1, 2, 0, [97], 0, 0, 0, false, 0, 0⟩
def c27 : Lim := ⟨3, 2, 4, 2, 2, 2⟩
def z27 : Lw := ⟨0, 0, 0, 0, 0⟩
def x27a : Exs := ⟨([s27], 0), [], 0, 0, 0, 0⟩
def x27b : Exs := ⟨([s27, s27], 0), [], 0, 0, 0, 0⟩
def y27 : Snt := ⟨5, 0, [s27, s27], 1, 3⟩
def x27c : Exs := ⟨([], 0), [y27], 1, 1, 0, 0⟩
def x27d : Exs := ⟨([], 0), [], 1, 1, 2, 0⟩
theorem ok27 : okSp s27 := ⟨by decide, by decide, by decide, by decide, by decide⟩
theorem ck27 : chkS s27 = 0 := by decide +kernel
theorem ck27z : chkS sp0 = 11 := by decide +kernel
theorem k27_1 : exPut c27 ex0 s27 = (x27a, 0) := by unfold exPut; rw [if_neg (by rw [ck27]; decide)]; rfl
theorem k27_2 : exPut c27 x27a s27 = (x27b, 0) := by unfold exPut; rw [if_neg (by rw [ck27]; decide)]; rfl
theorem k27_3 : exPut c27 x27b sp0 = (x27b, 11) := by unfold exPut; rw [if_pos (by rw [ck27z]; decide), ck27z]
theorem k27_4 : exStep 5 c27 x27b 1 = (x27c, [y27]) := rfl
theorem k27_5 : exAck x27c 0 = (x27d, 2) := rfl
theorem lim27 : LimOk c27 := ⟨by decide, by decide, by decide, by decide, by decide, by decide⟩
theorem limb27 : limB c27 = true := by decide
theorem okb27 : ∀ s ∈ x27b.buf.1, okSp s := fun s hs => by
  simp [x27b] at hs
  rcases hs with rfl | rfl <;> exact ok27
theorem exw0 : ExW [] := ⟨⟨by decide, fun y hy => (by cases hy)⟩, fun y hy => (by cases hy), fun y hy => (by cases hy)⟩
theorem exp27b : ExP 5 c27 x27b := ⟨lim27, exw0, okb27, by decide, by decide, by decide, by decide, by decide⟩
theorem exw27c : ExW [y27] := ⟨⟨by decide, fun y hy => by
    obtain rfl := List.mem_singleton.1 hy
    decide⟩, fun y hy => by
    obtain rfl := List.mem_singleton.1 hy
    decide, fun y hy s hs => by
    obtain rfl := List.mem_singleton.1 hy
    simp [y27] at hs
    rcases hs with rfl | rfl <;> exact ok27⟩
theorem exp27c : ExP 5 c27 x27c := ⟨lim27, exw27c, fun s hs => (by cases hs), by decide, by decide, by decide, by decide, by decide⟩
theorem exp27d : ExP 5 c27 x27d := ⟨lim27, exw0, fun s hs => (by cases hs), by decide, by decide, by decide, by decide, by decide⟩
/-- Of what type an exporter's blocks are. -/
theorem E27.kinds {w wr : World} {g gb : Nat} {p : Option Nat} {nd : Int} {c : Lim} {z : Lw} {x : Exs} (h : E27 w wr g gb p nd c z x) {b : Nat} (hb : exS g gb p b) {e : TypeId} (hk : Kd wr b e) (h1 : e ≠ 103) (h2 : e ≠ 140) (h3 : e ≠ 37) : False := by
  obtain ⟨v, hx⟩ := h.h
  rcases hb with rfl | rfl | hb
  · exact Kd.ne hk h1 hx.k.kd
  · exact Kd.ne hk h2 hx.b.kd.1
  · exact Kd.ne hk h3 (hx.b.kd.2 b hb.symm)
set_option maxRecDepth 100000 in
set_option maxHeartbeats 16000000 in
theorem known27_any (w : World) : Calls Try.prog 12 #[] w fun e w' => e = .returned (.bool true) ∧ Below w.heap.size w w' := by
  have hg := tl_guard
  have hq := tl_eql
  have HL := hid limits27_any
  have HNO := hid nothing27_any
  have HC0 := hid (fun w2 => show Calls Try.prog 43 #[.agg #[.int .i64 0, .int .i64 0, .int .i64 0, .int .i64 0, .int .i64 0, .int .i64 0, .int .i64 0, .int .i64 0, .int .i64 0, .int .i64 0, .int .i64 0, .slice none 0 0]] w2 (fun e w' => e = .returned (.int .i64 12) ∧ Below w2.heap.size w2 w') from excheck_any ⟨0, 0, 0, 0, 0, 0⟩ z27 (.slice none 0 0) w2 (r := 12) (hid (by decide)))
  have HN8 := hid (fun w2 => show Calls Try.prog 13 #[.int .i64 8, .agg #[.int .i64 0, .int .i64 0, .int .i64 0, .int .i64 3, .int .i64 2, .int .i64 4, .int .i64 2, .int .i64 2, .int .i64 2, .int .i64 0, .int .i64 0, .slice none 0 0]] w2 (fun e w' => e = .returned (.tuple #[.pointer none, .int .i64 12]) ∧ Below w2.heap.size w2 w') from exnew_no 8 c27 z27 none 0 0 w2 (by decide))
  have HN5 := hid (fun w2 (hb : Below w.heap.size w w2) => e27_new (nd := 5) c27 z27 none 0 0 w w2 hb ⟨by decide, by decide⟩ limb27)
  go_enter Try.func12, Try.ntmps12
  go_wp2_with fail
  refine (HL.out _).mono ?_
  rintro e w1 ⟨rfl, hb1⟩
  have B1 := hid hb1
  clear hb1
  go_wp2_with fail
  refine (HN5.out _ B1.out).mono ?_
  rintro e w2 ⟨g, gb, rfl, hE, -⟩
  have HE0 := hid hE
  clear hE HN5 B1
  go_upto_region 5 with (fail)
  have hen := enew w2 (.cells #[.int .u64 0, .int .u64 1, .int .u64 2, .int .u64 0, .string (ByteArray.mk #[97]), .int .i64 0, .int .i64 0, .int .i64 0, .bool false, .int .i64 0, .int .i64 0] 37)
  have hE4 := HE0.out.up hen
  have KS := hid (Bk.new w2 37 #[.int .u64 0, .int .u64 1, .int .u64 2, .int .u64 0, .string (ByteArray.mk #[97]), .int .i64 0, .int .i64 0, .int .i64 0, .bool false, .int .i64 0, .int .i64 0])
  have HSN : Hid (¬ exS g gb none w2.heap.size) := hid (fun h => by have := HE0.out.lt _ h; omega)
  have HE4 := hid hE4
  obtain ⟨bs0, hbs⟩ : ∃ b, w2.heap.size = b := ⟨_, rfl⟩
  rw [hbs] at KS HSN ⊢
  clear hbs hen hE4 HE0
  generalize w2.alloc (.cells #[.int .u64 0, .int .u64 1, .int .u64 2, .int .u64 0, .string (ByteArray.mk #[97]), .int .i64 0, .int .i64 0, .int .i64 0, .bool false, .int .i64 0, .int .i64 0] 37) = w4 at *
  have HP1 := hid (fun w5 (h : E27 w w5 g gb none 5 c27 z27 ex0) => show Calls Try.prog 14 #[.pointer (some ⟨g, 0, none⟩), .agg #[.int .u64 0, .int .u64 1, .int .u64 2, .int .u64 0, .string (ByteArray.mk #[97]), .int .i64 0, .int .i64 0, .int .i64 0, .bool false, .int .i64 0, .int .i64 0]] w5 (fun e w' => e = .returned (.int .i64 0) ∧ E27r w w5 g gb none 5 c27 z27 x27a w') from e27_put s27 h (by decide) (by decide) (hid k27_1))
  have HP2 := hid (fun w5 p5 (h : E27 w w5 g gb p5 5 c27 z27 x27a) => show Calls Try.prog 14 #[.pointer (some ⟨g, 0, none⟩), .agg #[.int .u64 0, .int .u64 1, .int .u64 2, .int .u64 0, .string (ByteArray.mk #[97]), .int .i64 0, .int .i64 0, .int .i64 0, .bool false, .int .i64 0, .int .i64 0]] w5 (fun e w' => e = .returned (.int .i64 0) ∧ E27r w w5 g gb p5 5 c27 z27 x27b w') from e27_put s27 h (by decide) (by decide) (hid k27_2))
  have HP3 := hid (fun w5 p5 (h : E27 w w5 g gb p5 5 c27 z27 x27b) => show Calls Try.prog 14 #[.pointer (some ⟨g, 0, none⟩), .agg #[.int .u64 0, .int .u64 0, .int .u64 0, .int .u64 0, .string (ByteArray.mk #[]), .int .i64 0, .int .i64 0, .int .i64 0, .bool false, .int .i64 0, .int .i64 0]] w5 (fun e w' => e = .returned (.int .i64 11) ∧ E27r w w5 g gb p5 5 c27 z27 x27b w') from e27_put sp0 h (by decide) (by decide) (hid k27_3))
  have HS : Hid (∀ w' : World, w'.heap[bs0]? = w4.heap[bs0]? → w'.cell? ⟨bs0, 0, none⟩ = some (.int .u64 0) ∧ w'.cell? ⟨bs0, 1, none⟩ = some (.int .u64 1) ∧ w'.cell? ⟨bs0, 2, none⟩ = some (.int .u64 2) ∧ w'.cell? ⟨bs0, 3, none⟩ = some (.int .u64 0) ∧ w'.cell? ⟨bs0, 4, none⟩ = some (.string (ByteArray.mk #[97])) ∧ w'.cell? ⟨bs0, 5, none⟩ = some (.int .i64 0) ∧ w'.cell? ⟨bs0, 6, none⟩ = some (.int .i64 0) ∧ w'.cell? ⟨bs0, 7, none⟩ = some (.int .i64 0) ∧ w'.cell? ⟨bs0, 8, none⟩ = some (.bool false) ∧ w'.cell? ⟨bs0, 9, none⟩ = some (.int .i64 0) ∧ w'.cell? ⟨bs0, 10, none⟩ = some (.int .i64 0)) := hid (fun w' e => by
    have k : Bk w' bs0 37 #[.int .u64 0, .int .u64 1, .int .u64 2, .int .u64 0, .string (ByteArray.mk #[97]), .int .i64 0, .int .i64 0, .int .i64 0, .bool false, .int .i64 0, .int .i64 0] := e.trans KS.out
    exact ⟨Bk.cell k 0, Bk.cell k 1, Bk.cell k 2, Bk.cell k 3, Bk.cell k 4, Bk.cell k 5, Bk.cell k 6, Bk.cell k 7, Bk.cell k 8, Bk.cell k 9, Bk.cell k 10⟩)
  have hs : w4.drew.heap[bs0]? = w4.heap[bs0]? := rfl
  have hE0 : E27 w w4.drew g gb none 5 c27 z27 ex0 := HE4.out.up (Below.refl _ _).drew
  have hlt0 : Hid (bs0 < w4.heap.size) := hid KS.out.lt
  have hsz0 : w4.heap.size ≤ w4.drew.heap.size := Nat.le_refl _
  have hnS := HSN.out
  go_region_held3 (fun w' => w'.cell? ⟨bs0, 0, none⟩ = some (.int .u64 0) ∧ w'.cell? ⟨bs0, 1, none⟩ = some (.int .u64 1) ∧ w'.cell? ⟨bs0, 2, none⟩ = some (.int .u64 2) ∧ w'.cell? ⟨bs0, 3, none⟩ = some (.int .u64 0) ∧ w'.cell? ⟨bs0, 4, none⟩ = some (.string (ByteArray.mk #[97])) ∧ w'.cell? ⟨bs0, 5, none⟩ = some (.int .i64 0) ∧ w'.cell? ⟨bs0, 6, none⟩ = some (.int .i64 0) ∧ w'.cell? ⟨bs0, 7, none⟩ = some (.int .i64 0) ∧ w'.cell? ⟨bs0, 8, none⟩ = some (.bool false) ∧ w'.cell? ⟨bs0, 9, none⟩ = some (.int .i64 0) ∧ w'.cell? ⟨bs0, 10, none⟩ = some (.int .i64 0)) (first | (with_reducible exact HS.out _ hs)) (first
    | (go_at_call 14
       ((with_reducible refine (HP3.out _ _ hE2).mono ?_); rintro e w5 ⟨rfl, hr⟩)
       obtain ⟨p5, hE3, ho3, hn3⟩ := hr
       have hs := (ho3.block bs0 (Nat.lt_of_lt_of_le hlt0.out hsz0) hnS).trans hs
       have hnS := hn3 bs0 (Nat.lt_of_lt_of_le hlt0.out hsz0) hnS
       have hsz0 := Nat.le_trans hsz0 ho3.size)
    | (go_at_call 14
       ((with_reducible refine (HP2.out _ _ hE1).mono ?_); rintro e w5 ⟨rfl, hr⟩)
       obtain ⟨p5, hE2, ho3, hn3⟩ := hr
       have hs := (ho3.block bs0 (Nat.lt_of_lt_of_le hlt0.out hsz0) hnS).trans hs
       have hnS := hn3 bs0 (Nat.lt_of_lt_of_le hlt0.out hsz0) hnS
       have hsz0 := Nat.le_trans hsz0 ho3.size)
    | (go_at_call 14
       ((with_reducible refine (HP1.out _ hE0).mono ?_); rintro e w5 ⟨rfl, hr⟩)
       obtain ⟨p5, hE1, ho3, hn3⟩ := hr
       have hs := (ho3.block bs0 (Nat.lt_of_lt_of_le hlt0.out hsz0) hnS).trans hs
       have hnS := hn3 bs0 (Nat.lt_of_lt_of_le hlt0.out hsz0) hnS
       have hsz0 := Nat.le_trans hsz0 ho3.size))
  all_goals
    have HE3 := hid (And.intro hE3 (And.intro hs (And.intro hnS (Nat.lt_of_lt_of_le hlt0.out hsz0))))
    clear hE0 hE1 hE2 hE3 hs hnS hsz0 HP1 HP2 HP3
    generalize p5 = pz at HE3
    have HST := hid (e27_step 1 HE3.out.1 exp27b (hid k27_4) (k := 1) (hid rfl))
    go_wp2_with fail
    refine HST.out.mono ?_
    rintro e w6 ⟨As, cs, rfl, hgt, hr⟩
    obtain ⟨p6, hE6, ho6, hn6⟩ := hr
    have KS6 : Bk w6 bs0 37 #[.int .u64 0, .int .u64 1, .int .u64 2, .int .u64 0, .string (ByteArray.mk #[97]), .int .i64 0, .int .i64 0, .int .i64 0, .bool false, .int .i64 0, .int .i64 0] := ((ho6.block bs0 HE3.out.2.2.2 HE3.out.2.2.1).trans HE3.out.2.1).trans KS.out
    have H6 := hid (And.intro hE6 (And.intro hgt KS6))
    clear hgt hE6 ho6 hn6 HST
    have x0 := Bk.cell KS6 0
    have x1 := Bk.cell KS6 1
    have x2 := Bk.cell KS6 2
    have x3 := Bk.cell KS6 3
    have x4 := Bk.cell KS6 4
    have x5 := Bk.cell KS6 5
    have x6 := Bk.cell KS6 6
    have x7 := Bk.cell KS6 7
    have x8 := Bk.cell KS6 8
    have x9 := Bk.cell KS6 9
    have x10 := Bk.cell KS6 10
    obtain ⟨t, ht⟩ : ∃ t, btT y27 = t := ⟨_, rfl⟩
    obtain ⟨r, hr0⟩ : ∃ r, (writeB 5 0 [s27, s27]).2 = r := ⟨_, rfl⟩
    have ht2 : (writeB 5 0 [s27, s27]).1 = t := ht
    have hen := enew w6 (.cells #[.int .u64 0, .int .u64 1, .int .u64 2, .int .u64 0, .string (ByteArray.mk #[97]), .int .i64 0, .int .i64 0, .int .i64 0, .bool false, .int .i64 0, .int .i64 0, .int .u64 0, .int .u64 1, .int .u64 2, .int .u64 0, .string (ByteArray.mk #[97]), .int .i64 0, .int .i64 0, .int .i64 0, .bool false, .int .i64 0, .int .i64 0] 37)
    have hgx : GX encSp 11 (w6.alloc (.cells #[.int .u64 0, .int .u64 1, .int .u64 2, .int .u64 0, .string (ByteArray.mk #[97]), .int .i64 0, .int .i64 0, .int .i64 0, .bool false, .int .i64 0, .int .i64 0, .int .u64 0, .int .u64 1, .int .u64 2, .int .u64 0, .string (ByteArray.mk #[97]), .int .i64 0, .int .i64 0, .int .i64 0, .bool false, .int .i64 0, .int .i64 0] 37)) (· < (w6.alloc (.cells #[.int .u64 0, .int .u64 1, .int .u64 2, .int .u64 0, .string (ByteArray.mk #[97]), .int .i64 0, .int .i64 0, .int .i64 0, .bool false, .int .i64 0, .int .i64 0, .int .u64 0, .int .u64 1, .int .u64 2, .int .u64 0, .string (ByteArray.mk #[97]), .int .i64 0, .int .i64 0, .int .i64 0, .bool false, .int .i64 0, .int .i64 0] 37)).heap.size) (some ⟨w6.heap.size, 0, none⟩) [s27, s27] := (gx_new (M := [s27, s27]) encSp_len (Bk.new w6 37 #[.int .u64 0, .int .u64 1, .int .u64 2, .int .u64 0, .string (ByteArray.mk #[97]), .int .i64 0, .int .i64 0, .int .i64 0, .bool false, .int .i64 0, .int .i64 0, .int .u64 0, .int .u64 1, .int .u64 2, .int .u64 0, .string (ByteArray.mk #[97]), .int .i64 0, .int .i64 0, .int .i64 0, .bool false, .int .i64 0, .int .i64 0]) rfl).imp fun b hb => by subst hb; simp
    have HWR0 := rbwrite_any (some ⟨w6.heap.size, 0, none⟩) 2 [s27, s27] 5 0 (w6.alloc (.cells #[.int .u64 0, .int .u64 1, .int .u64 2, .int .u64 0, .string (ByteArray.mk #[97]), .int .i64 0, .int .i64 0, .int .i64 0, .bool false, .int .i64 0, .int .i64 0, .int .u64 0, .int .u64 1, .int .u64 2, .int .u64 0, .string (ByteArray.mk #[97]), .int .i64 0, .int .i64 0, .int .i64 0, .bool false, .int .i64 0, .int .i64 0] 37)) (sr_gx hgx) (by decide) (fun s hs => by
      simp at hs
      rcases hs with rfl | rfl <;> exact ok27)
    rw [ht2, hr0] at HWR0
    have HWR := hid (show Calls Try.prog 41 #[.agg #[.int .i64 5, .int .i64 0, .slice (some ⟨w6.heap.size, 0, none⟩) 2 2]] (w6.alloc (.cells #[.int .u64 0, .int .u64 1, .int .u64 2, .int .u64 0, .string (ByteArray.mk #[97]), .int .i64 0, .int .i64 0, .int .i64 0, .bool false, .int .i64 0, .int .i64 0, .int .u64 0, .int .u64 1, .int .u64 2, .int .u64 0, .string (ByteArray.mk #[97]), .int .i64 0, .int .i64 0, .int .i64 0, .bool false, .int .i64 0, .int .i64 0] 37)) (fun e w' => e = .returned (.tuple #[.string (bs t), .int .i64 r]) ∧ Below (w6.alloc (.cells #[.int .u64 0, .int .u64 1, .int .u64 2, .int .u64 0, .string (ByteArray.mk #[97]), .int .i64 0, .int .i64 0, .int .i64 0, .bool false, .int .i64 0, .int .i64 0, .int .u64 0, .int .u64 1, .int .u64 2, .int .u64 0, .string (ByteArray.mk #[97]), .int .i64 0, .int .i64 0, .int .i64 0, .bool false, .int .i64 0, .int .i64 0] 37)).heap.size (w6.alloc (.cells #[.int .u64 0, .int .u64 1, .int .u64 2, .int .u64 0, .string (ByteArray.mk #[97]), .int .i64 0, .int .i64 0, .int .i64 0, .bool false, .int .i64 0, .int .i64 0, .int .u64 0, .int .u64 1, .int .u64 2, .int .u64 0, .string (ByteArray.mk #[97]), .int .i64 0, .int .i64 0, .int .i64 0, .bool false, .int .i64 0, .int .i64 0] 37)) w') from HWR0)
    have HT := hid ht
    have H7a := hid (And.intro (H6.out.1.up hen) (H6.out.2.1.below hen))
    clear ht ht2 hr0 hen hgx HWR0 KS6
    go_wp2_with fail
    refine HWR.out.mono ?_
    rintro e w7 ⟨rfl, hb7⟩
    have H7 := hid (And.intro (H7a.out.1.up hb7) (H7a.out.2.below hb7))
    have HAK := hid (show Calls Try.prog 18 #[.pointer (some ⟨g, 0, none⟩), .int .i64 0] w7 (fun e w' => e = .returned (.int .i64 2) ∧ E27r w w7 g gb p6 5 c27 z27 x27d w') from e27_ack 0 H7.out.1 exp27c (hid k27_5))
    clear hb7 HWR H7a H6 x0 x1 x2 x3 x4 x5 x6 x7 x8 x9 x10
    go_wp2_with fail
    refine HAK.out.mono ?_
    rintro e w8 ⟨rfl, hr8⟩
    obtain ⟨p8, hE8, ho8, -⟩ := hr8
    have hgt8 := flgb2 H7.out.2 ho8 fun q hq e => H7.out.1.kinds e (H7.out.2.kind q hq) (by decide) (by decide) (by decide)
    have H8 := hid (And.intro hE8 hgt8)
    clear hE8 ho8 hgt8 HAK H7
    go_wp2_with fail
    refine (HL.out _).mono ?_
    rintro e w9 ⟨rfl, hb9⟩
    have H9 := hid (And.intro (H8.out.1.up hb9) (H8.out.2.below hb9))
    clear hb9 HL H8
    go_wp2_with fail
    refine (HN8.out _).mono ?_
    rintro e w10 ⟨rfl, hb10⟩
    have H10 := hid (And.intro (H9.out.1.up hb10) (H9.out.2.below hb10))
    clear hb10 HN8 H9
    have hen11 := enew w10 (.cells #[.string (bs t)] 9)
    have hgl : GX encS1 1 (w10.alloc (.cells #[.string (bs t)] 9)) (· < (w10.alloc (.cells #[.string (bs t)] 9)).heap.size) (some ⟨w10.heap.size, 0, none⟩) [t] := (gx_new (M := [t]) encS1_len (Bk.new w10 9 #[.string (bs t)]) rfl).imp fun b hb => by subst hb; simp
    have hgA : GX encS1 1 (w10.alloc (.cells #[.string (bs t)] 9)) (· < (w10.alloc (.cells #[.string (bs t)] 9)).heap.size) As [t] := by
      have hgt10 := H10.out.2
      rw [List.map_cons, List.map_nil, HT.out] at hgt10
      obtain ⟨A', c', e, k1, -⟩ := GB.reads encS1_len hgt10
      simp only [Value.slice.injEq] at e
      obtain ⟨rfl, -, rfl⟩ := e
      exact (k1.imp fun b hb => hb.2).up hen11
    have HTX0 := texts_any As (some ⟨w10.heap.size, 0, none⟩) cs 1 [t] [t] (w10.alloc (.cells #[.string (bs t)] 9)) (stx_of_gx hgA) (stx_of_gx hgl) (by simp) (by simp)
    rw [decide_eq_true (rfl : [t] = [t])] at HTX0
    have HTX := hid (show Calls Try.prog 42 #[.slice As 1 cs, .slice (some ⟨w10.heap.size, 0, none⟩) 1 1] (w10.alloc (.cells #[.string (bs t)] 9)) (fun e w' => e = .returned (.bool true) ∧ Below (w10.alloc (.cells #[.string (bs t)] 9)).heap.size (w10.alloc (.cells #[.string (bs t)] 9)) w') from HTX0)
    have H11 := hid (H10.out.1.up hen11)
    clear hen11 hgl hgA HTX0 H10
    go_wp2_with fail
    refine HTX.out.mono ?_
    rintro e w12 ⟨rfl, hb12⟩
    have H12 := hid (H11.out.up hb12)
    have HTL := hid (show Calls Try.prog 19 #[.pointer (some ⟨g, 0, none⟩)] w12 (fun e w' => e = .returned (.agg #[.int .i64 2, .int .i64 0, .int .i64 0, .int .i64 0, .int .i64 2, .int .i64 0, .int .i64 0]) ∧ Below w12.heap.size w12 w') from e27_tally H12.out exp27d)
    clear hb12 HTX H11
    go_wp2_with fail
    refine HTL.out.mono ?_
    rintro e w13 ⟨rfl, hb13⟩
    have H13 := hid (estep H12.out.bel hb13)
    clear hb13 HTL H12
    go_wp2_with fail
    refine (HC0.out _).mono ?_
    rintro e w14 ⟨rfl, hb14⟩
    have H14 := hid (estep H13.out hb14)
    clear hb14 HC0 H13
    go_wp2_with fail
    refine (HNO.out _).mono ?_
    rintro e w15 ⟨rfl, hb15⟩
    have H15 := hid (estep H14.out hb15)
    clear hb15 HNO H14
    go_wp2_with fail
    go_returns
    exact ⟨rfl, H15.out⟩
end Go.Proofs.Ytpfhmpblcmednaa

namespace Go.Proofs.Ytpfhmpblcmednaa
set_option linter.unusedVariables false
set_option linter.unusedSimpArgs false
open Go.RowKit Go.Joins

def encN (n : Nat) : List Value := [.int .i64 (n : Int)]
theorem encN_len (n : Nat) : (encN n).length = 1 := rfl
theorem rowN : RowT Try.prog encN 1 32 3 (.int .i64 0) 8 where
  ht := Try.underlying32
  inf := by kernel_rfl
  hzs := rfl
  k0 := by decide
  hk := encN_len
  h1 := fun x u hu => by
    simp [encN] at hu
    subst hu
    rfl
  hb := by decide
theorem gvalsN_set (L : List Nat) (i m : Nat) : gvals encN (L.set i m) = (gvals encN L).set i (.int .i64 (m : Int)) := by
  have h : ∀ L : List Nat, gvals encN L = L.map fun n => .int .i64 (n : Int) := fun L => by
    induction L with
    | nil => rfl
    | cons a r ih => simp [gvals, encN] at ih ⊢; exact ih
  rw [h, h, List.map_set]
/-- One of a row of numbers is another one. -/
theorem gbN_set {w : World} {base b n cap : Nat} {L : List Nat} (h : GB encN 1 3 w base (.slice (some ⟨b, 0, none⟩) n cap) L) (i m : Nat) (hi : i < L.length) : GB encN 1 3 (w.setCell ⟨b, i, none⟩ (.int .i64 (m : Int))) base (.slice (some ⟨b, 0, none⟩) n cap) (L.set i m) := by
  rcases h.2 with ⟨h0, _⟩ | ⟨g, cap', cur, e1, e2, e3, e4, e5, e6, e7⟩
  · cases h0
  · simp only [Value.slice.injEq, Option.some.injEq, Addr.mk.injEq, and_true, true_and] at e1
    obtain ⟨rfl, hn, rfl⟩ := e1
    have k : Bk w b 3 cur := e3
    refine ⟨by rw [gvals_len encN 1 encN_len, List.length_set], Or.inr ⟨b, cap, cur.setIfInBounds i (.int .i64 (m : Int)), by rw [hn, List.length_set], e2, k.set_ i _, by rw [List.length_set]; exact e4, e5, by rw [Array.size_setIfInBounds]; exact e6, ?_⟩⟩
    rw [List.length_set, gvalsN_set, ← e7, Array.toList_setIfInBounds, List.take_set]
theorem gbN_cell {w : World} {base b n cap : Nat} {L : List Nat} (h : GB encN 1 3 w base (.slice (some ⟨b, 0, none⟩) n cap) L) (i : Nat) (hi : i < L.length) : w.cell? ⟨b, i, none⟩ = some (.int .i64 (L[i] : Int)) ∧ w.frozen? ⟨b, i, none⟩ = false := by
  rcases GB.form encN_len h with ⟨h1, -⟩ | ⟨g, cap', h1, -, -, -, -, h2⟩
  · cases h1
  · simp only [Value.slice.injEq, Option.some.injEq, Addr.mk.injEq, and_true, true_and] at h1
    obtain ⟨rfl, -, -⟩ := h1
    obtain ⟨h3, h4⟩ := h2 i (by omega)
    refine ⟨?_, h4⟩
    rw [h3]
    have h : ∀ L : List Nat, gvals encN L = L.map fun n => .int .i64 (n : Int) := fun L => by
      induction L with
      | nil => rfl
      | cons a r ih => simp [gvals, encN] at ih ⊢; exact ih
    rw [h, List.getElem?_map, List.getElem?_eq_getElem hi]
    rfl
/-- A span that may be. -/
def P27 (s : Sp) : Prop := okSp s ∧ chkS s = 0
theorem chkS_in (s : Sp) : chkS s ≠ 8 := by
  unfold chkS
  repeat' split
  all_goals decide
/-- What the loop knows. -/
structure KpI (w wr : World) (g gb : Nat) (p : Option Nat) (c : Lim) (z : Lw) (x : Exs) (sent : List Nat) (vs : Value) (bc : Nat) (cs : Array Value) (begun acked i : Nat) : Prop where
  e : E27 w wr g gb p 0 c z x
  k : ExK 0 c x sent P27
  s : GB encN 1 3 wr w.heap.size vs sent
  kb : Bk wr bc 24 cs
  sum : exSum x = begun
  ac : x.acked = acked
  bg : begun ≤ i
  nx : x.next ≤ i
  la : 0 ≤ x.last ∧ x.last ≤ 1099511627776
section
variable {w wr w2 : World} {g gb : Nat} {p : Option Nat} {c : Lim} {z : Lw} {x : Exs} {sent : List Nat} {vs : Value} {bc : Nat} {cs : Array Value} {begun acked i : Nat}
theorem KpI.up (h : KpI w wr g gb p c z x sent vs bc cs begun acked i) (hb : Below wr.heap.size wr w2) : KpI w w2 g gb p c z x sent vs bc cs begun acked i := ⟨h.e.up hb, h.k, h.s.below hb, h.kb.up hb, h.sum, h.ac, h.bg, h.nx, h.la⟩
theorem KpI.le (h : KpI w wr g gb p c z x sent vs bc cs begun acked i) : x.buf.1.length ≤ begun ∧ flSpans x.way ≤ begun ∧ x.acked ≤ begun ∧ x.buf.2 ≤ begun ∧ x.given ≤ begun := by
  have := h.sum
  unfold exSum at this
  omega
theorem KpI.pre (h : KpI w wr g gb p c z x sent vs bc cs begun acked i) (hc : LimOk c) (hi : i ≤ 1000) : ExP 0 c x := by
  have hl := h.le
  have hbg := h.bg
  have hnx := h.nx
  have hfl := hc.flight
  have hba := hc.batch
  refine ⟨hc, ⟨⟨by have := h.k.few; omega, fun y hy => ?_⟩, fun y hy => ?_, fun y hy s hs => ?_⟩, fun s hs => (h.k.buf.2 s hs).1, by omega, by omega, by omega, by omega, h.la⟩
  · have := (h.k.way y hy).2.2.2.1; omega
  · obtain ⟨k, t, -, -, e, -⟩ := (h.k.way y hy).1; omega
  · exact ((h.k.way y hy).2.2.2.2 s hs).1
/-- Behind a call that writes the exporter's own blocks. -/
theorem KpI.next (h : KpI w wr g gb p c z x sent vs bc cs begun acked i) {y : Exs} {begun' acked' i' : Nat} {p' : Option Nat} (he : E27 w w2 g gb p' 0 c z y) (ho : OnS (exS g gb p) wr w2) (hk : ExK 0 c y sent P27) (hs : exSum y = begun') (ha : y.acked = acked') (hb : begun' ≤ i') (hn : y.next ≤ i') (hl : 0 ≤ y.last ∧ y.last ≤ 1099511627776) : KpI w w2 g gb p' c z y sent vs bc cs begun' acked' i' :=
  ⟨he, hk, flgb2 h.s ho fun q hq e => h.e.kinds e (h.s.kind q hq) (by decide) (by decide) (by decide), h.kb.onS ho fun e => h.e.kinds e h.kb.kd (by decide) (by decide) (by decide), hs, ha, hb, hn, hl⟩
end
theorem exPut_keeps {c : Lim} {x : Exs} {s : Sp} : (exPut c x s).1.next = x.next ∧ (exPut c x s).1.last = x.last ∧ (exPut c x s).1.acked = x.acked := by
  unfold exPut
  split <;> exact ⟨rfl, rfl, rfl⟩
theorem exStep_keeps {nd : Int} {c : Lim} {x : Exs} {raw : Int} : (exStep nd c x raw).1.next ≤ x.next + 1 ∧ ((exStep nd c x raw).1.last = x.last ∨ (exStep nd c x raw).1.last = flTime raw) ∧ (exStep nd c x raw).1.acked = x.acked := by
  unfold exStep
  simp only
  split
  · exact ⟨Nat.le_refl _, Or.inr rfl, rfl⟩
  · exact ⟨Nat.le_succ _, Or.inl rfl, rfl⟩
theorem exStep_out {nd : Int} {c : Lim} {x : Exs} {raw : Int} : (exStep nd c x raw).2.length ≤ x.way.length + 1 := by
  have h := flStep_few (flTime raw) c.retry c.tries x.way ([], [], [])
  have h2 : (flStep x.way (flTime raw) c.retry c.tries).2.1.length ≤ x.way.length := by
    have := h.1
    simp only [List.length_nil, Nat.zero_add] at this
    exact this
  unfold exStep
  simp only
  split
  · simp only [List.length_append, List.length_cons, List.length_nil]; omega
  · simp only; omega
theorem e27_farS {w wr w2 : World} {g gb : Nat} {p : Option Nat} {c : Lim} {z : Lw} {x : Exs} {S : Nat → Prop} (h : E27 w wr g gb p 0 c z x) (ho : OnS S wr w2) (hS : ∀ b, S b → Kd wr b 3) (hl : ∀ b, S b → w.heap.size ≤ b) : E27 w w2 g gb p 0 c z x := by
  obtain ⟨v, hx⟩ := h.h
  refine ⟨⟨v, hx.k.onS ho fun e => Kd.ne hx.k.kd (by decide) (hS _ e), hx.b.onS ho (fun e => Kd.ne hx.b.kd.1 (by decide) (hS _ e)) (fun q hq e => Kd.ne (hx.b.kd.2 q hq) (by decide) (hS _ e)), hx.f.onS ho (fun b hb e => Kd.ne hb (by decide) (hS _ e)) (fun b hb _ e => Kd.ne hb (by decide) (hS _ e))⟩, h.own, OnS.to_below h.bel ho (fun k _ hk => hl k hk) h.bel.size⟩
theorem e27_far {w wr w2 : World} {g gb gx : Nat} {p : Option Nat} {c : Lim} {z : Lw} {x : Exs} (h : E27 w wr g gb p 0 c z x) (ho : OnS (fun b => b = gx) wr w2) (hS : ∀ b, b = gx → Kd wr b 3) (hl : w.heap.size ≤ gx) : E27 w w2 g gb p 0 c z x := e27_farS h ho hS fun b hb => by subst hb; exact hl
/-- What the definition's Read answers, its spans as a slice. -/
theorem rbread_s (s : List UInt8) (w : World) (hs : s.length ≤ 140737488351232) {q : Nat} {L : List Sp} (H : Hid (readB s = (0, q, L, 0))) {m : Nat} (hm : Hid (L.length = m)) :
    Calls Try.prog 17 #[.string (bs s)] w fun e w' => ∃ A c, e = .returned (.tuple #[.agg #[.int .i64 0, .int .i64 (q : Int), .slice A m c], .int .i64 0]) ∧ Below w.heap.size w w' := by
  refine (rbread_any s w hs H).mono ?_
  rintro e w' ⟨⟨v, rfl, hv⟩, hb⟩
  obtain ⟨A, c, rfl, -⟩ := hv.form
  rw [hm.out]
  exact ⟨A, c, rfl, hb⟩
theorem readB_btT {y : Snt} (h1 : y.node = 0) (h2 : 0 ≤ y.seq ∧ y.seq ≤ 1099511627776) (h3 : 1 ≤ y.L.length ∧ y.L.length ≤ 16) (h4 : ∀ s ∈ y.L, P27 s) : readB (btT y) = (0, y.seq.toNat, y.L, 0) := by
  have hc : chkB y.node y.seq y.L = 0 := by
    unfold chkB
    rw [if_neg (by rw [h1]; unfold inR; simp; omega), if_neg (by omega), if_neg (by omega)]
    exact fltB_zero.2 fun s hs => (h4 s hs).2
  have h := readB_writeB hc (fun s hs => (h4 s hs).1.2)
  unfold btT writeB
  rw [if_pos hc, h, h1]
  rfl
theorem btT_len {y : Snt} (h1 : y.node = 0) (h2 : 0 ≤ y.seq ∧ y.seq ≤ 1099511627776) (h3 : 1 ≤ y.L.length ∧ y.L.length ≤ 16) (h4 : ∀ s ∈ y.L, P27 s) : (btT y).length ≤ 140737488351232 := by
  have hc : chkB y.node y.seq y.L = 0 := by
    unfold chkB
    rw [if_neg (by rw [h1]; unfold inR; simp; omega), if_neg (by omega), if_neg (by omega)]
    exact fltB_zero.2 fun s hs => (h4 s hs).2
  unfold btT writeB
  rw [if_pos hc]
  have := bodyB_len hc
  have h5 := sealS_length (bodyB y.node y.seq y.L)
  simp only
  omega
end Go.Proofs.Ytpfhmpblcmednaa
namespace Go.Proofs.Ytpfhmpblcmednaa
set_option linter.unusedVariables false
set_option linter.unusedSimpArgs false
open Go.RowKit Go.Joins

/-- An exporter with nothing under way, behind what writes rows of spans that are not its own. -/
theorem e27_farQ {w wr w2 : World} {g gb : Nat} {p : Option Nat} {c : Lim} {z : Lw} {x : Exs} {S : Nat → Prop} (h : E27 w wr g gb p 0 c z x) (hw : x.way = []) (ho : OnS S wr w2) (hS : ∀ b, S b → Kd wr b 37) (hn : ∀ b, S b → ¬ exS g gb p b) (hl : ∀ b, S b → w.heap.size ≤ b) : E27 w w2 g gb p 0 c z x := by
  obtain ⟨v, hx⟩ := h.h
  have hf : FlN w2 (fun b => some b ≠ p) v x.way := by
    obtain ⟨A, n, cc, U, e, h1, h2, h3, h4⟩ := hx.f
    rw [hw] at h4 ⊢
    obtain rfl := List.map_eq_nil_iff.1 h4
    exact ⟨A, n, cc, [], e, flgb2 h1 ho fun q hq e => Kd.ne (h1.kind q hq) (by decide) (hS _ e), fun u hu => (by cases hu), fun u hu => (by cases hu), rfl⟩
  exact ⟨⟨v, hx.k.onS ho fun e => hn _ e (Or.inl rfl), hx.b.onS ho (fun e => hn _ e (Or.inr (Or.inl rfl))) (fun q hq e => hn _ e (Or.inr (Or.inr hq.symm))), hf⟩, h.own, OnS.to_below h.bel ho (fun k _ hk => hl k hk) h.bel.size⟩
/-- The exporter, the limits, and two rows of spans apart from it and from each other. -/
structure QuM (w wr : World) (g gb : Nat) (p : Option Nat) (c : Lim) (z : Lw) (x : Exs) (bc : Nat) (cs : Array Value) (vp : Value) (put : List Sp) (vg : Value) (got : List Sp) : Prop where
  e : E27 w wr g gb p 0 c z x
  kb : Bk wr bc 24 cs
  gp : GB encSp 11 37 wr w.heap.size vp put
  gg : GB encSp 11 37 wr w.heap.size vg got
  ap : ∀ k, vp.ownBlock = some k → ¬ exS g gb p k
  ag : ∀ k, vg.ownBlock = some k → ¬ exS g gb p k
  pg : ∀ k, vp.ownBlock = some k → vg.ownBlock ≠ some k
section
variable {w wr w2 : World} {g gb : Nat} {p : Option Nat} {c : Lim} {z : Lw} {x y : Exs} {bc : Nat} {cs : Array Value} {vp vg v' : Value} {put got l : List Sp}
theorem QuM.up (h : QuM w wr g gb p c z x bc cs vp put vg got) (hb : Below wr.heap.size wr w2) : QuM w w2 g gb p c z x bc cs vp put vg got := ⟨h.e.up hb, h.kb.up hb, h.gp.below hb, h.gg.below hb, h.ap, h.ag, h.pg⟩
theorem QuM.swap (h : QuM w wr g gb p c z x bc cs vp put vg got) : QuM w wr g gb p c z x bc cs vg got vp put := ⟨h.e, h.kb, h.gg, h.gp, h.ag, h.ap, fun k h1 h2 => h.pg k h2 h1⟩
theorem QuM.start (he : E27 w wr g gb p 0 c z x) (hk : Bk wr bc 24 cs) : QuM w wr g gb p c z x bc cs (.slice none 0 0) [] (.slice none 0 0) [] := ⟨he, hk, GB.nil _ _, GB.nil _ _, fun k hk => (by cases hk), fun k hk => (by cases hk), fun k hk => (by cases hk)⟩
/-- Behind a call of the exporter. -/
theorem QuM.next (h : QuM w wr g gb p c z x bc cs vp put vg got) (hr : E27r w wr g gb p 0 c z y w2) : ∃ p', QuM w w2 g gb p' c z y bc cs vp put vg got := by
  obtain ⟨p', h1, h2, h3⟩ := hr
  exact ⟨p', h1, h.kb.onS h2 fun e => h.e.kinds e h.kb.kd (by decide) (by decide) (by decide), flgb2 h.gp h2 h.ap, flgb2 h.gg h2 h.ag, fun k hk => h3 k (World.ownsRow.lt h.gp k hk).2 (h.ap k hk), fun k hk => h3 k (World.ownsRow.lt h.gg k hk).2 (h.ag k hk), h.pg⟩
/-- Behind an append to the first row. -/
theorem QuM.outs (h : QuM w wr g gb p c z x bc cs vp put vg got) (hw : x.way = []) (hG : GB encSp 11 37 w2 w.heap.size v' l) (hg : wr.grownBy w2 vp.ownBlock) (hl : v'.ownBlock = vp.ownBlock ∨ v'.ownBlock = some wr.heap.size) : QuM w w2 g gb p c z x bc cs v' l vg got := by
  have ho : OnS (fun b => some b = vp.ownBlock) wr w2 := OnS.grown hg fun b hb => hb.symm
  refine ⟨e27_farQ h.e hw ho (fun b hb => h.gp.kind b hb.symm) (fun b hb => h.ap b hb.symm) (fun b hb => (World.ownsRow.lt h.gp b hb.symm).1), h.kb.onS ho (fun e => Kd.ne h.kb.kd (by decide) (h.gp.kind _ e.symm)), hG, flgb2 h.gg ho fun q hq e => h.pg q e.symm hq, fun k hk hS => ?_, h.ag, fun k hk hk2 => ?_⟩
  · rcases hl with hl | hl
    · exact h.ap k (hl.symm.trans hk) hS
    · rw [hl] at hk
      injection hk with hk
      have := h.e.lt k hS
      omega
  · rcases hl with hl | hl
    · exact h.pg k (hl.symm.trans hk) hk2
    · rw [hl] at hk
      injection hk with hk
      have := (World.ownsRow.lt h.gg k hk2).2
      omega
end
/-- What the contracts ask of an exporter, from what the loops know. -/
theorem exP_of {c : Lim} {x : Exs} {sent : List Nat} (hc : LimOk c) (k : ExK 0 c x sent P27) (hs : exSum x ≤ 1000) (hn : x.next ≤ 1000) (hl : 0 ≤ x.last ∧ x.last ≤ 1099511627776) : ExP 0 c x := by
  have hfl := hc.flight
  have hba := hc.batch
  unfold exSum at hs
  refine ⟨hc, ⟨⟨by have := k.few; omega, fun y hy => ?_⟩, fun y hy => ?_, fun y hy s hs => ?_⟩, fun s hs => (k.buf.2 s hs).1, by omega, by omega, by omega, by omega, hl⟩
  · have := (k.way y hy).2.2.2.1; omega
  · obtain ⟨k, t, -, -, e, -⟩ := (k.way y hy).1; omega
  · exact ((k.way y hy).2.2.2.2 s hs).1
/-- What the first loop knows: all that was taken waits. -/
structure QuP (c : Lim) (x : Exs) (put : List Sp) (i : Nat) : Prop where
  k : ExK 0 c x [] P27
  way : x.way = []
  ack : x.acked = 0
  last : x.last = 0
  buf : x.buf.1 = put
  sum : exSum x ≤ i
theorem QuP.start {c : Lim} (hc : LimOk c) : QuP c ex0 [] 0 := ⟨ExK.new hc, rfl, rfl, rfl, rfl, Nat.le_refl _⟩
theorem QuP.next0 {c : Lim} {x : Exs} {put : List Sp} {i : Nat} (h : QuP c x put i) : x.next = 0 := h.k.len.symm
theorem QuP.pre {c : Lim} {x : Exs} {put : List Sp} {i : Nat} (h : QuP c x put i) (hc : LimOk c) (hi : i ≤ 1000) : ExP 0 c x := exP_of hc h.k (by have := h.sum; omega) (by rw [h.next0]; omega) (by rw [h.last]; omega)
/-- A span is put: taken, or not. -/
theorem QuP.put {c : Lim} {x : Exs} {put : List Sp} {i : Nat} (h : QuP c x put i) (hc : LimOk c) (hi : i ≤ 1000) {s : Sp} (hs : okSp s) {y : Exs} {r : Int} (H : exPut c x s = (y, r)) : QuP c y (if r = 0 then put ++ [s] else put) (i + 1) := by
  have h1 := h.k.put hc s fun e => ⟨hs, e⟩
  have h2 := exSum_put (c := c) (x := x) (s := s) (by have := h.sum; unfold exSum at this; omega)
  have h3 := exPut_keeps (c := c) (x := x) (s := s)
  rw [H] at h1 h2 h3
  simp only at h1 h2 h3
  have hw : y.way = [] ∧ y.buf.1 = (if r = 0 then put ++ [s] else put) := by
    unfold exPut at H
    split at H
    · rename_i hne
      injection H with e1 e2
      subst e1 e2
      rw [if_neg hne]
      exact ⟨h.way, h.buf⟩
    · injection H with e1 e2
      subst e1 e2
      refine ⟨h.way, ?_⟩
      show (bfPut (exRoom c) x.buf s).1.1 = _
      unfold bfPut
      split
      · simp [h.buf]
      · simp [h.buf]
  exact ⟨h1, hw.1, h3.2.2.trans h.ack, h3.2.1.trans h.last, hw.2, by rw [h2]; have := h.sum; split <;> omega⟩
/-- What the second loop knows behind t ticks. -/
structure QuT (c : Lim) (fr : Int) (t : Nat) (x : Exs) (put got : List Sp) : Prop where
  q : ExQ c put.length fr t x put got
  k : ∃ sent, ExK 0 c x sent P27
  sum : exSum x ≤ 60
  nx : x.next ≤ t
  la : 0 ≤ x.last ∧ x.last ≤ 1099511627776
theorem QuT.start {c : Lim} {fr : Int} {x : Exs} {put : List Sp} {i : Nat} (h : QuP c x put i) (hi : i ≤ 60) : QuT c fr 0 x put [] :=
  ⟨ExQ.start h.way h.buf h.ack h.last, ⟨[], h.k⟩, by have := h.sum; omega, by rw [h.next0]; exact Nat.le_refl _, by rw [h.last]; omega⟩
theorem QuT.pre {c : Lim} {fr : Int} {t : Nat} {x : Exs} {put got : List Sp} (h : QuT c fr t x put got) (hc : LimOk c) (ht : t ≤ 1000) : ExP 0 c x := by
  obtain ⟨sent, hk⟩ := h.k
  exact exP_of hc hk (by have := h.sum; omega) (by have := h.nx; omega) h.la
/-- A tick, behind which nothing is sent, or one batch, that is acknowledged. -/
theorem QuT.step {c : Lim} {fr : Int} {t : Nat} {x : Exs} {put got : List Sp} (h : QuT c fr t x put got) (hc : LimOk c) (hf : 0 ≤ fr ∧ fr ≤ 1000000) (ht : t < 1000) :
    ((exStep 0 c x (fr + (t + 1 : Nat))).2 = [] ∧ QuT c fr (t + 1) (exStep 0 c x (fr + (t + 1 : Nat))).1 put got) ∨
    ∃ (L : List Sp) (due : Int), (exStep 0 c x (fr + (t + 1 : Nat))).2 = [⟨0, (x.next : Int), L, 1, due⟩] ∧ 1 ≤ L.length ∧ (L.length : Int) ≤ c.batch ∧ (∀ s ∈ L, P27 s) ∧ ExP 0 c (exStep 0 c x (fr + (t + 1 : Nat))).1 ∧ (exAck (exStep 0 c x (fr + (t + 1 : Nat))).1 (x.next : Int)).2 = L.length ∧
      QuT c fr (t + 1) (exAck (exStep 0 c x (fr + (t + 1 : Nat))).1 (x.next : Int)).1 put (got ++ L) := by
  obtain ⟨sent, hk⟩ := h.k
  have hti := flTime_in (fr + (t + 1 : Nat))
  have hkeep := exStep_keeps (nd := 0) (c := c) (x := x) (raw := fr + (t + 1 : Nat))
  have hsum := exSum_step 0 c x (fr + (t + 1 : Nat))
  have hst := hk.step hc (fr + (t + 1 : Nat))
  have hla : 0 ≤ (exStep 0 c x (fr + (t + 1 : Nat))).1.last ∧ (exStep 0 c x (fr + (t + 1 : Nat))).1.last ≤ 1099511627776 := by
    rcases hkeep.2.1 with e | e
    · rw [e]; exact h.la
    · rw [e]; exact hti
  have hnx : (exStep 0 c x (fr + (t + 1 : Nat))).1.next ≤ t + 1 := Nat.le_trans hkeep.1 (Nat.succ_le_succ h.nx)
  rcases h.q.step (nd := 0) hc hf (by omega) with ⟨h1, h2⟩ | ⟨L, due, h1, h2, h3, h4, h5, h6, h7⟩
  · exact Or.inl ⟨h1, h2, ⟨_, hst.2⟩, by rw [hsum]; exact h.sum, hnx, hla⟩
  · refine Or.inr ⟨L, due, h1, h3, h4, fun s hs => hk.buf.2 s (h5 s hs), exP_of hc hst.2 (by rw [hsum]; have := h.sum; omega) (by omega) hla, h6, h7, ⟨_, hst.2.ack _⟩, by rw [exSum_ack, hsum]; exact h.sum, hnx, hla⟩
theorem QuT.done {c : Lim} {fr : Int} {t : Nat} {x : Exs} {put got : List Sp} (h : QuT c fr t x put got) (hc : LimOk c) (hf : 0 ≤ fr) (ht : (t : Int) = c.buffer + c.every + 1) (hb : (put.length : Int) ≤ c.buffer) : x.buf.1 = [] ∧ x.way = [] ∧ x.acked = put.length ∧ got = put := by
  have h1 := h.q.done hc hf hb ht
  exact ⟨h1.1, h.q.way, by rw [h.q.ack, h1.2], h1.2⟩
theorem gb_of_spb {w : World} {base : Nat} {v : Value} {L : List Sp} (h : SPB w base v L) : GB encSp 11 37 w base v L := by
  have e : svals L = gvals encSp L := by
    unfold svals gvals
    rw [List.flatMap_def]
    rfl
  unfold SPB at h
  rw [e] at h
  exact h
/-- What the definition's Read answers, its spans as a row. -/
theorem rbread_q (s : List UInt8) (w : World) (hs : s.length ≤ 140737488351232) {q : Nat} {L : List Sp} (H : Hid (readB s = (0, q, L, 0))) {m : Nat} (hm : Hid (L.length = m)) :
    Calls Try.prog 17 #[.string (bs s)] w fun e w' => ∃ A c, e = .returned (.tuple #[.agg #[.int .i64 0, .int .i64 (q : Int), .slice A m c], .int .i64 0]) ∧ GB encSp 11 37 w' w.heap.size (.slice A m c) L ∧ Below w.heap.size w w' := by
  refine (rbread_any s w hs H).mono ?_
  rintro e w' ⟨⟨v, rfl, hv⟩, hb⟩
  have hg := gb_of_spb hv
  obtain ⟨A, c, rfl, -⟩ := hv.form
  rw [hm.out] at hg ⊢
  exact ⟨A, c, rfl, hg, hb⟩
end Go.Proofs.Ytpfhmpblcmednaa
