/- What is laid together for net: the walks of its three laws. -/
import Derived.Test.YtflamedbeagjlaaN25
import Derived.Deep.RegionHeld3
import Derived.BigQuiet
import Derived.Deep.RegionLaw
import Derived.Test.YtflamedbeagjlaaN05
namespace Go.Proofs.Ytflamedbeagjlaa
set_option linter.unusedVariables false
set_option linter.unusedSimpArgs false
open Go.RowKit Go.Joins

/-- What NetNumbers' loop knows. -/
structure NnI (w wr : World) (S : Nat → Prop) (g : Nat) (X : Nts) (i : Nat) : Prop where
  n : N28 w wr S g X
  ok : NtOk X
  nx : X.next ≤ i
  lo : X.lost ≤ i
theorem NnI.up {w wr w2 : World} {S : Nat → Prop} {g : Nat} {X : Nts} {i : Nat} (h : NnI w wr S g X i) (hb : Below wr.heap.size wr w2) : NnI w w2 S g X i := ⟨h.n.up hb, h.ok, h.nx, h.lo⟩
theorem NnI.send {w wr w2 : World} {S : Nat → Prop} {g : Nat} {X Y : Nts} {i : Nat} (h : NnI w wr S g X i) {f t : Int} {s : List UInt8} {ok : Bool} (e : ntSend X f t s = (Y, ok)) {S' : Nat → Prop} (hn : N28 w w2 S' g Y) : NnI w w2 S' g Y (i + 1) := by
  have h2 := ntSend_up X f t s
  have h3 := h.ok.send f t s
  rw [e] at h2 h3
  simp only at h2
  exact ⟨hn, h3, by have := h.nx; omega, by have := h.lo; omega⟩
theorem NnI.take {w wr w2 : World} {S : Nat → Prop} {g : Nat} {X Y : Nts} {i : Nat} (h : NnI w wr S g X i) {k : Int} {l : Ltr} {ok : Bool} (e : ntTake X k = (Y, l, ok)) {S' : Nat → Prop} (hn : N28 w w2 S' g Y) : NnI w w2 S' g Y (i + 1) := by
  have h2 := ntTake_up X k
  have h3 := h.ok.take k
  rw [e] at h2 h3
  simp only at h2
  exact ⟨hn, h3, by have := h.nx; omega, by have := h.lo; omega⟩
theorem NnI.lose {w wr w2 : World} {S : Nat → Prop} {g : Nat} {X Y : Nts} {i : Nat} (h : NnI w wr S g X i) {k : Int} {ok : Bool} (e : ntLose X k = (Y, ok)) {S' : Nat → Prop} (hn : N28 w w2 S' g Y) : NnI w w2 S' g Y (i + 1) := by
  have h2 := ntLose_up X k
  have h3 := h.ok.lose k
  rw [e] at h2 h3
  simp only at h2
  exact ⟨hn, h3, by have := h.nx; omega, by have := h.lo; omega⟩
theorem NnI.copy {w wr w2 : World} {S : Nat → Prop} {g : Nat} {X Y : Nts} {i : Nat} (h : NnI w wr S g X i) {k : Int} {ok : Bool} (e : ntCopy X k = (Y, ok)) {S' : Nat → Prop} (hn : N28 w w2 S' g Y) : NnI w w2 S' g Y (i + 1) := by
  have h2 := ntCopy_up X k
  have h3 := h.ok.copy k
  rw [e] at h2 h3
  simp only at h2
  exact ⟨hn, h3, by have := h.nx; omega, by have := h.lo; omega⟩
theorem ntTake_ok {x y : Nts} {k : Int} {l : Ltr} (h : ntTake x k = (y, l, true)) : ∃ i : Nat, k = (i : Int) ∧ i < x.all.length ∧ x.all[i]? = some l := by
  unfold ntTake at h
  rcases hat : ntAt x k with _ | i
  · rw [hat] at h
    simp only [Prod.mk.injEq] at h
    exact absurd h.2.2 (by decide)
  · rw [hat] at h
    obtain ⟨hk, hi⟩ := ntAt_some hat
    simp only [Prod.mk.injEq] at h
    refine ⟨i, hk, hi, ?_⟩
    rw [← h.2.1, List.getD_eq_getElem?_getD, List.getElem?_eq_getElem hi]
    rfl
set_option maxRecDepth 100000 in
set_option maxHeartbeats 16000000 in
theorem netNumbers_walk (v : Value) (L : List Mv28) (w : World) (hx : RwV encM28 5 w (· < w.heap.size) v L) :
    Calls Try.prog 6 #[v] w fun e w' => e = .returned (.bool true) ∧ Below w.heap.size w w' := by
  have hnot := enot
  obtain ⟨A0, cap0, rfl, hgx, -⟩ := hx
  obtain ⟨n, hn⟩ : ∃ n, L.length = n := ⟨_, rfl⟩
  rw [hn]
  have HG := hid hgx
  have HN := hid hn
  clear hgx hn
  by_cases hc0 : (800 : Int) < (n : Int)
  · have hd0 : decide ((800 : Int) < (n : Int)) = true := decide_eq_true hc0
    have hdn0 : decide (800 < n) = true := decide_eq_true (by omega)
    go_enter Try.func6, Try.ntmps6
    go_wp2_with fail
    refine (known28_any _).mono ?_
    rintro e w1 ⟨rfl, hb1⟩
    go_wp2_with fail
    go_returns
    exact ⟨rfl, hb1⟩
  have hd0 : decide ((800 : Int) < (n : Int)) = false := decide_eq_false hc0
  have hdn0 : decide (800 < n) = false := decide_eq_false (by omega)
  have hn800 : n ≤ 800 := by omega
  have HNW := hid (n28_new w)
  clear hc0
  go_enter Try.func6, Try.ntmps6
  go_wp2_with fail
  refine HNW.out.mono ?_
  rintro e w1 ⟨g, S0, rfl, hN0⟩
  have H1 := hid hN0
  clear hN0 HNW
  go_wp2_with fail
  go_loopg [4] n (fun g1 vi wr => ∃ (i : Nat) (X : Nts) (S : Nat → Prop), vi = .int .i64 i ∧ i ≤ n ∧ n - i ≤ g1 ∧ Hid (NnI w wr S g X i))
  case atStart => exact ⟨0, nt0, S0, rfl, by omega, by omega, hid ⟨H1.out, NtOk.new, Nat.le_refl _, Nat.le_refl _⟩⟩
  case round =>
    obtain ⟨i, X, S, rfl, hin, hgk, HI⟩ := hrel
    obtain ⟨wz, hwz⟩ : ∃ wz, wz = wr := ⟨_, rfl⟩
    subst hwz
    by_cases hlt : i < n
    · have hiL : i < L.length := by have := HN.out; omega
      obtain ⟨b, o, rfl, hB, r0, r1, r2, r3, r4⟩ := m28_cells HG.out (List.getElem?_eq_getElem hiL)
      have HCC : Hid (∀ w', Below w.heap.size w w' → w'.cell? ⟨b, o + i * 5, none⟩ = some (.int .i64 L[i].kind) ∧ w'.cell? ⟨b, o + i * 5 + 1, none⟩ = some (.int .i64 L[i].frm) ∧ w'.cell? ⟨b, o + i * 5 + 2, none⟩ = some (.int .i64 L[i].to_) ∧ w'.cell? ⟨b, o + i * 5 + 3, none⟩ = some (.string (bs L[i].bytes)) ∧ w'.cell? ⟨b, o + i * 5 + 4, none⟩ = some (.int .i64 L[i].k)) := hid (fun w' hb => ⟨(hb.cell (p := ⟨b, o + i * 5, none⟩) hB).trans r0, (hb.cell (p := ⟨b, o + i * 5 + 1, none⟩) hB).trans r1, (hb.cell (p := ⟨b, o + i * 5 + 2, none⟩) hB).trans r2, (hb.cell (p := ⟨b, o + i * 5 + 3, none⟩) hB).trans r3, (hb.cell (p := ⟨b, o + i * 5 + 4, none⟩) hB).trans r4⟩)
      clear hB r0 r1 r2 r3 r4
      generalize L[i] = m at *
      obtain ⟨r0, r1, r2, r3, r4⟩ := HCC.out wz HI.out.n.bel
      have hltz : (i : Int) < (n : Int) := by omega
      have hltd : decide ((i : Int) < (n : Int)) = true := decide_eq_true hltz
      have hltn : decide (i < n) = true := decide_eq_true hlt
      have hi0 : (0 : Int) ≤ (i : Int) := by omega
      have hadd : IntKind.i64.wrap ((i : Int) + 1) = (i : Int) + 1 := IntWalk.i64_in _ (by omega)
      by_cases hc : (300 : Int) < (m.bytes.length : Int)
      · have hd3 : decide ((300 : Int) < (m.bytes.length : Int)) = true := decide_eq_true hc
        have hd3n : decide (300 < m.bytes.length) = true := decide_eq_true (by omega)
        go_wp2_with fail
        refine (known28_any _).mono ?_
        rintro e w3 ⟨rfl, hb3⟩
        go_wp2_with fail
        go_returns
        exact ⟨rfl, estep HI.out.n.bel hb3⟩
      have hd3 : decide ((300 : Int) < (m.bytes.length : Int)) = false := decide_eq_false hc
      have hd3n : decide (300 < m.bytes.length) = false := decide_eq_false (by omega)
      obtain ⟨q, hq⟩ : ∃ q, X.all.length = q := ⟨_, rfl⟩
      have HQ := hid hq
      have HZ := hid (show X.next ≤ 1000000 ∧ X.lost ≤ 1000000 from by have := HI.out.nx; have := HI.out.lo; omega)
      have HAL := hid (n28_all HI.out.n HQ)
      clear hq hc
      go_wp2_with fail
      refine HAL.out.mono ?_
      rintro e we ⟨A5, c5, rfl, hs5, hy⟩
      have HE := hid (HI.out.up hy)
      have H5 := hid (And.intro hs5 (show ∀ b, S b → b < wz.heap.size from HI.out.n.lt))
      clear hs5 hy HAL r0 r1 r2 r3 r4
      obtain ⟨r0, r1, r2, r3, r4⟩ := HCC.out we HE.out.n.bel
      by_cases h0 : m.kind = 0
      · obtain ⟨Y, ok, hY⟩ : ∃ Y ok, ntSend X m.frm m.to_ m.bytes = (Y, ok) := ⟨_, _, rfl⟩
        have hk0 : decide (m.kind = 0) = true := decide_eq_true (by omega)
        have hf0 : (m.kind == 0) = true := by simp; omega
        have HSD := hid (fun w2 (hb : Below we.heap.size we w2) => n28_send m.frm m.to_ m.bytes (HE.out.n.up hb) HZ.out (hid hY))
        have HY := hid hY
        have hz9 : Below we.heap.size we we.drew := (Below.refl _ _).drew
        have hb9 : Below w.heap.size w we.drew := HE.out.n.bel.drew
        clear hY
        go_wp2_with fail
        go_region_held3 (fun w' => w'.cell? ⟨b, o + i * 5, none⟩ = some (.int .i64 m.kind) ∧ w'.cell? ⟨b, o + i * 5 + 1, none⟩ = some (.int .i64 m.frm) ∧ w'.cell? ⟨b, o + i * 5 + 2, none⟩ = some (.int .i64 m.to_) ∧ w'.cell? ⟨b, o + i * 5 + 3, none⟩ = some (.string (bs m.bytes)) ∧ w'.cell? ⟨b, o + i * 5 + 4, none⟩ = some (.int .i64 m.k)) (first | (with_reducible exact HCC.out _ hb9)) (first
          | (go_at_call 25
             ((with_reducible refine (HSD.out _ hz9).mono ?_); rintro e wy ⟨rfl, hr⟩)
             obtain ⟨S9, hN9, -, -⟩ := hr.out
             have hb9 := hN9.bel))
        all_goals
          have H9 := hid (HE.out.send HY.out hN9)
          clear hN9 hb9 hz9 HSD r0 r1 r2 r3 r4
          go_wp2_with fail
          go_roundg (n - (i + 1))
          case measure => omega
          case rel => exact ⟨i + 1, Y, S9, by go_num, by omega, by omega, H9⟩
      by_cases h1 : m.kind = 1
      · obtain ⟨Y, l, ok, hY⟩ : ∃ Y l ok, ntTake X m.k = (Y, l, ok) := ⟨_, _, _, rfl⟩
        have hk0 : decide (m.kind = 0) = false := decide_eq_false (by omega)
        have hf0 : (m.kind == 0) = false := by simp; omega
        have hk1 : decide (m.kind = 1) = true := decide_eq_true (by omega)
        have hf1 : (m.kind == 1) = true := by simp; omega
        have HSD := hid (n28_take m.k HE.out.n (hid hY))
        have HY := hid hY
        clear hY
        go_wp2_with fail
        refine HSD.out.mono ?_
        rintro e wy ⟨rfl, hr⟩
        obtain ⟨S9, hN9, ho9, -⟩ := hr.out
        have hen := enew wy (.cells #[.int .i64 l.no, .int .i64 l.frm, .int .i64 l.to_, .string (bs l.bytes)] 73)
        have KT := hid (Bk.new wy 73 #[.int .i64 l.no, .int .i64 l.frm, .int .i64 l.to_, .string (bs l.bytes)])
        have H9 := hid ((HE.out.take HY.out hN9).up hen)
        have HW5 := hid (And.intro ho9 hen)
        clear hN9 ho9 hen HSD r0 r1 r2 r3 r4
        cases ok
        · go_wp2_with fail
          go_quiet (fail)
          have H10 := hid (H9.out.up (below_drewN (Below.refl _ _) nq))
          clear H9 HW5 KT
          go_wp2_with fail
          go_roundg (n - (i + 1))
          case measure => omega
          case rel => exact ⟨i + 1, Y, S9, by go_num, by omega, by omega, H10⟩
        · obtain ⟨i2, hi2, hik, hl⟩ := ntTake_ok HY.out
          have hneg : decide ((i2 : Int) < 0) = false := decide_eq_false (by omega)
          have hge : decide ((q : Int) ≤ (i2 : Int)) = false := decide_eq_false (by have := HQ.out; omega)
          have hge2 : decide (q ≤ i2) = false := decide_eq_false (by have := HQ.out; omega)
          have hk0 : (0 : Int) ≤ (i2 : Int) := by omega
          have hk1 : (i2 : Int) < (q : Int) := by have := HQ.out; omega
          have hga : GX encLt 4 (wy.alloc (.cells #[.int .i64 l.no, .int .i64 l.frm, .int .i64 l.to_, .string (bs l.bytes)] 73)) (fun b => wz.heap.size ≤ b ∧ b < we.heap.size) A5 X.all := by
            obtain ⟨A', c', e, k1, -⟩ := GB.reads encLt_len H5.out.1
            simp only [Value.slice.injEq] at e
            obtain ⟨rfl, -, rfl⟩ := e
            exact (k1.same fun b hb => HW5.out.1.block b hb.2 fun h => by have := H5.out.2 b h; omega).same fun b hb => HW5.out.2.block b (Nat.lt_of_lt_of_le hb.2 HW5.out.1.size)
          obtain ⟨b5, o5, rfl, -, s0, s1, s2, s3⟩ := lt_cells hga hl
          obtain ⟨r0, r1, r2, r3, r4⟩ := HCC.out _ H9.out.n.bel
          rw [hi2] at r4
          have t0 := Bk.cell KT.out 0
          have t1 := Bk.cell KT.out 1
          have t2 := Bk.cell KT.out 2
          have t3 := Bk.cell KT.out 3
          have hg := ltr_guard
          have hq9 := ltr_neq
          have H5c := hid H5.out.2
          clear hga H5 HW5 HY HQ
          go_wp2_with fail
          go_quiet (fail)
          have H10 := hid (H9.out.up (below_drewN (Below.refl _ _) nq))
          clear H9 KT t0 t1 t2 t3 s0 s1 s2 s3 r0 r1 r2 r3 r4
          go_wp2_with fail
          go_roundg (n - (i + 1))
          case measure => omega
          case rel => exact ⟨i + 1, Y, S9, by go_num, by omega, by omega, H10⟩
      by_cases h2 : m.kind = 2
      · obtain ⟨Y, ok, hY⟩ : ∃ Y ok, ntLose X m.k = (Y, ok) := ⟨_, _, rfl⟩
        have hk0 : decide (m.kind = 0) = false := decide_eq_false (by omega)
        have hf0 : (m.kind == 0) = false := by simp; omega
        have hk1 : decide (m.kind = 1) = false := decide_eq_false (by omega)
        have hf1 : (m.kind == 1) = false := by simp; omega
        have hk2 : decide (m.kind = 2) = true := decide_eq_true (by omega)
        have hf2 : (m.kind == 2) = true := by simp; omega
        have HSD := hid (n28_lose m.k HE.out.n HZ.out (hid hY))
        have HY := hid hY
        clear hY
        go_wp2_with fail
        refine HSD.out.mono ?_
        rintro e wy ⟨rfl, hr⟩
        obtain ⟨S9, hN9, -, -⟩ := hr.out
        have H9 := hid (HE.out.lose HY.out hN9)
        clear hN9 HSD r0 r1 r2 r3 r4
        go_wp2_with fail
        go_roundg (n - (i + 1))
        case measure => omega
        case rel => exact ⟨i + 1, Y, S9, by go_num, by omega, by omega, H9⟩
      obtain ⟨Y, ok, hY⟩ : ∃ Y ok, ntCopy X m.k = (Y, ok) := ⟨_, _, rfl⟩
      have hk0 : decide (m.kind = 0) = false := decide_eq_false (by omega)
      have hf0 : (m.kind == 0) = false := by simp; omega
      have hk1 : decide (m.kind = 1) = false := decide_eq_false (by omega)
      have hf1 : (m.kind == 1) = false := by simp; omega
      have hk2 : decide (m.kind = 2) = false := decide_eq_false (by omega)
      have hf2 : (m.kind == 2) = false := by simp; omega
      have HSD := hid (n28_copy m.k HE.out.n HZ.out (hid hY))
      have HY := hid hY
      clear hY
      go_wp2_with fail
      refine HSD.out.mono ?_
      rintro e wy ⟨rfl, hr⟩
      obtain ⟨S9, hN9, -, -⟩ := hr.out
      have H9 := hid (HE.out.copy HY.out hN9)
      clear hN9 HSD r0 r1 r2 r3 r4
      go_wp2_with fail
      go_roundg (n - (i + 1))
      case measure => omega
      case rel => exact ⟨i + 1, Y, S9, by go_num, by omega, by omega, H9⟩
    · obtain rfl : i = n := by omega
      have hltz : ¬ (i : Int) < (i : Int) := by omega
      obtain ⟨q, hq⟩ : ∃ q, X.all.length = q := ⟨_, rfl⟩
      have HAL := hid (n28_all HI.out.n (hid hq))
      have hq6 : q ≤ 256 := by have := HI.out.ok.few; omega
      have HQ := hid hq
      have HOK := hid HI.out.ok
      clear hq
      go_wp2_with fail
      refine HAL.out.mono ?_
      rintro e w3 ⟨A5, c5, rfl, hs5, hb3⟩
      have H3 := hid (estep HI.out.n.bel hb3)
      have hga : GX encLt 4 w3 (· < w3.heap.size) A5 X.all := by
        obtain ⟨A', c', e, k1, -⟩ := GB.reads encLt_len hs5
        simp only [Value.slice.injEq] at e
        obtain ⟨rfl, -, rfl⟩ := e
        exact k1.imp fun b hb => hb.2
      have HGA := hid hga
      clear hs5 hb3 HAL hga HI
      go_wp2_with fail
      go_loopg [9] (q + 1) (fun g2 vj wr => ∃ j : Nat, vj = .int .i64 j ∧ 1 ≤ j ∧ j ≤ q + 1 ∧ q + 1 - j ≤ g2 ∧ Hid (Below w3.heap.size w3 wr))
      case atStart => exact ⟨1, rfl, by omega, by omega, by omega, hid (Below.refl _ _)⟩
      case round =>
        obtain ⟨j, rfl, hj1, hj2, hgj, HB3⟩ := hrel
        obtain ⟨wv, hwv⟩ : ∃ wv, wv = wr := ⟨_, rfl⟩
        subst hwv
        by_cases hjl : j < q
        · have hjz : (j : Int) < (q : Int) := by omega
          have hjd : decide ((j : Int) < (q : Int)) = true := decide_eq_true hjz
          have hjn : decide (j < q) = true := decide_eq_true hjl
          obtain ⟨j0, rfl⟩ : ∃ j0, j = j0 + 1 := ⟨j - 1, by omega⟩
          have hqq := HQ.out
          have h1l : j0 + 1 < X.all.length := by omega
          have h0l : j0 < X.all.length := by omega
          have hsub : IntKind.i64.wrap (((j0 + 1 : Nat) : Int) - 1) = (j0 : Int) := by rw [show ((j0 + 1 : Nat) : Int) - 1 = (j0 : Int) by omega]; exact IntWalk.i64_in _ (by omega)
          have hsub2 : ((j0 + 1 : Nat) : Int) - 1 = (j0 : Int) := by omega
          have hj0 : (0 : Int) ≤ ((j0 + 1 : Nat) : Int) := by omega
          have hj00 : (0 : Int) ≤ (j0 : Int) := by omega
          have hj01 : (j0 : Int) < (q : Int) := by omega
          have hadd : IntKind.i64.wrap (((j0 + 1 : Nat) : Int) + 1) = ((j0 + 1 : Nat) : Int) + 1 := IntWalk.i64_in _ (by omega)
          obtain ⟨b5, o5, rfl, -, s0, -, -, -⟩ := lt_cells (HGA.out.up HB3.out) (List.getElem?_eq_getElem h1l)
          obtain ⟨b6, o6, e6, -, t0, -, -, -⟩ := lt_cells (HGA.out.up HB3.out) (List.getElem?_eq_getElem h0l)
          simp only [Option.some.injEq, Addr.mk.injEq, and_true] at e6
          obtain ⟨rfl, rfl⟩ := e6
          have hle : decide (X.all[j0 + 1].no ≤ X.all[j0].no) = false := decide_eq_false (by have := HOK.out.at_ h1l; omega)
          clear hqq
          go_wp2_with fail
          go_quiet (fail)
          have HB4 := hid (HB3.out.trans (below_drewN (Below.refl _ wv) nq |>.mono HB3.out.size))
          clear s0 t0
          go_wp2_with fail
          go_roundg (q + 1 - (j0 + 1 + 1))
          case measure => omega
          case rel => exact ⟨j0 + 1 + 1, by go_num, by omega, by omega, by omega, HB4⟩
        · have hjz : ¬ (j : Int) < (q : Int) := by omega
          have hjd : decide ((j : Int) < (q : Int)) = false := decide_eq_false hjz
          have hjn : decide (j < q) = false := decide_eq_false hjl
          have h256 : decide ((q : Int) ≤ 256) = true := decide_eq_true (by omega)
          have h256n : decide (q ≤ 256) = true := decide_eq_true hq6
          have H4 := hid (estep H3.out HB3.out)
          go_wp2_with fail
          refine (known28_any _).mono ?_
          rintro e w5 ⟨rfl, hb5⟩
          have H5 := hid (estep H4.out hb5)
          clear hb5 H4
          go_wp2_with fail
          go_returns
          exact ⟨rfl, H5.out⟩
end Go.Proofs.Ytflamedbeagjlaa
namespace Go.Proofs.Ytflamedbeagjlaa
set_option linter.unusedVariables false
set_option linter.unusedSimpArgs false
open Go.RowKit Go.Joins

/-- What NetPlays' loop knows: the net's blocks are S, the definition's net is in block bx, its letters in no block of either. -/
structure NpL (w wr : World) (S : Nat → Prop) (g bx : Nat) (X : Nts) (A : Option Addr) (cap : Nat) : Prop where
  n : N28 w wr S g X
  hx : Bk wr bx 62 #[.slice A X.all.length cap, .int .i64 (X.next : Int), .int .i64 (X.lost : Int)]
  rv : RnV wr (In (fun b => ¬ S b ∧ b ≠ bx) wr) X.all A cap
  new : w.heap.size ≤ bx
  ap : ¬ S bx
section
variable {w wr w2 wz w6 w7 : World} {S S' : Nat → Prop} {g bx : Nat} {X Y : Nts} {A A6 : Option Addr} {cap c6 m6 nx6 lo6 z : Nat}
theorem NpL.up (h : NpL w wr S g bx X A cap) (hb : Below wr.heap.size wr w2) : NpL w w2 S g bx X A cap := ⟨h.n.up hb, h.hx.up hb, h.rv.inup hb, h.new, h.ap⟩
/-- The definition's net is another one now. -/
theorem NpL.fin (h : NpL w wz S g bx X A cap) (hb2 : Below wz.heap.size wz w2) (hm : Y.all.length = m6) (hn : Y.next = nx6 ∧ Y.lost = lo6)
    (hv : RnV w6 (In (fun b => ((fun b => b < wz.heap.size ∧ ¬ S b ∧ b ≠ bx) b ∨ w2.heap.size ≤ b) ∧ ¬ S' b) w6) Y.all A6 c6) (hN : NtH w6 S' (.pointer (some ⟨g, 0, none⟩)) Y) (ho : OnS S w2 w6) (hS : ∀ b, S' b → S b ∨ w2.heap.size ≤ b)
    (h7 : OnS (fun b => b = z) w6 w7) (hz : wz.heap.size ≤ z ∧ (z < w2.heap.size ∨ w6.heap.size ≤ z)) :
    Bk w7 bx 62 #[.slice A X.all.length cap, .int .i64 (X.next : Int), .int .i64 (X.lost : Int)] ∧ NpL w (((w7.setCell ⟨bx, 0, none⟩ (.slice A6 m6 c6)).setCell ⟨bx, 1, none⟩ (.int .i64 (nx6 : Int))).setCell ⟨bx, 2, none⟩ (.int .i64 (lo6 : Int))) S' g bx Y A6 c6 := by
  subst hm
  obtain ⟨rfl, rfl⟩ := hn
  have hbx := h.hx.lt
  have hs2 := hb2.size
  have hlt := h.n.lt
  have hbz : bx ≠ z := by omega
  have h6 := (h.hx.up hb2).onS ho h.ap
  have hx7 := h6.onS h7 hbz
  have hSz : ∀ b, S' b → ¬ b = z := fun b hb e => by
    have h9 := hN.lt b hb
    rcases hS b hb with h1 | h1
    · have := hlt b h1; omega
    · omega
  have hSx : ¬ S' bx := fun hb => by
    rcases hS bx hb with h1 | h1
    · exact h.ap h1
    · omega
  have h8 : OnS (fun b => b = bx) w7 (((w7.setCell ⟨bx, 0, none⟩ (.slice A6 Y.all.length c6)).setCell ⟨bx, 1, none⟩ (.int .i64 (Y.next : Int))).setCell ⟨bx, 2, none⟩ (.int .i64 (Y.lost : Int))) := (((OnS.refl (fun b => b = bx) w7).cell bx 0 _ rfl).cell bx 1 _ rfl).cell bx 2 _ rfl
  have hw6 : Below w.heap.size w w6 := OnS.to_below (estep h.n.bel hb2) ho (fun k _ hk => h.n.own k hk) (Nat.le_trans h.n.bel.size hs2)
  have hw7 : Below w.heap.size w w7 := OnS.to_below hw6 h7 (fun k _ hk => by have := h.n.bel.size; omega) hw6.size
  refine ⟨hx7, ⟨(hN.up h7 hSz).up h8 (fun b hb e => hSx (e ▸ hb)), fun b hb => ?_, OnS.to_below hw7 h8 (fun k _ hk => by have := h.new; omega) hw7.size⟩, ntset3 hx7 _ _ _, ?_, h.new, hSx⟩
  · rcases hS b hb with h1 | h1
    · exact h.n.own b h1
    · have := h.n.bel.size; omega
  · refine ((hv.same fun b hb => h7.block b hb.1 fun e => ?_).same fun b hb => h8.block b (Nat.lt_of_lt_of_le hb.1 h7.size) fun e => ?_).imp fun b hb => ⟨Nat.lt_of_lt_of_le hb.1 (Nat.le_trans h7.size h8.size), hb.2.2, fun e => ?_⟩
    · have h1 := hb.1
      rcases hb.2.1 with h2 | h2
      · have := h2.1; omega
      · omega
    · rcases hb.2.1 with h2 | h2
      · exact h2.2.2 e
      · omega
    · rcases hb.2.1 with h2 | h2
      · exact h2.2.2 e
      · omega
theorem keepK9 {v w' : World} {a : Addr} {x : Value} (h : v.cell? a = some x) (hz : Below v.heap.size v w') : w'.cell? a = some x ∧ Below v.heap.size v w' := ⟨(hz.cell (lt_of_cell h)).trans h, hz⟩
theorem NpL.start (h : N28 w wr S g nt0) : NpL w (wr.alloc (.cells #[.slice none 0 0, .int .i64 0, .int .i64 0] 62)) S g wr.heap.size nt0 none 0 := by
  refine ⟨h.up (enew _ _), Bk.new _ _ _, ?_, h.bel.size, fun hb => ?_⟩
  · exact ⟨GX.nil _ _ _, Or.inl ⟨rfl, rfl⟩, Nat.le_refl _, Nat.zero_le _⟩
  · have := h.lt _ hb; omega
end
theorem n28_alls {w wr : World} {S : Nat → Prop} {g : Nat} {x : Nts} (h : N28 w wr S g x) {n : Nat} (hn : Hid (x.all.length = n)) : Calls Try.prog 24 #[.pointer (some ⟨g, 0, none⟩)] wr fun e w' => ∃ A c, e = .returned (.slice A n c) ∧ GX encLt 4 w' (· < w'.heap.size) A x.all ∧ Below wr.heap.size wr w' := by
  refine (n28_all h hn).mono ?_
  rintro e w' ⟨A, c, rfl, hg, hb⟩
  refine ⟨A, c, rfl, ?_, hb⟩
  obtain ⟨A', c', e, k1, -⟩ := GB.reads encLt_len hg
  simp only [Value.slice.injEq] at e
  obtain ⟨rfl, -, rfl⟩ := e
  exact k1.imp fun b hb => hb.2
set_option maxRecDepth 100000 in
set_option maxHeartbeats 16000000 in
theorem netPlays_walk (v : Value) (L : List Mv28) (w : World) (hx : RwV encM28 5 w (· < w.heap.size) v L) :
    Calls Try.prog 5 #[v] w fun e w' => e = .returned (.bool true) ∧ Below w.heap.size w w' := by
  have hnot := enot
  obtain ⟨A0, cap0, rfl, hgx, -⟩ := hx
  obtain ⟨n, hn⟩ : ∃ n, L.length = n := ⟨_, rfl⟩
  rw [hn]
  have HG := hid hgx
  have HN := hid hn
  clear hgx hn
  by_cases hc0 : (800 : Int) < (n : Int)
  · have hd0 : decide ((800 : Int) < (n : Int)) = true := decide_eq_true hc0
    have hdn0 : decide (800 < n) = true := decide_eq_true (by omega)
    go_enter Try.func5, Try.ntmps5
    go_wp2_with fail
    refine (known28_any _).mono ?_
    rintro e w1 ⟨rfl, hb1⟩
    go_wp2_with fail
    go_returns
    exact ⟨rfl, hb1⟩
  have hd0 : decide ((800 : Int) < (n : Int)) = false := decide_eq_false hc0
  have hdn0 : decide (800 < n) = false := decide_eq_false (by omega)
  have hn800 : n ≤ 800 := by omega
  have HNW := hid (n28_new w)
  clear hc0
  go_enter Try.func5, Try.ntmps5
  go_wp2_with fail
  refine HNW.out.mono ?_
  rintro e w1 ⟨g, S0, rfl, hN0⟩
  have hst := NpL.start hN0
  obtain ⟨bx, hbx⟩ : ∃ bx, w1.heap.size = bx := ⟨_, rfl⟩
  rw [hbx] at hst
  have HST := hid hst
  clear hst hN0 HNW
  go_upto_region 5 with (fail)
  clear hbx
  generalize w1.alloc (.cells #[.slice none 0 0, .int .i64 0, .int .i64 0] 62) = v1 at *
  go_wp2_with fail
  go_loopg [5] n (fun g1 vi wr => ∃ (i : Nat) (X : Nts) (S : Nat → Prop) (A : Option Addr) (cap : Nat), vi = .int .i64 i ∧ i ≤ n ∧ n - i ≤ g1 ∧ Hid (NpL w wr S g bx X A cap ∧ X.next ≤ i ∧ X.lost ≤ i))
  case atStart => exact ⟨0, nt0, S0, none, 0, rfl, by omega, by omega, hid ⟨HST.out, Nat.le_refl _, Nat.le_refl _⟩⟩
  case round =>
    obtain ⟨i, X, S, A, cap, rfl, hin, hgk, HI⟩ := hrel
    obtain ⟨wz, hwz⟩ : ∃ wz, wz = wr := ⟨_, rfl⟩
    subst hwz
    by_cases hlt : i < n
    · have hiL : i < L.length := by have := HN.out; omega
      obtain ⟨b, o, rfl, hB, r0, r1, r2, r3, r4⟩ := m28_cells HG.out (List.getElem?_eq_getElem hiL)
      have HCC : Hid (∀ w', Below w.heap.size w w' → w'.cell? ⟨b, o + i * 5, none⟩ = some (.int .i64 L[i].kind) ∧ w'.cell? ⟨b, o + i * 5 + 1, none⟩ = some (.int .i64 L[i].frm) ∧ w'.cell? ⟨b, o + i * 5 + 2, none⟩ = some (.int .i64 L[i].to_) ∧ w'.cell? ⟨b, o + i * 5 + 3, none⟩ = some (.string (bs L[i].bytes)) ∧ w'.cell? ⟨b, o + i * 5 + 4, none⟩ = some (.int .i64 L[i].k)) := hid (fun w' hb => ⟨(hb.cell (p := ⟨b, o + i * 5, none⟩) hB).trans r0, (hb.cell (p := ⟨b, o + i * 5 + 1, none⟩) hB).trans r1, (hb.cell (p := ⟨b, o + i * 5 + 2, none⟩) hB).trans r2, (hb.cell (p := ⟨b, o + i * 5 + 3, none⟩) hB).trans r3, (hb.cell (p := ⟨b, o + i * 5 + 4, none⟩) hB).trans r4⟩)
      clear hB r0 r1 r2 r3 r4
      generalize L[i] = m at *
      obtain ⟨r0, r1, r2, r3, r4⟩ := HCC.out wz HI.out.1.n.bel
      have hltz : (i : Int) < (n : Int) := by omega
      have hltd : decide ((i : Int) < (n : Int)) = true := decide_eq_true hltz
      have hltn : decide (i < n) = true := decide_eq_true hlt
      have hi0 : (0 : Int) ≤ (i : Int) := by omega
      have hadd : IntKind.i64.wrap ((i : Int) + 1) = (i : Int) + 1 := IntWalk.i64_in _ (by omega)
      by_cases hc : (300 : Int) < (m.bytes.length : Int)
      · have hd3 : decide ((300 : Int) < (m.bytes.length : Int)) = true := decide_eq_true hc
        have hd3n : decide (300 < m.bytes.length) = true := decide_eq_true (by omega)
        go_wp2_with fail
        refine (known28_any _).mono ?_
        rintro e w3 ⟨rfl, hb3⟩
        go_wp2_with fail
        go_returns
        exact ⟨rfl, estep HI.out.1.n.bel hb3⟩
      have hd3 : decide ((300 : Int) < (m.bytes.length : Int)) = false := decide_eq_false hc
      have hd3n : decide (300 < m.bytes.length) = false := decide_eq_false (by omega)
      obtain ⟨q, hq⟩ : ∃ q, X.all.length = q := ⟨_, rfl⟩
      obtain ⟨nx, hnx⟩ : ∃ nx, X.next = nx := ⟨_, rfl⟩
      obtain ⟨lo, hlo⟩ : ∃ lo, X.lost = lo := ⟨_, rfl⟩
      have hkx := HI.out.1.hx
      rw [hq, hnx, hlo] at hkx
      have HQ := hid (And.intro hq (And.intro hnx hlo))
      have x0 := Bk.cell hkx 0
      have x1 := Bk.cell hkx 1
      have x2 := Bk.cell hkx 2
      have HUP := hid (ntPlay_up X m)
      have h64 : nx ≤ 1000000 ∧ lo ≤ 1000000 := by have := HI.out.2; omega
      have HPL := hid (fun (w2 : World) (hb : Below wz.heap.size wz w2) => play_any ntC (fun b => b < wz.heap.size ∧ ¬ S b ∧ b ≠ bx) S (.pointer (some ⟨g, 0, none⟩)) X A cap q nx lo m w2 (HI.out.1.n.up hb).nh ((HI.out.1.rv.same fun b hB => hb.block b hB.1).imp fun b hB => ⟨Nat.lt_of_lt_of_le hB.1 hb.size, hB.1, hB.2.1, hB.2.2⟩) (fun b hB => hB.2.1) (fun b hB => Nat.lt_of_lt_of_le hB.1 hb.size) HQ h64)
      obtain ⟨Y, hY⟩ : ∃ Y, ntPlay X m = Y := ⟨_, rfl⟩
      rw [hY] at HPL HUP
      have hz0 : Below wz.heap.size wz wz.drew := (Below.refl _ _).drew
      have hzn := enew wz (.cells #[.slice none 0 0, .int .i64 0, .int .i64 0] 62)
      have r0A := (hzn.cell (p := ⟨b, o + i * 5, none⟩) (lt_of_cell r0)).trans r0
      have r1A := (hzn.cell (p := ⟨b, o + i * 5 + 1, none⟩) (lt_of_cell r1)).trans r1
      have r2A := (hzn.cell (p := ⟨b, o + i * 5 + 2, none⟩) (lt_of_cell r2)).trans r2
      have r3A := (hzn.cell (p := ⟨b, o + i * 5 + 3, none⟩) (lt_of_cell r3)).trans r3
      have r4A := (hzn.cell (p := ⟨b, o + i * 5 + 4, none⟩) (lt_of_cell r4)).trans r4
      have x0A := (hzn.cell (p := ⟨bx, 0, none⟩) (lt_of_cell x0)).trans x0
      have x1A := (hzn.cell (p := ⟨bx, 1, none⟩) (lt_of_cell x1)).trans x1
      have x2A := (hzn.cell (p := ⟨bx, 2, none⟩) (lt_of_cell x2)).trans x2
      clear hq hnx hlo hkx hc hY
      go_wp2_with fail
      go_region_law (first
        | (go_simp
           go_at_call 21
           (with_reducible refine (HPL.out _ hz0).mono ?_)
           rintro e w6 ⟨A6, c6, m6, nx6, lo6, S9, rfl, hm6, hn6, hv6, hN6, ho6, hS6⟩
           have H6 := hid (And.intro hz0 (And.intro hm6 (And.intro hn6 (And.intro hv6 (And.intro hN6 (And.intro ho6 hS6)))))))
        | (go_simp
           go_at_call 21
           refine (HPL.out _ hzn.drew).mono ?_
           rintro e w6 ⟨A6, c6, m6, nx6, lo6, S9, rfl, hm6, hn6, hv6, hN6, ho6, hS6⟩
           have H6 := hid (And.intro hzn.drew (And.intro hm6 (And.intro hn6 (And.intro hv6 (And.intro hN6 (And.intro ho6 hS6))))))
           have kt6 : Bk w6 wz.heap.size 62 #[.slice none 0 0, .int .i64 0, .int .i64 0] := ((Bk.new wz 62 #[.slice none 0 0, .int .i64 0, .int .i64 0]).drew).onS ho6 (fun hS => by have := HI.out.1.n.lt _ hS; simp at this)
           have z0 := Bk.cell kt6 0
           have z1 := Bk.cell kt6 1
           have z2 := Bk.cell kt6 2
           have u0 := Bk.frozen kt6 0
           have u1 := Bk.frozen kt6 1
           have u2 := Bk.frozen kt6 2))
      all_goals
        first
        | (have h7 : OnS (fun b => b = wz.heap.size) w6 (((w6.setCell ⟨wz.heap.size, 0, none⟩ (.slice A6 m6 c6)).setCell ⟨wz.heap.size, 1, none⟩ (.int .i64 (nx6 : Int))).setCell ⟨wz.heap.size, 2, none⟩ (.int .i64 (lo6 : Int))) := (((OnS.refl (fun b => b = wz.heap.size) w6).cell _ 0 _ rfl).cell _ 1 _ rfl).cell _ 2 _ rfl
           have K7 := ntset3 kt6 (.slice A6 m6 c6) (.int .i64 (nx6 : Int)) (.int .i64 (lo6 : Int))
           obtain ⟨e1, e2, e3, e4, e5, e6, e7⟩ := H6.out
           have hfin := HI.out.1.fin e1 e2 e3 e4 e5 e6 e7 h7 ⟨Nat.le_refl _, Or.inl (by simp)⟩
           clear kt6 z0 z1 z2 u0 u1 u2 h7 e1 e2 e3 e4 e5 e6 e7
           generalize ((w6.setCell ⟨wz.heap.size, 0, none⟩ (.slice A6 m6 c6)).setCell ⟨wz.heap.size, 1, none⟩ (.int .i64 (nx6 : Int))).setCell ⟨wz.heap.size, 2, none⟩ (.int .i64 (lo6 : Int)) = w7 at *)
        | (have h7 : OnS (fun b => b = w6.heap.size) w6 (w6.alloc (.cells #[.slice A6 m6 c6, .int .i64 (nx6 : Int), .int .i64 (lo6 : Int)] 62)) := OnS.below (enew w6 (.cells #[.slice A6 m6 c6, .int .i64 (nx6 : Int), .int .i64 (lo6 : Int)] 62))
           have K7 := Bk.new w6 62 #[.slice A6 m6 c6, .int .i64 (nx6 : Int), .int .i64 (lo6 : Int)]
           obtain ⟨e1, e2, e3, e4, e5, e6, e7⟩ := H6.out
           have hfin := HI.out.1.fin e1 e2 e3 e4 e5 e6 e7 h7 ⟨Nat.le_trans e1.size e6.size, Or.inr (Nat.le_refl _)⟩
           clear h7 e1 e2 e3 e4 e5 e6 e7
           generalize w6.alloc (.cells #[.slice A6 m6 c6, .int .i64 (nx6 : Int), .int .i64 (lo6 : Int)] 62) = w7 at *)
        have t0 := Bk.cell K7 0
        have t1 := Bk.cell K7 1
        have t2 := Bk.cell K7 2
        have x0 := Bk.cell hfin.1 0
        have x1 := Bk.cell hfin.1 1
        have x2 := Bk.cell hfin.1 2
        have z0 := Bk.frozen hfin.1 0
        have z1 := Bk.frozen hfin.1 1
        have z2 := Bk.frozen hfin.1 2
        have H8 := hid hfin.2
        have hm6 := H6.out.2.1
        have hn6 := H6.out.2.2.1
        have HM := hid (And.intro hm6 hn6)
        clear hfin K7 H6 hm6 hn6 hv6 hN6 ho6 hS6 HPL hz0 hzn r0 r1 r2 r3 r4 r0A r1A r2A r3A r4A x0A x1A x2A
        go_upto_region 12 with (fail)
        generalize (((w7.setCell ⟨bx, 0, none⟩ (.slice A6 m6 c6)).setCell ⟨bx, 1, none⟩ (.int .i64 (nx6 : Int))).setCell ⟨bx, 2, none⟩ (.int .i64 (lo6 : Int))) = w8 at *
        clear t0 t1 t2 x0 x1 x2 z0 z1 z2
        have hYb : lo6 ≤ 1000000 := by have := HUP.out.2; have := HM.out.2.2; have := HI.out.2; omega
        have HLS := hid (fun (w2 : World) (hb : Below w8.heap.size w8 w2) => n28_lost (H8.out.n.up hb) (by have := HM.out.2.2; omega) (hid HM.out.2.2))
        have hkx := H8.out.hx
        rw [HM.out.1, HM.out.2.1, HM.out.2.2] at hkx
        have x2 : w8.cell? ⟨bx, 2, none⟩ = some (.int .i64 (lo6 : Int)) := Bk.cell hkx 2
        have hz : Below w8.heap.size w8 w8.drew := (Below.refl _ _).drew
        clear hkx
        go_wp2_with fail
        go_region_held3 (fun w' => w'.cell? ⟨bx, 2, none⟩ = some (.int .i64 (lo6 : Int)) ∧ Below w8.heap.size w8 w') (first | (with_reducible exact keepK9 x2 hz)) (first
          | (go_at_call 22
             ((with_reducible refine (HLS.out _ hz).mono ?_); rintro e wa ⟨rfl, hy⟩)
             have hz := hz.trans (hy.mono hz.size)))
        all_goals
          have H9 := hid (H8.out.up hz)
          clear x2 hz HLS
          go_wp2_with fail
          go_roundg (n - (i + 1))
          case measure => omega
          case rel => exact ⟨i + 1, Y, S9, A6, c6, by go_num, by omega, by omega, hid ⟨H9.out, by have := HUP.out.1; have := HI.out.2; omega, by have := HUP.out.2; have := HI.out.2; omega⟩⟩
    · obtain rfl : i = n := by omega
      have hltz : ¬ (i : Int) < (i : Int) := by omega
      obtain ⟨q, hq⟩ : ∃ q, X.all.length = q := ⟨_, rfl⟩
      have hkx := HI.out.1.hx
      rw [hq] at hkx
      have HQ := hid hq
      have hq6 : q ≤ 256 := by have := HI.out.1.n.few; omega
      have HAL := hid (fun (w2 : World) (hb : Below wz.heap.size wz w2) => n28_alls (HI.out.1.n.up hb) HQ)
      have HSM := hid (fun (w2 : World) (A5 : Option Addr) (c5 : Nat) (hb : Below wz.heap.size wz w2) (h5 : GX encLt 4 w2 (· < w2.heap.size) A5 X.all) => ltsame_lit A5 A c5 cap q X.all w2 h5 ((HI.out.1.rv.1.same fun b hB => hb.block b hB.1).imp fun b hB => Nat.lt_of_lt_of_le hB.1 hb.size) HQ (by omega))
      have HKN := hid known28_any
      have x0 : wz.cell? ⟨bx, 0, none⟩ = some (.slice A q cap) := Bk.cell hkx 0
      have hz : Below wz.heap.size wz wz.drew := (Below.refl _ _).drew
      clear hq hkx
      go_wp2_with fail
      go_region_held3 (fun w' => w'.cell? ⟨bx, 0, none⟩ = some (.slice A q cap) ∧ Below wz.heap.size wz w') (first | (with_reducible exact keepK9 x0 hz)) (first
        | (go_at_call 24
           ((with_reducible refine (HAL.out _ hz).mono ?_); rintro e wa ⟨A5, c5, rfl, hs5, hy⟩)
           have hz := hz.trans (hy.mono hz.size))
        | (go_at_call 23
           ((with_reducible refine (HSM.out _ _ _ hz hs5).mono ?_); rintro e wa ⟨rfl, hy⟩)
           have hz := hz.trans (hy.mono hz.size))
        | (go_at_call 19
           ((with_reducible refine (HKN.out _).mono ?_); rintro e wa ⟨rfl, hy⟩)
           have hz := hz.trans (hy.mono hz.size)))
      all_goals
        have H9 := hid (estep HI.out.1.n.bel hz)
        clear x0 hz HAL HSM HKN
        go_wp2_with fail
        go_returns
        exact ⟨rfl, H9.out⟩
end Go.Proofs.Ytflamedbeagjlaa

