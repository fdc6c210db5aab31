/- export: the walk of ExportQuiet. -/
import Derived.Test.YtpfhmpblcmednaaE36
import Derived.Deep.RegionHeld3
import Derived.BigQuiet
import Derived.Deep.CutRange
import Derived.Deep.CutBlock
namespace Go.Proofs.Ytpfhmpblcmednaa
set_option linter.unusedVariables false
set_option linter.unusedSimpArgs false
open Go.RowKit Go.Joins

set_option maxRecDepth 100000 in
set_option maxHeartbeats 32000000 in
theorem exportQuiet_walk (c : Lim) (z : Lw) (Ai : Option Addr) (ni ci : Nat) (v : Value) (L : List Sp) (fr : Int) (w : World) (hx : RwV encSp 11 w (· < w.heap.size) v L ∧ ∀ s ∈ L, okSp s) :
    Calls Try.prog 4 #[.agg #[.int .i64 z.work, .int .i64 z.side, .int .i64 z.aux, .int .i64 c.buffer, .int .i64 c.batch, .int .i64 c.every, .int .i64 c.flight, .int .i64 c.retry, .int .i64 c.tries, .int .i64 z.traces, .int .i64 z.lines, .slice Ai ni ci], v, .int .i64 fr] w fun e w' => e = .returned (.bool true) ∧ Below w.heap.size w w' := by
  have hnot := enot
  obtain ⟨⟨A0, cap0, rfl, hgx, -⟩, hok⟩ := hx
  obtain ⟨n, hn⟩ : ∃ n, L.length = n := ⟨_, rfl⟩
  rw [hn]
  have hen := enew w (.cells #[.int .i64 z.work, .int .i64 z.side, .int .i64 z.aux, .int .i64 c.buffer, .int .i64 c.batch, .int .i64 c.every, .int .i64 c.flight, .int .i64 c.retry, .int .i64 c.tries, .int .i64 z.traces, .int .i64 z.lines, .slice Ai ni ci] 24)
  have KB := hid (Bk.new w 24 #[.int .i64 z.work, .int .i64 z.side, .int .i64 z.aux, .int .i64 c.buffer, .int .i64 c.batch, .int .i64 c.every, .int .i64 c.flight, .int .i64 c.retry, .int .i64 c.tries, .int .i64 z.traces, .int .i64 z.lines, .slice Ai ni ci])
  have HG := hid hgx
  have HOK := hid hok
  have HN := hid hn
  have HEN := hid hen
  obtain ⟨lb, hlb⟩ : ∃ b, limB c = b := ⟨_, rfl⟩
  have HRC := hid (fun w2 => rexcheck_any c z (.slice Ai ni ci) w2 (r := if lb = true then 0 else 12) (hid (by unfold limE; rw [hlb])))
  clear hgx hn hen hok
  go_enter Try.func4, Try.ntmps4
  go_upto_region 1 with (fail)
  obtain ⟨bc, hbc⟩ : ∃ bc, w.heap.size = bc := ⟨_, rfl⟩
  have hbw : Hid (w.heap.size = bc) := hid hbc
  rw [hbc] at KB ⊢
  clear hbc
  generalize w.alloc (.cells #[.int .i64 z.work, .int .i64 z.side, .int .i64 z.aux, .int .i64 c.buffer, .int .i64 c.batch, .int .i64 c.every, .int .i64 c.flight, .int .i64 c.retry, .int .i64 c.tries, .int .i64 z.traces, .int .i64 z.lines, .slice Ai ni ci] 24) = v0 at *
  have x0 := Bk.cell KB.out 0
  have x1 := Bk.cell KB.out 1
  have x2 := Bk.cell KB.out 2
  have x3 := Bk.cell KB.out 3
  have x4 := Bk.cell KB.out 4
  have x5 := Bk.cell KB.out 5
  have x6 := Bk.cell KB.out 6
  have x7 := Bk.cell KB.out 7
  have x8 := Bk.cell KB.out 8
  have x9 := Bk.cell KB.out 9
  have x10 := Bk.cell KB.out 10
  have x11 := Bk.cell KB.out 11
  by_cases hc1 : (60 : Int) < (n : Int)
  · have hd1 : decide ((60 : Int) < (n : Int)) = true := decide_eq_true hc1
    have hd1n : decide (60 < n) = true := decide_eq_true (by omega)
    cases lb
    all_goals
      go_wp2_with fail
      refine (HRC.out _).mono ?_
      rintro e w1 ⟨rfl, hb1⟩
      have HB1 := hid (estep HEN.out hb1)
      clear hb1
      go_wp2_with fail
      refine (known27_any _).mono ?_
      rintro e w7 ⟨rfl, hb7⟩
      have B7 := hid (estep HB1.out hb7)
      clear hb7
      go_wp2_with fail
      go_returns
      exact ⟨rfl, B7.out⟩

  have hd1 : decide ((60 : Int) < (n : Int)) = false := decide_eq_false hc1
  have hd1n : decide (60 < n) = false := decide_eq_false (by omega)
  by_cases hc2 : fr < 0
  · have hd2 : decide (fr < 0) = true := decide_eq_true hc2
    cases lb
    all_goals
      go_wp2_with fail
      refine (HRC.out _).mono ?_
      rintro e w1 ⟨rfl, hb1⟩
      have HB1 := hid (estep HEN.out hb1)
      clear hb1
      go_wp2_with fail
      refine (known27_any _).mono ?_
      rintro e w7 ⟨rfl, hb7⟩
      have B7 := hid (estep HB1.out hb7)
      clear hb7
      go_wp2_with fail
      go_returns
      exact ⟨rfl, B7.out⟩

  have hd2 : decide (fr < 0) = false := decide_eq_false hc2
  by_cases hc3 : 1000000 < fr
  · have hd3 : decide (1000000 < fr) = true := decide_eq_true hc3
    cases lb
    all_goals
      go_wp2_with fail
      refine (HRC.out _).mono ?_
      rintro e w1 ⟨rfl, hb1⟩
      have HB1 := hid (estep HEN.out hb1)
      clear hb1
      go_wp2_with fail
      refine (known27_any _).mono ?_
      rintro e w7 ⟨rfl, hb7⟩
      have B7 := hid (estep HB1.out hb7)
      clear hb7
      go_wp2_with fail
      go_returns
      exact ⟨rfl, B7.out⟩

  have hd3 : decide (1000000 < fr) = false := decide_eq_false hc3
  have hfr : 0 ≤ fr ∧ fr ≤ 1000000 := by omega
  have hn60 : n ≤ 60 := by omega
  clear hc1 hc2 hc3
  cases lb
  · go_wp2_with fail
    refine (HRC.out _).mono ?_
    rintro e w1 ⟨rfl, hb1⟩
    have HB1 := hid (estep HEN.out hb1)
    clear hb1
    go_wp2_with fail
    refine (known27_any _).mono ?_
    rintro e w7 ⟨rfl, hb7⟩
    have B7 := hid (estep HB1.out hb7)
    clear hb7
    go_wp2_with fail
    go_returns
    exact ⟨rfl, B7.out⟩

  have HC := hid (limB_ok hlb)
  go_wp2_with fail
  refine (HRC.out _).mono ?_
  rintro e w1 ⟨rfl, hb1⟩
  have KB1 := hid (KB.out.up hb1)
  have HB1 := hid (estep HEN.out hb1)
  have HNW := hid (e27_new (nd := 0) c z Ai ni ci w w1 HB1.out ⟨by decide, by decide⟩ hlb)
  clear hb1 HRC x0 x1 x2 x3 x4 x5 x6 x7 x8 x9 x10 x11 KB HEN
  have x0 := Bk.cell KB1.out 0
  have x1 := Bk.cell KB1.out 1
  have x2 := Bk.cell KB1.out 2
  have x3 := Bk.cell KB1.out 3
  have x4 := Bk.cell KB1.out 4
  have x5 := Bk.cell KB1.out 5
  have x6 := Bk.cell KB1.out 6
  have x7 := Bk.cell KB1.out 7
  have x8 := Bk.cell KB1.out 8
  have x9 := Bk.cell KB1.out 9
  have x10 := Bk.cell KB1.out 10
  have x11 := Bk.cell KB1.out 11
  go_wp2_with fail
  refine HNW.out.mono ?_
  rintro e w2 ⟨g, gb, rfl, hE, hnS, hb2⟩
  have HST : Hid (QuM w w2 g gb none c z ex0 bc #[.int .i64 z.work, .int .i64 z.side, .int .i64 z.aux, .int .i64 c.buffer, .int .i64 c.batch, .int .i64 c.every, .int .i64 c.flight, .int .i64 c.retry, .int .i64 c.tries, .int .i64 z.traces, .int .i64 z.lines, .slice Ai ni ci] (.slice none 0 0) [] (.slice none 0 0) [] ∧ QuP c ex0 [] 0) := hid ⟨QuM.start hE (KB1.out.up hb2), QuP.start HC.out⟩
  clear hE hnS hb2 HNW x0 x1 x2 x3 x4 x5 x6 x7 x8 x9 x10 x11 KB1 HB1 hlb
  go_wp2_with fail
  go_loopg [9, 11] n (fun g1 vp vi wr => ∃ (i : Nat) (p : Option Nat) (x : Exs) (put : List Sp), vi = .int .i64 i ∧ i ≤ n ∧ n - i ≤ g1 ∧ Hid (QuM w wr g gb p c z x bc #[.int .i64 z.work, .int .i64 z.side, .int .i64 z.aux, .int .i64 c.buffer, .int .i64 c.batch, .int .i64 c.every, .int .i64 c.flight, .int .i64 c.retry, .int .i64 c.tries, .int .i64 z.traces, .int .i64 z.lines, .slice Ai ni ci] vp put (.slice none 0 0) [] ∧ QuP c x put i ∧ put.length ≤ i))
  case atStart => exact ⟨0, none, ex0, [], rfl, by omega, by omega, hid ⟨HST.out.1, HST.out.2, Nat.le_refl _⟩⟩
  case round =>
    obtain ⟨i, p, x, put, rfl, hin, hgk, HI⟩ := hrel
    obtain ⟨wz, hwz⟩ : ∃ wz, wz = wr := ⟨_, rfl⟩
    subst hwz
    by_cases hlt : i < n
    · skip
      have hiL : i < L.length := by have := HN.out; omega
      obtain ⟨b, o, rfl, hB, r0, r1, r2, r3, r4, r5, r6, r7, r8, r9, r10⟩ := sp_cells HG.out (List.getElem?_eq_getElem hiL)
      have HCC : Hid (∀ w', Below w.heap.size w w' → w'.cell? ⟨b, o + i * 11, none⟩ = some (.int .u64 (L[i].hi : Int)) ∧ w'.cell? ⟨b, o + i * 11 + 1, none⟩ = some (.int .u64 (L[i].lo : Int)) ∧ w'.cell? ⟨b, o + i * 11 + 2, none⟩ = some (.int .u64 (L[i].id : Int)) ∧ w'.cell? ⟨b, o + i * 11 + 3, none⟩ = some (.int .u64 (L[i].up : Int)) ∧ w'.cell? ⟨b, o + i * 11 + 4, none⟩ = some (.string (bs L[i].name)) ∧ w'.cell? ⟨b, o + i * 11 + 5, none⟩ = some (.int .i64 L[i].status) ∧ w'.cell? ⟨b, o + i * 11 + 6, none⟩ = some (.int .i64 L[i].seq) ∧ w'.cell? ⟨b, o + i * 11 + 7, none⟩ = some (.int .i64 L[i].kids) ∧ w'.cell? ⟨b, o + i * 11 + 8, none⟩ = some (.bool L[i].shade) ∧ w'.cell? ⟨b, o + i * 11 + 9, none⟩ = some (.int .i64 L[i].start) ∧ w'.cell? ⟨b, o + i * 11 + 10, none⟩ = some (.int .i64 L[i].fin)) := hid (fun w' hb => ⟨(hb.cell (p := ⟨b, o + i * 11, none⟩) hB).trans r0, (hb.cell (p := ⟨b, o + i * 11 + 1, none⟩) hB).trans r1, (hb.cell (p := ⟨b, o + i * 11 + 2, none⟩) hB).trans r2, (hb.cell (p := ⟨b, o + i * 11 + 3, none⟩) hB).trans r3, (hb.cell (p := ⟨b, o + i * 11 + 4, none⟩) hB).trans r4, (hb.cell (p := ⟨b, o + i * 11 + 5, none⟩) hB).trans r5, (hb.cell (p := ⟨b, o + i * 11 + 6, none⟩) hB).trans r6, (hb.cell (p := ⟨b, o + i * 11 + 7, none⟩) hB).trans r7, (hb.cell (p := ⟨b, o + i * 11 + 8, none⟩) hB).trans r8, (hb.cell (p := ⟨b, o + i * 11 + 9, none⟩) hB).trans r9, (hb.cell (p := ⟨b, o + i * 11 + 10, none⟩) hB).trans r10⟩)
      have HOM := hid (HOK.out _ (List.getElem_mem hiL))
      clear hB r0 r1 r2 r3 r4 r5 r6 r7 r8 r9 r10
      generalize L[i] = m at *
      obtain ⟨r0, r1, r2, r3, r4, r5, r6, r7, r8, r9, r10⟩ := HCC.out wz HI.out.1.e.bel
      have hltz : (i : Int) < (n : Int) := by omega
      have hltd : decide ((i : Int) < (n : Int)) = true := decide_eq_true hltz
      have hltn : decide (i < n) = true := decide_eq_true hlt
      have hi0 : (0 : Int) ≤ (i : Int) := by omega
      have hadd : IntKind.i64.wrap ((i : Int) + 1) = (i : Int) + 1 := IntWalk.i64_in _ (by omega)
      by_cases hc : (200 : Int) < (m.name.length : Int)
      · have hd5 : decide ((200 : Int) < (m.name.length : Int)) = true := decide_eq_true hc
        have hd5n : decide (200 < m.name.length) = true := decide_eq_true (by omega)
        go_wp2_with fail
        refine (known27_any _).mono ?_
        rintro e w7 ⟨rfl, hb7⟩
        have B7 := hid (estep HI.out.1.e.bel hb7)
        clear hb7
        go_wp2_with fail
        go_returns
        exact ⟨rfl, B7.out⟩

      have hd5 : decide ((200 : Int) < (m.name.length : Int)) = false := decide_eq_false hc
      have hd5n : decide (200 < m.name.length) = false := decide_eq_false (by omega)
      have hnl : m.name.length ≤ 200 := by omega
      clear hc
      obtain ⟨⟨Y, r⟩, hY⟩ : ∃ r, exPut c x m = r := ⟨_, rfl⟩
      have HPU := hid (e27_put m HI.out.1.e (by omega) (HI.out.2.1.pre HC.out (by omega)).lo (hid hY))
      have HQP := hid (HI.out.2.1.put HC.out (by omega) HOM.out hY)
      clear hY
      go_wp2_with fail
      refine HPU.out.mono ?_
      rintro e wy ⟨rfl, hr⟩
      obtain ⟨p9, h9⟩ := HI.out.1.next hr
      have HM9 := hid h9
      have HPL := hid HI.out.2.2
      clear hr h9 HPU HI r0 r1 r2 r3 r4 r5 r6 r7 r8 r9 r10
      by_cases hr0 : r = 0
      · subst hr0
        rw [if_pos rfl] at HQP
        obtain ⟨r0, r1, r2, r3, r4, r5, r6, r7, r8, r9, r10⟩ := HCC.out wy HM9.out.e.bel
        have hx1 := gx_new (M := [m]) encSp_len (Bk.new wy 37 #[.int .u64 (m.hi : Int), .int .u64 (m.lo : Int), .int .u64 (m.id : Int), .int .u64 (m.up : Int), .string (bs m.name), .int .i64 m.status, .int .i64 m.seq, .int .i64 m.kids, .bool m.shade, .int .i64 m.start, .int .i64 m.fin]) rfl
        have hbs := enew wy (.cells #[.int .u64 (m.hi : Int), .int .u64 (m.lo : Int), .int .u64 (m.id : Int), .int .u64 (m.up : Int), .string (bs m.name), .int .i64 m.status, .int .i64 m.seq, .int .i64 m.kids, .bool m.shade, .int .i64 m.start, .int .i64 m.fin] 37)
        have HX1 := hid (And.intro hx1 (And.intro (HM9.out.up hbs) hbs.size))
        have HY9 := hid (And.intro HQP.out.way HM9.out.e.bel.size)
        clear hx1 hbs
        go_wp2_with (at_builtin; refine wpList_append_gxl rowSp rfl _ _ rfl w.heap.size _ put [m] wy.heap.size 1 (fun b => b = wy.heap.size) rfl HX1.out.2.1.gp rfl HX1.out.1 (by simp) (by have := HPL.out; simp only [List.length_cons, List.length_nil]; omega) (Nat.le_trans HY9.out.2 HX1.out.2.2) ?_)
        intro q4 c4 w4 m4 hm4 hG4 hg4 hl4
        have HM10 := hid (HX1.out.2.1.outs HY9.out.1 hG4 hg4 (by rcases hl4 with h | h; exact Or.inl h.symm; exact Or.inr (by rw [h]; simp [Value.ownBlock])))
        clear hG4 hg4 hl4 hm4 HX1 HM9 r0 r1 r2 r3 r4 r5 r6 r7 r8 r9 r10
        go_wp2_with fail
        go_roundg (n - (i + 1))
        case measure => omega
        case rel => exact ⟨i + 1, p9, Y, put ++ [m], by first | rfl | go_num | simp, by omega, by omega, hid ⟨HM10.out, HQP.out, by have := HPL.out; simp; omega⟩⟩
      · have he0 : decide (r = 0) = false := decide_eq_false hr0
        have he0b : (r == 0) = false := by simpa using hr0
        rw [if_neg hr0] at HQP
        go_wp2_with fail
        go_roundg (n - (i + 1))
        case measure => omega
        case rel => exact ⟨i + 1, p9, Y, put, by first | rfl | go_num | simp, by omega, by omega, hid ⟨HM9.out, HQP.out, by have := HPL.out; omega⟩⟩
    · obtain rfl : i = n := by omega
      have hltz : ¬ (i : Int) < (i : Int) := by omega
      have hbuf : (put.length : Int) ≤ c.buffer := by have := HI.out.2.1.k.buf.1; rwa [HI.out.2.1.buf] at this
      have hcb := HC.out.buffer
      have hce := HC.out.every
      obtain ⟨kT, hkT⟩ : ∃ k : Nat, (k : Int) = c.buffer + c.every + 1 := ⟨(c.buffer + c.every + 1).toNat, by omega⟩
      have hk81 : kT ≤ 81 := by omega
      have hwb : IntKind.i64.wrap (c.buffer + c.every) = c.buffer + c.every := IntWalk.i64_in _ (by omega)
      have hwk : IntKind.i64.wrap (c.buffer + c.every + 1) = (kT : Int) := by rw [← hkT]; exact IntWalk.i64_in _ (by omega)
      have HKT := hid (And.intro hkT hbuf)
      have HM0 := hid (And.intro HI.out.1 (QuT.start (fr := fr) HI.out.2.1 (by omega)))
      have hpl60 : put.length ≤ 64 := by omega
      have HPU := hid hpl60
      clear hkT hbuf HI hcb hce hpl60 hltz HG HOK
      go_wp2_with fail
      go_loopg [10, 12] kT (fun g1 vg vt wr => ∃ (t1 : Nat) (p : Option Nat) (x : Exs) (got : List Sp), vt = .int .i64 t1 ∧ 1 ≤ t1 ∧ t1 ≤ kT + 1 ∧ kT + 1 - t1 ≤ g1 ∧ Hid (QuM w wr g gb p c z x bc #[.int .i64 z.work, .int .i64 z.side, .int .i64 z.aux, .int .i64 c.buffer, .int .i64 c.batch, .int .i64 c.every, .int .i64 c.flight, .int .i64 c.retry, .int .i64 c.tries, .int .i64 z.traces, .int .i64 z.lines, .slice Ai ni ci] u9 put vg got ∧ QuT c fr (t1 - 1) x put got))
      case atStart => exact ⟨1, _, _, _, by first | rfl | go_num, by omega, by omega, by omega, hid HM0.out⟩
      case round =>
        obtain ⟨t1, p, x, got, rfl, ht0, htn, hgk, HI⟩ := hrel
        obtain ⟨wz, hwz⟩ : ∃ wz, wz = wr := ⟨_, rfl⟩
        subst hwz
        have l3 : wz.cell? ⟨bc, 3, none⟩ = some (.int .i64 c.buffer) := Bk.cell HI.out.1.kb 3
        have l5 : wz.cell? ⟨bc, 5, none⟩ = some (.int .i64 c.every) := Bk.cell HI.out.1.kb 5
        by_cases hlt : t1 ≤ kT
        · obtain ⟨t, ht⟩ : ∃ t, t + 1 = t1 := ⟨t1 - 1, by omega⟩
          have hqt : QuT c fr t x put got := by have := HI.out.2; rwa [show t1 - 1 = t by omega] at this
          have hltd : decide ((t1 : Int) ≤ (kT : Int)) = true := decide_eq_true (by omega)
          have hltz : (t1 : Int) ≤ (kT : Int) := by omega
          have hltn : decide (t1 ≤ kT) = true := decide_eq_true hlt
          have hadd : IntKind.i64.wrap ((t1 : Int) + 1) = (t1 : Int) + 1 := IntWalk.i64_in _ (by omega)
          have hwf : IntKind.i64.wrap (fr + (t1 : Int)) = fr + (t1 : Int) := IntWalk.i64_in _ (by omega)
          have hxp := hqt.pre HC.out (by omega)
          have hqs := hqt.step HC.out hfr (by omega)
          rw [ht] at hqs
          obtain ⟨⟨Y, O⟩, hY⟩ : ∃ r, exStep 0 c x (fr + (t1 : Int)) = r := ⟨_, rfl⟩
          rw [hY] at hqs
          simp only at hqs
          have HQX := hid (And.intro HI.out.1 ht)
          have HXP := hid hxp
          have HY := hid hY
          clear hY HI hqt hxp ht
          rcases hqs with ⟨hO, hq1⟩ | ⟨L1, due, hO, hL1, hLb, hLp, hYP, hAk, hq1⟩
          · subst hO
            have HSTP := hid (e27_step (fr + (t1 : Int)) HQX.out.1.e HXP.out HY (k := 0) (hid rfl))
            have HQ1 := hid hq1
            clear hq1
            go_wp2_with fail
            refine HSTP.out.mono ?_
            rintro e wy ⟨Ao, co, rfl, -, hr⟩
            obtain ⟨p9, h9⟩ := HQX.out.1.next hr
            have HM9 := hid h9
            clear h9 hr HSTP l3 l5
            go_wp2_with fail
            go_loopg [10, 14] 0 (fun g2 v10 vk wr => vk = .int .i64 0 ∧ v10 = u10 ∧ wr = wy)
            case atStart => exact ⟨rfl, rfl, rfl⟩
            case round =>
              obtain ⟨rfl, rfl, rfl⟩ := hrel
              go_wp2_with fail
              go_roundg (kT + 1 - (t1 + 1))
              case measure => omega
              case rel => exact ⟨t1 + 1, p9, Y, got, by first | rfl | go_num | simp, by omega, by omega, by omega, hid ⟨HM9.out, by rw [show t1 + 1 - 1 = t1 by omega]; exact HQ1.out⟩⟩
          · subst hO
            have HSTP := hid (e27_step (fr + (t1 : Int)) HQX.out.1.e HXP.out HY (k := 1) (hid rfl))
            have hba := HC.out.batch
            obtain ⟨q, hq⟩ : ∃ q : Nat, x.next = q := ⟨_, rfl⟩
            rw [hq] at hAk hq1 HSTP
            obtain ⟨tx, htx⟩ : ∃ tx, btT ⟨0, (q : Int), L1, 1, due⟩ = tx := ⟨_, rfl⟩
            have hqz : (0 : Int) ≤ (q : Int) ∧ (q : Int) ≤ 1099511627776 := by have := HXP.out.nx; omega
            have hrd := readB_btT (y := ⟨0, (q : Int), L1, 1, due⟩) rfl hqz ⟨hL1, by show L1.length ≤ 16; omega⟩ hLp
            have hln := btT_len (y := ⟨0, (q : Int), L1, 1, due⟩) rfl hqz ⟨hL1, by show L1.length ≤ 16; omega⟩ hLp
            rw [htx] at hrd hln
            simp only [Int.toNat_natCast] at hrd
            obtain ⟨ml, hml⟩ : ∃ ml, L1.length = ml := ⟨_, rfl⟩
            rw [hml] at hAk
            obtain ⟨⟨Z, k9⟩, hZ⟩ : ∃ r, exAck Y (q : Int) = r := ⟨_, rfl⟩
            rw [hZ] at hAk hq1
            simp only at hAk hq1
            obtain rfl : k9 = ml := hAk
            have HRD := hid (fun w2 => rbread_q tx w2 hln (hid hrd) (hid hml))
            have HQ1 := hid (And.intro hq1 (And.intro hml (And.intro hYP (And.intro hLb hZ))))
            clear hq1 hml hYP hLb hZ hrd hln hLp hL1 hq
            go_wp2_with fail
            refine HSTP.out.mono ?_
            rintro e wy ⟨Ao, co, rfl, hgo, hr⟩
            obtain ⟨p9, h9⟩ := HQX.out.1.next hr
            have hgo1 : GB encS1 1 9 wy wz.heap.size (.slice Ao 1 co) [tx] := by
              have := hgo
              simp only [List.map_cons, List.map_nil] at this
              rwa [htx] at this
            have HM9 := hid (And.intro h9 hgo1)
            clear h9 hr HSTP l3 l5 hgo hgo1 htx
            go_wp2_with fail
            go_loopg [10, 14] 1 (fun g2 v10 vk wr => ∃ k : Nat, vk = .int .i64 k ∧ 1 - k ≤ g2 ∧ Hid ((k = 0 ∧ v10 = u10 ∧ wr = wy) ∨ (k = 1 ∧ ∃ p8, QuM w wr g gb p8 c z Z bc #[.int .i64 z.work, .int .i64 z.side, .int .i64 z.aux, .int .i64 c.buffer, .int .i64 c.batch, .int .i64 c.every, .int .i64 c.flight, .int .i64 c.retry, .int .i64 c.tries, .int .i64 z.traces, .int .i64 z.lines, .slice Ai ni ci] u9 put v10 (got ++ L1))))
            case atStart => exact ⟨0, by first | rfl | go_num, by omega, hid (Or.inl ⟨rfl, rfl, rfl⟩)⟩
            case round =>
              obtain ⟨k, rfl, hgk2, HJ⟩ := hrel
              rcases HJ.out with ⟨rfl, rfl, rfl⟩ | ⟨rfl, p8, hM8⟩
              · obtain ⟨A', c', ea, hgx, -⟩ := GB.reads encS1_len HM9.out.2
                obtain ⟨bo, oo, eo, hBo, hst0⟩ := hgx 0 (by simp)
                have hst : wr.cell? ⟨bo, oo, none⟩ = some (.string (bs tx)) := by
                  have := hst0 0 (by omega)
                  simpa [encS1] using this
                simp only [Value.slice.injEq] at ea
                obtain ⟨rfl, -, rfl⟩ := ea
                subst eo
                clear hst0 hgx HJ
                go_wp2_with fail
                refine (HRD.out _).mono ?_
                rintro e wk ⟨A5, c5, rfl, hg5, hb5⟩
                have hen5 := enew wk (.cells #[.int .i64 0, .int .i64 (q : Int), .slice A5 k9 c5] 45)
                have KT5 := hid (Bk.new wk 45 #[.int .i64 0, .int .i64 (q : Int), .slice A5 k9 c5])
                have HW5 := hid (And.intro ((HM9.out.1.up hb5).up hen5) (hg5.below hen5))
                have HBB := hid (And.intro hb5.size hen5.size)
                clear hb5 hen5 hg5 HRD hst
                go_upto_region 24 with (fail)
                obtain ⟨bt5, hbt5⟩ : ∃ bt5, wk.heap.size = bt5 := ⟨_, rfl⟩
                rw [hbt5] at KT5 ⊢
                clear hbt5
                generalize wk.alloc (.cells #[.int .i64 0, .int .i64 (q : Int), .slice A5 k9 c5] 45) = w5 at *
                have y1 : w5.cell? ⟨bt5, 1, none⟩ = some (.int .i64 (q : Int)) := Bk.cell KT5.out 1
                have y2 : w5.cell? ⟨bt5, 2, none⟩ = some (.slice A5 k9 c5) := Bk.cell KT5.out 2
                have hz0 : Below w5.heap.size w5 w5.drew := (Below.refl _ w5).drew
                have y1d : w5.drew.cell? ⟨bt5, 1, none⟩ = some (.int .i64 (q : Int)) := y1
                have y2d : w5.drew.cell? ⟨bt5, 2, none⟩ = some (.slice A5 k9 c5) := y2
                have HAK := hid (fun (w2 : World) (hb : Below w5.heap.size w5 w2) => e27_ack (q : Int) (HW5.out.1.up hb).e HQ1.out.2.2.1 (hid HQ1.out.2.2.2.2))
                go_wp2_with fail
                go_region_law (
                  (go_simp
                   go_at_call 18
                   (with_reducible refine (HAK.out _ hz0).mono ?_)
                   rintro e w7 ⟨rfl, hr7⟩
                   have hk7 : Bk w7 bt5 45 #[.int .i64 0, .int .i64 (q : Int), .slice A5 k9 c5] := by
                     obtain ⟨p', e7, o7, -⟩ := hr7
                     exact (KT5.out.up hz0).onS o7 fun e => (HW5.out.1.up hz0).e.kinds e (KT5.out.up hz0).kd (by decide) (by decide) (by decide)
                   have y2c : w7.cell? ⟨bt5, 2, none⟩ = some (.slice A5 k9 c5) := Bk.cell hk7 2))
                all_goals
                  obtain ⟨p7, h7⟩ := (HW5.out.1.up hz0).next hr7
                  obtain ⟨p', e7, o7, -⟩ := hr7
                  have hg7 := flgb2 (HW5.out.2.below hz0) o7 (fun b hb hS => by
                    have h1 := (World.ownsRow.lt HW5.out.2 b hb).1
                    have h2 := HM9.out.1.e.lt b hS
                    omega)
                  have H7 := hid (And.intro h7 hg7)
                  clear h7 hg7 e7 o7 hk7 y1 y2 y1d y2d HAK
                  have HGL : Hid (got.length + L1.length ≤ 10000000) := hid (by
                    have h1 := congrArg List.length HQ1.out.1.q.eq
                    have h2 := HPU.out
                    simp only [List.length_append] at h1
                    omega)
                  go_wp2_with (at_builtin; refine wpList_append_gxw rowSp rfl _ _ rfl w.heap.size _ _ _ got L1 rfl H7.out.1.gg rfl H7.out.2 HGL.out H7.out.1.e.bel.size ?_)
                  intro v4 w4 hG4 hg4 hl4
                  have HM4 := hid (H7.out.1.swap.outs HQ1.out.1.q.way hG4 hg4 hl4).swap
                  clear hG4 hg4 hl4 H7 y2c
                  go_wp2_with fail
                  go_roundg 0
                  case measure => omega
                  case rel => exact ⟨1, by first | rfl | go_num | simp, by omega, hid (Or.inr ⟨rfl, p7, HM4.out⟩)⟩
              · have HM8 := hid hM8
                clear hM8 HJ
                go_wp2_with fail
                go_roundg (kT + 1 - (t1 + 1))
                case measure => omega
                case rel => exact ⟨t1 + 1, p8, Z, got ++ L1, by first | rfl | go_num | simp, by omega, by omega, by omega, hid ⟨HM8.out, by rw [show t1 + 1 - 1 = t1 by omega]; exact HQ1.out.1⟩⟩
        · obtain rfl : t1 = kT + 1 := by omega
          have hltd : decide (((kT + 1 : Nat) : Int) ≤ (kT : Int)) = false := decide_eq_false (by omega)
          have hltz : ¬ (((kT + 1 : Nat) : Int) ≤ (kT : Int)) := by omega
          have hltn : decide (kT + 1 ≤ kT) = false := decide_eq_false (by omega)
          have hq := HI.out.2
          rw [show kT + 1 - 1 = kT by omega] at hq
          have hdn := hq.done HC.out hfr.1 HKT.out.1 HKT.out.2
          have hxp := hq.pre HC.out (by omega)
          have htl := e27_tally HI.out.1.e hxp
          obtain ⟨S, hS⟩ : ∃ S : Int, (exSum x : Int) = S := ⟨_, rfl⟩
          obtain ⟨lo, hlo⟩ : ∃ S : Int, (x.buf.2 : Int) = S := ⟨_, rfl⟩
          obtain ⟨gv, hgv⟩ : ∃ S : Int, (x.given : Int) = S := ⟨_, rfl⟩
          obtain ⟨pl, hpl⟩ : ∃ n, put.length = n := ⟨_, rfl⟩
          have htv : tlV x = .agg #[.int .i64 S, .int .i64 0, .int .i64 0, .int .i64 0, .int .i64 (pl : Int), .int .i64 lo, .int .i64 gv] := by
            unfold tlV
            rw [hdn.1, hdn.2.1, hdn.2.2.1, hS, hlo, hgv, hpl]
            rfl
          rw [htv] at htl
          obtain rfl : got = put := hdn.2.2.2
          have HTL := hid htl
          have HMM := hid HI.out.1
          have HPLN := hid hpl
          obtain ⟨⟨Y, O⟩, hY⟩ : ∃ r, exStep 0 c x (fr + 2000000) = r := ⟨_, rfl⟩
          have hsi := ex_silent (nd := 0) (c := c) hdn.2.1 hdn.1 (fr + 2000000)
          rw [hY] at hsi
          simp only at hsi
          subst hsi
          have HXP := hid hxp
          have HY := hid hY
          obtain ⟨Ap, cp, eap, hgp, -⟩ := GB.reads encSp_len HMM.out.gp
          obtain ⟨Ag, cg, eag, hgg, -⟩ := GB.reads encSp_len HMM.out.gg
          rw [hpl] at eap eag
          have HGX := hid (And.intro (hgp.imp fun b hb => hb.2) (hgg.imp fun b hb => hb.2))
          have hwf : IntKind.i64.wrap (fr + 2000000) = fr + 2000000 := IntWalk.i64_in _ (by omega)
          have hpz : pl ≤ 1000000 := by have := HPU.out; omega
          clear htl htv hdn hq hxp hS hlo hgv hpl hY HI hgp hgg
          subst eap eag
          go_wp2_with fail
          refine HTL.out.mono ?_
          rintro e wt ⟨rfl, hbt⟩
          have hen5 := enew wt (.cells #[.int .i64 S, .int .i64 0, .int .i64 0, .int .i64 0, .int .i64 (pl : Int), .int .i64 lo, .int .i64 gv] 50)
          have KT5 := hid (Bk.new wt 50 #[.int .i64 S, .int .i64 0, .int .i64 0, .int .i64 0, .int .i64 (pl : Int), .int .i64 lo, .int .i64 gv])
          have HM5 := hid ((HMM.out.up hbt).up hen5)
          have HSM := hid (fun w2 (hb : Below wt.heap.size wt w2) => spsame_lit Ag Ap cg cp pl got w2 ((HGX.out.2.imp fun b hb => hb).up (hbt.trans (hb.mono hbt.size))) ((HGX.out.1.imp fun b hb => hb).up (hbt.trans (hb.mono hbt.size))) HPLN hpz)
          have HBT := hid hen5
          clear hbt hen5 HTL
          go_upto_region 28 with (fail)
          obtain ⟨bt6, hbt6⟩ : ∃ bt6, wt.heap.size = bt6 := ⟨_, rfl⟩
          rw [hbt6] at KT5 HSM HBT ⊢
          clear hbt6
          generalize wt.alloc (.cells #[.int .i64 S, .int .i64 0, .int .i64 0, .int .i64 0, .int .i64 (pl : Int), .int .i64 lo, .int .i64 gv] 50) = w5 at *
          go_wp2_with fail
          refine (HSM.out _ HBT.out).mono ?_
          rintro e w6 ⟨rfl, hb6⟩
          have HM6 := hid (HM5.out.up hb6)
          have HK6 := hid (KT5.out.up hb6)
          have y2 : w6.cell? ⟨bt6, 2, none⟩ = some (.int .i64 0) := Bk.cell HK6.out 2
          have y3 : w6.cell? ⟨bt6, 3, none⟩ = some (.int .i64 0) := Bk.cell HK6.out 3
          have y4 : w6.cell? ⟨bt6, 4, none⟩ = some (.int .i64 (pl : Int)) := Bk.cell HK6.out 4
          have HSTP := hid (e27_step (fr + 2000000) HM6.out.e HXP.out HY (k := 0) (hid rfl))
          clear hb6 HM5 HSM
          go_wp2_with fail
          refine HSTP.out.mono ?_
          rintro e w7 ⟨Ao, co, rfl, -, hr⟩
          obtain ⟨p7, h7⟩ := HM6.out.next hr
          have B7 := hid h7.e.bel
          clear h7 hr HSTP y2 y3 y4
          go_wp2_with fail
          refine (known27_any _).mono ?_
          rintro e w8 ⟨rfl, hb8⟩
          have B8 := hid (estep B7.out hb8)
          clear hb8
          go_wp2_with fail
          go_returns
          exact ⟨rfl, B8.out⟩
end Go.Proofs.Ytpfhmpblcmednaa
