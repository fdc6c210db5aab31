/- export: the walk of ExportKeeps. -/
import Derived.Test.YtpfhmpblcmednaaE36
import Derived.Deep.RegionHeld3
import Derived.BigQuiet
import Derived.Deep.CutRange
import Derived.Deep.CutBlock
namespace Go.Proofs.Ytpfhmpblcmednaa
set_option linter.unusedVariables false
set_option linter.unusedSimpArgs false
open Go.RowKit Go.Joins

set_option maxRecDepth 100000 in
set_option maxHeartbeats 32000000 in
theorem exportKeeps_walk (c : Lim) (z : Lw) (Ai : Option Addr) (ni ci : Nat) (v : Value) (L : List Mv27) (w : World) (hx : RwV encM27 13 w (· < w.heap.size) v L ∧ ∀ m ∈ L, okSp m.s) :
    Calls Try.prog 3 #[.agg #[.int .i64 z.work, .int .i64 z.side, .int .i64 z.aux, .int .i64 c.buffer, .int .i64 c.batch, .int .i64 c.every, .int .i64 c.flight, .int .i64 c.retry, .int .i64 c.tries, .int .i64 z.traces, .int .i64 z.lines, .slice Ai ni ci], v] w fun e w' => e = .returned (.bool true) ∧ Below w.heap.size w w' := by
  have hnot := enot
  obtain ⟨⟨A0, cap0, rfl, hgx, -⟩, hok⟩ := hx
  obtain ⟨n, hn⟩ : ∃ n, L.length = n := ⟨_, rfl⟩
  rw [hn]
  have hen := enew w (.cells #[.int .i64 z.work, .int .i64 z.side, .int .i64 z.aux, .int .i64 c.buffer, .int .i64 c.batch, .int .i64 c.every, .int .i64 c.flight, .int .i64 c.retry, .int .i64 c.tries, .int .i64 z.traces, .int .i64 z.lines, .slice Ai ni ci] 24)
  have KB := hid (Bk.new w 24 #[.int .i64 z.work, .int .i64 z.side, .int .i64 z.aux, .int .i64 c.buffer, .int .i64 c.batch, .int .i64 c.every, .int .i64 c.flight, .int .i64 c.retry, .int .i64 c.tries, .int .i64 z.traces, .int .i64 z.lines, .slice Ai ni ci])
  have HG := hid hgx
  have HOK := hid hok
  have HN := hid hn
  have HEN := hid hen
  obtain ⟨lb, hlb⟩ : ∃ b, limB c = b := ⟨_, rfl⟩
  have HRC := hid (fun w2 => rexcheck_any c z (.slice Ai ni ci) w2 (r := if lb = true then 0 else 12) (hid (by unfold limE; rw [hlb])))
  clear hgx hn hen hok
  by_cases hc0 : (200 : Int) < (n : Int)
  · have hd0 : decide ((200 : Int) < (n : Int)) = true := decide_eq_true hc0
    have hdn0 : decide (200 < n) = true := decide_eq_true (by omega)
    go_enter Try.func3, Try.ntmps3
    go_upto_region 1 with (fail)
    generalize w.alloc (.cells #[.int .i64 z.work, .int .i64 z.side, .int .i64 z.aux, .int .i64 c.buffer, .int .i64 c.batch, .int .i64 c.every, .int .i64 c.flight, .int .i64 c.retry, .int .i64 c.tries, .int .i64 z.traces, .int .i64 z.lines, .slice Ai ni ci] 24) = v0 at *
    go_wp2_with fail
    refine (known27_any _).mono ?_
    rintro e w1 ⟨rfl, hb1⟩
    go_wp2_with fail
    go_returns
    exact ⟨rfl, estep HEN.out hb1⟩
  have hd0 : decide ((200 : Int) < (n : Int)) = false := decide_eq_false hc0
  have hdn0 : decide (200 < n) = false := decide_eq_false (by omega)
  have hn200 : n ≤ 200 := by omega
  clear hc0
  go_enter Try.func3, Try.ntmps3
  go_upto_region 1 with (fail)
  obtain ⟨bc, hbc⟩ : ∃ bc, w.heap.size = bc := ⟨_, rfl⟩
  have hbw : Hid (w.heap.size = bc) := hid hbc
  rw [hbc] at KB ⊢
  clear hbc
  generalize w.alloc (.cells #[.int .i64 z.work, .int .i64 z.side, .int .i64 z.aux, .int .i64 c.buffer, .int .i64 c.batch, .int .i64 c.every, .int .i64 c.flight, .int .i64 c.retry, .int .i64 c.tries, .int .i64 z.traces, .int .i64 z.lines, .slice Ai ni ci] 24) = v0 at *
  have x0 := Bk.cell KB.out 0
  have x1 := Bk.cell KB.out 1
  have x2 := Bk.cell KB.out 2
  have x3 := Bk.cell KB.out 3
  have x4 := Bk.cell KB.out 4
  have x5 := Bk.cell KB.out 5
  have x6 := Bk.cell KB.out 6
  have x7 := Bk.cell KB.out 7
  have x8 := Bk.cell KB.out 8
  have x9 := Bk.cell KB.out 9
  have x10 := Bk.cell KB.out 10
  have x11 := Bk.cell KB.out 11
  go_wp2_with fail
  refine (HRC.out _).mono ?_
  rintro e w1 ⟨rfl, hb1⟩
  have KB1 := hid (KB.out.up hb1)
  have HB1 := hid (estep HEN.out hb1)
  clear hb1 HRC x0 x1 x2 x3 x4 x5 x6 x7 x8 x9 x10 x11 KB HEN
  cases lb
  · go_wp2_with fail
    refine (known27_any _).mono ?_
    rintro e w2 ⟨rfl, hb2⟩
    have B2 := hid (estep HB1.out hb2)
    clear hb2
    go_wp2_with fail
    go_returns
    exact ⟨rfl, B2.out⟩
  have HC := hid (limB_ok hlb)
  have HNW := hid (e27_new (nd := 0) c z Ai ni ci w w1 HB1.out ⟨by decide, by decide⟩ hlb)
  have x0 := Bk.cell KB1.out 0
  have x1 := Bk.cell KB1.out 1
  have x2 := Bk.cell KB1.out 2
  have x3 := Bk.cell KB1.out 3
  have x4 := Bk.cell KB1.out 4
  have x5 := Bk.cell KB1.out 5
  have x6 := Bk.cell KB1.out 6
  have x7 := Bk.cell KB1.out 7
  have x8 := Bk.cell KB1.out 8
  have x9 := Bk.cell KB1.out 9
  have x10 := Bk.cell KB1.out 10
  have x11 := Bk.cell KB1.out 11
  go_wp2_with fail
  refine HNW.out.mono ?_
  rintro e w2 ⟨g, gb, rfl, hE, hnS, hb2⟩
  have HST : Hid (KpI w w2 g gb none c z ex0 [] (.slice none 0 0) bc #[.int .i64 z.work, .int .i64 z.side, .int .i64 z.aux, .int .i64 c.buffer, .int .i64 c.batch, .int .i64 c.every, .int .i64 c.flight, .int .i64 c.retry, .int .i64 c.tries, .int .i64 z.traces, .int .i64 z.lines, .slice Ai ni ci] 0 0 0) := hid ⟨hE, ExK.new HC.out, GB.nil _ _, KB1.out.up hb2, rfl, rfl, Nat.le_refl _, Nat.le_refl _, by decide⟩
  clear hE hnS hb2 HNW x0 x1 x2 x3 x4 x5 x6 x7 x8 x9 x10 x11 KB1 HB1 hlb
  go_wp2_with fail
  go_loopg [7, 8, 9, 10] n (fun g1 vb va vs vi wr => ∃ (i begun acked : Nat) (p : Option Nat) (x : Exs) (sent : List Nat), vi = .int .i64 i ∧ vb = .int .i64 begun ∧ va = .int .i64 acked ∧ i ≤ n ∧ n - i ≤ g1 ∧ Hid (KpI w wr g gb p c z x sent vs bc #[.int .i64 z.work, .int .i64 z.side, .int .i64 z.aux, .int .i64 c.buffer, .int .i64 c.batch, .int .i64 c.every, .int .i64 c.flight, .int .i64 c.retry, .int .i64 c.tries, .int .i64 z.traces, .int .i64 z.lines, .slice Ai ni ci] begun acked i))
  case atStart => exact ⟨0, 0, 0, none, ex0, [], rfl, rfl, rfl, by omega, by omega, HST⟩
  case round =>
    obtain ⟨i, begun, acked, p, x, sent, rfl, rfl, rfl, hin, hgk, HI⟩ := hrel
    obtain ⟨wz, hwz⟩ : ∃ wz, wz = wr := ⟨_, rfl⟩
    subst hwz
    by_cases hlt : i < n
    · have hiL : i < L.length := by have := HN.out; omega
      obtain ⟨b, o, rfl, hB, r0, r1, r2, r3, r4, r5, r6, r7, r8, r9, r10, r11, r12⟩ := m27_cells HG.out (List.getElem?_eq_getElem hiL)
      have HCC : Hid (∀ w', Below w.heap.size w w' → w'.cell? ⟨b, o + i * 13, none⟩ = some (.int .i64 L[i].kind) ∧ w'.cell? ⟨b, o + i * 13 + 1, none⟩ = some (.int .u64 (L[i].s.hi : Int)) ∧ w'.cell? ⟨b, o + i * 13 + 2, none⟩ = some (.int .u64 (L[i].s.lo : Int)) ∧ w'.cell? ⟨b, o + i * 13 + 3, none⟩ = some (.int .u64 (L[i].s.id : Int)) ∧ w'.cell? ⟨b, o + i * 13 + 4, none⟩ = some (.int .u64 (L[i].s.up : Int)) ∧ w'.cell? ⟨b, o + i * 13 + 5, none⟩ = some (.string (bs L[i].s.name)) ∧ w'.cell? ⟨b, o + i * 13 + 6, none⟩ = some (.int .i64 L[i].s.status) ∧ w'.cell? ⟨b, o + i * 13 + 7, none⟩ = some (.int .i64 L[i].s.seq) ∧ w'.cell? ⟨b, o + i * 13 + 8, none⟩ = some (.int .i64 L[i].s.kids) ∧ w'.cell? ⟨b, o + i * 13 + 9, none⟩ = some (.bool L[i].s.shade) ∧ w'.cell? ⟨b, o + i * 13 + 10, none⟩ = some (.int .i64 L[i].s.start) ∧ w'.cell? ⟨b, o + i * 13 + 11, none⟩ = some (.int .i64 L[i].s.fin) ∧ w'.cell? ⟨b, o + i * 13 + 12, none⟩ = some (.int .i64 L[i].n)) := hid (fun w' hb => ⟨(hb.cell (p := ⟨b, o + i * 13, none⟩) hB).trans r0, (hb.cell (p := ⟨b, o + i * 13 + 1, none⟩) hB).trans r1, (hb.cell (p := ⟨b, o + i * 13 + 2, none⟩) hB).trans r2, (hb.cell (p := ⟨b, o + i * 13 + 3, none⟩) hB).trans r3, (hb.cell (p := ⟨b, o + i * 13 + 4, none⟩) hB).trans r4, (hb.cell (p := ⟨b, o + i * 13 + 5, none⟩) hB).trans r5, (hb.cell (p := ⟨b, o + i * 13 + 6, none⟩) hB).trans r6, (hb.cell (p := ⟨b, o + i * 13 + 7, none⟩) hB).trans r7, (hb.cell (p := ⟨b, o + i * 13 + 8, none⟩) hB).trans r8, (hb.cell (p := ⟨b, o + i * 13 + 9, none⟩) hB).trans r9, (hb.cell (p := ⟨b, o + i * 13 + 10, none⟩) hB).trans r10, (hb.cell (p := ⟨b, o + i * 13 + 11, none⟩) hB).trans r11, (hb.cell (p := ⟨b, o + i * 13 + 12, none⟩) hB).trans r12⟩)
      have HOM := hid (HOK.out _ (List.getElem_mem hiL))
      clear hB r0 r1 r2 r3 r4 r5 r6 r7 r8 r9 r10 r11 r12
      generalize L[i] = m at *
      obtain ⟨r0, r1, r2, r3, r4, r5, r6, r7, r8, r9, r10, r11, r12⟩ := HCC.out wz HI.out.e.bel
      have hltz : (i : Int) < (n : Int) := by omega
      have hltd : decide ((i : Int) < (n : Int)) = true := decide_eq_true hltz
      have hltn : decide (i < n) = true := decide_eq_true hlt
      have hi0 : (0 : Int) ≤ (i : Int) := by omega
      have hadd : IntKind.i64.wrap ((i : Int) + 1) = (i : Int) + 1 := IntWalk.i64_in _ (by omega)
      by_cases hc : (200 : Int) < (m.s.name.length : Int)
      · have hd3 : decide ((200 : Int) < (m.s.name.length : Int)) = true := decide_eq_true hc
        have hd3n : decide (200 < m.s.name.length) = true := decide_eq_true (by omega)
        go_wp2_with fail
        refine (known27_any _).mono ?_
        rintro e w3 ⟨rfl, hb3⟩
        have B3 := hid (estep HI.out.e.bel hb3)
        clear hb3
        go_wp2_with fail
        go_returns
        exact ⟨rfl, B3.out⟩
      have hd3 : decide ((200 : Int) < (m.s.name.length : Int)) = false := decide_eq_false hc
      have hd3n : decide (200 < m.s.name.length) = false := decide_eq_false (by omega)
      have hbgn := HI.out.bg
      have hab := HI.out.le
      have haeq := HI.out.ac
      have haa : acked ≤ 200 := by omega
      have HPX := hid (HI.out.pre HC.out (by omega))
      have HLE := hid hab
      have hnl : m.s.name.length ≤ 200 := by omega
      clear hc hab haeq
      go_upto_block 2 with (fail)
      go_cut [7, 8, 9, 11, 12, 13, 14, 15] from 33 to 204 (fun v7 v8 v9 v11 v12 v13 v14 v15 wx => ∃ (bg9 ak9 : Nat) (p9 : Option Nat) (Y : Exs) (sent9 : List Nat), v7 = .int .i64 bg9 ∧ v8 = .int .i64 ak9 ∧ Hid (KpI w wx g gb p9 c z Y sent9 v9 bc #[.int .i64 z.work, .int .i64 z.side, .int .i64 z.aux, .int .i64 c.buffer, .int .i64 c.batch, .int .i64 c.every, .int .i64 c.flight, .int .i64 c.retry, .int .i64 c.tries, .int .i64 z.traces, .int .i64 z.lines, .slice Ai ni ci] bg9 ak9 (i + 1)))
      case first =>
        by_cases h0 : m.kind = 0
        · as_aux_lemma =>
          have hk0 : decide (m.kind = 0) = true := decide_eq_true h0
          have hf0 : (m.kind == 0) = true := by simp; omega
          obtain ⟨⟨Y, r⟩, hY⟩ : ∃ r, exPut c x m.s = r := ⟨_, rfl⟩
          have HPU := hid (e27_put m.s HI.out.e (by omega) HPX.out.lo (hid hY))
          have HY := hid hY
          clear hY
          go_wp2_with fail
          refine HPU.out.mono ?_
          rintro e wy ⟨rfl, hr⟩
          obtain ⟨p9, hE9, ho9, -⟩ := hr
          have hks := exPut_keeps (c := c) (x := x) (s := m.s)
          have hsm := exSum_put (c := c) (x := x) (s := m.s) (by have := HLE.out; omega)
          have hkk := HI.out.k.put HC.out m.s (fun h => ⟨HOM.out, h⟩)
          rw [HY.out] at hks hsm hkk
          simp only at hks hsm hkk
          have hr9 : r = (if chkS m.s ≠ 0 then chkS m.s else if (bfPut (exRoom c) x.buf m.s).2 = true then 0 else 8) := by
            have := HY.out
            unfold exPut at this
            split at this
            · rename_i hne; rw [if_pos hne]; exact (congrArg Prod.snd this).symm
            · rename_i hne; rw [if_neg hne]; exact (congrArg Prod.snd this).symm
          by_cases hch : chkS m.s = 0
          · rw [if_neg (by simpa using hch)] at hsm hr9
            obtain ⟨bg1, hbg1⟩ : ∃ b, begun + 1 = b := ⟨_, rfl⟩
            have hab1 : IntKind.i64.wrap ((begun : Int) + 1) = (bg1 : Int) := by rw [show (begun : Int) + 1 = (bg1 : Int) by omega]; exact IntWalk.i64_in _ (by omega)
            have HK9 := hid (HI.out.next (begun' := bg1) (acked' := acked) (i' := i + 1) hE9 ho9 hkk (by rw [hsm, HI.out.sum]; exact hbg1) (by rw [hks.2.2]; exact HI.out.ac) (by omega) (by have := HI.out.nx; omega) (by rw [hks.2.1]; exact HI.out.la))
            have hrr : r = 0 ∨ r = 8 := by
              rw [hr9]
              split
              · exact Or.inl rfl
              · exact Or.inr rfl
            clear hE9 ho9 HPU hks hsm hkk hr9 r0 r1 r2 r3 r4 r5 r6 r7 r8 r9 r10 r11 r12
            rcases hrr with rfl | rfl
            · go_wp2_with fail
              go_meet
              exact ⟨bg1, acked, p9, Y, sent, rfl, rfl, HK9⟩
            · go_wp2_with fail
              go_meet
              exact ⟨bg1, acked, p9, Y, sent, rfl, rfl, HK9⟩
          · rw [if_pos hch] at hsm hr9
            have hne8 := chkS_in m.s
            rw [← hr9] at hne8 hch
            have HK9 := hid (HI.out.next (begun' := begun) (acked' := acked) (i' := i + 1) hE9 ho9 hkk (by rw [hsm, HI.out.sum]; rfl) (by rw [hks.2.2]; exact HI.out.ac) (by omega) (by have := HI.out.nx; omega) (by rw [hks.2.1]; exact HI.out.la))
            have he0 : decide (r = 0) = false := decide_eq_false hch
            have he0b : (r == 0) = false := by simpa using hch
            have he8 : decide (r = 8) = false := decide_eq_false hne8
            have he8b : (r == 8) = false := by simpa using hne8
            have HRC := hid (fun w2 => rspcheck_at m.s.hi m.s.lo m.s.id m.s.up m.s.name m.s.status m.s.seq m.s.kids m.s.shade m.s.start m.s.fin w2 (by omega) (hid hr9.symm))
            clear hE9 ho9 HPU hks hsm hkk hr9 r0 r1 r2 r3 r4 r5 r6 r7 r8 r9 r10 r11 r12
            obtain ⟨r0, r1, r2, r3, r4, r5, r6, r7, r8, r9, r10, r11, r12⟩ := HCC.out wy HK9.out.e.bel
            go_wp2_with fail
            refine (HRC.out _).mono ?_
            rintro e wy2 ⟨rfl, hb2⟩
            have HK9b := hid (HK9.out.up hb2)
            clear HK9 hb2 HRC r0 r1 r2 r3 r4 r5 r6 r7 r8 r9 r10 r11 r12
            have HK9 := HK9b
            clear HK9b
            go_wp2_with fail
            go_meet
            exact ⟨begun, acked, p9, Y, sent, rfl, rfl, HK9⟩
        by_cases h1 : m.kind = 1
        · as_aux_lemma =>
          have hk0 : decide (m.kind = 0) = false := decide_eq_false h0
          have hf0 : (m.kind == 0) = false := by simp; omega
          have hk1 : decide (m.kind = 1) = true := decide_eq_true h1
          have hf1 : (m.kind == 1) = true := by simp; omega
          obtain ⟨⟨Y, O⟩, hY⟩ : ∃ r, exStep 0 c x m.n = r := ⟨_, rfl⟩
          obtain ⟨ko, hko⟩ : ∃ k, O.length = k := ⟨_, rfl⟩
          have HSTP := hid (e27_step m.n HI.out.e HPX.out (hid hY) (hid hko))
          have hstp := HI.out.k.step HC.out m.n
          have hkeep := exStep_keeps (nd := 0) (c := c) (x := x) (raw := m.n)
          have hsum := exSum_step 0 c x m.n
          have hout := exStep_out (nd := 0) (c := c) (x := x) (raw := m.n)
          rw [hY] at hstp hkeep hsum hout
          simp only at hstp hkeep hsum hout
          have hkb9 : ko ≤ 9 := by have := HI.out.k.few; have := HC.out.flight; omega
          have hsl : sent.length ≤ 200 := by have := HI.out.k.len; have := HI.out.nx; omega
          have HPL := hid (And.intro hstp (And.intro hkeep (And.intro hsum hko)))
          have hti := flTime_in m.n
          clear hY hko hstp hkeep hsum hout
          go_wp2_with fail
          refine HSTP.out.mono ?_
          rintro e wy ⟨Ao, co, rfl, hgo, hr⟩
          obtain ⟨p9, hE9, ho9, -⟩ := hr
          have hsv := flgb2 HI.out.s ho9 fun q hq e => HI.out.e.kinds e (HI.out.s.kind q hq) (by decide) (by decide) (by decide)
          have hkb := HI.out.kb.onS ho9 fun e => HI.out.e.kinds e HI.out.kb.kd (by decide) (by decide) (by decide)
          have H9 := hid (And.intro hE9 (And.intro hsv (And.intro hkb hgo)))
          clear hE9 hsv hkb hgo ho9 HSTP r0 r1 r2 r3 r4 r5 r6 r7 r8 r9 r10 r11 r12
          go_wp2_with fail
          go_loopg [9, 13] ko (fun g2 vs9 vk wr => ∃ (k : Nat) (sk : List Nat), vk = .int .i64 k ∧ k ≤ ko ∧ ko - k ≤ g2 ∧ Hid (E27 w wr g gb p9 0 c z Y ∧ GB encN 1 3 wr w.heap.size vs9 sk ∧ Bk wr bc 24 #[.int .i64 z.work, .int .i64 z.side, .int .i64 z.aux, .int .i64 c.buffer, .int .i64 c.batch, .int .i64 c.every, .int .i64 c.flight, .int .i64 c.retry, .int .i64 c.tries, .int .i64 z.traces, .int .i64 z.lines, .slice Ai ni ci] ∧ GB encS1 1 9 wr wz.heap.size (.slice Ao ko co) (O.map btT) ∧ sk = bumps sent (O.take k) ∧ OutOk c.tries (fun y => y.node = 0 ∧ 1 ≤ y.L.length ∧ (y.L.length : Int) ≤ c.batch ∧ ∀ s ∈ y.L, P27 s) sk (O.drop k) ∧ sk.length ≤ 200 + k))
          case atStart => exact ⟨0, sent, rfl, by omega, by omega, hid ⟨H9.out.1, H9.out.2.1, H9.out.2.2.1, H9.out.2.2.2, by simp [bumps], by simpa using HPL.out.1.1, by omega⟩⟩
          case round =>
            obtain ⟨k, sk, rfl, hkn, hgk2, HJ⟩ := hrel
            obtain ⟨wj, hwj⟩ : ∃ wj, wj = wr := ⟨_, rfl⟩
            subst hwj
            by_cases hkl : k < ko
            · have hkO : k < O.length := by have := HPL.out.2.2.2; omega
              have hdr : O.drop k = O[k] :: O.drop (k + 1) := List.drop_eq_getElem_cons hkO
              have htk : O.take (k + 1) = O.take k ++ [O[k]] := List.take_succ_eq_append_getElem hkO
              obtain ⟨hJ1, hJ2, hJ3, hJ4, hJ5, hJ6, hJ7⟩ := HJ.out
              rw [hdr] at hJ6
              obtain ⟨⟨⟨hy0, hyl⟩, ⟨hyn, hyb, hyc, hyp⟩, nn, hnn, hnt⟩, hJ8⟩ := hJ6
              obtain ⟨A', c', ea, hgx, -⟩ := GB.reads encS1_len hJ4
              have hkM : k < (O.map btT).length := by rw [List.length_map]; exact hkO
              obtain ⟨bo, oo, eo, hBo, hst0⟩ := hgx k hkM
              have hst : wj.cell? ⟨bo, oo + k, none⟩ = some (.string (bs (btT O[k]))) := by
                have := hst0 0 (by omega)
                simpa [encS1] using this
              clear hst0
              simp only [Value.slice.injEq] at ea
              obtain ⟨rfl, -, rfl⟩ := ea
              subst eo
              obtain ⟨q, hq⟩ : ∃ q : Nat, O[k].seq = (q : Int) := ⟨O[k].seq.toNat, by omega⟩
              have hba := HC.out.batch
              have hrd := readB_btT (y := O[k]) hyn ⟨hy0, by omega⟩ ⟨hyb, by omega⟩ hyp
              have hln := btT_len (y := O[k]) hyn ⟨hy0, by omega⟩ ⟨hyb, by omega⟩ hyp
              rw [hq] at hrd hy0 hyl hJ8 hnn
              simp only [Int.toNat_natCast] at hrd hnn
              obtain ⟨tx, htx⟩ : ∃ tx, btT O[k] = tx := ⟨_, rfl⟩
              rw [htx] at hst hrd hln
              obtain ⟨ml, hml⟩ : ∃ ml, O[k].L.length = ml := ⟨_, rfl⟩
              rw [hml] at hyb hyc
              have HRD := hid (rbread_s tx wj hln (hid hrd) (hid hml))
              have hbu : bump sk (q : Int) = bumps sent (O.take (k + 1)) := by
                rw [htk, bumps_app, ← hJ5]
                show bump sk (q : Int) = bump sk O[k].seq
                rw [hq]
              have HJB := hid (And.intro hJ1 (And.intro hJ2 (And.intro hJ3 (And.intro hJ4 (And.intro hJ7 (And.intro hbu (And.intro hJ8 (And.intro hnn hnt))))))))
              have hk0 : (0 : Int) ≤ (k : Int) := by omega
              have hkz : (k : Int) < (ko : Int) := by omega
              have hkd : decide ((k : Int) < (ko : Int)) = true := decide_eq_true hkz
              have hkdn : decide (k < ko) = true := decide_eq_true hkl
              have haddk : IntKind.i64.wrap ((k : Int) + 1) = (k : Int) + 1 := IntWalk.i64_in _ (by omega)
              obtain ⟨sl, hsl2⟩ : ∃ sl, sk.length = sl := ⟨_, rfl⟩
              rw [hsl2] at hyl
              have hn1 : decide ((q : Int) < 0) = false := decide_eq_false (by omega)
              have hn2 : decide ((sl : Int) < (q : Int)) = false := decide_eq_false (by omega)
              have hn2n : decide (sl < q) = false := decide_eq_false (by omega)
              have hn3 : decide (c.batch < (ml : Int)) = false := decide_eq_false (by omega)
              have HSL := hid hsl2
              obtain ⟨As9, cs9, evs, -⟩ := GB.reads encN_len hJ2
              rw [hsl2] at evs
              subst evs
              clear hJ1 hJ2 hJ3 hJ4 hJ5 hJ7 hJ8 hgx hkM hdr htk hrd hln hyn hyp hnn hnt hbu hq htx hml hsl2 HJ hBo
              go_wp2_with fail
              refine HRD.out.mono ?_
              rintro e wk ⟨A5, c5, rfl, hb5⟩
              have hen5 := enew wk (.cells #[.int .i64 0, .int .i64 (q : Int), .slice A5 ml c5] 45)
              have KT5 := hid (Bk.new wk 45 #[.int .i64 0, .int .i64 (q : Int), .slice A5 ml c5])
              obtain ⟨h1, h2, h3, h4, h5, h6, h7, h8, h9⟩ := HJB.out
              have HW5 := hid (And.intro ((h1.up hb5).up hen5) (And.intro ((h2.below hb5).below hen5) (And.intro ((h3.up hb5).up hen5) ((h4.below hb5).below hen5))))
              clear h1 h2 h3 h4 h5 h6 h7 h8 h9 hb5 hen5 HRD hst
              go_upto_region 27 with (fail)
              obtain ⟨bt5, hbt5⟩ : ∃ bt5, wk.heap.size = bt5 := ⟨_, rfl⟩
              rw [hbt5] at KT5 ⊢
              clear hbt5
              generalize wk.alloc (.cells #[.int .i64 0, .int .i64 (q : Int), .slice A5 ml c5] 45) = w5 at *
              have y0 : w5.cell? ⟨bt5, 0, none⟩ = some (.int .i64 0) := Bk.cell KT5.out 0
              have y1 : w5.cell? ⟨bt5, 1, none⟩ = some (.int .i64 (q : Int)) := Bk.cell KT5.out 1
              have y2 : w5.cell? ⟨bt5, 2, none⟩ = some (.slice A5 ml c5) := Bk.cell KT5.out 2
              have l4 : w5.cell? ⟨bc, 4, none⟩ = some (.int .i64 c.batch) := Bk.cell HW5.out.2.2.1 4
              have HBL : Hid ((bump sk (q : Int)).length ≤ 200 + (k + 1)) := hid (by
                have h1 := HJB.out.2.2.2.2.1
                unfold bump
                split
                · rw [List.length_append, List.length_singleton]; omega
                · rw [List.length_set]; omega)
              by_cases hqe : q = sl
              · as_aux_lemma =>
                have hq1 : decide ((q : Int) = (sl : Int)) = true := decide_eq_true (by omega)
                have hq1b : ((q : Int) == (sl : Int)) = true := by simp; omega
                have hen6 := enew w5 (.cells #[.int .i64 0] 3)
                have hx6 := gx_new (M := [0]) encN_len (Bk.new w5 3 #[.int .i64 0]) rfl
                have HX6 := hid (And.intro (HW5.out.2.1.below hen6) (And.intro hx6 (And.intro hen6 (Nat.le_trans HW5.out.1.bel.size hen6.size))))
                clear hen6 hx6
                go_wp2_with (at_builtin; refine wpList_append_gxl rowN rfl _ _ rfl w.heap.size _ sk [0] w5.heap.size 1 (fun b => b = w5.heap.size) rfl HX6.out.1 rfl HX6.out.2.1 (by simp) (by rw [HSL.out]; have := HJB.out.2.2.2.2.1; have := HSL.out; simp only [List.length_cons, List.length_nil]; omega) HX6.out.2.2.2 ?_)
                intro gX cX wX mX hmX hSX hgX hlX
                have hvb : ∀ b, some b = (Value.slice As9 sl cs9).ownBlock → Kd (w5.alloc (.cells #[.int .i64 0] 3)) b 3 := fun b hb => HX6.out.1.kind b hb.symm
                have hoX : OnS (fun b => some b = (Value.slice As9 sl cs9).ownBlock) _ wX := OnS.grown hgX fun b hb => hb.symm
                have hKTX := (KT5.out.up HX6.out.2.2.1).onS hoX fun e => Kd.ne (KT5.out.up HX6.out.2.2.1).kd (by decide) (hvb _ e)
                have hKBX := (HW5.out.2.2.1.up HX6.out.2.2.1).onS hoX fun e => Kd.ne (HW5.out.2.2.1.up HX6.out.2.2.1).kd (by decide) (hvb _ e)
                have hOUX := flgb2 (HW5.out.2.2.2.below HX6.out.2.2.1) hoX fun b hb e => Kd.ne ((HW5.out.2.2.2.below HX6.out.2.2.1).kind b hb) (by decide) (hvb _ e)
                have hEX : E27 w wX g gb p9 0 c z Y := e27_farS (HW5.out.1.up HX6.out.2.2.1) hoX hvb (fun b hb => (World.ownsRow.lt HX6.out.1 b hb.symm).1)
                obtain ⟨SX, hSXe⟩ : ∃ S, sk ++ [0] = S := ⟨_, rfl⟩
                rw [hSXe] at hSX
                have hmX2 : SX.length = mX := by rw [← hSXe, List.length_append, List.length_singleton, hmX.out]
                have hqX : q < SX.length := by rw [← hSXe, List.length_append, List.length_singleton, HSL.out]; omega
                have hSB : SX.set q (SX[q] + 1) = bump sk (q : Int) := by
                  subst hSXe
                  have hql : q = sk.length := by rw [HSL.out]; exact hqe
                  subst hql
                  unfold bump
                  rw [if_pos (by simp)]
                  simp
                have hmq : q < mX := by omega
                clear hmX hgX hlX hoX hvb HX6 hSXe y0 y1 y2 l4
                obtain ⟨a, hae⟩ : ∃ a, SX[q] = a := ⟨_, rfl⟩
                obtain ⟨a1, ha1⟩ : ∃ a1, a + 1 = a1 := ⟨_, rfl⟩
                have hcell := gbN_cell hSX q hqX
                rw [hae] at hcell
                obtain ⟨c9, f9⟩ := hcell
                have hbm : SX.set q a1 = bump sk (q : Int) := by rw [← ha1, ← hae]; exact hSB
                have hn9 : nn = a1 := by
                  have h1 := HJB.out.2.2.2.2.2.2.2.1
                  rw [← hbm, List.getElem?_set_self hqX] at h1
                  injection h1 with h1
                  exact h1.symm
                have hat : (a1 : Int) ≤ c.tries := by have := HJB.out.2.2.2.2.2.2.2.2; omega
                have htm := HC.out.tries
                have hwa : IntKind.i64.wrap ((a : Int) + 1) = (a1 : Int) := by rw [show (a : Int) + 1 = (a1 : Int) by omega]; exact IntWalk.i64_in _ (by omega)
                have hq0 : (0 : Int) ≤ (q : Int) := by omega
                have hqm : (q : Int) < (mX : Int) := by omega
                have hgT : decide (c.tries < (a1 : Int)) = false := decide_eq_false (by omega)
                have hS7 := gbN_set hSX q a1 hqX
                have ho7 : OnS (fun b => b = gX) wX (wX.setCell ⟨gX, q, none⟩ (.int .i64 (a1 : Int))) := (OnS.refl (fun b => b = gX) wX).cell gX q _ rfl
                have hgk : Kd wX gX 3 := hSX.kind gX rfl
                have hkt7 := hKTX.onS ho7 fun e => Kd.ne hKTX.kd (by decide) (e ▸ hgk)
                have hkb7 := hKBX.onS ho7 fun e => Kd.ne hKBX.kd (by decide) (e ▸ hgk)
                have hOX : GB encS1 1 9 (wX.setCell ⟨gX, q, none⟩ (.int .i64 (a1 : Int))) wz.heap.size (.slice (some ⟨bo, oo, none⟩) ko co) (O.map btT) := flgb2 hOUX ho7 fun b hb e => Kd.ne (hOUX.kind b hb) (by decide) (e ▸ hgk)
                have hE7 : E27 w (wX.setCell ⟨gX, q, none⟩ (.int .i64 (a1 : Int))) g gb p9 0 c z Y := e27_far hEX ho7 (fun b hb => hb ▸ hgk) (World.ownsRow.lt hSX gX rfl).1
                have y1X : wX.cell? ⟨bt5, 1, none⟩ = some (.int .i64 (q : Int)) := Bk.cell hKTX 1
                have z9 : (wX.setCell ⟨gX, q, none⟩ (.int .i64 (a1 : Int))).cell? ⟨gX, q, none⟩ = some (.int .i64 (a1 : Int)) := (gbN_cell hS7 q (by rw [List.length_set]; exact hqX)).1.trans (by rw [List.getElem_set_self])
                have y17 : (wX.setCell ⟨gX, q, none⟩ (.int .i64 (a1 : Int))).cell? ⟨bt5, 1, none⟩ = some (.int .i64 (q : Int)) := Bk.cell hkt7 1
                have l87 : (wX.setCell ⟨gX, q, none⟩ (.int .i64 (a1 : Int))).cell? ⟨bc, 8, none⟩ = some (.int .i64 c.tries) := Bk.cell hkb7 8
                rw [hbm] at hS7
                have HF7 := hid (And.intro hE7 (And.intro hS7 (And.intro hkb7 hOX)))
                clear hE7 hS7 hkb7 hkt7 hOX ho7 hgk hSX hKTX hKBX hOUX hEX hbm hae hn9 hSB
                clear hqe hq1 hq1b
                go_upto_region 32 with (fail)
                clear c9 f9 y1X
                generalize wX.setCell ⟨gX, q, none⟩ (.int .i64 (a1 : Int)) = w8 at *
                go_quiet (fail)
                have hb8 : Below w8.heap.size w8 (w8.drewN nq) := below_drewN (Below.refl _ w8) nq
                have HF8 := hid (And.intro (HF7.out.1.up hb8) (And.intro (HF7.out.2.1.below hb8) (And.intro (HF7.out.2.2.1.up hb8) (HF7.out.2.2.2.below hb8))))
                clear z9 y17 l87 hb8 HF7
                go_wp2_with fail
                go_roundg (ko - (k + 1))
                case measure => omega
                case rel => exact ⟨k + 1, bump sk (q : Int), by go_num, by omega, by omega, hid ⟨HF8.out.1, HF8.out.2.1, HF8.out.2.2.1, HF8.out.2.2.2, HJB.out.2.2.2.2.2.1, HJB.out.2.2.2.2.2.2.1, HBL.out⟩⟩
              · as_aux_lemma =>
                have hq1 : decide ((q : Int) = (sl : Int)) = false := decide_eq_false (by omega)
                have hq1b : ((q : Int) == (sl : Int)) = false := by simp; omega
                have hSX0 := HW5.out.2.1
                rcases GB.form encN_len hSX0 with ⟨h1, h2⟩ | ⟨gX, cX, h1, -⟩
                · have := HSL.out; rw [h2] at this; simp at this; omega
                obtain ⟨mX, hmX⟩ : ∃ m, sl = m := ⟨_, rfl⟩
                rw [HSL.out] at h1
                simp only [Value.slice.injEq] at h1
                obtain ⟨rfl, -, rfl⟩ := h1
                obtain ⟨SX, hSXe⟩ : ∃ S, sk = S := ⟨_, rfl⟩
                have hSX := hSX0
                have hKTX := KT5.out
                have hKBX := HW5.out.2.2.1
                have hOUX := HW5.out.2.2.2
                have hEX := HW5.out.1
                have hmX2 : SX.length = mX := by rw [← hSXe, HSL.out]; exact hmX
                have hqX : q < SX.length := by omega
                have hSB : SX.set q (SX[q] + 1) = bump sk (q : Int) := by
                  subst hSXe
                  unfold bump
                  rw [if_neg (by rw [Int.toNat_natCast, HSL.out]; exact hqe), Int.toNat_natCast, List.getD_eq_getElem?_getD, List.getElem?_eq_getElem hqX]
                  rfl
                rw [hSXe, hmX] at hSX
                have hmq : q < mX := by omega
                obtain ⟨wX, hwX⟩ : ∃ wX, wX = w5 := ⟨_, rfl⟩
                subst hwX
                rw [hmX]
                clear hSX0
                obtain ⟨a, hae⟩ : ∃ a, SX[q] = a := ⟨_, rfl⟩
                obtain ⟨a1, ha1⟩ : ∃ a1, a + 1 = a1 := ⟨_, rfl⟩
                have hcell := gbN_cell hSX q hqX
                rw [hae] at hcell
                obtain ⟨c9, f9⟩ := hcell
                have hbm : SX.set q a1 = bump sk (q : Int) := by rw [← ha1, ← hae]; exact hSB
                have hn9 : nn = a1 := by
                  have h1 := HJB.out.2.2.2.2.2.2.2.1
                  rw [← hbm, List.getElem?_set_self hqX] at h1
                  injection h1 with h1
                  exact h1.symm
                have hat : (a1 : Int) ≤ c.tries := by have := HJB.out.2.2.2.2.2.2.2.2; omega
                have htm := HC.out.tries
                have hwa : IntKind.i64.wrap ((a : Int) + 1) = (a1 : Int) := by rw [show (a : Int) + 1 = (a1 : Int) by omega]; exact IntWalk.i64_in _ (by omega)
                have hq0 : (0 : Int) ≤ (q : Int) := by omega
                have hqm : (q : Int) < (mX : Int) := by omega
                have hgT : decide (c.tries < (a1 : Int)) = false := decide_eq_false (by omega)
                have hS7 := gbN_set hSX q a1 hqX
                have ho7 : OnS (fun b => b = gX) wX (wX.setCell ⟨gX, q, none⟩ (.int .i64 (a1 : Int))) := (OnS.refl (fun b => b = gX) wX).cell gX q _ rfl
                have hgk : Kd wX gX 3 := hSX.kind gX rfl
                have hkt7 := hKTX.onS ho7 fun e => Kd.ne hKTX.kd (by decide) (e ▸ hgk)
                have hkb7 := hKBX.onS ho7 fun e => Kd.ne hKBX.kd (by decide) (e ▸ hgk)
                have hOX : GB encS1 1 9 (wX.setCell ⟨gX, q, none⟩ (.int .i64 (a1 : Int))) wz.heap.size (.slice (some ⟨bo, oo, none⟩) ko co) (O.map btT) := flgb2 hOUX ho7 fun b hb e => Kd.ne (hOUX.kind b hb) (by decide) (e ▸ hgk)
                have hE7 : E27 w (wX.setCell ⟨gX, q, none⟩ (.int .i64 (a1 : Int))) g gb p9 0 c z Y := e27_far hEX ho7 (fun b hb => hb ▸ hgk) (World.ownsRow.lt hSX gX rfl).1
                have y1X : wX.cell? ⟨bt5, 1, none⟩ = some (.int .i64 (q : Int)) := Bk.cell hKTX 1
                have z9 : (wX.setCell ⟨gX, q, none⟩ (.int .i64 (a1 : Int))).cell? ⟨gX, q, none⟩ = some (.int .i64 (a1 : Int)) := (gbN_cell hS7 q (by rw [List.length_set]; exact hqX)).1.trans (by rw [List.getElem_set_self])
                have y17 : (wX.setCell ⟨gX, q, none⟩ (.int .i64 (a1 : Int))).cell? ⟨bt5, 1, none⟩ = some (.int .i64 (q : Int)) := Bk.cell hkt7 1
                have l87 : (wX.setCell ⟨gX, q, none⟩ (.int .i64 (a1 : Int))).cell? ⟨bc, 8, none⟩ = some (.int .i64 c.tries) := Bk.cell hkb7 8
                rw [hbm] at hS7
                have HF7 := hid (And.intro hE7 (And.intro hS7 (And.intro hkb7 hOX)))
                clear hE7 hS7 hkb7 hkt7 hOX ho7 hgk hSX hKTX hKBX hOUX hEX hbm hae hn9 hSB
                go_upto_region 32 with (fail)
                clear c9 f9 y1X
                generalize wX.setCell ⟨gX, q, none⟩ (.int .i64 (a1 : Int)) = w8 at *
                go_quiet (fail)
                have hb8 : Below w8.heap.size w8 (w8.drewN nq) := below_drewN (Below.refl _ w8) nq
                have HF8 := hid (And.intro (HF7.out.1.up hb8) (And.intro (HF7.out.2.1.below hb8) (And.intro (HF7.out.2.2.1.up hb8) (HF7.out.2.2.2.below hb8))))
                clear z9 y17 l87 hb8 HF7
                go_wp2_with fail
                go_roundg (ko - (k + 1))
                case measure => omega
                case rel => exact ⟨k + 1, bump sk (q : Int), by go_num, by omega, by omega, hid ⟨HF8.out.1, HF8.out.2.1, HF8.out.2.2.1, HF8.out.2.2.2, HJB.out.2.2.2.2.2.1, HJB.out.2.2.2.2.2.2.1, HBL.out⟩⟩
            · obtain rfl : k = ko := by omega
              have hkz : ¬ (k : Int) < (k : Int) := by omega
              obtain ⟨hJ1, hJ2, hJ3, hJ4, hJ5, hJ6, hJ7⟩ := HJ.out
              rw [List.take_of_length_le (by have := HPL.out.2.2.2; omega)] at hJ5
              obtain ⟨f1, ⟨f2, f3, f4⟩, f5, f6⟩ := HPL.out
              have HK9 := hid (show KpI w wj g gb p9 c z Y (bumps sent O) _ bc #[.int .i64 z.work, .int .i64 z.side, .int .i64 z.aux, .int .i64 c.buffer, .int .i64 c.batch, .int .i64 c.every, .int .i64 c.flight, .int .i64 c.retry, .int .i64 c.tries, .int .i64 z.traces, .int .i64 z.lines, .slice Ai ni ci] begun acked (i + 1) from ⟨hJ1, f1.2, hJ5 ▸ hJ2, hJ3, by rw [f5]; exact HI.out.sum, by rw [f4]; exact HI.out.ac, by omega, by have := HI.out.nx; omega, by
                rcases f3 with e | e
                · rw [e]; exact HI.out.la
                · rw [e]; exact hti⟩)
              clear hJ1 hJ2 hJ3 hJ4 hJ5 hJ6 hJ7 f1 f2 f3 f4 f5 f6 HJ
              go_wp2_with fail
              go_meet
              exact ⟨begun, acked, p9, Y, bumps sent O, rfl, rfl, HK9⟩
        as_aux_lemma =>
        have hk0 : decide (m.kind = 0) = false := decide_eq_false h0
        have hf0 : (m.kind == 0) = false := by simp; omega
        have hk1 : decide (m.kind = 1) = false := decide_eq_false h1
        have hf1 : (m.kind == 1) = false := by simp; omega
        obtain ⟨⟨Y, k9⟩, hY⟩ : ∃ r, exAck x m.n = r := ⟨_, rfl⟩
        have HAK := hid (e27_ack m.n HI.out.e HPX.out (hid hY))
        have HY := hid hY
        clear hY
        have hsm := exSum_ack x m.n
        have hkk := HI.out.k.ack m.n
        have hY2 := HY.out
        rw [HY.out] at hsm hkk
        simp only at hsm hkk
        have hac9 : Y.acked = acked + k9 := by rw [← HI.out.ac]; have h1 := congrArg (fun r => r.1.acked) hY2; have h2 := congrArg Prod.snd hY2; simp only [exAck] at h1 h2; omega
        have hnx9 : Y.next = x.next ∧ Y.last = x.last := by have h1 := congrArg (fun r => r.1.next) hY2; have h2 := congrArg (fun r => r.1.last) hY2; simp only [exAck] at h1 h2; exact ⟨h1.symm, h2.symm⟩
        have hle9 : acked + k9 ≤ 200 := by
          have h3 := HI.out.sum
          rw [← hsm] at h3
          unfold exSum at h3
          omega
        obtain ⟨ak1, hak1⟩ : ∃ a, acked + k9 = a := ⟨_, rfl⟩
        rw [hak1] at hac9
        have hwk : IntKind.i64.wrap ((acked : Int) + (k9 : Int)) = (ak1 : Int) := by rw [show (acked : Int) + (k9 : Int) = (ak1 : Int) by omega]; exact IntWalk.i64_in _ (by omega)
        have HSM := hid (And.intro hsm (And.intro hkk (And.intro hac9 hnx9)))
        clear hsm hkk hY2 hac9 hnx9
        go_wp2_with fail
        refine HAK.out.mono ?_
        rintro e wy ⟨rfl, hr⟩
        obtain ⟨p9, hE9, ho9, -⟩ := hr
        have HK9 := hid (HI.out.next (begun' := begun) (acked' := ak1) (i' := i + 1) hE9 ho9 HSM.out.2.1 (by rw [HSM.out.1, HI.out.sum]) HSM.out.2.2.1 (by omega) (by have := HI.out.nx; rw [HSM.out.2.2.2.1]; omega) (by rw [HSM.out.2.2.2.2]; exact HI.out.la))
        clear hE9 ho9 HAK r0 r1 r2 r3 r4 r5 r6 r7 r8 r9 r10 r11 r12
        go_wp2_with fail
        go_meet
        exact ⟨begun, ak1, p9, Y, sent, rfl, rfl, HK9⟩
      case rest =>
        as_aux_lemma =>
        obtain ⟨bg9, ak9, p9, Y, sent9, rfl, rfl, HK9⟩ := hcut
        obtain ⟨wy, hwy⟩ : ∃ wy, wy = wc := ⟨_, rfl⟩
        subst hwy
        clear HI HPX HLE HCC HOM r0 r1 r2 r3 r4 r5 r6 r7 r8 r9 r10 r11 r12
        obtain ⟨q1, h1⟩ : ∃ q, Y.buf.1.length = q := ⟨_, rfl⟩
        obtain ⟨q2, h2⟩ : ∃ q, flSpans Y.way = q := ⟨_, rfl⟩
        obtain ⟨q3, h3⟩ : ∃ q, Y.acked = q := ⟨_, rfl⟩
        obtain ⟨q4, h4⟩ : ∃ q, Y.buf.2 = q := ⟨_, rfl⟩
        obtain ⟨q5, h5⟩ : ∃ q, Y.given = q := ⟨_, rfl⟩
        obtain ⟨q0, h0s⟩ : ∃ q, exSum Y = q := ⟨_, rfl⟩
        obtain ⟨qw, hqw⟩ : ∃ q, Y.way.length = q := ⟨_, rfl⟩
        have HPY := hid (HK9.out.pre HC.out (by omega))
        have HTL := hid (show Calls Try.prog 19 #[.pointer (some ⟨g, 0, none⟩)] wy (fun e w' => e = .returned (.agg #[.int .i64 (q0 : Int), .int .i64 0, .int .i64 (q1 : Int), .int .i64 (q2 : Int), .int .i64 (q3 : Int), .int .i64 (q4 : Int), .int .i64 (q5 : Int)]) ∧ Below wy.heap.size wy w') from by
          have := e27_tally HK9.out.e HPY.out
          unfold tlV at this
          rw [h0s, h1, h2, h3, h4, h5] at this
          exact this)
        have hbuf := HK9.out.k.buf.1
        have hfew := HK9.out.k.few
        have hsum := HK9.out.sum
        have hack := HK9.out.ac
        have hbg9 := HK9.out.bg
        have hxs : q1 + q2 + q3 + q4 + q5 = q0 := by
          have := h0s
          unfold exSum at this
          omega
        rw [h1] at hbuf
        rw [hqw] at hfew
        rw [h0s] at hsum
        rw [h3] at hack
        subst hsum hack
        have g1 : decide (c.buffer < (q1 : Int)) = false := decide_eq_false (by omega)
        have g2 : decide (c.flight < (qw : Int)) = false := decide_eq_false (by omega)
        have ha1 : IntKind.i64.wrap ((q1 : Int) + (q2 : Int)) = (q1 : Int) + (q2 : Int) := IntWalk.i64_in _ (by omega)
        have ha2 : IntKind.i64.wrap ((q1 : Int) + (q2 : Int) + (q3 : Int)) = (q1 : Int) + (q2 : Int) + (q3 : Int) := IntWalk.i64_in _ (by omega)
        have ha3 : IntKind.i64.wrap ((q1 : Int) + (q2 : Int) + (q3 : Int) + (q4 : Int)) = (q1 : Int) + (q2 : Int) + (q3 : Int) + (q4 : Int) := IntWalk.i64_in _ (by omega)
        have ha4 : IntKind.i64.wrap ((q1 : Int) + (q2 : Int) + (q3 : Int) + (q4 : Int) + (q5 : Int)) = (q0 : Int) := by rw [show (q1 : Int) + (q2 : Int) + (q3 : Int) + (q4 : Int) + (q5 : Int) = (q0 : Int) by omega]; exact IntWalk.i64_in _ (by omega)
        have HQW := hid hqw
        clear h1 h2 h3 h4 h5 h0s hqw hbuf hfew hxs
        go_wp2_with fail
        refine HTL.out.mono ?_
        rintro e wt ⟨rfl, hbt⟩
        have hen := enew wt (.cells #[.int .i64 (q0 : Int), .int .i64 0, .int .i64 (q1 : Int), .int .i64 (q2 : Int), .int .i64 (q3 : Int), .int .i64 (q4 : Int), .int .i64 (q5 : Int)] 50)
        have KT := hid (Bk.new wt 50 #[.int .i64 (q0 : Int), .int .i64 0, .int .i64 (q1 : Int), .int .i64 (q2 : Int), .int .i64 (q3 : Int), .int .i64 (q4 : Int), .int .i64 (q5 : Int)])
        have HK10 := hid ((HK9.out.up hbt).up hen)
        clear hbt HTL HK9 hen
        go_upto_region 35 with (fail)
        obtain ⟨bt, hbt⟩ : ∃ bt, wt.heap.size = bt := ⟨_, rfl⟩
        rw [hbt] at KT ⊢
        clear hbt
        generalize wt.alloc (.cells #[.int .i64 (q0 : Int), .int .i64 0, .int .i64 (q1 : Int), .int .i64 (q2 : Int), .int .i64 (q3 : Int), .int .i64 (q4 : Int), .int .i64 (q5 : Int)] 50) = wv at *
        have HSE := hid (fun (w2 : World) (hb : Below wv.heap.size wv w2) => e27_sent (HK10.out.e.up hb) HPY.out HQW)
        have HS : Hid (∀ w' : World, Below wv.heap.size wv w' → w'.cell? ⟨bt, 0, none⟩ = some (.int .i64 (q0 : Int)) ∧ w'.cell? ⟨bt, 1, none⟩ = some (.int .i64 0) ∧ w'.cell? ⟨bt, 2, none⟩ = some (.int .i64 (q1 : Int)) ∧ w'.cell? ⟨bt, 3, none⟩ = some (.int .i64 (q2 : Int)) ∧ w'.cell? ⟨bt, 4, none⟩ = some (.int .i64 (q3 : Int)) ∧ w'.cell? ⟨bt, 5, none⟩ = some (.int .i64 (q4 : Int)) ∧ w'.cell? ⟨bt, 6, none⟩ = some (.int .i64 (q5 : Int)) ∧ w'.cell? ⟨bc, 3, none⟩ = some (.int .i64 c.buffer) ∧ w'.cell? ⟨bc, 6, none⟩ = some (.int .i64 c.flight) ∧ Below wv.heap.size wv w') := hid (fun w' hb => ⟨Bk.cell (KT.out.up hb) 0, Bk.cell (KT.out.up hb) 1, Bk.cell (KT.out.up hb) 2, Bk.cell (KT.out.up hb) 3, Bk.cell (KT.out.up hb) 4, Bk.cell (KT.out.up hb) 5, Bk.cell (KT.out.up hb) 6, Bk.cell (HK10.out.kb.up hb) 3, Bk.cell (HK10.out.kb.up hb) 6, hb⟩)
        have hz : Below wv.heap.size wv wv.drew := (Below.refl _ _).drew
        go_region_held3 (fun w' => w'.cell? ⟨bt, 0, none⟩ = some (.int .i64 (q0 : Int)) ∧ w'.cell? ⟨bt, 1, none⟩ = some (.int .i64 0) ∧ w'.cell? ⟨bt, 2, none⟩ = some (.int .i64 (q1 : Int)) ∧ w'.cell? ⟨bt, 3, none⟩ = some (.int .i64 (q2 : Int)) ∧ w'.cell? ⟨bt, 4, none⟩ = some (.int .i64 (q3 : Int)) ∧ w'.cell? ⟨bt, 5, none⟩ = some (.int .i64 (q4 : Int)) ∧ w'.cell? ⟨bt, 6, none⟩ = some (.int .i64 (q5 : Int)) ∧ w'.cell? ⟨bc, 3, none⟩ = some (.int .i64 c.buffer) ∧ w'.cell? ⟨bc, 6, none⟩ = some (.int .i64 c.flight) ∧ Below wv.heap.size wv w') (first | (with_reducible exact HS.out _ hz)) (first
          | (go_at_call 20
             ((with_reducible refine (HSE.out _ hz).mono ?_); rintro e wa ⟨⟨A8, c8, rfl⟩, hy⟩)
             have hz := hz.trans (hy.mono hz.size)))
        all_goals
          have HK11 := hid (HK10.out.up hz)
          clear hz HSE HS KT HK10
          go_wp2_with fail
          go_roundg (n - (i + 1))
          case measure => omega
          case rel => exact ⟨i + 1, _, _, p9, Y, sent9, by go_num, by first | rfl | go_num, by first | rfl | go_num, by omega, by omega, HK11⟩
    · obtain rfl : i = n := by omega
      have hltz : ¬ (i : Int) < (i : Int) := by omega
      go_wp2_with fail
      refine (known27_any _).mono ?_
      rintro e w3 ⟨rfl, hb3⟩
      have B3 := hid (estep HI.out.e.bel hb3)
      clear hb3
      go_wp2_with fail
      go_returns
      exact ⟨rfl, B3.out⟩
end Go.Proofs.Ytpfhmpblcmednaa
