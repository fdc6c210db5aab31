/- line: slices of parts; the line of all parts, the program's and the definition's. -/
import Derived.Test.YtmejcchkoflciaaDoorGe
import Derived.BigQuiet
namespace Go.Proofs.YtmejcchkoflciaaDoor
set_option linter.unusedVariables false
set_option linter.unusedSimpArgs false
open Go.RowKit Go.Joins

def encPt (p : Prt) : List Value := [.int .i64 p.1, .string (bs p.2)]
theorem encPt_len (p : Prt) : (encPt p).length = 2 := rfl
theorem rowPt : RowT Tryd.prog encPt 2 23 35 (.agg #[.int .i64 0, .string ByteArray.empty]) 24 where
  ht := Tryd.underlying23
  inf := by kernel_rfl
  hzs := rfl
  k0 := by decide
  hk := encPt_len
  h1 := fun x u hu => by
    simp [encPt] at hu
    rcases hu with rfl | rfl <;> rfl
  hb := by decide
/-- A slice of parts, as a value that can be read. -/
def PtV (w : World) (x : Value) (L : List Prt) : Prop := ∃ A c, x = .slice A L.length c ∧ GX encPt 2 w (· < w.heap.size) A L
theorem PtV.up {w w' : World} {x : Value} {L : List Prt} (h : PtV w x L) (hb : Below w.heap.size w w') : PtV w' x L := by
  obtain ⟨A, c, e, h1⟩ := h
  exact ⟨A, c, e, h1.up hb⟩
theorem GX.pt {w : World} {N : Nat → Prop} {A : Option Addr} {L : List Prt} (h : GX encPt 2 w N A L) (k : Nat) (hk : k < L.length) : ∃ b o, A = some ⟨b, o, none⟩ ∧ N b ∧ w.cell? ⟨b, o + k * 2, none⟩ = some (.int .i64 L[k].1) ∧ w.cell? ⟨b, o + k * 2 + 1, none⟩ = some (.string (bs L[k].2)) := by
  obtain ⟨b, o, e, h1, h2⟩ := h k hk
  exact ⟨b, o, e, h1, h2 0 (by omega), h2 1 (by omega)⟩
/-- A world that has all that v has, and may have more. -/
structure BwL (v : World) where
  w : World
  h : Below v.heap.size v w
instance BwL.instNonempty (v : World) : Nonempty (BwL v) := ⟨⟨v, Below.refl _ _⟩⟩
theorem wp_region_bwl {P : Program} {id : Nat} {Q : Exit → Act → World → Prop} {a : Act} {w : World} {l : List Oper} (hm : P.follows .mixedOrders = true) (hB : Region.lexB .any l.toArray = true) (h : wpQuiet P l.toArray (fun w' => ∃ p : BwL w, w' = p.w) (fun a' => ∀ w', (∃ p : BwL w, w' = p.w) → Q .normal a' w') l a) : (Code.region id l.toArray true).wp P Q a w :=
  wp_region_quiet (C := fun w' => ∃ p : BwL w, w' = p.w) hm hB ⟨⟨_, (Below.refl _ _).drew⟩, rfl⟩ (by simpa using h)
theorem calls_bwl {P : Program} {f : FuncId} {args : Array Value} {v0 : World} {p : BwL v0} {v : Value} (h : Calls P f args p.w fun e w' => e = .returned v ∧ Below p.w.heap.size p.w w') : Calls P f args p.w fun e w'' => e = .returned v ∧ ∃ q : BwL v0, w'' = q.w :=
  h.mono fun _ _ ⟨he, hb⟩ => ⟨he, ⟨_, p.h.trans (hb.mono p.h.size)⟩, rfl⟩
theorem BwL.cell {v : World} {a : Addr} {x : Value} (h : v.cell? a = some x) (p : BwL v) : p.w.cell? a = some x :=
  (p.h.cell (lt_of_cell h)).trans h
set_option maxRecDepth 100000 in
set_option maxHeartbeats 2000000 in
theorem render_any (L : List Prt) (y : Value) (r : Rec) (x : Value) (w : World) (hr : okRec r) (hL : ∀ p ∈ L, p.2.length ≤ 100000) (hl : L.length ≤ 1000) (hy : PtV w y L) (hx : HV w x r.L) (E : EnvL w) :
    Calls Tryd.prog 25 #[y, .agg #[.string (bs r.m), .string (bs r.h), .string (bs r.p), x, .string (bs r.b), .string (bs r.tg), .int .i64 r.st, .int .i64 r.ve, .string (bs r.tr), .int .i64 r.sa, .int .i64 r.en]] w fun e w' => e = .returned (.string (bs (rendL r L))) ∧ Below w.heap.size w w' := by
  obtain ⟨A, c, rfl, hA⟩ := hy
  have kr : BRc (w.alloc (.cells #[.string (bs r.m), .string (bs r.h), .string (bs r.p), x, .string (bs r.b), .string (bs r.tg), .int .i64 r.st, .int .i64 r.ve, .string (bs r.tr), .int .i64 r.sa, .int .i64 r.en] 44)) w.heap.size r x := Bk.new _ _ _
  have hbA := enew w (.cells #[.string (bs r.m), .string (bs r.h), .string (bs r.p), x, .string (bs r.b), .string (bs r.tg), .int .i64 r.st, .int .i64 r.ve, .string (bs r.tr), .int .i64 r.sa, .int .i64 r.en] 44)
  have HB := hid hbA
  have HX := hid (hx.up hbA)
  have HE := hid (E.up hbA)
  have HA := hid (hA.up hbA)
  have KR := hid kr
  have HR := hid hr
  have HPL := hid hL
  obtain ⟨Ax, cx, rfl, -⟩ := hx
  clear hbA kr hr hL hA E
  go_enter Tryd.func25, Tryd.ntmps25
  go_upto_region 1 with (fail)
  generalize w.alloc (.cells #[.string (bs r.m), .string (bs r.h), .string (bs r.p), .slice Ax r.L.length cx, .string (bs r.b), .string (bs r.tg), .int .i64 r.st, .int .i64 r.ve, .string (bs r.tr), .int .i64 r.sa, .int .i64 r.en] 44) = v0 at *
  go_wp2_with fail
  go_loopw [5, 10] (fun v i wr => ∃ k : Nat, k ≤ L.length ∧ i = .int .i64 k ∧ (∃ t : List UInt8, v = .string (bs t) ∧ t.length ≤ 120 ∧ Hid (t = allL r (L.take k))) ∧ Hid (Below v0.heap.size v0 wr)) (fun _ i _ => L.length - (intOf i).toNat)
  case atStart => exact ⟨0, by omega, rfl, ⟨[], rfl, by simp, hid (by simp [allL])⟩, hid (Below.refl _ _)⟩
  case round =>
    obtain ⟨k, hk, rfl, ⟨t, rfl, ht, HT⟩, HW⟩ := hrel
    by_cases hlt : k < L.length
    · obtain ⟨r0, r1, r2, r3, r4, r5, r6, r7, r8, r9, r10⟩ := (KR.out.up HW.out).cells
      obtain ⟨b, o, rfl, hB, c0, c1⟩ := GX.pt (HA.out.up HW.out) k hlt
      have HS := hid (allL_take r L k hlt)
      have HQ := hid (HPL.out _ (List.getElem_mem hlt))
      generalize L[k] = q at *
      obtain ⟨pk, pt⟩ := q
      simp only at c0 c1 HQ
      have HV0 := hid (fun w2 (h2 : Below v0.heap.size v0 w2) => val20_any (pk, pt) r _ w2 HR.out HQ.out (HX.out.up h2) (HE.out.up h2))
      have hvl := valL_len HR.out (pk, pt) HQ.out
      generalize valL r (pk, pt) = vl at *
      have hnb := enew wr (.cells #[.int .i64 pk, .string (bs pt)] 35)
      have HNB := hid (estep HW.out hnb)
      have q0 := (hnb.cell (lt_of_cell r0)).trans r0
      have q1 := (hnb.cell (lt_of_cell r1)).trans r1
      have q2 := (hnb.cell (lt_of_cell r2)).trans r2
      have q3 := (hnb.cell (lt_of_cell r3)).trans r3
      have q4 := (hnb.cell (lt_of_cell r4)).trans r4
      have q5 := (hnb.cell (lt_of_cell r5)).trans r5
      have q6 := (hnb.cell (lt_of_cell r6)).trans r6
      have q7 := (hnb.cell (lt_of_cell r7)).trans r7
      have q8 := (hnb.cell (lt_of_cell r8)).trans r8
      have q9 := (hnb.cell (lt_of_cell r9)).trans r9
      have q10 := (hnb.cell (lt_of_cell r10)).trans r10
      clear hnb r0 r1 r2 r3 r4 r5 r6 r7 r8 r9 r10
      go_wp2_with fail
      refine (HV0.out _ HNB.out).mono ?_
      rintro e w2 ⟨rfl, hb2⟩
      have H2 := hid (estep HNB.out hb2)
      clear hb2 q0 q1 q2 q3 q4 q5 q6 q7 q8 q9 q10 c0 c1
      by_cases hgt : 120 < t.length + vl.length
      · have hg1 : (120 : Int) < (t.length : Int) + (vl.length : Int) := by omega
        have HC := hid (show rendL r L = (t ++ vl).take 119 ++ [126] by
          have := rendL_cut (r := r) (l := L) (k := k + 1) (by rw [HS.out, ← HT.out, List.length_append]; exact hgt)
          rw [this, HS.out, ← HT.out])
        have x1 : (bs (t ++ vl)).extract 0 119 = bs ((t ++ vl).take 119) := by rw [bs_extract]; simp
        have c126 : (ByteArray.mk #[126]) = bs [126] := rfl
        have hg2 : (119 : Int) ≤ (t.length : Int) + (vl.length : Int) := by omega
        clear hgt
        go_wp2_with fail
        go_returns
        exact ⟨by rw [HC.out]; first | rfl | simp_all, estep HB.out H2.out⟩
      · have hg1 : (t.length : Int) + (vl.length : Int) ≤ 120 := by omega
        go_wp2_with fail
        go_roundw
        case rel => exact ⟨k + 1, by omega, by go_num, ⟨t ++ vl, rfl, by simp; omega, hid (by rw [HS.out, ← HT.out])⟩, H2⟩
        case measure => simp [intOf]; omega
    · obtain rfl : k = L.length := by omega
      have HC := hid (show rendL r L = t by
        have h1 := HT.out
        rw [List.take_length] at h1
        rw [rendL, ← h1, if_neg (by omega)])
      go_wp2_with fail
      go_returns
      exact ⟨by rw [HC.out]; rfl, estep HB.out HW.out⟩
theorem allL_len {r : Rec} (hr : okRec r) {L : List Prt} (hL : ∀ p ∈ L, p.2.length ≤ 100000) : (allL r L).length ≤ 400001 * L.length := by
  induction L with
  | nil => simp [allL]
  | cons p t ih =>
    have e : allL r (p :: t) = valL r p ++ allL r t := by simp [allL]
    have h1 := valL_len hr p (hL p (by simp))
    have h2 := ih (fun q hq => hL q (by simp [hq]))
    rw [e, List.length_append, List.length_cons]
    omega
set_option maxRecDepth 100000 in
set_option maxHeartbeats 2000000 in
theorem rrender_any (L : List Prt) (y : Value) (r : Rec) (x : Value) (w : World) (hr : okRec r) (hL : ∀ p ∈ L, p.2.length ≤ 100000) (hl : L.length ≤ 1000) (hy : PtV w y L) (hx : HV w x r.L) (E : EnvL w) :
    Calls Tryd.prog 26 #[y, .agg #[.string (bs r.m), .string (bs r.h), .string (bs r.p), x, .string (bs r.b), .string (bs r.tg), .int .i64 r.st, .int .i64 r.ve, .string (bs r.tr), .int .i64 r.sa, .int .i64 r.en]] w fun e w' => e = .returned (.string (bs (rendL r L))) ∧ Below w.heap.size w w' := by
  obtain ⟨A, c, rfl, hA⟩ := hy
  have kr : BRc (w.alloc (.cells #[.string (bs r.m), .string (bs r.h), .string (bs r.p), x, .string (bs r.b), .string (bs r.tg), .int .i64 r.st, .int .i64 r.ve, .string (bs r.tr), .int .i64 r.sa, .int .i64 r.en] 44)) w.heap.size r x := Bk.new _ _ _
  have hbA := enew w (.cells #[.string (bs r.m), .string (bs r.h), .string (bs r.p), x, .string (bs r.b), .string (bs r.tg), .int .i64 r.st, .int .i64 r.ve, .string (bs r.tr), .int .i64 r.sa, .int .i64 r.en] 44)
  have HB := hid hbA
  have HX := hid (hx.up hbA)
  have HE := hid (E.up hbA)
  have HA := hid (hA.up hbA)
  have KR := hid kr
  have HR := hid hr
  have HPL := hid hL
  obtain ⟨Ax, cx, rfl, -⟩ := hx
  clear hbA kr hr hL hA E
  go_enter Tryd.func26, Tryd.ntmps26
  go_upto_region 1 with (fail)
  generalize w.alloc (.cells #[.string (bs r.m), .string (bs r.h), .string (bs r.p), .slice Ax r.L.length cx, .string (bs r.b), .string (bs r.tg), .int .i64 r.st, .int .i64 r.ve, .string (bs r.tr), .int .i64 r.sa, .int .i64 r.en] 44) = v0 at *
  go_wp2_with fail
  go_loopw [5, 6] (fun v i wr => ∃ k : Nat, k ≤ L.length ∧ i = .int .i64 k ∧ (∃ t : List UInt8, v = .string (bs t) ∧ t.length ≤ 400001 * k ∧ Hid (t = allL r (L.take k))) ∧ Hid (Below v0.heap.size v0 wr)) (fun _ i _ => L.length - (intOf i).toNat)
  case atStart => exact ⟨0, by omega, rfl, ⟨[], rfl, by simp, hid (by simp [allL])⟩, hid (Below.refl _ _)⟩
  case round =>
    obtain ⟨k, hk, rfl, ⟨t, rfl, ht, HT⟩, HW⟩ := hrel
    by_cases hlt : k < L.length
    · obtain ⟨r0, r1, r2, r3, r4, r5, r6, r7, r8, r9, r10⟩ := (KR.out.up HW.out).cells
      obtain ⟨b, o, rfl, hB, c0, c1⟩ := GX.pt (HA.out.up HW.out) k hlt
      have HS := hid (allL_take r L k hlt)
      have HQ := hid (HPL.out _ (List.getElem_mem hlt))
      generalize L[k] = q at *
      obtain ⟨pk, pt⟩ := q
      simp only at c0 c1 HQ
      have HV0 := hid (fun w2 (h2 : Below v0.heap.size v0 w2) => rval20_any (pk, pt) r _ w2 HR.out HQ.out (HX.out.up h2) (HE.out.up h2))
      have hvl := valL_len HR.out (pk, pt) HQ.out
      generalize valL r (pk, pt) = vl at *
      have HVB := hid (fun p : BwL wr => calls_bwl (v0 := wr) (p := p) (HV0.out p.w (estep HW.out p.h)))
      have q0 := BwL.cell r0
      have q1 := BwL.cell r1
      have q2 := BwL.cell r2
      have q3 := BwL.cell r3
      have q4 := BwL.cell r4
      have q5 := BwL.cell r5
      have q6 := BwL.cell r6
      have q7 := BwL.cell r7
      have q8 := BwL.cell r8
      have q9 := BwL.cell r9
      have q10 := BwL.cell r10
      have e0 := BwL.cell c0
      have e1 := BwL.cell c1
      have hi0 : (0 : Int) ≤ (k : Int) := by omega
      have hi1 : (k : Int) < (L.length : Int) := by omega
      clear r0 r1 r2 r3 r4 r5 r6 r7 r8 r9 r10 c0 c1
      go_wp2_with fail
      refine wp_region_bwl (by kernel_rfl) (by kernel_rfl) ?_
      repeat (go_big_quiet_step ((go_at_call 24; exact HVB.out _)))
      refine wpQuiet_nil ?_
      rintro _ ⟨pq, rfl⟩
      have H2 := hid (estep HW.out pq.h)
      generalize pq.w = w2 at *
      go_wp2_with fail
      go_roundw
      case rel => exact ⟨k + 1, by omega, by go_num, ⟨t ++ vl, by first | rfl | simp [bs_append], by simp; omega, hid (by rw [HS.out, ← HT.out])⟩, H2⟩
      case measure => simp [intOf]; omega
    · obtain rfl : k = L.length := by omega
      have h1 := HT.out
      rw [List.take_length] at h1
      have HTT := hid h1
      clear h1
      by_cases hgt : 120 < t.length
      · have hg1 : (120 : Int) < (t.length : Int) := by omega
        have HC := hid (show rendL r L = t.take 119 ++ [126] by
          rw [rendL, ← HTT.out, if_pos hgt])
        have x1 : (bs t).extract 0 119 = bs (t.take 119) := by rw [bs_extract]; simp
        have c126 : (ByteArray.mk #[126]) = bs [126] := rfl
        have hg2 : (119 : Int) ≤ (t.length : Int) := by omega
        clear hgt
        go_wp2_with fail
        go_returns
        exact ⟨by rw [HC.out]; first | rfl | simp_all, estep HB.out HW.out⟩
      · have HC := hid (show rendL r L = t by rw [rendL, ← HTT.out, if_neg hgt])
        have hg1 : ¬ (120 : Int) < (t.length : Int) := by omega
        go_wp2_with fail
        go_returns
        exact ⟨by rw [HC.out]; rfl, estep HB.out HW.out⟩
end Go.Proofs.YtmejcchkoflciaaDoor
