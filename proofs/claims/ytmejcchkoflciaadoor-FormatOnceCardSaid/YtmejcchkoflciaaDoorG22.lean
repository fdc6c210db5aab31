/- Texts put together: Fh. -/
import Derived.Test.YtmejcchkoflciaaDoorG21
import Derived.Test.YtmejcchkoflciaaDoorG09
import Derived.Laws.StructEq
import Derived.Lib.Builder
namespace Go.Proofs.YtmejcchkoflciaaDoor
set_option linter.unusedVariables false
set_option linter.unusedSimpArgs false
open Go.RowKit Go.Joins

/-- A builder that holds these bytes. -/
def BdH (w : World) (B b : Nat) (l : List UInt8) : Prop := Lib.IsBuilder 82 5 B b (Lib.byteCells l) w
theorem bat_below {T e : TypeId} {B b : Nat} {p : Value} {cs : List Value} {w w' : World} (h : Lib.BuilderAt T e B b p cs w) (hb : Below w.heap.size w w') : Lib.BuilderAt T e B b p cs w' := by
  have hlt := h.lt
  obtain ⟨hB, v, h1, h2, h3⟩ := h
  refine ⟨hB, v, (hb.block b hlt).trans h1, World.ownsRow.kept (row := none) h2 ⟨hb.os, hb.tape, hb.output, hb.size, fun k hk _ => hb.block k hk⟩ ?_, h3⟩
  by_cases e : v.ownBlock = none
  · exact Or.inl e
  · exact Or.inr e
theorem BdH.below {w w' : World} {B b : Nat} {l : List UInt8} (h : BdH w B b l) (hb : Below w.heap.size w w') : BdH w' B b l :=
  h.elim (fun x => .inl (bat_below x hb)) (fun x => .inr (bat_below x hb))
theorem BdH.fresh (w : World) : BdH (w.alloc (.cells #[.pointer none, .slice none 0 0] 82)) w.heap.size w.heap.size [] := Lib.fresh_isBuilder _ _ w
theorem flib_bw (B b : Nat) (l s : List UInt8) (w : World) (h : BdH w B b l) (hlen : l.length + s.length ≤ 140737488355328) (hBw : B ≤ w.heap.size) :
    Calls Tryd.prog 36 #[.pointer (some ⟨b, 0, none⟩), .string (bs s)] w fun e w' => e = .returned (.tuple #[.int .i64 (s.length : Int), .nilIface]) ∧ BdH w' B b (l ++ s) ∧ Below B w w' := by
  refine (show Calls Tryd.prog 36 _ _ _ from Any.Builder_WriteString (P := Tryd.prog) (ρ := Tryd.lays155_ren) { Tryd.lays155 with } Tryd.Builder_Extra_155 B b (Lib.byteCells l) (bs s) w h (by rw [Lib.byteCells_length, bs_size]; exact hlen) hBw).mono fun e w' ⟨a, k, hb⟩ => ⟨?_, ?_, hb⟩
  · rw [a, bs_size]
  · have e1 : Lib.byteCells l ++ Lib.strCells (bs s) = Lib.byteCells (l ++ s) := by
      unfold Lib.byteCells Lib.strCells
      rw [bs_data, List.map_append]
    rw [e1] at k
    exact Or.inr k
theorem flib_bs (B b : Nat) (l : List UInt8) (w : World) (h : BdH w B b l) (hBw : B ≤ w.heap.size) :
    Calls Tryd.prog 37 #[.pointer (some ⟨b, 0, none⟩)] w fun e w' => e = .returned (.string (bs l)) ∧ Below B w w' :=
  Tryd.Builder_String_any B b l w h hBw
theorem wordF_succ (k : Nat) : wordsF.getD k [] = wordF (k + 1) := rfl
theorem wordF_len (k : Nat) : (wordF k).length ≤ 7 := by
  match k with
  | 0 => decide
  | 1 => decide
  | 2 => decide
  | 3 => decide
  | 4 => decide
  | 5 => decide
  | 6 => decide
  | 7 => decide
  | 8 => decide
  | k + 9 => simp [wordF, wordsF]
set_option maxRecDepth 100000 in
set_option maxHeartbeats 2000000 in
theorem written_ok (p : Prt) (h : okF p = true) (hl : p.2.length ≤ 1000) (w : World) (E : EnvF w) :
    Calls Tryd.prog 35 #[.agg #[.int .i64 p.1, .string (bs p.2)]] w fun e w' => e = .returned (.tuple #[.string (bs (wrF p)), .bool true]) ∧ Below w.heap.size w w' := by
  obtain ⟨pk, pt⟩ := p
  simp only [okF, Bool.and_eq_true, Bool.or_eq_true, decide_eq_true_eq] at h hl ⊢
  obtain ⟨⟨h1, h2⟩, h3⟩ := h
  have kp : BPt (w.alloc (.cells #[.int .i64 pk, .string (bs pt)] 35)) w.heap.size (pk, pt) := Bk.new _ _ _
  have hb0 := enew w (.cells #[.int .i64 pk, .string (bs pt)] 35)
  have HB := hid hb0
  have HE := hid (E.up hb0)
  obtain ⟨p0, p1⟩ := kp.cells
  simp only at p0 p1
  clear kp hb0 E
  by_cases h0 : pk = 0
  · subst h0
    have HW := hid (show wrF (0, pt) = dblF pt from rfl)
    go_enter Tryd.func35, Tryd.ntmps35
    go_upto_region 1 with (fail)
    generalize w.alloc (.cells #[.int .i64 0, .string (bs pt)] 35) = v0 at *
    have HD := hid (flib_dbl pt (by omega) v0 HE.out)
    go_wp2_with fail
    refine HD.out.mono ?_
    rintro e w1 ⟨rfl, hb1⟩
    have H1 := hid hb1
    clear hb1
    go_wp2_with fail
    go_returns
    exact ⟨by rw [HW.out]; rfl, estep HB.out H1.out⟩
  · by_cases h9 : pk = 9
    · subst h9
      have HW := hid (show wrF (9, pt) = [37, 82, 69, 81, 40] ++ pt ++ [41, 37] from rfl)
      have c1 : (ByteArray.mk #[37, 82, 69, 81, 40]) = bs [37, 82, 69, 81, 40] := rfl
      have c2 : (ByteArray.mk #[41]) = bs [41] := rfl
      have c3 : (ByteArray.mk #[37]) = bs [37] := rfl
      go_enter Tryd.func35, Tryd.ntmps35
      go_upto_region 1 with (fail)
      generalize w.alloc (.cells #[.int .i64 9, .string (bs pt)] 35) = v0 at *
      go_wp2_with fail
      go_returns
      exact ⟨by rw [HW.out]; first | rfl | simp, HB.out⟩
    · have hpt : pt = [] := by
        rcases h3 with (h3 | h3) | h3
        · exact absurd h3 h0
        · exact absurd h3 h9
        · simpa using h3
      subst hpt
      obtain ⟨k, rfl⟩ : ∃ k : Nat, pk = ((k + 1 : Nat) : Int) := ⟨(pk - 1).toNat, by omega⟩
      have hk : k + 1 < 9 := by omega
      obtain ⟨q, hq⟩ : ∃ q, q = k + 1 := ⟨_, rfl⟩
      have HW := hid (show wrF (((k + 1 : Nat) : Int), []) = [37] ++ wordF (k + 1) ++ [37] by
        unfold wrF
        rw [if_neg h0, if_neg h9, ← wordF_succ]
        congr 3
        simp only
        omega)
      rw [← hq] at HW hk h0 h9 h1 h2 p0 p1 HB HE ⊢
      have hg := HE.out.2 q hk
      have hwl := wordF_len q
      have d0 : ((q : Int) == 0) = false := by simp; omega
      have d9 : ((q : Int) == 9) = false := by simp; omega
      have e0 : decide ((q : Int) < 0) = false := by simp
      have e9 : decide ((9 : Int) ≤ (q : Int)) = false := by simp; omega
      have i0 : (0 : Int) ≤ (q : Int) := by omega
      have i9 : (q : Int) < 9 := by omega
      have c3 : (ByteArray.mk #[37]) = bs [37] := rfl
      clear h0 h9 h1 h2 h3 hq
      go_enter Tryd.func35, Tryd.ntmps35
      go_upto_region 1 with (fail)
      generalize w.alloc (.cells #[.int .i64 (q : Int), .string (bs [])] 35) = v0 at *
      generalize wordF q = wq at *
      go_wp2_with fail
      go_returns
      exact ⟨by rw [HW.out]; first | rfl | simp, HB.out⟩
def wrA (l : List Prt) : List UInt8 := l.flatMap wrF
theorem wrA_take (l : List Prt) (k : Nat) (h : k < l.length) : wrA (l.take (k + 1)) = wrA (l.take k) ++ wrF l[k] := by
  unfold wrA
  rw [List.take_succ_eq_append_getElem h, List.flatMap_append]
  simp
theorem wrF_len {p : Prt} (h : p.2.length ≤ 1000) : (wrF p).length ≤ 2010 := by
  unfold wrF
  split
  · have := dblF_len p.2; omega
  · split
    · simp only [List.length_append, List.length_cons, List.length_nil]; omega
    · have e : wordsF.getD (p.1 - 1).toNat [] = wordF ((p.1 - 1).toNat + 1) := rfl
      have := wordF_len ((p.1 - 1).toNat + 1)
      rw [e]
      simp only [List.length_append, List.length_cons, List.length_nil]; omega
set_option maxRecDepth 100000 in
set_option maxHeartbeats 2000000 in
theorem write_ok (L : List Prt) (y : Value) (w : World) (hok : L.all okF = true) (hl : L.length ≤ 1000) (hs : ∀ p ∈ L, p.2.length ≤ 1000) (hy : PtV w y L) (E : EnvF w) :
    Calls Tryd.prog 17 #[y] w fun e w' => e = .returned (.tuple #[.string (bs (wrA L)), .int .i64 0]) ∧ Below w.heap.size w w' := by
  have hnot := enot
  obtain ⟨A, c, rfl, hA⟩ := hy
  have hb0 := enew w (.cells #[.pointer none, .slice none 0 0] 82)
  have HA := hid hA
  have HE := hid E
  have HST := hid (And.intro (BdH.fresh w) hb0)
  have HOK := hid (List.all_eq_true.1 hok)
  have HS := hid hs
  clear hA E hb0 hok hs
  go_enter Tryd.func17, Tryd.ntmps17
  go_upto_region 2 with (fail)
  generalize w.alloc (.cells #[.pointer none, .slice none 0 0] 82) = v0 at *
  go_wp2_with fail
  go_loopw [11] (fun i wr => ∃ k : Nat, k ≤ L.length ∧ i = .int .i64 k ∧ Hid (BdH wr w.heap.size w.heap.size (wrA (L.take k)) ∧ Below w.heap.size w wr ∧ (wrA (L.take k)).length ≤ 2010 * k)) (fun i _ => L.length - (intOf i).toNat)
  case atStart => exact ⟨0, by omega, rfl, hid ⟨by simpa [wrA] using HST.out.1, HST.out.2, by simp [wrA]⟩⟩
  case round =>
    obtain ⟨k, hk, rfl, HW⟩ := hrel
    by_cases hlt : k < L.length
    · obtain ⟨b, o, rfl, hB, c0, c1⟩ := GX.pt (HA.out.up HW.out.2.1) k hlt
      have HT := hid (wrA_take L k hlt)
      have HK := hid (And.intro (HOK.out _ (List.getElem_mem hlt)) (HS.out _ (List.getElem_mem hlt)))
      generalize L[k] = q at *
      obtain ⟨pk, pt⟩ := q
      simp only at c0 c1 HK
      have hnb := enew wr (.cells #[.int .i64 pk, .string (bs pt)] 35)
      have HNB := hid hnb
      have HN2 := hid (HW.out.2.1.trans (hnb.mono HW.out.2.1.size))
      have hwl := wrF_len (p := (pk, pt)) HK.out.2
      have HWR := hid (fun w2 (h2 : Below w.heap.size w w2) => written_ok (pk, pt) HK.out.1 HK.out.2 w2 (HE.out.up h2))
      generalize wrF (pk, pt) = wt at *
      simp only at HWR
      clear hnb
      go_wp2_with fail
      refine (HWR.out _ HN2.out).mono ?_
      rintro e w2 ⟨rfl, hb2⟩
      have HB2 := hid (estep HNB.out hb2)
      have HB3 := hid (HW.out.2.1.trans (HB2.out.mono HW.out.2.1.size))
      clear hb2 c0 c1
      go_wp2_with fail
      refine (flib_bw w.heap.size w.heap.size _ wt w2 (HW.out.1.below HB2.out) (by have := HW.out.2.2; omega) HB3.out.size).mono ?_
      rintro e w3 ⟨rfl, hbd, hb3⟩
      have H3 := hid (And.intro hbd (HB3.out.trans hb3))
      clear hbd hb3
      go_wp2_with fail
      go_roundw
      case rel => exact ⟨k + 1, by omega, by go_num, hid ⟨by rw [HT.out]; exact H3.out.1, H3.out.2, by rw [HT.out, List.length_append]; have := HW.out.2.2; omega⟩⟩
      case measure => simp [intOf]; omega
    · obtain rfl : k = L.length := by omega
      have h1 := HW.out
      rw [List.take_length] at h1
      have HH := hid h1
      clear h1
      go_wp2_with fail
      refine (flib_bs w.heap.size w.heap.size _ wr HH.out.1 HH.out.2.1.size).mono ?_
      rintro e w3 ⟨rfl, hb3⟩
      have H3 := hid (HH.out.2.1.trans hb3)
      clear hb3
      go_wp2_with fail
      go_returns
      exact ⟨rfl, H3.out⟩
theorem pt_eqIn (w : World) (k : Int) (t : List UInt8) : (Op.equalIn 10000 35 (.agg #[.int .i64 k, .string (bs t)]) (.agg #[.int .i64 k, .string (bs t)])).run Tryd.prog w = .ok true w := by
  have us := Tryd.underlying9
  have asx := Tryd.isAgg9
  have zs := Tryd.sizeOf9
  have us2 := Tryd.underlying3
  have as2 := Tryd.isAgg3
  have zs2 := Tryd.sizeOf3
  rw [show (10000 : Nat) = 9999 + 1 from rfl, run_equalIn_agg w 9999 _ _ _ (by kernel_rfl) (by kernel_rfl)]
  simp only [Program.fieldsOf, Tryd.underlying35]
  go_simp
theorem pt_neq (w : World) (k : Int) (t : List UInt8) : (binOp .neq 35 (.agg #[.int .i64 k, .string (bs t)]) (.agg #[.int .i64 k, .string (bs t)])).run Tryd.prog w = .ok (.bool false) w := by
  rw [run_neq_struct, pt_eqIn]; rfl
theorem pt_guard (op : BinOp) (x y : Operand) (xs ys : Array Value) (w : World) : (eqGuard op 35 x y (.agg xs) (.agg ys)).run Tryd.prog w = .ok () w := run_eqGuard_agg w op _ x y xs ys (by kernel_rfl)
set_option maxRecDepth 100000 in
set_option maxHeartbeats 2000000 in
theorem psame_any (L : List Prt) (x y : Value) (w : World) (hl : L.length ≤ 1000) (hx : PtV w x L) (hy : PtV w y L) :
    Calls Tryd.prog 13 #[x, y] w fun e w' => e = .returned (.bool true) ∧ Below w.heap.size w w' := by
  obtain ⟨A, c, rfl, hA⟩ := hx
  obtain ⟨A2, c2, rfl, hA2⟩ := hy
  have HA := hid hA
  have HA2 := hid hA2
  have hg := pt_guard
  clear hA hA2
  go_enter Tryd.func13, Tryd.ntmps13
  go_wp2_with fail
  go_loopw [5] (fun i wr => ∃ k : Nat, k ≤ L.length ∧ i = .int .i64 k ∧ Hid (Below w.heap.size w wr)) (fun i _ => L.length - (intOf i).toNat)
  case atStart => exact ⟨0, by omega, rfl, hid (Below.refl _ _)⟩
  case round =>
    obtain ⟨k, hk, rfl, HW⟩ := hrel
    by_cases hlt : k < L.length
    · obtain ⟨b, o, rfl, hB, c0, c1⟩ := GX.pt (HA.out.up HW.out) k hlt
      obtain ⟨b2, o2, rfl, hB2, e0, e1⟩ := GX.pt (HA2.out.up HW.out) k hlt
      generalize L[k] = q at *
      obtain ⟨pk, pt⟩ := q
      simp only at c0 c1 e0 e1
      have hne := fun w2 : World => pt_neq w2 pk pt
      have hi0 : (0 : Int) ≤ (k : Int) := by omega
      have hi1 : (k : Int) < (L.length : Int) := by omega
      go_wp2_with fail
      go_quiet (fail)
      go_wp2_with fail
      go_roundw
      case rel => exact ⟨k + 1, by omega, by go_num, hid (below_drewN HW.out _)⟩
      case measure => simp [intOf]; omega
    · obtain rfl : k = L.length := by omega
      go_wp2_with fail
      go_returns
      exact ⟨rfl, HW.out⟩
end Go.Proofs.YtmejcchkoflciaaDoor
