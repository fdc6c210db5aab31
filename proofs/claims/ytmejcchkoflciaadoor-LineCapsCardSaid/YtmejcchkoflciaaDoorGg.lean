/- line: what is short enough; the fixed calls. -/
import Derived.Test.YtmejcchkoflciaaDoorGf
namespace Go.Proofs.YtmejcchkoflciaaDoor
set_option linter.unusedVariables false
set_option linter.unusedSimpArgs false
open Go.RowKit Go.Joins

def fewR (m h p : List UInt8) (L : List Hd) (b : List UInt8) : Bool := decide (m.length + h.length + p.length + b.length ≤ 2000) && (decide (L.length ≤ 40) && L.all fun h => decide (h.1.length + h.2.length ≤ 400))
set_option maxRecDepth 100000 in
set_option maxHeartbeats 1600000 in
theorem fewr_any (m h p : List UInt8) (A : Option Addr) (cap : Nat) (L : List Hd) (b : List UInt8) (w : World) (hR : HReads w (· < w.heap.size) A L) (hl : L.length ≤ 9223372036854775807) (hs : ∀ h ∈ L, h.1.length ≤ 140737488351232 ∧ h.2.length ≤ 140737488351232)
    (hm : m.length ≤ 140737488351232) (hh : h.length ≤ 140737488351232) (hp : p.length ≤ 140737488351232) (hb : b.length ≤ 140737488351232) :
    Calls Tryd.prog 40 #[.agg #[.string (bs m), .string (bs h), .string (bs p), .slice A L.length cap, .string (bs b)]] w fun e w' => e = .returned (.bool (fewR m h p L b)) ∧ Below w.heap.size w w' := by
  have hal := enew w (.cells #[.string (bs m), .string (bs h), .string (bs p), .slice A L.length cap, .string (bs b)] 42)
  have k5 := BQ.new w m h p (.slice A L.length cap) b
  have HR := hid (hR.later' hal)
  have HS := hid hs
  have HAL := hid hal
  have K5 := hid k5
  clear hR hs hal k5
  have a1 : IntKind.i64.wrap ((m.length : Int) + (h.length : Int)) = (m.length : Int) + (h.length : Int) := IntWalk.i64_in _ (by omega)
  have a2 : IntKind.i64.wrap ((m.length : Int) + (h.length : Int) + (p.length : Int)) = (m.length : Int) + (h.length : Int) + (p.length : Int) := IntWalk.i64_in _ (by omega)
  have a3 : IntKind.i64.wrap ((m.length : Int) + (h.length : Int) + (p.length : Int) + (b.length : Int)) = (m.length : Int) + (h.length : Int) + (p.length : Int) + (b.length : Int) := IntWalk.i64_in _ (by omega)
  by_cases h2 : (m.length : Int) + (h.length : Int) + (p.length : Int) + (b.length : Int) > 2000
  · have HC := hid (show fewR m h p L b = false by rw [fewR, decide_eq_false (by omega)]; rfl)
    go_enter Tryd.func40, Tryd.ntmps40
    go_wp2_with fail
    go_ret
    exact ⟨by rw [HC.out]; rfl, HAL.out⟩
  · by_cases h4 : (L.length : Int) > 40
    · have HC := hid (show fewR m h p L b = false by rw [fewR, decide_eq_false (show ¬ L.length ≤ 40 by omega)]; simp)
      go_enter Tryd.func40, Tryd.ntmps40
      go_wp2_with fail
      go_ret
      exact ⟨by rw [HC.out]; rfl, HAL.out⟩
    · have HC := hid (show fewR m h p L b = L.all fun h => decide (h.1.length + h.2.length ≤ 400) by rw [fewR, decide_eq_true (by omega), decide_eq_true (show L.length ≤ 40 by omega)]; rfl)
      go_enter Tryd.func40, Tryd.ntmps40
      go_wp2_with fail
      generalize hv1 : w.alloc (.cells #[.string (bs m), .string (bs h), .string (bs p), .slice A L.length cap, .string (bs b)] 42) = v1 at *
      clear hv1
      go_loopw [3] (fun i wr => ∃ k : Nat, k ≤ L.length ∧ i = .int .i64 k ∧ Hid (((L.take k).all fun h => decide (h.1.length + h.2.length ≤ 400)) = true ∧ Below v1.heap.size v1 wr)) (fun i _ => L.length - (intOf i).toNat)
      case atStart => exact ⟨0, by omega, rfl, hid ⟨rfl, Below.refl _ _⟩⟩
      case round =>
        obtain ⟨k, hk, rfl, HW⟩ := hrel
        have k3 := (K5.out.up HW.out.2).cells.2.2.2.1
        by_cases hlt : k < L.length
        · obtain ⟨bb, o, rfl, hB, hc0, hc1⟩ := (HR.out.below HW.out.2) k hlt
          have HT := hid (List.take_succ_eq_append_getElem hlt)
          have HM := hid (List.getElem_mem hlt)
          obtain ⟨hs0, hs1⟩ := HS.out _ (List.getElem_mem hlt)
          generalize L[k] = hh' at *
          obtain ⟨g0, g1⟩ := hh'
          have hz0 : g0.length ≤ 140737488351232 := hs0
          have hz1 : g1.length ≤ 140737488351232 := hs1
          clear hs0 hs1
          have hi0 : (0 : Int) ≤ (k : Int) := by omega
          have hi1 : (k : Int) < (L.length : Int) := by omega
          have hadd : IntKind.i64.wrap ((g0.length : Int) + (g1.length : Int)) = (g0.length : Int) + (g1.length : Int) := IntWalk.i64_in _ (by omega)
          go_wp2_with fail
          go_quiet (fail)
          go_wp2_with fail
          · go_ret
            exact ⟨by rw [HC.out, List.all_eq_false.2 ⟨_, HM.out, by simp; omega⟩]; rfl, below_drewN (estep HAL.out HW.out.2) _⟩
          · go_roundw
            case rel => exact ⟨k + 1, by omega, by go_num, hid ⟨by rw [HT.out, List.all_append, HW.out.1]; simp; omega, below_drewN HW.out.2 _⟩⟩
            case measure => simp [intOf]; omega
        · obtain rfl : k = L.length := by omega
          go_wp2_with fail
          go_ret
          have := HW.out.1
          rw [List.take_length] at this
          exact ⟨by rw [HC.out, this]; rfl, estep HAL.out HW.out.2⟩
def fewPt (L : List Prt) : Bool := decide (L.length ≤ 60) && L.all fun p => decide (p.2.length ≤ 300)
set_option maxRecDepth 100000 in
set_option maxHeartbeats 1000000 in
theorem fewpt_any (L : List Prt) (y : Value) (w : World) (hy : PtV w y L) (hl : L.length ≤ 9223372036854775807) :
    Calls Tryd.prog 21 #[y] w fun e w' => e = .returned (.bool (fewPt L)) ∧ w = w' := by
  obtain ⟨A, c, rfl, hA⟩ := hy
  have HA := hid hA
  clear hA
  by_cases h60 : L.length ≤ 60
  · have hle : ¬ (60 : Int) < (L.length : Int) := by omega
    have HC := hid (show fewPt L = L.all fun p => decide (p.2.length ≤ 300) by rw [fewPt, decide_eq_true h60]; rfl)
    go_enter Tryd.func21, Tryd.ntmps21
    go_wp2_with fail
    go_loop [3] (fun i => ∃ k : Nat, k ≤ L.length ∧ i = .int .i64 k ∧ Hid (((L.take k).all fun p => decide (p.2.length ≤ 300)) = true)) (fun i => L.length - (intOf i).toNat)
    case atStart => exact ⟨0, by omega, rfl, hid rfl⟩
    case round =>
      obtain ⟨k, hk, rfl, HW⟩ := hrel
      by_cases hlt : k < L.length
      · obtain ⟨b, o, rfl, hB, c0, c1⟩ := GX.pt HA.out k hlt
        have HT := hid (List.take_succ_eq_append_getElem hlt)
        have HM := hid (List.getElem_mem hlt)
        generalize L[k] = q at *
        obtain ⟨pk, pt⟩ := q
        simp only at c0 c1
        by_cases h3 : pt.length ≤ 300
        · have h4 : ¬ (300 : Int) < (pt.length : Int) := by omega
          go_wp2_with fail
          go_round
          case rel => exact ⟨k + 1, by omega, by go_num, hid (by rw [HT.out, List.all_append, HW.out]; simp [h3])⟩
          case measure => simp [intOf]; omega
        · have h4 : (300 : Int) < (pt.length : Int) := by omega
          have HF := hid (show (L.all fun p => decide (p.2.length ≤ 300)) = false by rw [List.all_eq_false]; exact ⟨_, HM.out, by simp; omega⟩)
          go_wp2_with fail
          go_returns
          exact ⟨by rw [HC.out, HF.out]; rfl, rfl⟩
      · obtain rfl : k = L.length := by omega
        have h1 := HW.out
        rw [List.take_length] at h1
        have HF := hid h1
        clear h1
        go_wp2_with fail
        go_returns
        exact ⟨by rw [HC.out, HF.out]; rfl, rfl⟩
  · have hle : (60 : Int) < (L.length : Int) := by omega
    have HC := hid (show fewPt L = false by rw [fewPt, decide_eq_false h60]; rfl)
    go_enter Tryd.func21, Tryd.ntmps21
    go_wp2_with fail
    go_returns
    exact ⟨by rw [HC.out]; rfl, rfl⟩
/-- The sizes of a record's parts, as they may come. -/
def wideR (r : Rec) : Prop := (r.m.length ≤ 140737488351232 ∧ r.h.length ≤ 140737488351232 ∧ r.p.length ≤ 140737488351232 ∧ r.b.length ≤ 140737488351232) ∧ (r.tg.length ≤ 140737488351232 ∧ r.tr.length ≤ 140737488351232) ∧ (∀ h ∈ r.L, h.1.length ≤ 140737488351232 ∧ h.2.length ≤ 140737488351232) ∧ r.L.length ≤ 9223372036854775807 ∧ (in64 r.st ∧ in64 r.ve ∧ in64 r.sa ∧ in64 r.en)
def few20 (r : Rec) : Bool := fewR r.m r.h r.p r.L r.b && decide (r.tg.length + r.tr.length ≤ 400)
theorem few20_ok {r : Rec} (hw : wideR r) (h : few20 r = true) : okRec r := by
  simp only [few20, fewR, Bool.and_eq_true, decide_eq_true_eq, List.all_eq_true] at h
  obtain ⟨⟨h1, h2, h3⟩, h4⟩ := h
  obtain ⟨-, -, -, -, i⟩ := hw
  exact ⟨⟨by omega, by omega, by omega, by omega, by omega⟩, fun x hx => by have := h3 x hx; omega, i, by omega⟩
set_option maxRecDepth 100000 in
set_option maxHeartbeats 1000000 in
theorem few20_any (r : Rec) (x : Value) (w : World) (hw : wideR r) (hx : HV w x r.L) :
    Calls Tryd.prog 22 #[.agg #[.string (bs r.m), .string (bs r.h), .string (bs r.p), x, .string (bs r.b), .string (bs r.tg), .int .i64 r.st, .int .i64 r.ve, .string (bs r.tr), .int .i64 r.sa, .int .i64 r.en]] w fun e w' => e = .returned (.bool (few20 r)) ∧ Below w.heap.size w w' := by
  have kr : BRc (w.alloc (.cells #[.string (bs r.m), .string (bs r.h), .string (bs r.p), x, .string (bs r.b), .string (bs r.tg), .int .i64 r.st, .int .i64 r.ve, .string (bs r.tr), .int .i64 r.sa, .int .i64 r.en] 44)) w.heap.size r x := Bk.new _ _ _
  have hbA := enew w (.cells #[.string (bs r.m), .string (bs r.h), .string (bs r.p), x, .string (bs r.b), .string (bs r.tg), .int .i64 r.st, .int .i64 r.ve, .string (bs r.tr), .int .i64 r.sa, .int .i64 r.en] 44)
  have hX := hx.up hbA
  have HB := hid hbA
  obtain ⟨⟨m0, m1, m2, m3⟩, ⟨m4, m5⟩, hs, hl, -⟩ := hw
  obtain ⟨A, c, rfl, hA⟩ := hX
  have HF := hid (fewr_any r.m r.h r.p A c r.L r.b _ hA hl hs m0 m1 m2 m3)
  obtain ⟨z, hz⟩ : ∃ z, fewR r.m r.h r.p r.L r.b = z := ⟨_, rfl⟩
  have HZ := hid hz
  rw [hz] at HF
  have KR := hid kr
  obtain ⟨r0, r1, r2, r3, r4, r5, r6, r7, r8, r9, r10⟩ := kr.cells
  clear kr hz hA hx hs hl m0 m1 m2 m3
  have hadd : IntKind.i64.wrap ((r.tg.length : Int) + (r.tr.length : Int)) = (r.tg.length : Int) + (r.tr.length : Int) := IntWalk.i64_in _ (by omega)
  go_enter Tryd.func22, Tryd.ntmps22
  go_upto_region 1 with (fail)
  generalize w.alloc (.cells #[.string (bs r.m), .string (bs r.h), .string (bs r.p), .slice A r.L.length c, .string (bs r.b), .string (bs r.tg), .int .i64 r.st, .int .i64 r.ve, .string (bs r.tr), .int .i64 r.sa, .int .i64 r.en] 44) = v0 at *
  go_wp2_with fail
  refine HF.out.mono ?_
  rintro e w1 ⟨rfl, hb1⟩
  have q5 := (hb1.cell (lt_of_cell r5)).trans r5
  have q8 := (hb1.cell (lt_of_cell r8)).trans r8
  have H1 := hid hb1
  clear hb1 r0 r1 r2 r3 r4 r5 r6 r7 r8 r9 r10
  cases z
  · have HC := hid (show few20 r = false by rw [few20, HZ.out]; rfl)
    go_wp2_with fail
    go_returns
    exact ⟨by rw [HC.out]; rfl, estep HB.out H1.out⟩
  · by_cases h4 : r.tg.length + r.tr.length ≤ 400
    · have h5 : (r.tg.length : Int) + (r.tr.length : Int) ≤ 400 := by omega
      have HC := hid (show few20 r = true by rw [few20, HZ.out, decide_eq_true h4]; rfl)
      go_wp2_with fail
      go_returns
      exact ⟨by rw [HC.out]; first | rfl | simp_all, estep HB.out H1.out⟩
    · have h5 : ¬ (r.tg.length : Int) + (r.tr.length : Int) ≤ 400 := by omega
      have HC := hid (show few20 r = false by rw [few20, decide_eq_false h4]; simp)
      go_wp2_with fail
      go_returns
      exact ⟨by rw [HC.out]; first | rfl | simp_all, estep HB.out H1.out⟩
def kRec : Rec := ⟨[], [], [47, 120], [([107], [34])], [], [], 404, 0, [], 3, 9⟩
def kPts : List Prt := [(3, []), (0, [32]), (5, []), (0, [32]), (8, []), (9, [107]), (9, [122]), (7, [])]
theorem kRend : rendL kRec kPts = [47, 120, 32, 52, 48, 52, 32, 54, 92, 34, 45, 45] := by
  have e : allL kRec kPts = escS [47, 120] ++ ([32] ++ (Lib.itoa 404 ++ ([32] ++ (Lib.itoa 6 ++ (escS [34] ++ (escS [] ++ (escS [] ++ []))))))) := rfl
  have e1 : Lib.itoa 404 = [52, 48, 52] := by simp [Lib.itoa, Lib.decDigits]
  have e2 : Lib.itoa 6 = [54] := by simp [Lib.itoa, Lib.decDigits]
  rw [rendL, e, e1, e2]
  decide
theorem kOk : okRec kRec := by
  refine ⟨⟨by decide, by decide, by decide, by decide, by decide⟩, ?_, ⟨⟨by decide, by decide⟩, ⟨by decide, by decide⟩, ⟨by decide, by decide⟩, ⟨by decide, by decide⟩⟩, by decide⟩
  intro x hx
  simp only [kRec, List.mem_singleton] at hx
  subst hx
  decide
set_option maxRecDepth 100000 in
set_option maxHeartbeats 2000000 in
theorem known20_any (w : World) (E : EnvL w) :
    Calls Tryd.prog 18 #[] w fun e w' => e = .returned (.bool true) ∧ Below w.heap.size w w' := by
  have c0 : (ByteArray.mk #[]) = bs [] := rfl
  have c1 : (ByteArray.mk #[97, 34, 98, 1]) = bs [97, 34, 98, 1] := rfl
  have c2 : (ByteArray.mk #[97, 92, 34, 98, 92, 120, 48, 49]) = bs [97, 92, 34, 98, 92, 120, 48, 49] := rfl
  have c3 : (ByteArray.mk #[45]) = bs [45] := rfl
  have c4 : (ByteArray.mk #[47, 120, 32, 52, 48, 52, 32, 54, 92, 34, 45, 45]) = bs [47, 120, 32, 52, 48, 52, 32, 54, 92, 34, 45, 45] := rfl
  have c5 : (ByteArray.mk #[107]) = bs [107] := rfl
  have c6 : (ByteArray.mk #[34]) = bs [34] := rfl
  have c7 : (ByteArray.mk #[47, 120]) = bs [47, 120] := rfl
  have c8 : (ByteArray.mk #[32]) = bs [32] := rfl
  have c9 : (ByteArray.mk #[122]) = bs [122] := rfl
  have hA := enew w (.cells #[.string (bs [107]), .string (bs [34])] 91)
  have hB := enew (w.alloc (.cells #[.string (bs [107]), .string (bs [34])] 91)) (.cells #[.string (bs []), .string (bs []), .string (bs [47, 120]), .slice (some ⟨w.heap.size, 0, none⟩) 1 1, .string (bs []), .string (bs []), .int .i64 404, .int .i64 0, .string (bs []), .int .i64 3, .int .i64 9] 44)
  have hC := enew ((w.alloc (.cells #[.string (bs [107]), .string (bs [34])] 91)).alloc (.cells #[.string (bs []), .string (bs []), .string (bs [47, 120]), .slice (some ⟨w.heap.size, 0, none⟩) 1 1, .string (bs []), .string (bs []), .int .i64 404, .int .i64 0, .string (bs []), .int .i64 3, .int .i64 9] 44)) (.cells #[.int .i64 3, .string (bs []), .int .i64 0, .string (bs [32]), .int .i64 5, .string (bs []), .int .i64 0, .string (bs [32]), .int .i64 8, .string (bs []), .int .i64 9, .string (bs [107]), .int .i64 9, .string (bs [122]), .int .i64 7, .string (bs [])] 35)
  have kA : Bk (w.alloc (.cells #[.string (bs [107]), .string (bs [34])] 91)) w.heap.size 91 #[.string (bs [107]), .string (bs [34])] := Bk.new _ _ _
  have kB : BRc ((w.alloc (.cells #[.string (bs [107]), .string (bs [34])] 91)).alloc (.cells #[.string (bs []), .string (bs []), .string (bs [47, 120]), .slice (some ⟨w.heap.size, 0, none⟩) 1 1, .string (bs []), .string (bs []), .int .i64 404, .int .i64 0, .string (bs []), .int .i64 3, .int .i64 9] 44)) (w.alloc (.cells #[.string (bs [107]), .string (bs [34])] 91)).heap.size kRec (.slice (some ⟨w.heap.size, 0, none⟩) 1 1) := Bk.new _ _ _
  have kC : Bk (((w.alloc (.cells #[.string (bs [107]), .string (bs [34])] 91)).alloc (.cells #[.string (bs []), .string (bs []), .string (bs [47, 120]), .slice (some ⟨w.heap.size, 0, none⟩) 1 1, .string (bs []), .string (bs []), .int .i64 404, .int .i64 0, .string (bs []), .int .i64 3, .int .i64 9] 44)).alloc (.cells #[.int .i64 3, .string (bs []), .int .i64 0, .string (bs [32]), .int .i64 5, .string (bs []), .int .i64 0, .string (bs [32]), .int .i64 8, .string (bs []), .int .i64 9, .string (bs [107]), .int .i64 9, .string (bs [122]), .int .i64 7, .string (bs [])] 35)) ((w.alloc (.cells #[.string (bs [107]), .string (bs [34])] 91)).alloc (.cells #[.string (bs []), .string (bs []), .string (bs [47, 120]), .slice (some ⟨w.heap.size, 0, none⟩) 1 1, .string (bs []), .string (bs []), .int .i64 404, .int .i64 0, .string (bs []), .int .i64 3, .int .i64 9] 44)).heap.size 35 #[.int .i64 3, .string (bs []), .int .i64 0, .string (bs [32]), .int .i64 5, .string (bs []), .int .i64 0, .string (bs [32]), .int .i64 8, .string (bs []), .int .i64 9, .string (bs [107]), .int .i64 9, .string (bs [122]), .int .i64 7, .string (bs [])] := Bk.new _ _ _
  rw [World.size_alloc] at kB
  rw [World.size_alloc, World.size_alloc] at kC
  have kB3 := kB.up hC
  have kA3 := (kA.up hB).up hC
  have hV : HV (((w.alloc (.cells #[.string (bs [107]), .string (bs [34])] 91)).alloc (.cells #[.string (bs []), .string (bs []), .string (bs [47, 120]), .slice (some ⟨w.heap.size, 0, none⟩) 1 1, .string (bs []), .string (bs []), .int .i64 404, .int .i64 0, .string (bs []), .int .i64 3, .int .i64 9] 44)).alloc (.cells #[.int .i64 3, .string (bs []), .int .i64 0, .string (bs [32]), .int .i64 5, .string (bs []), .int .i64 0, .string (bs [32]), .int .i64 8, .string (bs []), .int .i64 9, .string (bs [107]), .int .i64 9, .string (bs [122]), .int .i64 7, .string (bs [])] 35)) (.slice (some ⟨w.heap.size, 0, none⟩) 1 1) kRec.L := by
    refine ⟨some ⟨w.heap.size, 0, none⟩, 1, rfl, fun k hk => ?_⟩
    obtain rfl : k = 0 := by have : k < 1 := hk; omega
    exact ⟨w.heap.size, 0, rfl, by simp; omega, Bk.cell kA3 0, Bk.cell kA3 1⟩
  have hP : PtV (((w.alloc (.cells #[.string (bs [107]), .string (bs [34])] 91)).alloc (.cells #[.string (bs []), .string (bs []), .string (bs [47, 120]), .slice (some ⟨w.heap.size, 0, none⟩) 1 1, .string (bs []), .string (bs []), .int .i64 404, .int .i64 0, .string (bs []), .int .i64 3, .int .i64 9] 44)).alloc (.cells #[.int .i64 3, .string (bs []), .int .i64 0, .string (bs [32]), .int .i64 5, .string (bs []), .int .i64 0, .string (bs [32]), .int .i64 8, .string (bs []), .int .i64 9, .string (bs [107]), .int .i64 9, .string (bs [122]), .int .i64 7, .string (bs [])] 35)) (.slice (some ⟨w.heap.size + 1 + 1, 0, none⟩) 8 8) kPts :=
    ⟨some ⟨w.heap.size + 1 + 1, 0, none⟩, 8, rfl, (gx_new encPt_len kC rfl).imp fun b hb => by rw [hb]; simp⟩
  have HB := hid (estep (estep hA hB) hC)
  have HE := hid (E.up (estep (estep hA hB) hC))
  have HKB := hid kB3
  have HV := hid hV
  have HP := hid hP
  have HE1 : Hid (∀ w2 : World, Calls Tryd.prog 19 #[.string (ByteArray.mk #[97, 34, 98, 1])] w2 fun e w' => e = .returned (.string (bs [97, 92, 34, 98, 92, 120, 48, 49])) ∧ Below w2.heap.size w2 w') := hid fun w2 => escape_any [97, 34, 98, 1] (by decide) w2
  have HE2 : Hid (∀ w2 : World, Calls Tryd.prog 19 #[.string (ByteArray.mk #[])] w2 fun e w' => e = .returned (.string (bs [45])) ∧ Below w2.heap.size w2 w') := hid fun w2 => escape_any [] (by decide) w2
  have HR := hid (fun w2 (h2 : Below (((w.alloc (.cells #[.string (bs [107]), .string (bs [34])] 91)).alloc (.cells #[.string (bs []), .string (bs []), .string (bs [47, 120]), .slice (some ⟨w.heap.size, 0, none⟩) 1 1, .string (bs []), .string (bs []), .int .i64 404, .int .i64 0, .string (bs []), .int .i64 3, .int .i64 9] 44)).alloc (.cells #[.int .i64 3, .string (bs []), .int .i64 0, .string (bs [32]), .int .i64 5, .string (bs []), .int .i64 0, .string (bs [32]), .int .i64 8, .string (bs []), .int .i64 9, .string (bs [107]), .int .i64 9, .string (bs [122]), .int .i64 7, .string (bs [])] 35)).heap.size (((w.alloc (.cells #[.string (bs [107]), .string (bs [34])] 91)).alloc (.cells #[.string (bs []), .string (bs []), .string (bs [47, 120]), .slice (some ⟨w.heap.size, 0, none⟩) 1 1, .string (bs []), .string (bs []), .int .i64 404, .int .i64 0, .string (bs []), .int .i64 3, .int .i64 9] 44)).alloc (.cells #[.int .i64 3, .string (bs []), .int .i64 0, .string (bs [32]), .int .i64 5, .string (bs []), .int .i64 0, .string (bs [32]), .int .i64 8, .string (bs []), .int .i64 9, .string (bs [107]), .int .i64 9, .string (bs [122]), .int .i64 7, .string (bs [])] 35)) w2) => (show Calls Tryd.prog 25 #[.slice (some ⟨w.heap.size + 1 + 1, 0, none⟩) 8 8, .agg #[.string (bs []), .string (bs []), .string (bs [47, 120]), .slice (some ⟨w.heap.size, 0, none⟩) 1 1, .string (bs []), .string (bs []), .int .i64 404, .int .i64 0, .string (bs []), .int .i64 3, .int .i64 9]] w2 fun e w' => e = .returned (.string (bs [47, 120, 32, 52, 48, 52, 32, 54, 92, 34, 45, 45])) ∧ Below w2.heap.size w2 w' from by
    have := render_any kPts _ kRec _ w2 kOk (by decide) (by decide) (HP.out.up h2) (HV.out.up h2) (HE.out.up h2)
    rw [kRend] at this
    exact this))
  have HVL := hid (fun w2 (h2 : Below (((w.alloc (.cells #[.string (bs [107]), .string (bs [34])] 91)).alloc (.cells #[.string (bs []), .string (bs []), .string (bs [47, 120]), .slice (some ⟨w.heap.size, 0, none⟩) 1 1, .string (bs []), .string (bs []), .int .i64 404, .int .i64 0, .string (bs []), .int .i64 3, .int .i64 9] 44)).alloc (.cells #[.int .i64 3, .string (bs []), .int .i64 0, .string (bs [32]), .int .i64 5, .string (bs []), .int .i64 0, .string (bs [32]), .int .i64 8, .string (bs []), .int .i64 9, .string (bs [107]), .int .i64 9, .string (bs [122]), .int .i64 7, .string (bs [])] 35)).heap.size (((w.alloc (.cells #[.string (bs [107]), .string (bs [34])] 91)).alloc (.cells #[.string (bs []), .string (bs []), .string (bs [47, 120]), .slice (some ⟨w.heap.size, 0, none⟩) 1 1, .string (bs []), .string (bs []), .int .i64 404, .int .i64 0, .string (bs []), .int .i64 3, .int .i64 9] 44)).alloc (.cells #[.int .i64 3, .string (bs []), .int .i64 0, .string (bs [32]), .int .i64 5, .string (bs []), .int .i64 0, .string (bs [32]), .int .i64 8, .string (bs []), .int .i64 9, .string (bs [107]), .int .i64 9, .string (bs [122]), .int .i64 7, .string (bs [])] 35)) w2) => (show Calls Tryd.prog 23 #[.agg #[.int .i64 99, .string (bs [])], .agg #[.string (bs []), .string (bs []), .string (bs [47, 120]), .slice (some ⟨w.heap.size, 0, none⟩) 1 1, .string (bs []), .string (bs []), .int .i64 404, .int .i64 0, .string (bs []), .int .i64 3, .int .i64 9]] w2 fun e w' => e = .returned (.string (bs [])) ∧ Below w2.heap.size w2 w' from
    val20_any (99, []) kRec _ w2 kOk (by decide) (HV.out.up h2) (HE.out.up h2)))
  clear hA hB hC kA kB kC kB3 kA3 hV hP E
  go_enter Tryd.func18, Tryd.ntmps18
  go_upto_region 3 with (fail)
  generalize (((w.alloc (.cells #[.string (bs [107]), .string (bs [34])] 91)).alloc (.cells #[.string (bs []), .string (bs []), .string (bs [47, 120]), .slice (some ⟨w.heap.size, 0, none⟩) 1 1, .string (bs []), .string (bs []), .int .i64 404, .int .i64 0, .string (bs []), .int .i64 3, .int .i64 9] 44)).alloc (.cells #[.int .i64 3, .string (bs []), .int .i64 0, .string (bs [32]), .int .i64 5, .string (bs []), .int .i64 0, .string (bs [32]), .int .i64 8, .string (bs []), .int .i64 9, .string (bs [107]), .int .i64 9, .string (bs [122]), .int .i64 7, .string (bs [])] 35)) = v0 at *
  have HB0 := hid (Below.refl v0.heap.size v0)
  go_wp2_with fail
  refine (HE1.out _).mono ?_
  rintro e w1 ⟨rfl, hb1⟩
  have H1 := hid (estep HB0.out hb1)
  clear hb1
  go_wp2_with fail
  refine (HE2.out _).mono ?_
  rintro e w2 ⟨rfl, hb2⟩
  have H2 := hid (estep H1.out hb2)
  clear hb2
  obtain ⟨r0, r1, r2, r3, r4, r5, r6, r7, r8, r9, r10⟩ := (HKB.out.up H2.out).cells
  simp only [kRec] at r0 r1 r2 r4 r5 r6 r7 r8 r9 r10
  go_wp2_with fail
  refine (HR.out _ H2.out).mono ?_
  rintro e w3 ⟨rfl, hb3⟩
  have H3 := hid (estep H2.out hb3)
  clear hb3 r0 r1 r2 r3 r4 r5 r6 r7 r8 r9 r10
  obtain ⟨r0, r1, r2, r3, r4, r5, r6, r7, r8, r9, r10⟩ := (HKB.out.up H3.out).cells
  simp only [kRec] at r0 r1 r2 r4 r5 r6 r7 r8 r9 r10
  go_wp2_with fail
  refine (HVL.out _ H3.out).mono ?_
  rintro e w4 ⟨rfl, hb4⟩
  have H4 := hid (estep H3.out hb4)
  clear hb4 r0 r1 r2 r3 r4 r5 r6 r7 r8 r9 r10
  go_wp2_with fail
  go_returns
  exact ⟨rfl, estep HB.out H4.out⟩
end Go.Proofs.YtmejcchkoflciaaDoor
