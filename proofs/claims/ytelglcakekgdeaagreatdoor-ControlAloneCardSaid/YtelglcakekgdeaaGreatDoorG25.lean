/- Texts put together: Ro Qe Ko Kb Ru Kc Kd Ke Kf Kg Kh. -/
import Derived.Test.YtelglcakekgdeaaGreatDoorG24
import Derived.Test.YtelglcakekgdeaaGreatDoorG23
import Derived.Test.YtelglcakekgdeaaGreatDoorG19
import Derived.Test.YtelglcakekgdeaaGreatDoorG18
import Derived.Test.YtelglcakekgdeaaGreatDoorG15
import Derived.Deep.RegionHeld3
namespace Go.Proofs.YtelglcakekgdeaaGreatDoor
set_option linter.unusedVariables false
set_option linter.unusedSimpArgs false
open Go.RowKit Go.Joins

def k12a : Ru := ⟨1, none, 0, 0, [], [97], 0, 0, 0, 0, 0, [], 0⟩
def k12b (g : Nat) : Ru := ⟨5, some ⟨g, 0, none⟩, 1, 1, [⟨2, [], [120]⟩], [98], 0, 0, 0, 0, 0, [], 0⟩
def k12c : Ru := ⟨5, none, 0, 0, [], [99], 0, 0, 0, 0, 0, [], 0⟩
def k12U (g : Nat) : List Ru := [k12a, k12b g, k12c]
def k12C (g : Nat) : Array Value := #[.int .i64 1, .slice none 0 0, .string (bs [97]), .int .i64 0, .int .i64 0, .int .i64 0, .int .i64 0, .int .i64 0, .string (bs []), .int .i64 0, .int .i64 5, .slice (some ⟨g, 0, none⟩) 1 1, .string (bs [98]), .int .i64 0, .int .i64 0, .int .i64 0, .int .i64 0, .int .i64 0, .string (bs []), .int .i64 0, .int .i64 5, .slice none 0 0, .string (bs [99]), .int .i64 0, .int .i64 0, .int .i64 0, .int .i64 0, .int .i64 0, .string (bs []), .int .i64 0]
theorem k12_row (g i j : Nat) (hi : i < 3) (hj : j < 10) : (k12C g)[i * 10 + j]? = (encR ((k12U g)[i]'hi))[j]? := by
  match i, hi, j, hj with
  | 0, _, 0, _ => rfl
  | 0, _, 1, _ => rfl
  | 0, _, 2, _ => rfl
  | 0, _, 3, _ => rfl
  | 0, _, 4, _ => rfl
  | 0, _, 5, _ => rfl
  | 0, _, 6, _ => rfl
  | 0, _, 7, _ => rfl
  | 0, _, 8, _ => rfl
  | 0, _, 9, _ => rfl
  | 1, _, 0, _ => rfl
  | 1, _, 1, _ => rfl
  | 1, _, 2, _ => rfl
  | 1, _, 3, _ => rfl
  | 1, _, 4, _ => rfl
  | 1, _, 5, _ => rfl
  | 1, _, 6, _ => rfl
  | 1, _, 7, _ => rfl
  | 1, _, 8, _ => rfl
  | 1, _, 9, _ => rfl
  | 2, _, 0, _ => rfl
  | 2, _, 1, _ => rfl
  | 2, _, 2, _ => rfl
  | 2, _, 3, _ => rfl
  | 2, _, 4, _ => rfl
  | 2, _, 5, _ => rfl
  | 2, _, 6, _ => rfl
  | 2, _, 7, _ => rfl
  | 2, _, 8, _ => rfl
  | 2, _, 9, _ => rfl
theorem k12_rv (w : World) (g gp : Nat) (h : Bk w g 72 (k12C gp)) (hp : Bk w gp 83 #[.int .i64 2, .string (bs []), .string (bs [120])]) (hg : g < w.heap.size) (hgp : gp < w.heap.size) : RV w (.slice (some ⟨g, 0, none⟩) 3 3) (k12U gp) := by
  refine ⟨some ⟨g, 0, none⟩, 3, rfl, fun i hi => ⟨g, 0, rfl, hg, fun j hj => ?_⟩, fun u hu => ?_, by simp, by simp [k12U], by simp [k12U]⟩
  · rw [Nat.zero_add, Bk.cell h]
    exact k12_row gp i j hi hj
  · simp only [k12U, List.mem_cons, List.mem_nil_iff, or_false] at hu
    rcases hu with rfl | rfl | rfl
    · exact PV.nil _ _
    · refine ⟨some ⟨gp, 0, none⟩, 1, rfl, fun k hk => ?_, by simp, by simp [k12b], by simp [k12b]⟩
      match k, hk with
      | 0, _ => exact ⟨gp, 0, rfl, hgp, Bk.cell hp 0, Bk.cell hp 1, Bk.cell hp 2⟩
    · exact PV.nil _ _
theorem k12_ord (g : Nat) : ordB rkS ((k12U g).map Ru.sem) = [(k12b 0).sem, k12c.sem, k12a.sem] := by
  show ordB rkS [k12a.sem, (k12b 0).sem, k12c.sem] = _
  decide +kernel
end Go.Proofs.YtelglcakekgdeaaGreatDoor
namespace Go.Proofs.YtelglcakekgdeaaGreatDoor
set_option linter.unusedVariables false
set_option linter.unusedSimpArgs false
open Go.RowKit Go.Joins

theorem fewRu_len {l : List Rs} (h : fewRu l = true) : l.length ≤ 40 := by
  unfold fewRu at h
  simp at h
  exact h.1
theorem fewRu_ps {U : List Ru} (h : fewRu (U.map Ru.sem) = true) : ∀ u ∈ U, u.ps.length ≤ 20 := fun u hu => by
  have h40 := fewRu_len h
  rw [fewRu_eq h40] at h
  have h1 := List.all_eq_true.1 h u.sem (List.mem_map.2 ⟨u, hu, rfl⟩)
  unfold fewR1 at h1
  rw [Bool.and_eq_true] at h1
  have h2 := h1.1
  unfold fewP at h2
  rw [Bool.and_eq_true] at h2
  have h3 := h2.1
  simp at h3
  exact h3
/-- The definition's Order, as a slice that can be read. -/
theorem rorder_rv (y : Value) (U : List Ru) (w : World) (hy : RV w y U) (hl : U.length ≤ 1000) :
    Calls Tryz.prog 29 #[y] w fun e w' => ∃ v V, e = .returned v ∧ (RV w' v V ∧ V.map Ru.sem = ordB rkS (U.map Ru.sem)) ∧ Below w.heap.size w w' := by
  obtain ⟨A, c, rfl, hx, hp, hA, hlc, hl9⟩ := hy
  refine (rorder_any A c U w hx hl).mono ?_
  rintro e w' ⟨v, rfl, hg, hb⟩
  obtain ⟨A', cap, rfl, hgx, hA', hlc', hcm⟩ := GB.reads encR_len hg
  refine ⟨_, ordB rkR U, rfl, ⟨⟨A', cap, rfl, hgx.imp fun b hb => hb.2, fun u hu => (hp.up hb) u (mem_ordB hu), hA', hlc', by unfold maxLen at hcm; omega⟩, ordB_sem U⟩, hb⟩
theorem rsame_rv (y1 y2 : Value) (U V : List Ru) (w : World) (he : U.map Ru.sem = V.map Ru.sem) (h1 : RV w y1 U) (h2 : RV w y2 V) (hl : U.length ≤ 1000000) :
    Calls Tryz.prog 20 #[y1, y2] w fun e w' => e = .returned (.bool true) ∧ Below w.heap.size w w' := by
  obtain ⟨A, c, rfl, hx, hp, -⟩ := h1
  obtain ⟨B, d, rfl, hx2, hp2, -⟩ := h2
  exact rsame_any A B c d U V w he hx hp hx2 hp2 hl
theorem keepBQ {v w' : World} {g : Nat} {m h p b : List UInt8} {x : Value} (k : BQ v g m h p x b) (hz : Below v.heap.size v w') : w'.cell? ⟨g, 0, none⟩ = some (.string (bs m)) ∧ w'.cell? ⟨g, 1, none⟩ = some (.string (bs h)) ∧ w'.cell? ⟨g, 2, none⟩ = some (.string (bs p)) ∧ w'.cell? ⟨g, 3, none⟩ = some x ∧ w'.cell? ⟨g, 4, none⟩ = some (.string (bs b)) ∧ Below v.heap.size v w' := by
  obtain ⟨q0, q1, q2, q3, q4⟩ := (k.up hz).cells
  exact ⟨q0, q1, q2, q3, q4, hz⟩
end Go.Proofs.YtelglcakekgdeaaGreatDoor
namespace Go.Proofs.YtelglcakekgdeaaGreatDoor
set_option linter.unusedVariables false
set_option linter.unusedSimpArgs false
open Go.RowKit Go.Joins

/-- A slice of rules that can be read, in blocks that N allows. -/
def RN (w : World) (N : Nat → Prop) (y : Value) (U : List Ru) : Prop := ∃ A c, y = .slice A U.length c ∧ GX encR 10 w N A U ∧ RP w N U ∧ (A = none → c = 0) ∧ U.length ≤ c ∧ U.length ≤ 9223372036854775807
theorem RN.same {w w' : World} {N : Nat → Prop} {y : Value} {U : List Ru} (h : RN w N y U) (hs : ∀ b, N b → w'.heap[b]? = w.heap[b]?) : RN w' N y U := by
  obtain ⟨A, c, e, h1, h2, h3⟩ := h
  exact ⟨A, c, e, h1.same hs, h2.same hs, h3⟩
theorem RN.imp {w : World} {N M : Nat → Prop} {y : Value} {U : List Ru} (h : RN w N y U) (hs : ∀ b, N b → M b) : RN w M y U := by
  obtain ⟨A, c, e, h1, h2, h3⟩ := h
  exact ⟨A, c, e, h1.imp hs, h2.imp hs, h3⟩
theorem RN.rv {w : World} {N : Nat → Prop} {y : Value} {U : List Ru} (h : RN w N y U) (hs : ∀ b, N b → b < w.heap.size) : RV w y U := h.imp hs
theorem RV.rn {w : World} {y : Value} {U : List Ru} (h : RV w y U) : RN w (· < w.heap.size) y U := h
set_option maxRecDepth 100000 in
set_option maxHeartbeats 8000000 in
theorem order_in (N : Nat → Prop) (y : Value) (U : List Ru) (w : World) (hy : RN w N y U) (hN : ∀ b, N b → b < w.heap.size) (h40 : U.length ≤ 40) (hps : ∀ u ∈ U, u.ps.length ≤ 1000000) :
    Calls Tryz.prog 27 #[y] w fun e w' => ∃ v V, e = .returned v ∧ (RN w' (fun b => (w.heap.size ≤ b ∧ b < w'.heap.size) ∨ N b) v V ∧ V.map Ru.sem = ordB rkS (U.map Ru.sem)) ∧ Below w.heap.size w w' := by
  obtain ⟨A, c, rfl, hx, hp, hA, hlc, hl9⟩ := hy
  have HCL := hid (cloneR_any A c U w (hx.imp hN) hA (by omega))
  have HN := hid hN
  have HP := hid hp
  have HPS := hid hps
  clear hx hp hA hps hN
  go_enter Tryz.func27, Tryz.ntmps27
  go_wp2_with fail
  refine HCL.out.mono ?_
  rintro e w1 ⟨v1, rfl, hown, hb1⟩
  rcases GB.form encR_len hown with ⟨rfl, rfl⟩ | ⟨g, cap, rfl, hg1, hg2, hg3, hg4, hg5⟩
  · have HB1 := hid hb1
    clear hown hb1
    go_wp2_with fail
    go_loopg [9] 1 (fun g1 vi wr => vi = .int .i64 0 ∧ wr = w1)
    case atStart => exact ⟨rfl, rfl⟩
    case round =>
      obtain ⟨rfl, rfl⟩ := hrel
      go_wp2_with fail
      refine (sortStable_nil _).mono ?_
      rintro e w2 ⟨rfl, rfl⟩
      go_wp2_with fail
      go_returns
      exact ⟨_, [], rfl, ⟨⟨none, 0, rfl, GX.nil _ _ _, (fun u hu => by cases hu), fun _ => rfl, Nat.le_refl _, by simp⟩, rfl⟩, HB1.out⟩
  · have hGW : GW encR 10 w1 g 0 U := ⟨hg2, fun t ht => by rw [Nat.zero_add]; exact hg5 t ht⟩
    have hRP : RP w1 (fun b => b < w1.heap.size ∧ b ≠ g ∧ (w.heap.size ≤ b ∨ N b)) U := (HP.out.same fun b hb => hb1.block b (HN.out b hb)).imp fun b hb => ⟨Nat.lt_of_lt_of_le (HN.out b hb) hb1.size, by have := HN.out b hb; omega, Or.inr hb⟩
    have HB1 := hid hb1
    have HG := hid (And.intro hg1 (And.intro hg3 hg4))
    have HST := hid (And.intro hGW hRP)
    clear hown hb1 hg1 hg3 hg4 hg5 hGW hRP hg2
    generalize hnU : U.length = n at *
    have HNU := hid hnU
    clear hnU
    go_wp2_with fail
    go_loopg [9] n (fun g1 vi wr => ∃ (i : Nat) (C : List Ru), vi = .int .i64 i ∧ i ≤ n ∧ n - i ≤ g1 ∧ Hid (C.length = n ∧ C.map Ru.sem = U.map Ru.sem ∧ GW encR 10 wr g 0 C ∧ RP wr (fun b => b < wr.heap.size ∧ b ≠ g ∧ (w.heap.size ≤ b ∨ N b)) C ∧ Below w.heap.size w wr))
    case atStart => exact ⟨0, U, rfl, by omega, by omega, ⟨HNU.out, rfl, HST.out.1, HST.out.2, HB1.out⟩⟩
    case round =>
      obtain ⟨i, C, rfl, hin, hgk, HI⟩ := hrel
      by_cases hlt : i < n
      · have hltz : (i : Int) < (n : Int) := by omega
        have hi0 : (0 : Int) ≤ (i : Int) := by omega
        obtain ⟨f1, f2, f3, f4, f5⟩ := HI.out
        have hiC : i < C.length := by omega
        obtain ⟨u, hu⟩ : ∃ u, C[i]? = some u := ⟨_, List.getElem?_eq_getElem hiC⟩
        have humem : u ∈ C := List.mem_of_getElem? hu
        have hps2 : u.ps.length ≤ 1000000 := by
          have h1 : u.sem ∈ C.map Ru.sem := List.mem_map.2 ⟨u, humem, rfl⟩
          rw [f2] at h1
          obtain ⟨u', hu', he⟩ := List.mem_map.1 h1
          have := HPS.out u' hu'
          have e2 : u'.ps = u.ps := congrArg Rs.ps he
          rwa [e2] at this
        have hcell : wr.cell? ⟨g, i * 10 + 1, none⟩ = some (.slice u.xa u.xn u.xc) := by
          have h1 := f3.2 (i * 10 + 1) (idx_lt (k := 10) hiC (by omega))
          rw [Nat.zero_add] at h1
          have h2 := gvals_at encR 10 encR_len C i hiC 1 (by omega)
          rw [h1.1, h2]
          obtain ⟨_, rfl⟩ := List.getElem?_eq_some_iff.1 hu
          rfl
        have hfz : wr.frozen? ⟨g, i * 10 + 1, none⟩ = false := by
          have h1 := f3.2 (i * 10 + 1) (idx_lt (k := 10) hiC (by omega))
          rw [Nat.zero_add] at h1
          exact h1.2
        have hcp := cloneP_any u.x u.ps wr ((f4 u humem).imp fun b hb => hb.1) hps2
        have HCP := hid hcp
        have HU := hid (And.intro hu humem)
        have HF := hid (And.intro f1 (And.intro f2 (And.intro f3 (And.intro f4 f5))))
        have hgs := f3.1
        clear f1 f2 f3 f4 f5 hiC hu humem hps2 hcp HI
        unfold Ru.x at HCP
        go_wp2_with fail
        refine HCP.out.mono ?_
        rintro e w2 ⟨v2, rfl, hown2, hb2⟩
        obtain ⟨A2, c2, rfl, hgx2, hA2, hlc2, hcm2⟩ := GB.reads encP_len hown2
        have hcell2 : w2.cell? ⟨g, i * 10 + 1, none⟩ = some (.slice u.xa u.xn u.xc) := (hb2.cell (p := ⟨g, i * 10 + 1, none⟩) hgs).trans hcell
        have hfz2 : w2.frozen? ⟨g, i * 10 + 1, none⟩ = false := (hb2.frozen (p := ⟨g, i * 10 + 1, none⟩) hgs).trans hfz
        have H2 := hid (And.intro hgx2 (And.intro hA2 (And.intro hlc2 (And.intro hcm2 hb2))))
        clear hown2 hgx2 hA2 hlc2 hcm2 hb2 hcell hfz
        go_wp2_with fail
        go_roundg (n - (i + 1))
        case measure => omega
        case rel =>
          obtain ⟨f1, f2, f3, f4, f5⟩ := HF.out
          obtain ⟨hu, humem⟩ := HU.out
          obtain ⟨hgx2, hA2, hlc2, hcm2, hb2⟩ := H2.out
          have hg2 : GW encR 10 w2 g 0 C := f3.same (hb2.block g f3.1) hb2.size
          have hsz := hb2.size
          have hkeep : ∀ b, b ≠ g → (w2.setCell ⟨g, i * 10 + 1, none⟩ (.slice A2 u.ps.length c2)).heap[b]? = w2.heap[b]? := fun b hb => Below.heap_setCell _ _ _ b hb
          refine ⟨i + 1, C.set i (u.with_ A2 u.ps.length c2), by go_num, by omega, by omega, ⟨by simp; exact f1, ?_, hg2.cell1 hu A2 u.ps.length c2, fun z hz => ?_, ?_⟩⟩
          · rw [List.map_set, Ru.with_sem, ← f2]
            have : (C.map Ru.sem)[i]? = some u.sem := by rw [List.getElem?_map, hu]; rfl
            obtain ⟨h1, h2⟩ := List.getElem?_eq_some_iff.1 this
            rw [← h2, List.set_getElem_self]
          · rw [World.size_setCell]
            rcases List.mem_or_eq_of_mem_set hz with hz | rfl
            · have h1 := (f4 z hz).same (w' := w2) fun b hb => hb2.block b hb.1
              exact (h1.imp (M := fun b => b < w2.heap.size ∧ b ≠ g ∧ (w.heap.size ≤ b ∨ N b)) fun b hb => ⟨Nat.lt_of_lt_of_le hb.1 hsz, hb.2⟩).same fun b hb => hkeep b hb.2.1
            · refine ⟨A2, c2, rfl, ?_, hA2, hlc2, by unfold maxLen at hcm2; show u.ps.length ≤ _; omega⟩
              have h1 : PX w2 (fun b => b < w2.heap.size ∧ b ≠ g ∧ (w.heap.size ≤ b ∨ N b)) A2 u.ps := (hgx2.imp fun b hb => ⟨hb.2, by have := f3.1; have := hb.1; omega, Or.inl (Nat.le_trans f5.size hb.1)⟩).px
              exact h1.same fun b hb => hkeep b hb.2.1
          · exact (f5.trans (hb2.mono (by have := f5.size; omega))).setCell (by have := HG.out.1; exact this) _
      · obtain rfl : i = n := by omega
        have hltz : ¬ (i : Int) < (i : Int) := by omega
        obtain ⟨f1, f2, f3, f4, f5⟩ := HI.out
        have hs := sortStable_any g cap i C f1.symm h40 wr f3
        have HS := hid hs
        have HF := hid (And.intro f1 (And.intro f2 (And.intro f3 (And.intro f4 f5))))
        clear hs f1 f2 f3 f4 f5 HI
        go_wp2_with fail
        refine HS.out.mono ?_
        rintro e w2 ⟨rfl, hg2, ho2⟩
        have H2 := hid (And.intro hg2 ho2)
        clear hg2 ho2
        go_wp2_with fail
        go_returns
        obtain ⟨f1, f2, f3, f4, f5⟩ := HF.out
        obtain ⟨hg2, ho2⟩ := H2.out
        refine ⟨_, ordB rkR C, rfl, ⟨⟨some ⟨g, 0, none⟩, cap, by rw [ordB_length, f1]; rfl, ?_, ?_, fun h => (by cases h), by rw [ordB_length, f1]; have := HG.out.2.1; exact this, by rw [ordB_length, f1]; omega⟩, by rw [ordB_sem, f2]⟩, ?_⟩
        · intro j hj
          refine ⟨g, 0, rfl, Or.inl ⟨HG.out.1, hg2.1⟩, fun q hq => ?_⟩
          have h1 := hg2.2 (j * 10 + q) (idx_lt (k := 10) hj hq)
          rw [h1.1]
          exact gvals_at encR 10 encR_len _ j hj q hq
        · have h1 : RP w2 (fun b => b < w2.heap.size ∧ b ≠ g ∧ (w.heap.size ≤ b ∨ N b)) C := (f4.same fun b hb => ho2.block b hb.1 hb.2.1).imp fun b hb => ⟨Nat.lt_of_lt_of_le hb.1 ho2.size, hb.2⟩
          exact (h1.imp fun b hb => hb.2.2.elim (fun h => Or.inl ⟨h, hb.1⟩) Or.inr).sub fun u hu => mem_ordB hu
        · have hg1 := HG.out.1
          have hsz := f5.size
          exact ⟨ho2.os.trans f5.os, ho2.tape.trans f5.tape, ho2.output.trans f5.output, Nat.le_trans hsz ho2.size, fun k hk => (ho2.block k (by omega) (by omega)).trans (f5.block k hk)⟩
theorem rorder_in (N : Nat → Prop) (y : Value) (U : List Ru) (w : World) (hy : RN w N y U) (hN : ∀ b, N b → b < w.heap.size) (hl : U.length ≤ 1000) :
    Calls Tryz.prog 29 #[y] w fun e w' => ∃ v V, e = .returned v ∧ (RN w' (fun b => (w.heap.size ≤ b ∧ b < w'.heap.size) ∨ N b) v V ∧ V.map Ru.sem = ordB rkS (U.map Ru.sem)) ∧ Below w.heap.size w w' := by
  obtain ⟨A, c, rfl, hx, hp, hA, hlc, hl9⟩ := hy
  refine (rorder_any A c U w (hx.imp hN) hl).mono ?_
  rintro e w' ⟨v, rfl, hg, hb⟩
  obtain ⟨A', cap, rfl, hgx, hA', hlc', hcm⟩ := GB.reads encR_len hg
  refine ⟨_, ordB rkR U, rfl, ⟨⟨A', cap, rfl, hgx.imp fun b hb => Or.inl hb, fun u hu => ((hp u (mem_ordB hu)).same fun b hb' => hb.block b (hN b hb')).imp fun b hb => Or.inr hb, hA', hlc', by unfold maxLen at hcm; omega⟩, ordB_sem U⟩, hb⟩
end Go.Proofs.YtelglcakekgdeaaGreatDoor
namespace Go.Proofs.YtelglcakekgdeaaGreatDoor
set_option linter.unusedVariables false
set_option linter.unusedSimpArgs false
open Go.RowKit Go.Joins

/-- What a function value says of rules: an error's number; it may make memory. -/
def FR (w0 : World) (fv : Value) (U : List Ru) (p : Rs → Int) : Prop :=
  ∃ (F : Nat) (c : Value), fv = .func (.func F) #[] #[c] ∧ (∀ args w, (callFunc F args).run Tryz.prog w = .ok (.enter F args) w) ∧
    ∀ u ∈ U, ∀ w, Below w0.heap.size w0 w → Calls Tryz.prog F #[.agg #[.int .i64 u.rank, .slice u.xa u.xn u.xc, .string (bs u.tg), .int .i64 u.ap, .int .i64 u.st, .int .i64 u.dp, .int .i64 u.dt, .int .i64 u.mp, .string (bs u.mi), .int .i64 u.sm], c] w fun e w' => e = .returned (.int .i64 (p u.sem)) ∧ Below w.heap.size w w'
set_option maxRecDepth 100000 in
set_option maxHeartbeats 4000000 in
theorem ocheck_any (y : Value) (f : List UInt8) (fv : Value) (U : List Ru) (p : Rs → Int) (w : World) (hy : RV w y U) (hf : f.length ≤ 140737488351232) (hF : FR w fv U p) {z : Int} (H : Hid (chkC p f (U.map Ru.sem) = z)) :
    Calls Tryz.prog 34 #[.agg #[y, .string (bs f)], fv] w fun e w' => e = .returned (.int .i64 z) ∧ Below w.heap.size w w' := by
  have hnot := notB'
  obtain ⟨A, c, rfl, hgx, hrp, hA, hlc, hl9⟩ := hy
  obtain ⟨F, cv, rfl, eg, hF⟩ := hF
  have hb0 := enew w (.cells #[.slice A U.length c, .string (bs f)] 41)
  have hk0 := BF.new w (.slice A U.length c) f
  have H0 := hid (And.intro (hgx.up hb0) (And.intro (hrp.up hb0) hb0))
  have HF := hid (fun u hu w2 (h2 : Below (w.alloc (.cells #[.slice A U.length c, .string (bs f)] 41)).heap.size (w.alloc (.cells #[.slice A U.length c, .string (bs f)] 41)) w2) => hF u hu w2 (estep hb0 h2))
  obtain ⟨zf, hzf⟩ : ∃ b, fmtOK f = b := ⟨_, rfl⟩
  have HFM := hid (fun w2 => oformat_any f w2 hf)
  rw [hzf] at HFM
  have HC := hid (show chkC p f (U.map Ru.sem) = if zf = false then 15 else if 16 < U.length then 8 else fltC p (U.map Ru.sem) by rw [chkC, hzf, List.length_map])
  clear hgx hrp hA hlc hF hb0 hf hzf
  generalize hnU : U.length = n at *
  have HNU := hid hnU
  clear hnU
  go_enter Tryz.func34, Tryz.ntmps34
  go_upto_region 1 with (fail)
  generalize w.alloc (.cells #[.slice A n c, .string (bs f)] 41) = v0 at *
  obtain ⟨k0, k1⟩ := hk0.cells
  cases zf with
  | false =>
    have HZ := hid (show z = 15 by rw [← H.out, HC.out, if_pos rfl])
    go_wp2_with fail
    refine (HFM.out _).mono ?_
    rintro e w1 ⟨rfl, rfl⟩
    go_wp2_with fail
    go_returns
    exact ⟨by rw [HZ.out]; rfl, H0.out.2.2⟩
  | true =>
    by_cases h16 : 16 < n
    · have d16 : decide ((16 : Int) < (n : Int)) = true := decide_eq_true (by omega)
      have HZ := hid (show z = 8 by rw [← H.out, HC.out, if_neg (by simp), if_pos h16])
      clear h16
      go_wp2_with fail
      refine (HFM.out _).mono ?_
      rintro e w1 ⟨rfl, rfl⟩
      go_wp2_with fail
      go_returns
      exact ⟨by rw [HZ.out]; rfl, H0.out.2.2⟩
    · have d16 : decide ((16 : Int) < (n : Int)) = false := decide_eq_false (by omega)
      have HCZ := hid (show fltC p (U.map Ru.sem) = z by rw [← H.out, HC.out, if_neg (by simp), if_neg h16])
      clear HC H h16
      go_wp2_with fail
      refine (HFM.out _).mono ?_
      rintro e w1 ⟨rfl, rfl⟩
      go_wp2_with fail
      clear d16 k0 k1
      go_loopg [21] n (fun g1 vi wr => ∃ i : Nat, vi = .int .i64 i ∧ i ≤ n ∧ n - i ≤ g1 ∧ Hid (fltC p ((U.map Ru.sem).drop i) = z ∧ Below v0.heap.size v0 wr))
      case atStart => exact ⟨0, rfl, by omega, by omega, hid ⟨HCZ.out, Below.refl _ _⟩⟩
      case round =>
        obtain ⟨i, rfl, hin, hgk, HW⟩ := hrel
        by_cases hlt : i < n
        · have hltz : (i : Int) < (n : Int) := by omega
          have hltd : decide ((i : Int) < (n : Int)) = true := decide_eq_true hltz
          have hi0 : (0 : Int) ≤ (i : Int) := by omega
          have hiU : i < U.length := by have := HNU.out; omega
          obtain ⟨u, hu⟩ : ∃ u, U[i]? = some u := ⟨_, List.getElem?_eq_getElem hiU⟩
          have hum : u ∈ U := List.mem_of_getElem? hu
          have HD := hid (fltC_drop p (sem_of hu))
          obtain ⟨bb, oo, rfl, -⟩ := H0.out.1.some_of hiU
          obtain ⟨r0, r1, r2, r3, r4, r5, r6, r7, r8, r9⟩ := rank_cell (H0.out.1.up HW.out.2) hu
          obtain ⟨zz, hz⟩ : ∃ zz, p u.sem = zz := ⟨_, rfl⟩
          have HZ := hid hz
          have HU := hid (fun w2 h2 => HF.out u hum w2 h2)
          rw [hz] at HU
          clear hz hu hum
          have hbE := enew wr (.cells #[.int .i64 u.rank, .slice u.xa u.xn u.xc, .string (bs u.tg), .int .i64 u.ap, .int .i64 u.st, .int .i64 u.dp, .int .i64 u.dt, .int .i64 u.mp, .string (bs u.mi), .int .i64 u.sm] 72)
          have hrE := BR.new wr u
          have HT := hid (estep HW.out.2 hbE)
          clear hbE
          go_upto_region 8 with (fail)
          clear r0 r1 r2 r3 r4 r5 r6 r7 r8 r9
          generalize wr.alloc (.cells #[.int .i64 u.rank, .slice u.xa u.xn u.xc, .string (bs u.tg), .int .i64 u.ap, .int .i64 u.st, .int .i64 u.dp, .int .i64 u.dt, .int .i64 u.mp, .string (bs u.mi), .int .i64 u.sm] 72) = v1 at *
          obtain ⟨r0, r1, r2, r3, r4, r5, r6, r7, r8, r9⟩ := hrE.cells
          clear hrE
          go_wp2_with fail
          refine (HU.out _ HT.out).mono ?_
          rintro e w2 ⟨rfl, hb2⟩
          have HB2 := hid (estep HT.out hb2)
          clear hb2 r0 r1 r2 r3 r4 r5 r6 r7 r8 r9
          by_cases e0 : zz = 0
          · subst e0
            have HFF := hid (show fltC p ((U.map Ru.sem).drop (i + 1)) = z by rw [← HW.out.1, HD.out, if_neg (by rw [HZ.out]; simp)])
            go_wp2_with fail
            go_roundg (n - (i + 1))
            case measure => omega
            case rel => exact ⟨i + 1, by go_num, by omega, by omega, hid ⟨HFF.out, HB2.out⟩⟩
          · have hd0 : decide (zz = 0) = false := decide_eq_false e0
            have hd1 : (!decide (zz = 0)) = true := by rw [hd0]; rfl
            have HZ9 := hid (show z = zz by rw [← HW.out.1, HD.out, if_pos (by rw [HZ.out]; exact e0), HZ.out])
            go_wp2_with fail
            go_returns
            exact ⟨by rw [HZ9.out]; rfl, estep H0.out.2.2 HB2.out⟩
        · obtain rfl : i = n := by omega
          have hltd : decide ((i : Int) < (i : Int)) = false := by simp
          have HZ9 := hid (show z = 0 by rw [← HW.out.1, List.drop_of_length_le (by rw [List.length_map, HNU.out]; omega)]; rfl)
          go_wp2_with fail
          go_returns
          exact ⟨by rw [HZ9.out]; rfl, estep H0.out.2.2 HW.out.2⟩
end Go.Proofs.YtelglcakekgdeaaGreatDoor
namespace Go.Proofs.YtelglcakekgdeaaGreatDoor
set_option linter.unusedVariables false
set_option linter.unusedSimpArgs false
open Go.RowKit Go.Joins

end Go.Proofs.YtelglcakekgdeaaGreatDoor
namespace Go.Proofs.YtelglcakekgdeaaGreatDoor
set_option linter.unusedVariables false
set_option linter.unusedSimpArgs false
open Go.RowKit Go.Joins

theorem tx_up {w w' : World} {v : Value} {L : List (List UInt8)} (h : TX w (· < w.heap.size) v L) (hb : Below w.heap.size w w') : TX w' (· < w'.heap.size) v L := by
  obtain ⟨A, cap, e, h1, h2⟩ := h
  exact ⟨A, cap, e, stx_up h1 hb, h2⟩
theorem maxLen_le {n : Nat} (h : n ≤ maxLen) : n ≤ 9223372036854775807 := by unfold maxLen at h; omega
set_option maxRecDepth 100000 in
set_option maxHeartbeats 4000000 in
theorem tcheck1_any (g : Nat) (u : Ru) (y : Value) (l : List (List UInt8)) (w : World) (hc : w.cell? ⟨g, 0, none⟩ = some y) (hy : TX w (· < w.heap.size) y l) (hu : UV w u) (hs : okRs u.sem) :
    Calls Tryz.prog 35 #[.agg #[.int .i64 u.rank, .slice u.xa u.xn u.xc, .string (bs u.tg), .int .i64 u.ap, .int .i64 u.st, .int .i64 u.dp, .int .i64 u.dt, .int .i64 u.mp, .string (bs u.mi), .int .i64 u.sm], .pointer (some ⟨g, 0, none⟩)] w fun e w' => e = .returned (.int .i64 (chkR u.sem l)) ∧ Below w.heap.size w w' := by
  have hb1 := enew w (.cells #[.int .i64 u.rank, .slice u.xa u.xn u.xc, .string (bs u.tg), .int .i64 u.ap, .int .i64 u.st, .int .i64 u.dp, .int .i64 u.dt, .int .i64 u.mp, .string (bs u.mi), .int .i64 u.sm] 72)
  have hr0 := BR.new w u
  have hc0 := (hb1.cell (p := ⟨g, 0, none⟩) (lt_of_cell hc)).trans hc
  obtain ⟨A, cap, rfl, hN, hl, hll⟩ := hy
  have HN := hid (stx_up hN hb1)
  have HU := hid (hu.up hb1)
  have HR := hid (fun (w2 : World) (h1 : UV w2 u) (h2 : STexts w2 (· < w2.heap.size) A l) => rcheck_any u A cap l w2 h1 hs h2 (maxLen_le hl) (hid rfl))
  have HB := hid hb1
  clear hN hu hb1 hc
  go_enter Tryz.func35, Tryz.ntmps35
  go_upto_region 1 with (fail)
  generalize w.alloc (.cells #[.int .i64 u.rank, .slice u.xa u.xn u.xc, .string (bs u.tg), .int .i64 u.ap, .int .i64 u.st, .int .i64 u.dp, .int .i64 u.dt, .int .i64 u.mp, .string (bs u.mi), .int .i64 u.sm] 72) = v0 at *
  obtain ⟨r0, r1, r2, r3, r4, r5, r6, r7, r8, r9⟩ := hr0.cells
  go_wp2_with fail
  refine (HR.out _ HU.out HN.out).mono ?_
  rintro e w1 ⟨rfl, hb2⟩
  go_wp2_with fail
  go_returns
  exact ⟨rfl, estep HB.out hb2⟩
set_option maxRecDepth 100000 in
set_option maxHeartbeats 4000000 in
theorem tcheck_any (y : Value) (f : List UInt8) (U : List Ru) (ny : Value) (l : List (List UInt8)) (w : World) (hy : RV w y U) (hs : ∀ u ∈ U, okRs u.sem) (hf : f.length ≤ 140737488351232) (hn : TX w (· < w.heap.size) ny l) {z : Int} (H : Hid (chkC (chkR · l) f (U.map Ru.sem) = z)) :
    Calls Tryz.prog 24 #[.agg #[y, .string (bs f)], ny] w fun e w' => e = .returned (.int .i64 z) ∧ Below w.heap.size w w' := by
  have hmf : ∀ (fn : Fn) (first cap : Array Value) (w : World), (Instr.makeFunc fn first cap).run Tryz.prog w = .ok (.func fn first cap) w := fun _ _ _ _ => rfl
  have hb1 := enew w (.cells #[y, .string (bs f)] 41)
  have hb2 := enew (w.alloc (.cells #[y, .string (bs f)] 41)) (.cells #[ny] 22)
  have hk0 := (BF.new w y f).up hb2
  have hn0 := Bk.new (w.alloc (.cells #[y, .string (bs f)] 41)) 22 #[ny]
  rw [World.size_alloc] at hn0
  have hb0 := estep hb1 hb2
  obtain ⟨A, cap, rfl, hN, hl, hll⟩ := hn
  have HN := hid (stx_up hN hb0)
  have HY := hid (hy.up hb0)
  have HB := hid hb0
  clear hN hb0 hb1 hb2 hy
  go_enter Tryz.func24, Tryz.ntmps24
  go_upto_region 1 with (fail)
  generalize (w.alloc (.cells #[y, .string (bs f)] 41)).alloc (.cells #[.slice A l.length cap] 22) = v0 at *
  obtain ⟨k0, k1⟩ := hk0.cells
  have HFR : Hid (FR v0 (.func (.func 35) #[] #[.pointer (some ⟨w.heap.size + 1, 0, none⟩)]) U (chkR · l)) := hid ⟨_, _, rfl, fun _ _ => by kernel_rfl, fun u hu w2 h2 => by
    obtain ⟨_, _, e, hx, hrp, -⟩ := HY.out
    exact tcheck1_any (w.heap.size + 1) u (.slice A l.length cap) l w2 (Bk.cell (hn0.up h2) 0) ⟨A, cap, rfl, stx_up HN.out h2, hl, hll⟩ (UV.up (hrp u hu) h2) (hs u hu)⟩
  have HOC := hid (ocheck_any y f _ U (chkR · l) v0 HY.out hf HFR.out H)
  go_wp2_with fail
  refine HOC.out.mono ?_
  rintro e w1 ⟨rfl, hb2⟩
  go_wp2_with fail
  go_returns
  exact ⟨rfl, estep HB.out hb2⟩
set_option maxRecDepth 100000 in
set_option maxHeartbeats 4000000 in
theorem rtcheck_any (y : Value) (f : List UInt8) (U : List Ru) (ny : Value) (l : List (List UInt8)) (w : World) (hy : RV w y U) (hs : ∀ u ∈ U, okRs u.sem) (hf : f.length ≤ 140737488351232) (hn : TX w (· < w.heap.size) ny l) {z : Int} (H : Hid (chkC (chkR · l) f (U.map Ru.sem) = z)) :
    Calls Tryz.prog 28 #[.agg #[y, .string (bs f)], ny] w fun e w' => e = .returned (.int .i64 z) ∧ Below w.heap.size w w' := by
  have hnot := notB'
  obtain ⟨A, c, rfl, hgx, hrp, hA, hlc, hl9⟩ := hy
  obtain ⟨NA, ncap, rfl, hN, hnl, -⟩ := hn
  have hb0 := enew w (.cells #[.slice A U.length c, .string (bs f)] 41)
  have hk0 := BF.new w (.slice A U.length c) f
  have H0 := hid (And.intro (hgx.up hb0) (And.intro (hrp.up hb0) (And.intro hb0 (stx_up hN hb0))))
  obtain ⟨zf, hzf⟩ : ∃ b, fmtOK f = b := ⟨_, rfl⟩
  have HFM := hid (fun w2 => rformat_any f w2 hf)
  rw [hzf] at HFM
  have HC := hid (show chkC (chkR · l) f (U.map Ru.sem) = if zf = false then 15 else if 16 < U.length then 8 else fltC (chkR · l) (U.map Ru.sem) by rw [chkC, hzf, List.length_map])
  have HF := hid (fun (u : Ru) (hu : u ∈ U) (w2 : World) (h1 : UV w2 u) (h2 : STexts w2 (· < w2.heap.size) NA l) => rrcheck_any u NA ncap l w2 h1 (hs u hu) h2 (maxLen_le hnl) (hid rfl))
  clear hgx hrp hA hlc hb0 hf hzf hs hN
  generalize hnU : U.length = n at *
  have HNU := hid hnU
  clear hnU
  go_enter Tryz.func28, Tryz.ntmps28
  go_upto_region 1 with (fail)
  generalize w.alloc (.cells #[.slice A n c, .string (bs f)] 41) = v0 at *
  obtain ⟨k0, k1⟩ := hk0.cells
  cases zf with
  | false =>
    have HZ := hid (show z = 15 by rw [← H.out, HC.out, if_pos rfl])
    go_wp2_with fail
    refine (HFM.out _).mono ?_
    rintro e w1 ⟨rfl, rfl⟩
    go_wp2_with fail
    go_returns
    exact ⟨by rw [HZ.out]; rfl, H0.out.2.2.1⟩
  | true =>
    by_cases h16 : 16 < n
    · have d16 : decide ((16 : Int) < (n : Int)) = true := decide_eq_true (by omega)
      have HZ := hid (show z = 8 by rw [← H.out, HC.out, if_neg (by simp), if_pos h16])
      clear h16
      go_wp2_with fail
      refine (HFM.out _).mono ?_
      rintro e w1 ⟨rfl, rfl⟩
      go_wp2_with fail
      go_returns
      exact ⟨by rw [HZ.out]; rfl, H0.out.2.2.1⟩
    · have d16 : decide ((16 : Int) < (n : Int)) = false := decide_eq_false (by omega)
      have HCZ := hid (show fltC (chkR · l) (U.map Ru.sem) = z by rw [← H.out, HC.out, if_neg (by simp), if_neg h16])
      clear HC H h16
      go_wp2_with fail
      refine (HFM.out _).mono ?_
      rintro e w1 ⟨rfl, rfl⟩
      go_wp2_with fail
      clear d16 k0 k1
      go_loopg [5] n (fun g1 vi wr => ∃ i : Nat, vi = .int .i64 i ∧ i ≤ n ∧ n - i ≤ g1 ∧ Hid (fltC (chkR · l) ((U.map Ru.sem).drop i) = z ∧ Below v0.heap.size v0 wr))
      case atStart => exact ⟨0, rfl, by omega, by omega, hid ⟨HCZ.out, Below.refl _ _⟩⟩
      case round =>
        obtain ⟨i, rfl, hin, hgk, HW⟩ := hrel
        obtain ⟨k0, k1⟩ := (hk0.up HW.out.2).cells
        by_cases hlt : i < n
        · have hltz : (i : Int) < (n : Int) := by omega
          have hltd : decide ((i : Int) < (n : Int)) = true := decide_eq_true hltz
          have hi0 : (0 : Int) ≤ (i : Int) := by omega
          have hiU : i < U.length := by have := HNU.out; omega
          obtain ⟨u, hu⟩ : ∃ u, U[i]? = some u := ⟨_, List.getElem?_eq_getElem hiU⟩
          have hum : u ∈ U := List.mem_of_getElem? hu
          have HD := hid (fltC_drop (chkR · l) (sem_of hu))
          obtain ⟨bb, oo, rfl, -⟩ := H0.out.1.some_of hiU
          obtain ⟨r0, r1, r2, r3, r4, r5, r6, r7, r8, r9⟩ := rank_cell (H0.out.1.up HW.out.2) hu
          obtain ⟨zz, hz⟩ : ∃ zz, chkR u.sem l = zz := ⟨_, rfl⟩
          have HZ := hid hz
          have HU := hid (HF.out u hum wr (UV.up (H0.out.2.1 u hum) HW.out.2) (stx_up H0.out.2.2.2 HW.out.2))
          rw [hz] at HU
          clear hz hu hum
          go_wp2_with fail
          refine HU.out.mono ?_
          rintro e w2 ⟨rfl, hb2⟩
          have HB2 := hid (estep HW.out.2 hb2)
          clear hb2 r0 r1 r2 r3 r4 r5 r6 r7 r8 r9 k0 k1
          by_cases e0 : zz = 0
          · subst e0
            have HFF := hid (show fltC (chkR · l) ((U.map Ru.sem).drop (i + 1)) = z by rw [← HW.out.1, HD.out, if_neg (by rw [HZ.out]; simp)])
            go_wp2_with fail
            go_roundg (n - (i + 1))
            case measure => omega
            case rel => exact ⟨i + 1, by go_num, by omega, by omega, hid ⟨HFF.out, HB2.out⟩⟩
          · have hd0 : decide (zz = 0) = false := decide_eq_false e0
            have hd1 : (!decide (zz = 0)) = true := by rw [hd0]; rfl
            have HZ9 := hid (show z = zz by rw [← HW.out.1, HD.out, if_pos (by rw [HZ.out]; exact e0), HZ.out])
            go_wp2_with fail
            go_returns
            exact ⟨by rw [HZ9.out]; rfl, estep H0.out.2.2.1 HB2.out⟩
        · obtain rfl : i = n := by omega
          have hltd : decide ((i : Int) < (i : Int)) = false := by simp
          have HZ9 := hid (show z = 0 by rw [← HW.out.1, List.drop_of_length_le (by rw [List.length_map, HNU.out]; omega)]; rfl)
          go_wp2_with fail
          go_returns
          exact ⟨by rw [HZ9.out]; rfl, estep H0.out.2.2.1 HW.out.2⟩
end Go.Proofs.YtelglcakekgdeaaGreatDoor
namespace Go.Proofs.YtelglcakekgdeaaGreatDoor
set_option linter.unusedVariables false
set_option linter.unusedSimpArgs false
open Go.RowKit Go.Joins

/-- A table: its version, its format, its rules. -/
abbrev Tt := Int × List UInt8 × List Rs
def noT : Tt := (0, [], [])
def badV (v : Int) : Bool := decide (v < 1) || decide (1099511627776 < v)
def compT (v : Int) (f : List UInt8) (U : List Rs) (l : List (List UInt8)) : Int × Tt :=
  if badV v = true then (12, noT) else if chkC (chkR · l) f U ≠ 0 then (chkC (chkR · l) f U, noT) else (0, (v, f, ordB rkS U))
/-- A table, as a value that can be read. -/
def TV (w : World) (t : Value) (T : Tt) : Prop := ∃ y V, t = .agg #[.int .i64 T.1, y, .string (bs T.2.1)] ∧ RV w y V ∧ V.map Ru.sem = T.2.2
theorem TV.up {w w' : World} {t : Value} {T : Tt} (h : TV w t T) (hb : Below w.heap.size w w') : TV w' t T := by
  obtain ⟨y, V, e, h1, h2⟩ := h
  exact ⟨y, V, e, h1.up hb, h2⟩
theorem rv_none (w : World) : RV w (.slice none 0 0) [] := ⟨none, 0, rfl, GX.nil _ _ _, fun u hu => (by cases hu), fun _ => rfl, Nat.le_refl _, by simp⟩
theorem TV.none (w : World) : TV w (.agg #[.int .i64 0, .slice none 0 0, .string (bs [])]) noT := ⟨_, [], rfl, rv_none w, rfl⟩
/-- A variable that holds a table. -/
def BT (w : World) (g : Nat) (v : Int) (y : Value) (f : List UInt8) : Prop := Bk w g 32 #[.int .i64 v, y, .string (bs f)]
theorem BT.new (w : World) (v : Int) (y : Value) (f : List UInt8) : BT (w.alloc (.cells #[.int .i64 v, y, .string (bs f)] 32)) w.heap.size v y f := Bk.new _ _ _
theorem BT.up {w w' : World} {g : Nat} {v : Int} {y : Value} {f : List UInt8} (k : BT w g v y f) (hb : Below w.heap.size w w') : BT w' g v y f := Bk.up k hb
theorem BT.cells {w : World} {g : Nat} {v : Int} {y : Value} {f : List UInt8} (k : BT w g v y f) : w.cell? ⟨g, 0, none⟩ = some (.int .i64 v) ∧ w.cell? ⟨g, 1, none⟩ = some y ∧ w.cell? ⟨g, 2, none⟩ = some (.string (bs f)) := ⟨Bk.cell k 0, Bk.cell k 1, Bk.cell k 2⟩
theorem BT.set3 {w : World} {g : Nat} {v : Int} {y : Value} {f : List UInt8} (k : BT w g v y f) (v' : Int) (y' : Value) (f' : List UInt8) : BT (((w.setCell ⟨g, 0, none⟩ (.int .i64 v')).setCell ⟨g, 1, none⟩ y').setCell ⟨g, 2, none⟩ (.string (bs f'))) g v' y' f' := by
  have := ((Bk.set_ k 0 (.int .i64 v')).set_ 1 y').set_ 2 (.string (bs f'))
  exact this
theorem BT.froz {w : World} {g : Nat} {v : Int} {y : Value} {f : List UInt8} (k : BT w g v y f) : w.frozen? ⟨g, 0, none⟩ = false ∧ w.frozen? ⟨g, 1, none⟩ = false ∧ w.frozen? ⟨g, 2, none⟩ = false := ⟨Bk.frozen k 0, Bk.frozen k 1, Bk.frozen k 2⟩
theorem below_set3 {B : Nat} {w w' : World} (h : Below B w w') (g : Nat) (hg : B ≤ g) (a b c : Value) : Below B w (((w'.setCell ⟨g, 0, none⟩ a).setCell ⟨g, 1, none⟩ b).setCell ⟨g, 2, none⟩ c) :=
  Below.setCell (Below.setCell (Below.setCell h hg _) hg _) hg _
theorem rn_set3 {w : World} {N : Nat → Prop} {y : Value} {V : List Ru} (h : RN w N y V) (g : Nat) (hg : ∀ b, N b → b ≠ g) (hs : ∀ b, N b → b < w.heap.size) (a b c : Value) : RV (((w.setCell ⟨g, 0, none⟩ a).setCell ⟨g, 1, none⟩ b).setCell ⟨g, 2, none⟩ c) y V := by
  refine (h.same fun k hk => ?_).rv fun k hk => ?_
  · rw [Below.heap_setCell _ _ _ k (hg k hk), Below.heap_setCell _ _ _ k (hg k hk), Below.heap_setCell _ _ _ k (hg k hk)]
  · rw [World.size_setCell, World.size_setCell, World.size_setCell]; exact hs k hk
theorem chkR_ps {r : Rs} {l : List (List UInt8)} (h : chkR r l = 0) : r.ps.length ≤ 4 := by
  unfold chkR at h
  by_cases h1 : r.rank < 0 ∨ 99 < r.rank
  · rw [if_pos h1] at h; exact absurd h (by omega)
  rw [if_neg h1] at h
  by_cases h2 : 4 < r.ps.length
  · rw [if_pos h2] at h; exact absurd h (by omega)
  omega
theorem chkC_small {f : List UInt8} {U : List Ru} {l : List (List UInt8)} (h : chkC (chkR · l) f (U.map Ru.sem) = 0) : U.length ≤ 16 ∧ ∀ u ∈ U, u.ps.length ≤ 4 := by
  obtain ⟨-, h2, h3⟩ := chkC_ok h
  exact ⟨by simpa using h2, fun u hu => chkR_ps (r := u.sem) (h3 u.sem (List.mem_map.2 ⟨u, hu, rfl⟩))⟩
theorem keepBF0 {w v w' : World} {g : Nat} {y : Value} {f : List UInt8} (k : BF v g y f) (hb : Below w.heap.size w v) (hz : Below v.heap.size v w') : w'.cell? ⟨g, 0, none⟩ = some y ∧ w'.cell? ⟨g, 1, none⟩ = some (.string (bs f)) ∧ Below w.heap.size w w' := by
  obtain ⟨q0, q1⟩ := (k.up hz).cells
  exact ⟨q0, q1, estep hb hz⟩
theorem keepBF3 {w v w' : World} {g : Nat} {y : Value} {f : List UInt8} (k : BF v g y f) (hb : Below w.heap.size w v) (hz : Below v.heap.size v w') (h : Nat) (hh : w.heap.size ≤ h) (hne : h ≠ g) (a b c : Value) : (((w'.setCell ⟨h, 0, none⟩ a).setCell ⟨h, 1, none⟩ b).setCell ⟨h, 2, none⟩ c).cell? ⟨g, 0, none⟩ = some y ∧ (((w'.setCell ⟨h, 0, none⟩ a).setCell ⟨h, 1, none⟩ b).setCell ⟨h, 2, none⟩ c).cell? ⟨g, 1, none⟩ = some (.string (bs f)) ∧ Below w.heap.size w (((w'.setCell ⟨h, 0, none⟩ a).setCell ⟨h, 1, none⟩ b).setCell ⟨h, 2, none⟩ c) := by
  obtain ⟨q0, q1⟩ := (k.up hz).cells
  have hx : ∀ (x : World) (i j : Nat) (u : Value), (x.setCell ⟨h, i, none⟩ u).cell? ⟨g, j, none⟩ = x.cell? ⟨g, j, none⟩ := fun x i j u => World.cell?_setCell_other x ⟨h, i, none⟩ ⟨g, j, none⟩ u (by intro e; injection e with e1; exact hne e1)
  refine ⟨?_, ?_, below_set3 (estep hb hz) h hh a b c⟩
  · rw [hx, hx, hx]; exact q0
  · rw [hx, hx, hx]; exact q1
set_option maxRecDepth 100000 in
set_option maxHeartbeats 8000000 in
theorem tcompile_any (y : Value) (f : List UInt8) (U : List Ru) (v : Int) (ny : Value) (l : List (List UInt8)) (w : World) (hy : RV w y U) (hs : ∀ u ∈ U, okRs u.sem) (hf : f.length ≤ 140737488351232) (hn : TX w (· < w.heap.size) ny l) {z : Int} {T : Tt} (H : Hid (compT v f (U.map Ru.sem) l = (z, T))) :
    Calls Tryz.prog 18 #[.agg #[y, .string (bs f)], .int .i64 v, ny] w fun e w' => (∃ t, e = .returned (.tuple #[t, .int .i64 z]) ∧ TV w' t T) ∧ Below w.heap.size w w' := by
  have c3 : (ByteArray.mk #[]) = bs [] := rfl
  have hb1 := enew w (.cells #[y, .string (bs f)] 41)
  have hb2 := enew (w.alloc (.cells #[y, .string (bs f)] 41)) (.cells #[.int .i64 0, .slice none 0 0, .string (bs [])] 32)
  have hk0 := (BF.new w y f).up hb2
  have ht0 := BT.new (w.alloc (.cells #[y, .string (bs f)] 41)) 0 (.slice none 0 0) []
  rw [World.size_alloc] at ht0
  have hb0 := estep hb1 hb2
  have HY := hid (And.intro (hy.up hb0) (tx_up hn hb0))
  have HB := hid hb0
  have HYR := hid hy
  have hgg : w.heap.size ≤ w.heap.size + 1 := by omega
  have hgn : w.heap.size + 1 ≠ w.heap.size := by omega
  have H0 := hid H.out
  have HCH := hid (fun (w2 : World) (h1 : RV w2 y U) (h2 : TX w2 (· < w2.heap.size) ny l) (zc : Int) (hz : Hid (chkC (chkR · l) f (U.map Ru.sem) = zc)) => tcheck_any y f U ny l w2 h1 hs hf h2 hz)
  have HC := hid (show compT v f (U.map Ru.sem) l = if badV v = true then (12, noT) else if chkC (chkR · l) f (U.map Ru.sem) ≠ 0 then (chkC (chkR · l) f (U.map Ru.sem), noT) else (0, (v, f, ordB rkS (U.map Ru.sem))) from rfl)
  clear hn hb0 hb1 hb2 hy hs hf H
  go_enter Tryz.func18, Tryz.ntmps18
  go_upto_region 1 with (fail)
  generalize (w.alloc (.cells #[y, .string (bs f)] 41)).alloc (.cells #[.int .i64 0, .slice none 0 0, .string (bs [])] 32) = v0 at *
  obtain ⟨k0, k1⟩ := hk0.cells
  obtain ⟨t0, t1, t2⟩ := ht0.cells
  obtain ⟨z0, z1, z2⟩ := ht0.froz
  have HT := hid ht0
  have HK := hid hk0
  clear ht0 hk0
  by_cases hv : badV v = true
  · have HZ := hid (show (12, noT) = (z, T) by rw [← H0.out, HC.out, if_pos hv])
    obtain ⟨e1, e2⟩ := Prod.mk.inj HZ.out
    subst e1 e2
    obtain ⟨a0, a1, a2⟩ := (HT.out.set3 0 (.slice none 0 0) []).cells
    have HB2 := hid (below_set3 HB.out (w.heap.size + 1) hgg (.int .i64 0) (.slice none 0 0) (.string (bs [])))
    have HT2 := hid (fun w2 => TV.none w2)
    clear HCH HC H0 HZ HY HT
    by_cases hv1 : v < 1
    · have d1 : decide (v < 1) = true := decide_eq_true hv1
      clear hv hv1
      have HA := hid (And.intro a0 (And.intro a1 a2))
      clear a0 a1 a2
      go_wp2_with fail
      (try simp only [Exit.inBlock, Exit.then])
      refine bodyPost_ret (v := .tuple #[.agg #[.int .i64 0, .slice none 0 0, .string (bs [])], .int .i64 12]) (by simp [results, Tryz.results18, go_sem, HA.out.1, HA.out.2.1, HA.out.2.2]; try rfl) rfl ?_
      exact ⟨⟨_, rfl, HT2.out _⟩, HB2.out⟩
    · have d1 : decide (v < 1) = false := decide_eq_false hv1
      have d2 : decide (1099511627776 < v) = true := by rw [badV, d1, Bool.false_or] at hv; exact hv
      clear hv hv1
      have HA := hid (And.intro a0 (And.intro a1 a2))
      clear a0 a1 a2
      go_wp2_with fail
      (try simp only [Exit.inBlock, Exit.then])
      refine bodyPost_ret (v := .tuple #[.agg #[.int .i64 0, .slice none 0 0, .string (bs [])], .int .i64 12]) (by simp [results, Tryz.results18, go_sem, HA.out.1, HA.out.2.1, HA.out.2.2]; try rfl) rfl ?_
      exact ⟨⟨_, rfl, HT2.out _⟩, HB2.out⟩
  have hvf : badV v = false := by simpa using hv
  rw [badV, Bool.or_eq_false_iff] at hvf
  obtain ⟨d1, d2⟩ := hvf
  have HC1 := hid (show (z, T) = if chkC (chkR · l) f (U.map Ru.sem) ≠ 0 then (chkC (chkR · l) f (U.map Ru.sem), noT) else (0, (v, f, ordB rkS (U.map Ru.sem))) by rw [← H0.out, HC.out, if_neg hv])
  obtain ⟨zc, hzc⟩ : ∃ zc, chkC (chkR · l) f (U.map Ru.sem) = zc := ⟨_, rfl⟩
  rw [hzc] at HC1
  have HZC := hid hzc
  clear hv H0 HC hzc
  go_wp2_with fail
  refine (HCH.out _ HY.out.1 HY.out.2 zc HZC).mono ?_
  rintro e w1 ⟨rfl, hb2⟩
  have HB1 := hid (estep HB.out hb2)
  have HY1 := hid (HY.out.1.up hb2)
  have HYN := hid (tx_up HY.out.2 hb2)
  have hk1 := HK.out.up hb2
  have ht1 := HT.out.up hb2
  clear k0 k1 t0 t1 t2 z0 z1 z2 d1 d2
  obtain ⟨t0, t1, t2⟩ := ht1.cells
  obtain ⟨z0, z1, z2⟩ := ht1.froz
  by_cases hz0 : zc = 0
  · subst hz0
    have HZ := hid (show (z, T) = (0, (v, f, ordB rkS (U.map Ru.sem))) by rw [HC1.out, if_neg (by simp)])
    obtain ⟨e1, e2⟩ := Prod.mk.inj HZ.out
    subst e1 e2
    have hok := chkC_small HZC.out
    have HO := hid (fun (w2 : World) (h : Below w.heap.size w w2) => order_in (· < w.heap.size) y U w2 (HYR.out.rn.same fun b hb => h.block b hb) (fun b hb => Nat.lt_of_lt_of_le hb h.size) (by have := hok.1; omega) (fun u hu => by have := hok.2 u hu; omega))
    have hN : ∀ (w2 w3 : World), w1.heap.size ≤ w2.heap.size → w2.heap.size ≤ w3.heap.size → ∀ b, ((w2.heap.size ≤ b ∧ b < w3.heap.size) ∨ b < w.heap.size) → b ≠ w.heap.size + 1 ∧ b < w3.heap.size := fun w2 w3 h1 h2 b hb => by have := Bk.lt ht1; omega
    have HN := hid hN
    clear hN
    have HB2 := hid hb2
    have HT1 := hid ht1
    have HK1 := hid hk1
    have hsz1 : w.heap.size + 1 < w1.heap.size := Bk.lt ht1
    clear HCH HC1 HZ hok hb2 HT HK HY
    go_upto_region 6 with (fail)
    clear t0 t1 t2 z0 z1 z2
    obtain ⟨k0, k1⟩ := HK1.out.cells
    obtain ⟨t0, t1, t2⟩ := HT1.out.cells
    obtain ⟨z0, z1, z2⟩ := HT1.out.froz
    have hz : Below w1.heap.size w1 w1.drew := (Below.refl _ _).drew
    go_region_held3 (fun w' => w'.cell? ⟨w.heap.size, 0, none⟩ = some y ∧ w'.cell? ⟨w.heap.size, 1, none⟩ = some (.string (bs f)) ∧ Below w.heap.size w w') (first | (with_reducible exact keepBF0 HK1.out HB1.out hz) | (with_reducible exact keepBF0 HK1.out HB1.out (hz.trans (Below.mono (by assumption) hz.size))) | (with_reducible exact keepBF3 HK1.out HB1.out hz _ hgg hgn _ _ _)) (first
      | (go_at_call 27
         ((with_reducible refine (HO.out _ (estep HB1.out hz)).mono ?_); rintro e w5 ⟨y1, V1, rfl, ⟨hrv1, hvm1⟩, hy5⟩)
         obtain ⟨A1, c1, rfl, -⟩ := id hrv1
         have hzs := hz.size
         have hzt := hy5.size
         have hz := hz.trans (hy5.mono hz.size)
         have ht5 := HT1.out.up hz
         obtain ⟨t0, t1, t2⟩ := ht5.cells
         obtain ⟨z0, z1, z2⟩ := ht5.froz))
    all_goals
      obtain ⟨a0, a1, a2⟩ := (ht5.set3 v (.slice A1 V1.length c1) f).cells
      have HB3 := hid (below_set3 (estep HB1.out hz) (w.heap.size + 1) hgg (.int .i64 v) (.slice A1 V1.length c1) (.string (bs f)))
      have hgl := hsz1
      have HA := hid (And.intro a0 (And.intro a1 a2))
      clear a0 a1 a2
      go_wp2_with fail
      (try simp only [Exit.inBlock, Exit.then])
      refine bodyPost_ret (v := .tuple #[.agg #[.int .i64 v, .slice A1 V1.length c1, .string (bs f)], .int .i64 0]) (by simp [results, Tryz.results18, go_sem, HA.out.1, HA.out.2.1, HA.out.2.2]; try rfl) rfl ?_
      refine ⟨⟨_, rfl, _, V1, rfl, ?_, hvm1⟩, HB3.out⟩
      exact rn_set3 hrv1 (w.heap.size + 1) (fun b hb => (HN.out _ _ hzs hzt b hb).1) (fun b hb => (HN.out _ _ hzs hzt b hb).2) _ _ _
  · have hz1 : (zc != 0) = true := by simpa using hz0
    have hz2 : decide (zc = 0) = false := decide_eq_false hz0
    have hz3 : (!decide (zc = 0)) = true := by rw [hz2]; rfl
    have HZ := hid (show (z, T) = (zc, noT) by rw [HC1.out, if_pos hz0])
    obtain ⟨rfl, rfl⟩ := Prod.mk.inj HZ.out
    obtain ⟨a0, a1, a2⟩ := (ht1.set3 0 (.slice none 0 0) []).cells
    have HB2 := hid (below_set3 HB1.out (w.heap.size + 1) hgg (.int .i64 0) (.slice none 0 0) (.string (bs [])))
    have HT2 := hid (fun w2 => TV.none w2)
    clear hb2 hz0 HY HC1 HZ HT HK
    have HA := hid (And.intro a0 (And.intro a1 a2))
    clear a0 a1 a2
    clear HCH hk1 ht1
    go_wp2_with fail
    (try simp only [Exit.inBlock, Exit.then])
    refine bodyPost_ret (v := .tuple #[.agg #[.int .i64 0, .slice none 0 0, .string (bs [])], .int .i64 z]) (by simp [results, Tryz.results18, go_sem, HA.out.1, HA.out.2.1, HA.out.2.2]; try rfl) rfl ?_
    exact ⟨⟨_, rfl, HT2.out _⟩, HB2.out⟩
set_option maxRecDepth 100000 in
set_option maxHeartbeats 8000000 in
theorem rtcompile_any (y : Value) (f : List UInt8) (U : List Ru) (v : Int) (ny : Value) (l : List (List UInt8)) (w : World) (hy : RV w y U) (hs : ∀ u ∈ U, okRs u.sem) (hf : f.length ≤ 140737488351232) (hn : TX w (· < w.heap.size) ny l) {z : Int} {T : Tt} (H : Hid (compT v f (U.map Ru.sem) l = (z, T))) :
    Calls Tryz.prog 19 #[.agg #[y, .string (bs f)], .int .i64 v, ny] w fun e w' => (∃ t, e = .returned (.tuple #[t, .int .i64 z]) ∧ TV w' t T) ∧ Below w.heap.size w w' := by
  have c3 : (ByteArray.mk #[]) = bs [] := rfl
  have hb1 := enew w (.cells #[y, .string (bs f)] 41)
  have hb2 := enew (w.alloc (.cells #[y, .string (bs f)] 41)) (.cells #[.int .i64 0, .slice none 0 0, .string (bs [])] 32)
  have hk0 := (BF.new w y f).up hb2
  have ht0 := BT.new (w.alloc (.cells #[y, .string (bs f)] 41)) 0 (.slice none 0 0) []
  rw [World.size_alloc] at ht0
  have hb0 := estep hb1 hb2
  have HY := hid (And.intro (hy.up hb0) (tx_up hn hb0))
  have HB := hid hb0
  have HYR := hid hy
  have hgg : w.heap.size ≤ w.heap.size + 1 := by omega
  have hgn : w.heap.size + 1 ≠ w.heap.size := by omega
  have H0 := hid H.out
  have HCH := hid (fun (w2 : World) (h1 : RV w2 y U) (h2 : TX w2 (· < w2.heap.size) ny l) (zc : Int) (hz : Hid (chkC (chkR · l) f (U.map Ru.sem) = zc)) => rtcheck_any y f U ny l w2 h1 hs hf h2 hz)
  have HC := hid (show compT v f (U.map Ru.sem) l = if badV v = true then (12, noT) else if chkC (chkR · l) f (U.map Ru.sem) ≠ 0 then (chkC (chkR · l) f (U.map Ru.sem), noT) else (0, (v, f, ordB rkS (U.map Ru.sem))) from rfl)
  clear hn hb0 hb1 hb2 hy hs hf H
  go_enter Tryz.func19, Tryz.ntmps19
  go_upto_region 1 with (fail)
  generalize (w.alloc (.cells #[y, .string (bs f)] 41)).alloc (.cells #[.int .i64 0, .slice none 0 0, .string (bs [])] 32) = v0 at *
  obtain ⟨k0, k1⟩ := hk0.cells
  obtain ⟨t0, t1, t2⟩ := ht0.cells
  obtain ⟨z0, z1, z2⟩ := ht0.froz
  have HT := hid ht0
  have HK := hid hk0
  clear ht0 hk0
  by_cases hv : badV v = true
  · have HZ := hid (show (12, noT) = (z, T) by rw [← H0.out, HC.out, if_pos hv])
    obtain ⟨e1, e2⟩ := Prod.mk.inj HZ.out
    subst e1 e2
    obtain ⟨a0, a1, a2⟩ := (HT.out.set3 0 (.slice none 0 0) []).cells
    have HB2 := hid (below_set3 HB.out (w.heap.size + 1) hgg (.int .i64 0) (.slice none 0 0) (.string (bs [])))
    have HT2 := hid (fun w2 => TV.none w2)
    clear HCH HC H0 HZ HY HT
    by_cases hv1 : v < 1
    · have d1 : decide (v < 1) = true := decide_eq_true hv1
      clear hv hv1
      have HA := hid (And.intro a0 (And.intro a1 a2))
      clear a0 a1 a2
      go_wp2_with fail
      (try simp only [Exit.inBlock, Exit.then])
      refine bodyPost_ret (v := .tuple #[.agg #[.int .i64 0, .slice none 0 0, .string (bs [])], .int .i64 12]) (by simp [results, Tryz.results19, go_sem, HA.out.1, HA.out.2.1, HA.out.2.2]; try rfl) rfl ?_
      exact ⟨⟨_, rfl, HT2.out _⟩, HB2.out⟩
    · have d1 : decide (v < 1) = false := decide_eq_false hv1
      have d2 : decide (1099511627776 < v) = true := by rw [badV, d1, Bool.false_or] at hv; exact hv
      clear hv hv1
      have HA := hid (And.intro a0 (And.intro a1 a2))
      clear a0 a1 a2
      go_wp2_with fail
      (try simp only [Exit.inBlock, Exit.then])
      refine bodyPost_ret (v := .tuple #[.agg #[.int .i64 0, .slice none 0 0, .string (bs [])], .int .i64 12]) (by simp [results, Tryz.results19, go_sem, HA.out.1, HA.out.2.1, HA.out.2.2]; try rfl) rfl ?_
      exact ⟨⟨_, rfl, HT2.out _⟩, HB2.out⟩
  have hvf : badV v = false := by simpa using hv
  rw [badV, Bool.or_eq_false_iff] at hvf
  obtain ⟨d1, d2⟩ := hvf
  have HC1 := hid (show (z, T) = if chkC (chkR · l) f (U.map Ru.sem) ≠ 0 then (chkC (chkR · l) f (U.map Ru.sem), noT) else (0, (v, f, ordB rkS (U.map Ru.sem))) by rw [← H0.out, HC.out, if_neg hv])
  obtain ⟨zc, hzc⟩ : ∃ zc, chkC (chkR · l) f (U.map Ru.sem) = zc := ⟨_, rfl⟩
  rw [hzc] at HC1
  have HZC := hid hzc
  clear hv H0 HC hzc
  go_wp2_with fail
  refine (HCH.out _ HY.out.1 HY.out.2 zc HZC).mono ?_
  rintro e w1 ⟨rfl, hb2⟩
  have HB1 := hid (estep HB.out hb2)
  have HY1 := hid (HY.out.1.up hb2)
  have HYN := hid (tx_up HY.out.2 hb2)
  have hk1 := HK.out.up hb2
  have ht1 := HT.out.up hb2
  clear k0 k1 t0 t1 t2 z0 z1 z2 d1 d2
  obtain ⟨t0, t1, t2⟩ := ht1.cells
  obtain ⟨z0, z1, z2⟩ := ht1.froz
  by_cases hz0 : zc = 0
  · subst hz0
    have HZ := hid (show (z, T) = (0, (v, f, ordB rkS (U.map Ru.sem))) by rw [HC1.out, if_neg (by simp)])
    obtain ⟨e1, e2⟩ := Prod.mk.inj HZ.out
    subst e1 e2
    have hok := chkC_small HZC.out
    have HO := hid (fun (w2 : World) (h : Below w.heap.size w w2) => rorder_in (· < w.heap.size) y U w2 (HYR.out.rn.same fun b hb => h.block b hb) (fun b hb => Nat.lt_of_lt_of_le hb h.size) (by have := hok.1; omega))
    have hN : ∀ (w2 w3 : World), w1.heap.size ≤ w2.heap.size → w2.heap.size ≤ w3.heap.size → ∀ b, ((w2.heap.size ≤ b ∧ b < w3.heap.size) ∨ b < w.heap.size) → b ≠ w.heap.size + 1 ∧ b < w3.heap.size := fun w2 w3 h1 h2 b hb => by have := Bk.lt ht1; omega
    have HN := hid hN
    clear hN
    have HB2 := hid hb2
    have HT1 := hid ht1
    have HK1 := hid hk1
    have hsz1 : w.heap.size + 1 < w1.heap.size := Bk.lt ht1
    clear HCH HC1 HZ hok hb2 HT HK HY
    go_upto_region 5 with (fail)
    clear t0 t1 t2 z0 z1 z2
    obtain ⟨k0, k1⟩ := HK1.out.cells
    obtain ⟨t0, t1, t2⟩ := HT1.out.cells
    obtain ⟨z0, z1, z2⟩ := HT1.out.froz
    have hz : Below w1.heap.size w1 w1.drew := (Below.refl _ _).drew
    go_region_held3 (fun w' => w'.cell? ⟨w.heap.size, 0, none⟩ = some y ∧ w'.cell? ⟨w.heap.size, 1, none⟩ = some (.string (bs f)) ∧ Below w.heap.size w w') (first | (with_reducible exact keepBF0 HK1.out HB1.out hz) | (with_reducible exact keepBF0 HK1.out HB1.out (hz.trans (Below.mono (by assumption) hz.size))) | (with_reducible exact keepBF3 HK1.out HB1.out hz _ hgg hgn _ _ _)) (first
      | (go_at_call 29
         ((with_reducible refine (HO.out _ (estep HB1.out hz)).mono ?_); rintro e w5 ⟨y1, V1, rfl, ⟨hrv1, hvm1⟩, hy5⟩)
         obtain ⟨A1, c1, rfl, -⟩ := id hrv1
         have hzs := hz.size
         have hzt := hy5.size
         have hz := hz.trans (hy5.mono hz.size)
         have ht5 := HT1.out.up hz
         obtain ⟨t0, t1, t2⟩ := ht5.cells
         obtain ⟨z0, z1, z2⟩ := ht5.froz))
    all_goals
      obtain ⟨a0, a1, a2⟩ := (ht5.set3 v (.slice A1 V1.length c1) f).cells
      have HB3 := hid (below_set3 (estep HB1.out hz) (w.heap.size + 1) hgg (.int .i64 v) (.slice A1 V1.length c1) (.string (bs f)))
      have hgl := hsz1
      have HA := hid (And.intro a0 (And.intro a1 a2))
      clear a0 a1 a2
      go_wp2_with fail
      (try simp only [Exit.inBlock, Exit.then])
      refine bodyPost_ret (v := .tuple #[.agg #[.int .i64 v, .slice A1 V1.length c1, .string (bs f)], .int .i64 0]) (by simp [results, Tryz.results19, go_sem, HA.out.1, HA.out.2.1, HA.out.2.2]; try rfl) rfl ?_
      refine ⟨⟨_, rfl, _, V1, rfl, ?_, hvm1⟩, HB3.out⟩
      exact rn_set3 hrv1 (w.heap.size + 1) (fun b hb => (HN.out _ _ hzs hzt b hb).1) (fun b hb => (HN.out _ _ hzs hzt b hb).2) _ _ _
  · have hz1 : (zc != 0) = true := by simpa using hz0
    have hz2 : decide (zc = 0) = false := decide_eq_false hz0
    have hz3 : (!decide (zc = 0)) = true := by rw [hz2]; rfl
    have HZ := hid (show (z, T) = (zc, noT) by rw [HC1.out, if_pos hz0])
    obtain ⟨rfl, rfl⟩ := Prod.mk.inj HZ.out
    obtain ⟨a0, a1, a2⟩ := (ht1.set3 0 (.slice none 0 0) []).cells
    have HB2 := hid (below_set3 HB1.out (w.heap.size + 1) hgg (.int .i64 0) (.slice none 0 0) (.string (bs [])))
    have HT2 := hid (fun w2 => TV.none w2)
    clear hb2 hz0 HY HC1 HZ HT HK
    have hy2 := HY1.out
    obtain ⟨k0, k1⟩ := hk1.cells
    have HH2 := hid (HCH.out w1 HY1.out HYN.out z HZC)
    go_wp2_with fail
    refine HH2.out.mono ?_
    rintro e w2 ⟨rfl, hb3⟩
    have ht2 := ht1.up hb3
    clear t0 t1 t2 z0 z1 z2 k0 k1
    obtain ⟨t0, t1, t2⟩ := ht2.cells
    obtain ⟨z0, z1, z2⟩ := ht2.froz
    obtain ⟨a0, a1, a2⟩ := (ht2.set3 0 (.slice none 0 0) []).cells
    have HB2 := hid (below_set3 (estep HB1.out hb3) (w.heap.size + 1) hgg (.int .i64 0) (.slice none 0 0) (.string (bs [])))
    have HA := hid (And.intro a0 (And.intro a1 a2))
    clear a0 a1 a2 hb3
    go_wp2_with fail
    (try simp only [Exit.inBlock, Exit.then])
    refine bodyPost_ret (v := .tuple #[.agg #[.int .i64 0, .slice none 0 0, .string (bs [])], .int .i64 z]) (by simp [results, Tryz.results19, go_sem, HA.out.1, HA.out.2.1, HA.out.2.2]; try rfl) rfl ?_
    exact ⟨⟨_, rfl, HT2.out _⟩, HB2.out⟩
end Go.Proofs.YtelglcakekgdeaaGreatDoor
namespace Go.Proofs.YtelglcakekgdeaaGreatDoor
set_option linter.unusedVariables false
set_option linter.unusedSimpArgs false
open Go.RowKit Go.Joins

def rkEq (U V : List Ru) : Bool := decide (U.map rkR = V.map rkR)
theorem rkEq_true {U V : List Ru} (hl : V.length = U.length) (h : ∀ (j : Nat) (a b : Ru), U[j]? = some a → V[j]? = some b → a.rank = b.rank) : rkEq U V = true := by
  refine decide_eq_true (List.ext_getElem (by simp [hl]) fun j h1 h2 => ?_)
  rw [List.getElem_map, List.getElem_map]
  rw [List.length_map] at h1 h2
  exact h j _ _ (List.getElem?_eq_getElem h1) (List.getElem?_eq_getElem h2)
theorem rkEq_false {U V : List Ru} {i : Nat} {a b : Ru} (h1 : U[i]? = some a) (h2 : V[i]? = some b) (h : a.rank ≠ b.rank) : rkEq U V = false := by
  refine decide_eq_false fun e => h ?_
  have := congrArg (fun l : List Int => l[i]?) e
  simp only [List.getElem?_map, h1, h2, Option.map_some] at this
  exact Option.some.inj this
/-- Where ranks are the same up to a place, the rules there are the same: of one rank none has moved. -/
def Stay (U V : List Ru) : Prop := ∀ (i : Nat) (u v : Ru), U[i]? = some u → V[i]? = some v → (∀ (j : Nat) (a b : Ru), j ≤ i → U[j]? = some a → V[j]? = some b → a.rank = b.rank) → u.sem = v.sem
theorem cnt_same {L M : List Rs} (r : Int) : ∀ (i : Nat), (∀ (j : Nat) (a b : Rs), j < i → L[j]? = some a → M[j]? = some b → a.rank = b.rank) → i ≤ L.length → i ≤ M.length → cntK rkS r L i = cntK rkS r M i
  | 0, _, _, _ => by rw [cntK_zero, cntK_zero]
  | i + 1, h, h1, h2 => by
    have hL : L[i]? = some (L[i]'(by omega)) := List.getElem?_eq_getElem _
    have hM : M[i]? = some (M[i]'(by omega)) := List.getElem?_eq_getElem _
    rw [cntK_succ r hL, cntK_succ r hM, cnt_same r i (fun j a b hj => h j a b (by omega)) (by omega) (by omega)]
    have := h i _ _ (by omega) hL hM
    unfold rkS
    rw [this]
theorem stay_ord {U V : List Ru} (he : V.map Ru.sem = ordB rkS (U.map Ru.sem)) : Stay U V := fun i u v hu hv h => by
  have hE : Eqv rkS (V.map Ru.sem) (U.map Ru.sem) := by rw [he]; exact ordB_eqv _
  have hui := (List.getElem?_eq_some_iff.1 hu).1
  have hvi := (List.getElem?_eq_some_iff.1 hv).1
  have hr := h i u v (Nat.le_refl _) hu hv
  have hc := cnt_same (L := U.map Ru.sem) (M := V.map Ru.sem) u.rank i (fun j a b hj ha hb => by
    rw [List.getElem?_map] at ha hb
    obtain ⟨a', ha', rfl⟩ := Option.map_eq_some_iff.1 ha
    obtain ⟨b', hb', rfl⟩ := Option.map_eq_some_iff.1 hb
    exact h j a' b' (by omega) ha' hb') (by simp; omega) (by simp; omega)
  have f1 := filter_at (key := rkS) u.rank (L := U.map Ru.sem) (x := u.sem) (sem_of hu) rfl
  have f2 := filter_at (key := rkS) u.rank (L := V.map Ru.sem) (x := v.sem) (sem_of hv) hr.symm
  rw [← hE u.rank, hc, f2] at f1
  exact (Option.some.inj f1).symm
set_option maxRecDepth 100000 in
set_option maxHeartbeats 4000000 in
theorem one_rank (u v : Ru) (w : World) (he : u.rank ≠ v.rank) :
    Calls Tryz.prog 30 #[.agg #[.int .i64 u.rank, .slice u.xa u.xn u.xc, .string (bs u.tg), .int .i64 u.ap, .int .i64 u.st, .int .i64 u.dp, .int .i64 u.dt, .int .i64 u.mp, .string (bs u.mi), .int .i64 u.sm], .agg #[.int .i64 v.rank, .slice v.xa v.xn v.xc, .string (bs v.tg), .int .i64 v.ap, .int .i64 v.st, .int .i64 v.dp, .int .i64 v.dt, .int .i64 v.mp, .string (bs v.mi), .int .i64 v.sm]] w fun e w' => e = .returned (.bool false) ∧ Below w.heap.size w w' := by
  have d1 : decide (u.rank = v.rank) = false := decide_eq_false he
  have d2 : (u.rank == v.rank) = false := by simpa using he
  have hb1 := enew w (.cells #[.int .i64 u.rank, .slice u.xa u.xn u.xc, .string (bs u.tg), .int .i64 u.ap, .int .i64 u.st, .int .i64 u.dp, .int .i64 u.dt, .int .i64 u.mp, .string (bs u.mi), .int .i64 u.sm] 72)
  have hb0 := hid (estep hb1 (enew _ (.cells #[.int .i64 v.rank, .slice v.xa v.xn v.xc, .string (bs v.tg), .int .i64 v.ap, .int .i64 v.st, .int .i64 v.dp, .int .i64 v.dt, .int .i64 v.mp, .string (bs v.mi), .int .i64 v.sm] 72)))
  clear he hb1
  go_enter Tryz.func30, Tryz.ntmps30
  go_wp2_with fail
  go_returns
  exact ⟨rfl, hb0.out⟩
set_option maxRecDepth 100000 in
set_option maxHeartbeats 16000000 in
theorem rsame_rank (A B : Option Addr) (c d : Nat) (U V : List Ru) (w : World) (hst : Stay U V) (hVU : V.length = U.length) (hU : GX encR 10 w (· < w.heap.size) A U) (hP : RP w (· < w.heap.size) U) (hV : GX encR 10 w (· < w.heap.size) B V) (hQ : RP w (· < w.heap.size) V) (hl : U.length ≤ 1000000) {z : Bool} (H : Hid (rkEq U V = z)) :
    Calls Tryz.prog 20 #[.slice A U.length c, .slice B V.length d] w fun e w' => e = .returned (.bool z) ∧ Below w.heap.size w w' := by
  have hnot := enot
  have H0 := hid (And.intro hU (And.intro hP (And.intro hV hQ)))
  have HL := hid hVU
  have HS := hid hst
  rw [hVU]
  clear hU hP hV hQ hVU hst
  generalize hnU : U.length = n at *
  have HNU := hid hnU
  clear hnU
  go_enter Tryz.func20, Tryz.ntmps20
  go_wp2_with fail
  go_loopg [5] n (fun g1 vi wr => ∃ i : Nat, vi = .int .i64 i ∧ i ≤ n ∧ n - i ≤ g1 ∧ Hid ((∀ (j : Nat) (a b : Ru), j < i → U[j]? = some a → V[j]? = some b → a.rank = b.rank) ∧ Below w.heap.size w wr))
  case atStart => exact ⟨0, rfl, by omega, by omega, hid ⟨fun j a b hj => by omega, Below.refl _ _⟩⟩
  case round =>
    obtain ⟨i, rfl, hin, hgk, HB⟩ := hrel
    by_cases hlt : i < n
    · have hltz : (i : Int) < (n : Int) := by omega
      have hltd : decide ((i : Int) < (n : Int)) = true := decide_eq_true hltz
      have hi0 : (0 : Int) ≤ (i : Int) := by omega
      have hiU : i < U.length := by have := HNU.out; omega
      have hiV : i < V.length := by have := HNU.out; have := HL.out; omega
      obtain ⟨u, hu⟩ : ∃ u, U[i]? = some u := ⟨_, List.getElem?_eq_getElem hiU⟩
      obtain ⟨v, hv⟩ : ∃ v, V[i]? = some v := ⟨_, List.getElem?_eq_getElem hiV⟩
      have hum : u ∈ U := List.mem_of_getElem? hu
      have hvm : v ∈ V := List.mem_of_getElem? hv
      obtain ⟨bb, oo, rfl, -⟩ := H0.out.1.some_of hiU
      obtain ⟨bc, oc, rfl, -⟩ := H0.out.2.2.1.some_of hiV
      have hUr := H0.out.1.up HB.out.2
      have hVr := H0.out.2.2.1.up HB.out.2
      have HUP := hid (UV.up (H0.out.2.1 u hum) HB.out.2)
      have HVP := hid (UV.up (H0.out.2.2.2 v hvm) HB.out.2)
      have HU := hid hu
      have HV := hid hv
      obtain ⟨r0, r1, r2, r3, r4, r5, r6, r7, r8, r9⟩ := rank_cell hUr hu
      obtain ⟨d0, d1, d2, d3, d4, d5, d6, d7, d8, d9⟩ := rank_cell hVr hv
      have R0 := BW.cell r0
      have R1 := BW.cell r1
      have R2 := BW.cell r2
      have R3 := BW.cell r3
      have R4 := BW.cell r4
      have R5 := BW.cell r5
      have R6 := BW.cell r6
      have R7 := BW.cell r7
      have R8 := BW.cell r8
      have R9 := BW.cell r9
      have D0 := BW.cell d0
      have D1 := BW.cell d1
      have D2 := BW.cell d2
      have D3 := BW.cell d3
      have D4 := BW.cell d4
      have D5 := BW.cell d5
      have D6 := BW.cell d6
      have D7 := BW.cell d7
      have D8 := BW.cell d8
      have D9 := BW.cell d9
      clear r0 r1 r2 r3 r4 r5 r6 r7 r8 r9 d0 d1 d2 d3 d4 d5 d6 d7 d8 d9 hUr hVr hu hv hum hvm
      by_cases he : u.rank = v.rank
      · have HUPTO := hid (show ∀ (j : Nat) (a b : Ru), j < i + 1 → U[j]? = some a → V[j]? = some b → a.rank = b.rank from fun j a b hj ha hb => by
          by_cases e : j = i
          · subst e
            rw [HU.out] at ha
            rw [HV.out] at hb
            cases ha
            cases hb
            exact he
          · exact HB.out.1 j a b (by omega) ha hb)
        have hEq : u.sem = v.sem := HS.out i u v HU.out HV.out fun j a b hj => HUPTO.out j a b (by omega)
        have HHU := hid (fun (w2 : World) (hb2 : Below wr.heap.size wr w2) => one_any u v w2 hEq (UV.up HUP.out hb2) (UV.up HVP.out hb2))
        clear he hEq
        go_upto_region 6 with (fail)
        refine wp_region_bw (by kernel_rfl) (by kernel_rfl) ?_
        repeat (go_big_quiet_step ((go_at_call 30; exact calls_bw (HHU.out _ (BW.h _)))))
        refine wpQuiet_nil ?_
        rintro _ ⟨pq, rfl⟩
        clear R0 R1 R2 R3 R4 R5 R6 R7 R8 R9 D0 D1 D2 D3 D4 D5 D6 D7 D8 D9
        have HB2 := hid (estep HB.out.2 pq.h)
        go_wp2_with fail
        go_roundg (n - (i + 1))
        case measure => omega
        case rel => exact ⟨i + 1, by go_num, by omega, by omega, hid ⟨HUPTO.out, HB2.out⟩⟩
      · have HZ := hid (show z = false by rw [← H.out]; exact rkEq_false HU.out HV.out he)
        have HHU := hid (fun (w2 : World) => one_rank u v w2 he)
        clear he
        go_upto_region 6 with (fail)
        refine wp_region_bw (by kernel_rfl) (by kernel_rfl) ?_
        repeat (go_big_quiet_step ((go_at_call 30; exact calls_bw (HHU.out _))))
        refine wpQuiet_nil ?_
        rintro _ ⟨pq, rfl⟩
        clear R0 R1 R2 R3 R4 R5 R6 R7 R8 R9 D0 D1 D2 D3 D4 D5 D6 D7 D8 D9
        have HB2 := hid (estep HB.out.2 pq.h)
        go_wp2_with fail
        go_returns
        exact ⟨by rw [HZ.out]; rfl, HB2.out⟩
    · obtain rfl : i = n := by omega
      have hltd : decide ((i : Int) < (i : Int)) = false := by simp
      have HZ := hid (show z = true by
        rw [← H.out]
        refine rkEq_true (by rw [HL.out, HNU.out]) fun j a b ha hb => HB.out.1 j a b ?_ ha hb
        have := (List.getElem?_eq_some_iff.1 ha).1
        have := HNU.out
        omega)
      go_wp2_with fail
      go_returns
      exact ⟨by rw [HZ.out]; rfl, HB.out.2⟩
end Go.Proofs.YtelglcakekgdeaaGreatDoor
namespace Go.Proofs.YtelglcakekgdeaaGreatDoor
set_option linter.unusedVariables false
set_option linter.unusedSimpArgs false
open Go.RowKit Go.Joins

/-- The definition's Same of tables, but for what their rules are. -/
theorem rtsame_with (v : Int) (f : List UInt8) (y1 y2 : Value) (z : Bool) (w : World) (hS : ∀ w2, Below w.heap.size w w2 → Calls Tryz.prog 20 #[y1, y2] w2 fun e w' => e = .returned (.bool z) ∧ Below w2.heap.size w2 w') :
    Calls Tryz.prog 10 #[.agg #[.int .i64 v, y1, .string (bs f)], .agg #[.int .i64 v, y2, .string (bs f)]] w fun e w' => e = .returned (.bool z) ∧ Below w.heap.size w w' := by
  have hb1 := enew w (.cells #[.int .i64 v, y1, .string (bs f)] 32)
  have hb2 := enew (w.alloc (.cells #[.int .i64 v, y1, .string (bs f)] 32)) (.cells #[.int .i64 v, y2, .string (bs f)] 32)
  have hr0 := (BT.new w v y1 f).up hb2
  have hs0 := BT.new (w.alloc (.cells #[.int .i64 v, y1, .string (bs f)] 32)) v y2 f
  rw [World.size_alloc] at hs0
  have hb0 := estep hb1 hb2
  have HB := hid hb0
  have HS := hid hS
  clear hb1 hb2 hb0 hS
  go_enter Tryz.func10, Tryz.ntmps10
  go_upto_region 1 with (fail)
  generalize (w.alloc (.cells #[.int .i64 v, y1, .string (bs f)] 32)).alloc (.cells #[.int .i64 v, y2, .string (bs f)] 32) = v0 at *
  obtain ⟨k0, k1, k2⟩ := hr0.cells
  obtain ⟨d0, d1, d2⟩ := hs0.cells
  go_wp2_with fail
  refine (HS.out _ HB.out).mono ?_
  rintro e w1 ⟨rfl, hb2⟩
  go_wp2_with fail
  go_returns
  exact ⟨rfl, estep HB.out hb2⟩
end Go.Proofs.YtelglcakekgdeaaGreatDoor
namespace Go.Proofs.YtelglcakekgdeaaGreatDoor
set_option linter.unusedVariables false
set_option linter.unusedSimpArgs false
open Go.RowKit Go.Joins

def wholeB (v : Int) (f : List UInt8) (U : List Rs) (l : List (List UInt8)) : Bool := decide ((compT v f U l).1 = 0) && decide (U.map rkS = (ordB rkS U).map rkS)
theorem compT_ok {v : Int} {f : List UInt8} {U : List Rs} {l : List (List UInt8)} {T : Tt} (h : compT v f U l = (0, T)) : T = (v, f, ordB rkS U) ∧ badV v = false ∧ chkC (chkR · l) f U = 0 := by
  unfold compT at h
  by_cases h1 : badV v = true
  · rw [if_pos h1] at h
    have := congrArg Prod.fst h
    simp at this
  rw [if_neg h1] at h
  by_cases h2 : chkC (chkR · l) f U ≠ 0
  · rw [if_pos h2] at h
    exact absurd (congrArg Prod.fst h) h2
  rw [if_neg h2] at h
  exact ⟨(congrArg Prod.snd h).symm, by simpa using h1, Decidable.not_not.1 h2⟩
theorem compT_no {v : Int} {f : List UInt8} {U : List Rs} {l : List (List UInt8)} {z : Int} {T : Tt} (h : compT v f U l = (z, T)) (hz : z ≠ 0) : T = noT := by
  unfold compT at h
  by_cases h1 : badV v = true
  · rw [if_pos h1] at h; exact (congrArg Prod.snd h).symm
  rw [if_neg h1] at h
  by_cases h2 : chkC (chkR · l) f U ≠ 0
  · rw [if_pos h2] at h; exact (congrArg Prod.snd h).symm
  rw [if_neg h2] at h
  exact absurd (congrArg Prod.fst h).symm hz
theorem rkEq_of {U V : List Ru} (he : V.map Ru.sem = ordB rkS (U.map Ru.sem)) : rkEq U V = decide ((U.map Ru.sem).map rkS = (ordB rkS (U.map Ru.sem)).map rkS) := by
  rw [rkEq, ← he, List.map_map, List.map_map]
  rfl
theorem ord_len {U V : List Ru} (he : V.map Ru.sem = ordB rkS (U.map Ru.sem)) : V.length = U.length := by
  have := congrArg List.length he
  rw [ordB_length, List.length_map, List.length_map] at this
  exact this
theorem okRs_ord {U V : List Ru} (he : V.map Ru.sem = ordB rkS (U.map Ru.sem)) (h : ∀ u ∈ U, okRs u.sem) : ∀ v ∈ V, okRs v.sem := fun v hv => by
  have h1 : v.sem ∈ ordB rkS (U.map Ru.sem) := by rw [← he]; exact List.mem_map.2 ⟨v, hv, rfl⟩
  obtain ⟨u, hu, e⟩ := List.mem_map.1 ((ordB_eqv (key := rkS) (U.map Ru.sem)).mem h1)
  rw [← e]; exact h u hu
set_option maxRecDepth 100000 in
set_option maxHeartbeats 4000000 in
theorem rwhole_any (v : Int) (y : Value) (f : List UInt8) (U : List Ru) (ny : Value) (l : List (List UInt8)) (w : World) (hy : RV w y U) (hs : ∀ u ∈ U, okRs u.sem) (hf : f.length ≤ 140737488351232) (hn : TX w (· < w.heap.size) ny l) {z : Bool} (H : Hid (wholeB v f (U.map Ru.sem) l = z)) :
    Calls Tryz.prog 9 #[.agg #[.int .i64 v, y, .string (bs f)], ny] w fun e w' => e = .returned (.bool z) ∧ Below w.heap.size w w' := by
  obtain ⟨zc, T, hc⟩ : ∃ z T, compT v f (U.map Ru.sem) l = (z, T) := ⟨_, _, rfl⟩
  have HC := hid hc
  have HW := hid (show z = (decide (zc = 0) && decide ((U.map Ru.sem).map rkS = (ordB rkS (U.map Ru.sem)).map rkS)) by rw [← H.out, wholeB, hc])
  have hb1 := enew w (.cells #[.int .i64 v, y, .string (bs f)] 32)
  have hr0 := BT.new w v y f
  have HY := hid (hy.up hb1)
  have HN := hid (tx_up hn hb1)
  have HB := hid hb1
  obtain ⟨A, c, rfl, -⟩ := id hy
  have HCM := hid (rtcompile_any (.slice A U.length c) f U v ny l _ HY.out hs hf HN.out HC)
  clear hc hy hn hb1 hs
  generalize hnU : U.length = n at *
  have HNU := hid hnU
  clear hnU
  go_enter Tryz.func9, Tryz.ntmps9
  go_upto_region 1 with (fail)
  generalize w.alloc (.cells #[.int .i64 v, .slice A n c, .string (bs f)] 32) = v0 at *
  obtain ⟨k0, k1, k2⟩ := hr0.cells
  go_wp2_with fail
  refine HCM.out.mono ?_
  rintro e w1 ⟨⟨t, rfl, y', V, rfl, hrv, hvm⟩, hb2⟩
  obtain ⟨A', c', rfl, hgx, hrp, -⟩ := id hrv
  have HB2 := hid (estep HB.out hb2)
  have hr1 := hr0.up hb2
  clear k0 k1 k2 hr0
  obtain ⟨T1, T2, T3⟩ := T
  simp only at hvm
  by_cases hz : zc = 0
  · subst hz
    obtain ⟨e1, -, hck⟩ := compT_ok HC.out
    obtain ⟨rfl, e2⟩ := Prod.mk.inj e1
    obtain ⟨rfl, rfl⟩ := Prod.mk.inj e2
    have hbn := enew w1 (.cells #[.int .i64 T1, .slice A' V.length c', .string (bs T2)] 32)
    have hr2 := hr1.up hbn
    have ht2 := BT.new w1 T1 (.slice A' V.length c') T2
    have h16 : U.length ≤ 1000000 := by have := (chkC_small hck).1; omega
    have HZ := hid (show rkEq U V = z by rw [HW.out, rkEq_of hvm]; simp)
    have HL := hid (ord_len hvm)
    obtain ⟨A9, c9, e9, hgU, hpU, -⟩ := (HY.out.up hb2).up hbn
    injection e9 with e1 e2 e3
    subst e1 e3
    clear e2
    have hgV := hgx.up hbn
    have hpV := hrp.up hbn
    have HS := hid (fun (w2 : World) (hb : Below (w1.alloc (.cells #[.int .i64 T1, .slice A' V.length c', .string (bs T2)] 32)).heap.size (w1.alloc (.cells #[.int .i64 T1, .slice A' V.length c', .string (bs T2)] 32)) w2) => rsame_rank A A' c c' U V w2 (stay_ord hvm) HL.out (hgU.up hb) (hpU.up hb) (hgV.up hb) (hpV.up hb) h16 HZ)
    have HE := hid (rtsame_with T1 T2 (.slice A U.length c) (.slice A' V.length c') z _ HS.out)
    rw [HNU.out] at HE
    have HB3 := hid (estep HB2.out hbn)
    clear hbn hr1 hgU hgx hrp hb2 hrv hpU hgV hpV HS
    generalize hnV : V.length = m at *
    clear hnV
    go_upto_region 2 with (fail)
    generalize w1.alloc (.cells #[.int .i64 T1, .slice A' m c', .string (bs T2)] 32) = v1 at *
    obtain ⟨k0, k1, k2⟩ := hr2.cells
    obtain ⟨t0, t1, t2⟩ := ht2.cells
    go_wp2_with fail
    with_reducible refine HE.out.mono ?_
    rintro e w3 ⟨rfl, hb4⟩
    go_wp2_with fail
    go_returns
    exact ⟨rfl, estep HB3.out hb4⟩
  · have d1 : decide (zc = 0) = false := decide_eq_false hz
    have d2 : (zc == 0) = false := by simpa using hz
    have HZ := hid (show z = false by rw [HW.out, d1]; rfl)
    have hbn := enew w1 (.cells #[.int .i64 T1, .slice A' V.length c', .string (bs T2)] 32)
    have HB3 := hid (estep HB2.out hbn)
    clear hbn hr1 hgx hrp hb2 hrv hz
    go_wp2_with fail
    go_returns
    exact ⟨by rw [HZ.out]; rfl, HB3.out⟩
end Go.Proofs.YtelglcakekgdeaaGreatDoor
namespace Go.Proofs.YtelglcakekgdeaaGreatDoor
set_option linter.unusedVariables false
set_option linter.unusedSimpArgs false
open Go.RowKit Go.Joins

/-- The place of the first rule that hits. -/
def lkI (hit : Ru → Bool) (U : List Ru) : Int := if U.findIdx hit < U.length then (U.findIdx hit : Int) else -1
theorem lkI_hit {hit : Ru → Bool} {U : List Ru} {k : Nat} {u : Ru} (hu : U[k]? = some u) (hn : ∀ (j : Nat) (x : Ru), j < k → U[j]? = some x → hit x = false) (hp : hit u = true) : lkI hit U = (k : Int) := by
  obtain ⟨hk, rfl⟩ := List.getElem?_eq_some_iff.1 hu
  have := findIdx_hit hit U k hk (fun j hj hlt => hn j _ hlt (List.getElem?_eq_getElem hj)) hp
  rw [lkI, this, if_pos hk]
theorem lkI_miss {hit : Ru → Bool} {U : List Ru} (hn : ∀ (j : Nat) (x : Ru), j < U.length → U[j]? = some x → hit x = false) : lkI hit U = -1 := by
  have := findIdx_miss hit U (fun j hj => hn j _ hj (List.getElem?_eq_getElem hj))
  rw [lkI, this, if_neg (by omega)]
theorem none_up {hit : Ru → Bool} {U : List Ru} {i : Nat} {u : Ru} (h : ∀ (j : Nat) (x : Ru), j < i → U[j]? = some x → hit x = false) (hu : U[i]? = some u) (hh : hit u = false) : ∀ (j : Nat) (x : Ru), j < i + 1 → U[j]? = some x → hit x = false := fun j x hj hx => by
  by_cases e : j = i
  · subst e; rw [hu] at hx; cases hx; exact hh
  · exact h j x (by omega) hx
/-- What a function value says of rules: a bool; it may make memory. -/
def FB (w0 : World) (fv : Value) (U : List Ru) (p : Ru → Bool) : Prop :=
  ∃ (F : Nat) (c : Value), fv = .func (.func F) #[] #[c] ∧ (∀ args w, (callFunc F args).run Tryz.prog w = .ok (.enter F args) w) ∧
    ∀ u ∈ U, ∀ w, Below w0.heap.size w0 w → Calls Tryz.prog F #[.agg #[.int .i64 u.rank, .slice u.xa u.xn u.xc, .string (bs u.tg), .int .i64 u.ap, .int .i64 u.st, .int .i64 u.dp, .int .i64 u.dt, .int .i64 u.mp, .string (bs u.mi), .int .i64 u.sm], c] w fun e w' => e = .returned (.bool (p u)) ∧ Below w.heap.size w w'
end Go.Proofs.YtelglcakekgdeaaGreatDoor
