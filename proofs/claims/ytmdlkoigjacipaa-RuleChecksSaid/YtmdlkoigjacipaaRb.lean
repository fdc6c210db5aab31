import Derived.Test.YtmdlkoigjacipaaRa
namespace Go.Proofs.Ytmdlkoigjacipaa
set_option linter.unusedVariables false
set_option linter.unusedSimpArgs false
open Go.RowKit Go.Joins

abbrev rkS (r : Rs) : Int := r.rank
theorem ordB_sem (U : List Ru) : (ordB rkR U).map Ru.sem = ordB rkS (U.map Ru.sem) := (ordB_map (key := rkS) Ru.sem U).symm
theorem mem_ordB {U : List Ru} {u : Ru} (h : u ∈ ordB rkR U) : u ∈ U := (ordB_eqv (key := rkR) U).mem h
set_option maxRecDepth 100000 in
set_option maxHeartbeats 8000000 in
theorem order_any (y : Value) (U : List Ru) (w : World) (hy : RV w y U) (h40 : U.length ≤ 40) (hps : ∀ u ∈ U, u.ps.length ≤ 1000000) :
    Calls Try.prog 26 #[y] w fun e w' => ∃ v V, e = .returned v ∧ (RV w' v V ∧ V.map Ru.sem = ordB rkS (U.map Ru.sem)) ∧ Below w.heap.size w w' := by
  obtain ⟨A, c, rfl, hx, hp, hA, hlc, hl9⟩ := hy
  have HCL := hid (cloneR_any A c U w hx hA (by omega))
  have HP := hid hp
  have HPS := hid hps
  clear hx hp hA hps
  go_enter Try.func26, Try.ntmps26
  go_wp2_with fail
  refine HCL.out.mono ?_
  rintro e w1 ⟨v1, rfl, hown, hb1⟩
  rcases GB.form encR_len hown with ⟨rfl, rfl⟩ | ⟨g, cap, rfl, hg1, hg2, hg3, hg4, hg5⟩
  · have HB1 := hid hb1
    clear hown hb1
    go_wp2_with fail
    go_loopg [9] 1 (fun g1 vi wr => vi = .int .i64 0 ∧ wr = w1)
    case atStart => exact ⟨rfl, rfl⟩
    case round =>
      obtain ⟨rfl, rfl⟩ := hrel
      go_wp2_with fail
      refine (sortStable_nil _).mono ?_
      rintro e w2 ⟨rfl, rfl⟩
      go_wp2_with fail
      go_returns
      exact ⟨_, [], rfl, ⟨⟨none, 0, rfl, GX.nil _ _ _, (fun u hu => by cases hu), fun _ => rfl, Nat.le_refl _, by simp⟩, rfl⟩, HB1.out⟩
  · have hGW : GW encR 10 w1 g 0 U := ⟨hg2, fun t ht => by rw [Nat.zero_add]; exact hg5 t ht⟩
    have hRP : RP w1 (fun b => b < w1.heap.size ∧ b ≠ g) U := (HP.out.same fun b hb => hb1.block b hb).imp fun b hb => ⟨Nat.lt_of_lt_of_le hb hb1.size, by omega⟩
    have HB1 := hid hb1
    have HG := hid (And.intro hg1 (And.intro hg3 hg4))
    have HST := hid (And.intro hGW hRP)
    clear hown hb1 hg1 hg3 hg4 hg5 hGW hRP hg2
    generalize hnU : U.length = n at *
    have HNU := hid hnU
    clear hnU
    go_wp2_with fail
    go_loopg [9] n (fun g1 vi wr => ∃ (i : Nat) (C : List Ru), vi = .int .i64 i ∧ i ≤ n ∧ n - i ≤ g1 ∧ Hid (C.length = n ∧ C.map Ru.sem = U.map Ru.sem ∧ GW encR 10 wr g 0 C ∧ RP wr (fun b => b < wr.heap.size ∧ b ≠ g) C ∧ Below w.heap.size w wr))
    case atStart => exact ⟨0, U, rfl, by omega, by omega, ⟨HNU.out, rfl, HST.out.1, HST.out.2, HB1.out⟩⟩
    case round =>
      obtain ⟨i, C, rfl, hin, hgk, HI⟩ := hrel
      by_cases hlt : i < n
      · have hltz : (i : Int) < (n : Int) := by omega
        have hi0 : (0 : Int) ≤ (i : Int) := by omega
        obtain ⟨f1, f2, f3, f4, f5⟩ := HI.out
        have hiC : i < C.length := by omega
        obtain ⟨u, hu⟩ : ∃ u, C[i]? = some u := ⟨_, List.getElem?_eq_getElem hiC⟩
        have humem : u ∈ C := List.mem_of_getElem? hu
        have hps2 : u.ps.length ≤ 1000000 := by
          have h1 : u.sem ∈ C.map Ru.sem := List.mem_map.2 ⟨u, humem, rfl⟩
          rw [f2] at h1
          obtain ⟨u', hu', he⟩ := List.mem_map.1 h1
          have := HPS.out u' hu'
          have e2 : u'.ps = u.ps := congrArg Rs.ps he
          rwa [e2] at this
        have hcell : wr.cell? ⟨g, i * 10 + 1, none⟩ = some (.slice u.xa u.xn u.xc) := by
          have h1 := f3.2 (i * 10 + 1) (idx_lt (k := 10) hiC (by omega))
          rw [Nat.zero_add] at h1
          have h2 := gvals_at encR 10 encR_len C i hiC 1 (by omega)
          rw [h1.1, h2]
          obtain ⟨_, rfl⟩ := List.getElem?_eq_some_iff.1 hu
          rfl
        have hfz : wr.frozen? ⟨g, i * 10 + 1, none⟩ = false := by
          have h1 := f3.2 (i * 10 + 1) (idx_lt (k := 10) hiC (by omega))
          rw [Nat.zero_add] at h1
          exact h1.2
        have hcp := cloneP_any u.x u.ps wr ((f4 u humem).imp fun b hb => hb.1) hps2
        have HCP := hid hcp
        have HU := hid (And.intro hu humem)
        have HF := hid (And.intro f1 (And.intro f2 (And.intro f3 (And.intro f4 f5))))
        have hgs := f3.1
        clear f1 f2 f3 f4 f5 hiC hu humem hps2 hcp HI
        unfold Ru.x at HCP
        go_wp2_with fail
        refine HCP.out.mono ?_
        rintro e w2 ⟨v2, rfl, hown2, hb2⟩
        obtain ⟨A2, c2, rfl, hgx2, hA2, hlc2, hcm2⟩ := GB.reads encP_len hown2
        have hcell2 : w2.cell? ⟨g, i * 10 + 1, none⟩ = some (.slice u.xa u.xn u.xc) := (hb2.cell (p := ⟨g, i * 10 + 1, none⟩) hgs).trans hcell
        have hfz2 : w2.frozen? ⟨g, i * 10 + 1, none⟩ = false := (hb2.frozen (p := ⟨g, i * 10 + 1, none⟩) hgs).trans hfz
        have H2 := hid (And.intro hgx2 (And.intro hA2 (And.intro hlc2 (And.intro hcm2 hb2))))
        clear hown2 hgx2 hA2 hlc2 hcm2 hb2 hcell hfz
        go_wp2_with fail
        go_roundg (n - (i + 1))
        case measure => omega
        case rel =>
          obtain ⟨f1, f2, f3, f4, f5⟩ := HF.out
          obtain ⟨hu, humem⟩ := HU.out
          obtain ⟨hgx2, hA2, hlc2, hcm2, hb2⟩ := H2.out
          have hg2 : GW encR 10 w2 g 0 C := f3.same (hb2.block g f3.1) hb2.size
          have hsz := hb2.size
          have hkeep : ∀ b, b ≠ g → (w2.setCell ⟨g, i * 10 + 1, none⟩ (.slice A2 u.ps.length c2)).heap[b]? = w2.heap[b]? := fun b hb => Below.heap_setCell _ _ _ b hb
          refine ⟨i + 1, C.set i (u.with_ A2 u.ps.length c2), by go_num, by omega, by omega, ⟨by simp; exact f1, ?_, hg2.cell1 hu A2 u.ps.length c2, fun z hz => ?_, ?_⟩⟩
          · rw [List.map_set, Ru.with_sem, ← f2]
            have : (C.map Ru.sem)[i]? = some u.sem := by rw [List.getElem?_map, hu]; rfl
            obtain ⟨h1, h2⟩ := List.getElem?_eq_some_iff.1 this
            rw [← h2, List.set_getElem_self]
          · rw [World.size_setCell]
            rcases List.mem_or_eq_of_mem_set hz with hz | rfl
            · have h1 := (f4 z hz).same (w' := w2) fun b hb => hb2.block b hb.1
              exact (h1.imp (M := fun b => b < w2.heap.size ∧ b ≠ g) fun b hb => ⟨Nat.lt_of_lt_of_le hb.1 hsz, hb.2⟩).same fun b hb => hkeep b hb.2
            · refine ⟨A2, c2, rfl, ?_, hA2, hlc2, by unfold maxLen at hcm2; show u.ps.length ≤ _; omega⟩
              have h1 : PX w2 (fun b => b < w2.heap.size ∧ b ≠ g) A2 u.ps := (hgx2.imp fun b hb => ⟨hb.2, by have := f3.1; have := hb.1; omega⟩).px
              exact h1.same fun b hb => hkeep b hb.2
          · exact (f5.trans (hb2.mono (by have := f5.size; omega))).setCell (by have := HG.out.1; exact this) _
      · obtain rfl : i = n := by omega
        have hltz : ¬ (i : Int) < (i : Int) := by omega
        obtain ⟨f1, f2, f3, f4, f5⟩ := HI.out
        have hs := sortStable_any g cap i C f1.symm h40 wr f3
        have HS := hid hs
        have HF := hid (And.intro f1 (And.intro f2 (And.intro f3 (And.intro f4 f5))))
        clear hs f1 f2 f3 f4 f5 HI
        go_wp2_with fail
        refine HS.out.mono ?_
        rintro e w2 ⟨rfl, hg2, ho2⟩
        have H2 := hid (And.intro hg2 ho2)
        clear hg2 ho2
        go_wp2_with fail
        go_returns
        obtain ⟨f1, f2, f3, f4, f5⟩ := HF.out
        obtain ⟨hg2, ho2⟩ := H2.out
        refine ⟨_, ordB rkR C, rfl, ⟨⟨some ⟨g, 0, none⟩, cap, by rw [ordB_length, f1]; rfl, ?_, ?_, fun h => (by cases h), by rw [ordB_length, f1]; have := HG.out.2.1; exact this, by rw [ordB_length, f1]; omega⟩, by rw [ordB_sem, f2]⟩, ?_⟩
        · intro j hj
          refine ⟨g, 0, rfl, hg2.1, fun q hq => ?_⟩
          have h1 := hg2.2 (j * 10 + q) (idx_lt (k := 10) hj hq)
          rw [h1.1]
          exact gvals_at encR 10 encR_len _ j hj q hq
        · have h1 : RP w2 (fun b => b < w2.heap.size ∧ b ≠ g) C := (f4.same fun b hb => ho2.block b hb.1 hb.2).imp fun b hb => ⟨Nat.lt_of_lt_of_le hb.1 ho2.size, hb.2⟩
          exact (h1.imp fun b hb => hb.1).sub fun u hu => mem_ordB hu
        · have hg1 := HG.out.1
          have hsz := f5.size
          exact ⟨ho2.os.trans f5.os, ho2.tape.trans f5.tape, ho2.output.trans f5.output, Nat.le_trans hsz ho2.size, fun k hk => (ho2.block k (by omega) (by omega)).trans (f5.block k hk)⟩
end Go.Proofs.Ytmdlkoigjacipaa
