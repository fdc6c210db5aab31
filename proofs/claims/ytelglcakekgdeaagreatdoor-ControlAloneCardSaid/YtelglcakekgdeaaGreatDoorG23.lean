/- Texts put together: Ra Rb Ka Qd. -/
import Derived.Test.YtelglcakekgdeaaGreatDoorG18
import Derived.Test.YtelglcakekgdeaaGreatDoorG22
import Derived.Test.YtelglcakekgdeaaGreatDoorG08
import Derived.Test.YtelglcakekgdeaaGreatDoorG19
namespace Go.Proofs.YtelglcakekgdeaaGreatDoor
set_option linter.unusedVariables false
set_option linter.unusedSimpArgs false
open Go.RowKit Go.Joins

set_option maxRecDepth 100000 in
set_option maxHeartbeats 2000000 in
theorem ins_nil (w : World) :
    Calls Tryz.prog 69 #[.slice none 0 0, .int .i64 0, .int .i64 0, .func (.func 41) #[] #[]] w fun e w' => e = .returned (.tuple #[]) ∧ w' = w := by
  go_enter Tryz.func69, Tryz.ntmps69
  go_wp2_with fail
  go_loopg [8] 1 (fun g1 vi wr => vi = .int .i64 1 ∧ wr = w)
  case atStart => exact ⟨rfl, rfl⟩
  case round =>
    obtain ⟨rfl, rfl⟩ := hrel
    go_wp2_with fail
    go_end0
    exact ⟨rfl, rfl⟩
set_option maxRecDepth 100000 in
set_option maxHeartbeats 2000000 in
theorem stable_nil (w : World) :
    Calls Tryz.prog 53 #[.slice none 0 0, .int .i64 0, .func (.func 41) #[] #[]] w fun e w' => e = .returned (.tuple #[]) ∧ w' = w := by
  go_enter Tryz.func53, Tryz.ntmps53
  go_wp2_with fail
  go_loopg [7, 8] 1 (fun g1 va vb wr => va = .int .i64 0 ∧ vb = .int .i64 20 ∧ wr = w)
  case atStart => exact ⟨rfl, rfl, rfl⟩
  case round =>
    obtain ⟨rfl, rfl, rfl⟩ := hrel
    go_wp2_with fail
    refine (ins_nil _).mono ?_
    rintro e w2 ⟨rfl, rfl⟩
    go_wp2_with fail
    go_loopg [6] 1 (fun g1 vs wr => vs = .int .i64 20 ∧ wr = w2)
    case atStart => exact ⟨rfl, rfl⟩
    case round =>
      obtain ⟨rfl, rfl⟩ := hrel
      go_wp2_with fail
      go_end0
      exact ⟨rfl, rfl⟩
set_option maxHeartbeats 1600000 in
theorem sortStable_nil (w : World) :
    Calls Tryz.prog 40 #[.slice none 0 0, .func (.func 41) #[] #[]] w fun e w' => e = .returned (.tuple #[]) ∧ w' = w := by
  go_enter Tryz.func40, Tryz.ntmps40
  go_wp2_with fail
  refine (stable_nil _).mono ?_
  rintro e w2 ⟨rfl, rfl⟩
  go_wp2_with fail
  go_end0
  exact ⟨rfl, rfl⟩
def Ru.with_ (u : Ru) (a : Option Addr) (n c : Nat) : Ru := { u with xa := a, xn := n, xc := c }
theorem Ru.with_sem (u : Ru) (a : Option Addr) (n c : Nat) : (u.with_ a n c).sem = u.sem := rfl
theorem GW.cell1 {w : World} {g : Nat} {C : List Ru} (h : GW encR 10 w g 0 C) {i : Nat} {u : Ru} (hi : C[i]? = some u) (a : Option Addr) (n c : Nat) : GW encR 10 (w.setCell ⟨g, i * 10 + 1, none⟩ (.slice a n c)) g 0 (C.set i (u.with_ a n c)) := by
  obtain ⟨hlt, rfl⟩ := List.getElem?_eq_some_iff.1 hi
  refine ⟨by rw [World.size_setCell]; exact h.1, fun t ht => ?_⟩
  rw [List.length_set] at ht
  rw [gvals_set encR 10 encR_len C i hlt _ t ht]
  have h0 := h.2 t ht
  have hfz : (w.setCell ⟨g, i * 10 + 1, none⟩ (.slice a n c)).frozen? ⟨g, 0 + t, none⟩ = w.frozen? ⟨g, 0 + t, none⟩ := by go_simp
  rw [hfz]
  refine ⟨?_, h0.2⟩
  by_cases e : t = i * 10 + 1
  · subst e
    rw [if_pos (by omega), Nat.zero_add]
    have hc : (w.cell? ⟨g, i * 10 + 1, none⟩).isSome = true := by
      rw [Nat.zero_add] at h0
      rw [h0.1, List.getElem?_eq_getElem (by rw [gvals_len encR 10 encR_len]; exact ht)]; rfl
    obtain ⟨old, hold⟩ := Option.isSome_iff_exists.1 hc
    rw [show i * 10 + 1 - i * 10 = 1 by omega]
    have := World.cell?_setCell_same w ⟨g, i * 10 + 1, none⟩ (.slice a n c) hold
    rw [this]; rfl
  · have hne : (w.setCell ⟨g, i * 10 + 1, none⟩ (.slice a n c)).cell? ⟨g, 0 + t, none⟩ = w.cell? ⟨g, 0 + t, none⟩ := World.cell?_setCell_other w ⟨g, i * 10 + 1, none⟩ ⟨g, 0 + t, none⟩ (.slice a n c) (by intro hh; injection hh with _ h2 _; omega)
    rw [hne, h0.1]
    by_cases hin : i * 10 ≤ t ∧ t < i * 10 + 10
    · rw [if_pos hin]
      obtain ⟨j, rfl⟩ : ∃ j, t = i * 10 + j := ⟨t - i * 10, by omega⟩
      rw [gvals_at encR 10 encR_len C i hlt j (by omega), show i * 10 + j - i * 10 = j by omega]
      match j, (show j < 10 by omega), (show j ≠ 1 by omega) with
      | 0, _, _ => rfl
      | 2, _, _ => rfl
      | 3, _, _ => rfl
      | 4, _, _ => rfl
      | 5, _, _ => rfl
      | 6, _, _ => rfl
      | 7, _, _ => rfl
      | 8, _, _ => rfl
      | 9, _, _ => rfl
    · rw [if_neg hin]
end Go.Proofs.YtelglcakekgdeaaGreatDoor
namespace Go.Proofs.YtelglcakekgdeaaGreatDoor
set_option linter.unusedVariables false
set_option linter.unusedSimpArgs false
open Go.RowKit Go.Joins

abbrev rkS (r : Rs) : Int := r.rank
theorem ordB_sem (U : List Ru) : (ordB rkR U).map Ru.sem = ordB rkS (U.map Ru.sem) := (ordB_map (key := rkS) Ru.sem U).symm
theorem mem_ordB {U : List Ru} {u : Ru} (h : u ∈ ordB rkR U) : u ∈ U := (ordB_eqv (key := rkR) U).mem h
set_option maxRecDepth 100000 in
set_option maxHeartbeats 8000000 in
theorem order_any (y : Value) (U : List Ru) (w : World) (hy : RV w y U) (h40 : U.length ≤ 40) (hps : ∀ u ∈ U, u.ps.length ≤ 1000000) :
    Calls Tryz.prog 27 #[y] w fun e w' => ∃ v V, e = .returned v ∧ (RV w' v V ∧ V.map Ru.sem = ordB rkS (U.map Ru.sem)) ∧ Below w.heap.size w w' := by
  obtain ⟨A, c, rfl, hx, hp, hA, hlc, hl9⟩ := hy
  have HCL := hid (cloneR_any A c U w hx hA (by omega))
  have HP := hid hp
  have HPS := hid hps
  clear hx hp hA hps
  go_enter Tryz.func27, Tryz.ntmps27
  go_wp2_with fail
  refine HCL.out.mono ?_
  rintro e w1 ⟨v1, rfl, hown, hb1⟩
  rcases GB.form encR_len hown with ⟨rfl, rfl⟩ | ⟨g, cap, rfl, hg1, hg2, hg3, hg4, hg5⟩
  · have HB1 := hid hb1
    clear hown hb1
    go_wp2_with fail
    go_loopg [9] 1 (fun g1 vi wr => vi = .int .i64 0 ∧ wr = w1)
    case atStart => exact ⟨rfl, rfl⟩
    case round =>
      obtain ⟨rfl, rfl⟩ := hrel
      go_wp2_with fail
      refine (sortStable_nil _).mono ?_
      rintro e w2 ⟨rfl, rfl⟩
      go_wp2_with fail
      go_returns
      exact ⟨_, [], rfl, ⟨⟨none, 0, rfl, GX.nil _ _ _, (fun u hu => by cases hu), fun _ => rfl, Nat.le_refl _, by simp⟩, rfl⟩, HB1.out⟩
  · have hGW : GW encR 10 w1 g 0 U := ⟨hg2, fun t ht => by rw [Nat.zero_add]; exact hg5 t ht⟩
    have hRP : RP w1 (fun b => b < w1.heap.size ∧ b ≠ g) U := (HP.out.same fun b hb => hb1.block b hb).imp fun b hb => ⟨Nat.lt_of_lt_of_le hb hb1.size, by omega⟩
    have HB1 := hid hb1
    have HG := hid (And.intro hg1 (And.intro hg3 hg4))
    have HST := hid (And.intro hGW hRP)
    clear hown hb1 hg1 hg3 hg4 hg5 hGW hRP hg2
    generalize hnU : U.length = n at *
    have HNU := hid hnU
    clear hnU
    go_wp2_with fail
    go_loopg [9] n (fun g1 vi wr => ∃ (i : Nat) (C : List Ru), vi = .int .i64 i ∧ i ≤ n ∧ n - i ≤ g1 ∧ Hid (C.length = n ∧ C.map Ru.sem = U.map Ru.sem ∧ GW encR 10 wr g 0 C ∧ RP wr (fun b => b < wr.heap.size ∧ b ≠ g) C ∧ Below w.heap.size w wr))
    case atStart => exact ⟨0, U, rfl, by omega, by omega, ⟨HNU.out, rfl, HST.out.1, HST.out.2, HB1.out⟩⟩
    case round =>
      obtain ⟨i, C, rfl, hin, hgk, HI⟩ := hrel
      by_cases hlt : i < n
      · have hltz : (i : Int) < (n : Int) := by omega
        have hi0 : (0 : Int) ≤ (i : Int) := by omega
        obtain ⟨f1, f2, f3, f4, f5⟩ := HI.out
        have hiC : i < C.length := by omega
        obtain ⟨u, hu⟩ : ∃ u, C[i]? = some u := ⟨_, List.getElem?_eq_getElem hiC⟩
        have humem : u ∈ C := List.mem_of_getElem? hu
        have hps2 : u.ps.length ≤ 1000000 := by
          have h1 : u.sem ∈ C.map Ru.sem := List.mem_map.2 ⟨u, humem, rfl⟩
          rw [f2] at h1
          obtain ⟨u', hu', he⟩ := List.mem_map.1 h1
          have := HPS.out u' hu'
          have e2 : u'.ps = u.ps := congrArg Rs.ps he
          rwa [e2] at this
        have hcell : wr.cell? ⟨g, i * 10 + 1, none⟩ = some (.slice u.xa u.xn u.xc) := by
          have h1 := f3.2 (i * 10 + 1) (idx_lt (k := 10) hiC (by omega))
          rw [Nat.zero_add] at h1
          have h2 := gvals_at encR 10 encR_len C i hiC 1 (by omega)
          rw [h1.1, h2]
          obtain ⟨_, rfl⟩ := List.getElem?_eq_some_iff.1 hu
          rfl
        have hfz : wr.frozen? ⟨g, i * 10 + 1, none⟩ = false := by
          have h1 := f3.2 (i * 10 + 1) (idx_lt (k := 10) hiC (by omega))
          rw [Nat.zero_add] at h1
          exact h1.2
        have hcp := cloneP_any u.x u.ps wr ((f4 u humem).imp fun b hb => hb.1) hps2
        have HCP := hid hcp
        have HU := hid (And.intro hu humem)
        have HF := hid (And.intro f1 (And.intro f2 (And.intro f3 (And.intro f4 f5))))
        have hgs := f3.1
        clear f1 f2 f3 f4 f5 hiC hu humem hps2 hcp HI
        unfold Ru.x at HCP
        go_wp2_with fail
        refine HCP.out.mono ?_
        rintro e w2 ⟨v2, rfl, hown2, hb2⟩
        obtain ⟨A2, c2, rfl, hgx2, hA2, hlc2, hcm2⟩ := GB.reads encP_len hown2
        have hcell2 : w2.cell? ⟨g, i * 10 + 1, none⟩ = some (.slice u.xa u.xn u.xc) := (hb2.cell (p := ⟨g, i * 10 + 1, none⟩) hgs).trans hcell
        have hfz2 : w2.frozen? ⟨g, i * 10 + 1, none⟩ = false := (hb2.frozen (p := ⟨g, i * 10 + 1, none⟩) hgs).trans hfz
        have H2 := hid (And.intro hgx2 (And.intro hA2 (And.intro hlc2 (And.intro hcm2 hb2))))
        clear hown2 hgx2 hA2 hlc2 hcm2 hb2 hcell hfz
        go_wp2_with fail
        go_roundg (n - (i + 1))
        case measure => omega
        case rel =>
          obtain ⟨f1, f2, f3, f4, f5⟩ := HF.out
          obtain ⟨hu, humem⟩ := HU.out
          obtain ⟨hgx2, hA2, hlc2, hcm2, hb2⟩ := H2.out
          have hg2 : GW encR 10 w2 g 0 C := f3.same (hb2.block g f3.1) hb2.size
          have hsz := hb2.size
          have hkeep : ∀ b, b ≠ g → (w2.setCell ⟨g, i * 10 + 1, none⟩ (.slice A2 u.ps.length c2)).heap[b]? = w2.heap[b]? := fun b hb => Below.heap_setCell _ _ _ b hb
          refine ⟨i + 1, C.set i (u.with_ A2 u.ps.length c2), by go_num, by omega, by omega, ⟨by simp; exact f1, ?_, hg2.cell1 hu A2 u.ps.length c2, fun z hz => ?_, ?_⟩⟩
          · rw [List.map_set, Ru.with_sem, ← f2]
            have : (C.map Ru.sem)[i]? = some u.sem := by rw [List.getElem?_map, hu]; rfl
            obtain ⟨h1, h2⟩ := List.getElem?_eq_some_iff.1 this
            rw [← h2, List.set_getElem_self]
          · rw [World.size_setCell]
            rcases List.mem_or_eq_of_mem_set hz with hz | rfl
            · have h1 := (f4 z hz).same (w' := w2) fun b hb => hb2.block b hb.1
              exact (h1.imp (M := fun b => b < w2.heap.size ∧ b ≠ g) fun b hb => ⟨Nat.lt_of_lt_of_le hb.1 hsz, hb.2⟩).same fun b hb => hkeep b hb.2
            · refine ⟨A2, c2, rfl, ?_, hA2, hlc2, by unfold maxLen at hcm2; show u.ps.length ≤ _; omega⟩
              have h1 : PX w2 (fun b => b < w2.heap.size ∧ b ≠ g) A2 u.ps := (hgx2.imp fun b hb => ⟨hb.2, by have := f3.1; have := hb.1; omega⟩).px
              exact h1.same fun b hb => hkeep b hb.2
          · exact (f5.trans (hb2.mono (by have := f5.size; omega))).setCell (by have := HG.out.1; exact this) _
      · obtain rfl : i = n := by omega
        have hltz : ¬ (i : Int) < (i : Int) := by omega
        obtain ⟨f1, f2, f3, f4, f5⟩ := HI.out
        have hs := sortStable_any g cap i C f1.symm h40 wr f3
        have HS := hid hs
        have HF := hid (And.intro f1 (And.intro f2 (And.intro f3 (And.intro f4 f5))))
        clear hs f1 f2 f3 f4 f5 HI
        go_wp2_with fail
        refine HS.out.mono ?_
        rintro e w2 ⟨rfl, hg2, ho2⟩
        have H2 := hid (And.intro hg2 ho2)
        clear hg2 ho2
        go_wp2_with fail
        go_returns
        obtain ⟨f1, f2, f3, f4, f5⟩ := HF.out
        obtain ⟨hg2, ho2⟩ := H2.out
        refine ⟨_, ordB rkR C, rfl, ⟨⟨some ⟨g, 0, none⟩, cap, by rw [ordB_length, f1]; rfl, ?_, ?_, fun h => (by cases h), by rw [ordB_length, f1]; have := HG.out.2.1; exact this, by rw [ordB_length, f1]; omega⟩, by rw [ordB_sem, f2]⟩, ?_⟩
        · intro j hj
          refine ⟨g, 0, rfl, hg2.1, fun q hq => ?_⟩
          have h1 := hg2.2 (j * 10 + q) (idx_lt (k := 10) hj hq)
          rw [h1.1]
          exact gvals_at encR 10 encR_len _ j hj q hq
        · have h1 : RP w2 (fun b => b < w2.heap.size ∧ b ≠ g) C := (f4.same fun b hb => ho2.block b hb.1 hb.2).imp fun b hb => ⟨Nat.lt_of_lt_of_le hb.1 ho2.size, hb.2⟩
          exact (h1.imp fun b hb => hb.1).sub fun u hu => mem_ordB hu
        · have hg1 := HG.out.1
          have hsz := f5.size
          exact ⟨ho2.os.trans f5.os, ho2.tape.trans f5.tape, ho2.output.trans f5.output, Nat.le_trans hsz ho2.size, fun k hk => (ho2.block k (by omega) (by omega)).trans (f5.block k hk)⟩
end Go.Proofs.YtelglcakekgdeaaGreatDoor
namespace Go.Proofs.YtelglcakekgdeaaGreatDoor
set_option linter.unusedVariables false
set_option linter.unusedSimpArgs false
open Go.RowKit

/-- Order changes nothing of what may be, where all may be. -/
theorem chkC_ord {p : Rs → Int} {f : List UInt8} {U : List Rs} (h : chkC p f U = 0) : chkC p f (ordB rkS U) = 0 := by
  obtain ⟨h1, h2, h3⟩ := chkC_ok h
  exact chkC_zero h1 (by rw [ordB_length]; exact h2) fun r hr => h3 r ((ordB_eqv (key := rkS) U).mem hr)
end Go.Proofs.YtelglcakekgdeaaGreatDoor
namespace Go.Proofs.YtelglcakekgdeaaGreatDoor
set_option linter.unusedVariables false
set_option linter.unusedSimpArgs false

section
variable {α : Type} {key : α → Int}
/-- How many of the first n have this key. -/
def cntK (key : α → Int) (r : Int) (L : List α) (n : Nat) : Nat := ((L.take n).filter (fun x => decide (key x = r))).length
theorem cntK_zero (r : Int) (L : List α) : cntK key r L 0 = 0 := by simp [cntK]
theorem cntK_succ (r : Int) {L : List α} {i : Nat} {x : α} (h : L[i]? = some x) : cntK key r L (i + 1) = cntK key r L i + if key x = r then 1 else 0 := by
  obtain ⟨hi, rfl⟩ := List.getElem?_eq_some_iff.1 h
  unfold cntK
  rw [List.take_add_one, List.filter_append, List.length_append, List.getElem?_eq_getElem hi]
  by_cases e : key L[i] = r <;> simp [e]
theorem filter_at (r : Int) {L : List α} {i : Nat} {x : α} (h : L[i]? = some x) (hr : key x = r) : (L.filter (fun x => decide (key x = r)))[cntK key r L i]? = some x := by
  obtain ⟨hi, rfl⟩ := List.getElem?_eq_some_iff.1 h
  have e : L.filter (fun x => decide (key x = r)) = (L.take i).filter (fun x => decide (key x = r)) ++ (L.drop i).filter (fun x => decide (key x = r)) := by
    rw [← List.filter_append, List.take_append_drop]
  unfold cntK
  rw [e, List.getElem?_append_right (Nat.le_refl _), Nat.sub_self]
  rw [List.drop_eq_getElem_cons hi, List.filter_cons, if_pos (by simpa using hr)]
  rfl
theorem cntK_all (r : Int) (L : List α) : cntK key r L L.length = (L.filter (fun x => decide (key x = r))).length := by unfold cntK; rw [List.take_length]
theorem cntK_none {T : List α} (hs : Srt key T) {i : Nat} {x y : α} (hx : T[i + 1]? = some x) (hy : T[i]? = some y) (hne : key x ≠ key y) : cntK key (key x) T (i + 1) = 0 := by
  unfold cntK
  rw [List.length_eq_zero_iff, List.filter_eq_nil_iff]
  intro z hz
  obtain ⟨j, hj, hjl, hk⟩ := mem_kat_take (key := key) hz
  have hil := (List.getElem?_eq_some_iff.1 hx).1
  have h1 := srt_kat hs (i := j) (j := i) (by omega) (by omega)
  have h2 := srt_kat hs (i := i) (j := i + 1) (by omega) hil
  rw [kat_eq hx, kat_eq hy] at h2
  rw [kat_eq hy] at h1
  simp
  omega
theorem srt_next {T : List α} (hs : Srt key T) {i : Nat} {x y : α} (hx : T[i + 1]? = some x) (hy : T[i]? = some y) : key x ≤ key y := by
  have h2 := srt_kat hs (i := i) (j := i + 1) (by omega) (List.getElem?_eq_some_iff.1 hx).1
  rwa [kat_eq hx, kat_eq hy] at h2
end

theorem fstK_spec (hit : Ru → Bool) (U : List Ru) : ∀ n, n ≤ U.length → match fstK hit U n with
    | none => ∀ j u, j < n → U[j]? = some u → hit u = false
    | some k => k < n ∧ ∃ u, U[k]? = some u ∧ hit u = true ∧ ∀ j v, j < n → U[j]? = some v → hit v = true → v.rank ≤ u.rank ∧ (v.rank = u.rank → k ≤ j)
  | 0, _ => by simp [fstK]
  | n + 1, hn => by
    have ih := fstK_spec hit U n (by omega)
    have hu : U[n]? = some U[n] := List.getElem?_eq_getElem (by omega)
    cases hf : fstK hit U n with
    | none =>
      rw [hf] at ih
      rw [fstK_none hu hf]
      by_cases hh : hit U[n] = true
      · rw [if_pos hh]
        refine ⟨by omega, _, hu, hh, fun j v hj hv hit' => ?_⟩
        rcases Nat.lt_or_ge j n with h | h
        · rw [ih j v h hv] at hit'; cases hit'
        · obtain rfl : j = n := by omega
          rw [hu] at hv
          obtain rfl := Option.some.inj hv
          exact ⟨Int.le_refl _, fun _ => Nat.le_refl _⟩
      · rw [if_neg hh]
        intro j v hj hv
        rcases Nat.lt_or_ge j n with h | h
        · exact ih j v h hv
        · obtain rfl : j = n := by omega
          rw [hu] at hv
          obtain rfl := Option.some.inj hv
          simpa using hh
    | some k =>
      rw [hf] at ih
      obtain ⟨hk, u, huk, hhu, hall⟩ := ih
      rw [fstK_some hu hf, kat_eq (key := rkR) huk]
      by_cases hh : hit U[n] = true ∧ rkR u < U[n].rank
      · rw [if_pos hh]
        refine ⟨by omega, _, hu, hh.1, fun j v hj hv hit' => ?_⟩
        rcases Nat.lt_or_ge j n with h | h
        · have := (hall j v h hv hit').1
          have h2 := hh.2
          unfold rkR at h2
          exact ⟨by omega, fun e => by omega⟩
        · obtain rfl : j = n := by omega
          rw [hu] at hv
          obtain rfl := Option.some.inj hv
          exact ⟨Int.le_refl _, fun _ => Nat.le_refl _⟩
      · rw [if_neg hh]
        refine ⟨by omega, u, huk, hhu, fun j v hj hv hit' => ?_⟩
        rcases Nat.lt_or_ge j n with h | h
        · exact hall j v h hv hit'
        · obtain rfl : j = n := by omega
          rw [hu] at hv
          obtain rfl := Option.some.inj hv
          have : ¬ (rkR u < U[j].rank) := fun h => hh ⟨hit', h⟩
          unfold rkR at this
          exact ⟨by omega, fun _ => by omega⟩
theorem map_at {U : List Ru} {T : List Rs} (h : U.map Ru.sem = T) {i : Nat} {u : Ru} (hu : U[i]? = some u) : T[i]? = some u.sem := by
  rw [← h, List.getElem?_map, hu]; rfl
theorem at_map {U : List Ru} {T : List Rs} (h : U.map Ru.sem = T) {i : Nat} {s : Rs} (hs : T[i]? = some s) : ∃ u, U[i]? = some u ∧ u.sem = s := by
  rw [← h, List.getElem?_map] at hs
  cases hu : U[i]? with
  | none => rw [hu] at hs; cases hs
  | some u => rw [hu] at hs; exact ⟨u, rfl, Option.some.inj hs⟩
/-- None hits in what is ordered: none is first, neither here nor there. -/
theorem fst_none {hit : Rs → Bool} {U : List Ru} {T : List Rs} (hm : ∀ s ∈ U.map Ru.sem, s ∈ T) (h0 : ∀ j s, j < T.length → T[j]? = some s → hit s = false) : fstK (fun u => hit u.sem) U U.length = none := by
  have h := fstK_spec (fun u => hit u.sem) U U.length (Nat.le_refl _)
  cases hf : fstK (fun u => hit u.sem) U U.length with
  | none => rfl
  | some k =>
    rw [hf] at h
    obtain ⟨hk, u, hu, hh, -⟩ := h
    have hmem : u.sem ∈ T := hm _ (List.mem_map.2 ⟨u, List.mem_of_getElem? hu, rfl⟩)
    obtain ⟨j, hj, hs⟩ := List.getElem_of_mem hmem
    rw [h0 j u.sem hj (by rw [List.getElem?_eq_getElem hj, hs])] at hh
    cases hh
/-- The first that hits of a sorted list is the one that First finds there. -/
theorem fst_sorted {hit : Rs → Bool} {V : List Ru} {T : List Rs} (hV : V.map Ru.sem = T) (hs : Srt rkS T) {f : Nat} {s : Rs} (hf : T[f]? = some s) (hh : hit s = true) (h0 : ∀ j t, j < f → T[j]? = some t → hit t = false) : fstK (fun u => hit u.sem) V V.length = some f := by
  obtain ⟨v, hv, hvs⟩ := at_map hV hf
  have hfl := (List.getElem?_eq_some_iff.1 hv).1
  have h := fstK_spec (fun u => hit u.sem) V V.length (Nat.le_refl _)
  cases hk : fstK (fun u => hit u.sem) V V.length with
  | none =>
    rw [hk] at h
    have := h f v hfl hv
    rw [hvs, hh] at this
    cases this
  | some k =>
    rw [hk] at h
    obtain ⟨hkl, u, hu, hhu, hall⟩ := h
    obtain ⟨h1, h2⟩ := hall f v hfl hv (by rw [hvs]; exact hh)
    have hfk : f ≤ k := by
      rcases Nat.lt_or_ge k f with h | h
      · have := h0 k _ h (map_at hV hu)
        rw [this] at hhu
        cases hhu
      · exact h
    have h3 := srt_kat hs hfk (by rw [← hV, List.length_map]; exact hkl)
    rw [kat_eq (map_at hV hu), kat_eq (map_at hV hv)] at h3
    have h4 : v.rank = u.rank := by
      have : u.rank ≤ v.rank := h3
      omega
    have := h2 h4
    rw [show k = f by omega]
theorem find_least {α : Type} {p : α → Bool} {L : List α} {k : Nat} {x : α} (hx : L[k]? = some x) (hp : p x = true) (h0 : ∀ j y, j < k → L[j]? = some y → p y = false) : L.find? p = some x := by
  obtain ⟨hk, rfl⟩ := List.getElem?_eq_some_iff.1 hx
  rw [List.find?_eq_some_iff_getElem]
  exact ⟨hp, k, hk, rfl, fun j hj => by simpa using h0 j _ hj (List.getElem?_eq_getElem (by omega))⟩
/-- It is the same rule as the one that First finds of those as they stood. -/
theorem fst_stood {hit : Rs → Bool} {U : List Ru} {T : List Rs} (he : Eqv rkS (U.map Ru.sem) T) (hs : Srt rkS T) {f : Nat} {s : Rs} (hf : T[f]? = some s) (hh : hit s = true) (h0 : ∀ j t, j < f → T[j]? = some t → hit t = false) :
    ∃ k u, fstK (fun u => hit u.sem) U U.length = some k ∧ U[k]? = some u ∧ u.sem = s := by
  have hsT : s ∈ T := List.mem_of_getElem? hf
  have hsU : s ∈ U.map Ru.sem := he.symm.mem hsT
  obtain ⟨v, hvU, hvs⟩ := List.mem_map.1 hsU
  obtain ⟨j, hj, hvj⟩ := List.getElem_of_mem hvU
  have hv : U[j]? = some v := by rw [List.getElem?_eq_getElem hj, hvj]
  have h := fstK_spec (fun u => hit u.sem) U U.length (Nat.le_refl _)
  cases hk : fstK (fun u => hit u.sem) U U.length with
  | none =>
    rw [hk] at h
    have := h j v hj hv
    rw [hvs, hh] at this
    cases this
  | some k =>
    rw [hk] at h
    obtain ⟨hkl, u, hu, hhu, hall⟩ := h
    obtain ⟨h1, -⟩ := hall j v hj hv (by rw [hvs]; exact hh)
    have hut : u.sem ∈ T := he.mem (List.mem_map.2 ⟨u, List.mem_of_getElem? hu, rfl⟩)
    obtain ⟨g, hg, hgu⟩ := List.getElem_of_mem hut
    have hgu' : T[g]? = some u.sem := by rw [List.getElem?_eq_getElem hg, hgu]
    have hfg : f ≤ g := by
      rcases Nat.lt_or_ge g f with h | h
      · have := h0 g _ h hgu'
        rw [this] at hhu
        cases hhu
      · exact h
    have h3 := srt_kat hs hfg hg
    rw [kat_eq hgu', kat_eq hf] at h3
    have hr : u.rank = s.rank := by
      have a1 : u.rank ≤ s.rank := h3
      have a2 : s.rank = v.rank := by rw [← hvs]; rfl
      omega
    have e1 : T.find? (fun x => hit x && decide (rkS x = s.rank)) = some s := find_least hf (by rw [hh]; simp [rkS]) fun i y hi hy => by rw [h0 i y hi hy]; rfl
    have e2 : (U.map Ru.sem).find? (fun x => hit x && decide (rkS x = s.rank)) = some u.sem := by
      refine find_least (map_at rfl hu) (by rw [hhu]; simp [rkS]; exact hr) fun i y hi hy => ?_
      obtain ⟨x, hx, rfl⟩ := at_map rfl hy
      have hxl := (List.getElem?_eq_some_iff.1 hx).1
      by_cases hhx : hit x.sem = true
      · have hne : x.rank ≠ u.rank := fun e => by have := (hall i x hxl hx hhx).2 e; omega
        rw [hhx]
        simp only [Bool.true_and, decide_eq_false_iff_not]
        intro e
        exact hne (by rw [hr]; exact e)
      · rw [Bool.not_eq_true] at hhx
        rw [hhx]; rfl
    have e3 : ∀ L : List Rs, L.find? (fun x => hit x && decide (rkS x = s.rank)) = (L.filter (fun x => decide (rkS x = s.rank))).find? hit := fun L => by
      rw [List.find?_filter]
      congr 1
      funext x
      cases hit x <;> simp
    rw [e3, ← he s.rank, ← e3, e2] at e1
    exact ⟨k, u, rfl, hu, Option.some.inj e1⟩
end Go.Proofs.YtelglcakekgdeaaGreatDoor
