/- Texts put together: Rr Ra Rb Ka Rd Rf Re Rg Rh Ri Rj Rl Kb Ro Ru Kc Qa Qb Rc Qe Ko Kd Qd Ke Kf Kg. -/
import Derived.Test.YtingjembjpckcaaG17
import Derived.Test.YtingjembjpckcaaG18
import Derived.Test.YtingjembjpckcaaG07
import Derived.Test.YtingjembjpckcaaG14
import Derived.Deep.RegionHeld3
import Derived.StillTailTactics
import Derived.BigQuiet
import Derived.Deep.LoopGhost
import Derived.Test.YtingjembjpckcaaG13
import Derived.Test.YtingjembjpckcaaG05
import Derived.Laws.StructEq
namespace Go.Proofs.Ytingjembjpckcaa
set_option linter.unusedVariables false
set_option linter.unusedSimpArgs false
open Go.RowKit Go.Joins

theorem rowR : RowT Try.prog encR 10 22 49 (.agg #[.int .i64 0, .slice none 0 0, .string ByteArray.empty, .int .i64 0, .int .i64 0, .int .i64 0, .int .i64 0, .int .i64 0, .string ByteArray.empty, .int .i64 0]) 112 where
  ht := Try.underlying22
  inf := by kernel_rfl
  hzs := rfl
  k0 := by decide
  hk := encR_len
  h1 := encR_one
  hb := by decide
/-- What the rules' predicates are, read at blocks that N allows. -/
def RP (w : World) (N : Nat → Prop) (U : List Ru) : Prop := ∀ u ∈ U, PV w N u.x u.ps
theorem RP.imp {w : World} {N M : Nat → Prop} {U : List Ru} (h : RP w N U) (hn : ∀ b, N b → M b) : RP w M U := fun u hu => (h u hu).imp hn
theorem RP.same {w w' : World} {N : Nat → Prop} {U : List Ru} (h : RP w N U) (hs : ∀ b, N b → w'.heap[b]? = w.heap[b]?) : RP w' N U := fun u hu => (h u hu).same hs
theorem RP.up {w w' : World} {U : List Ru} (h : RP w (· < w.heap.size) U) (hb : Below w.heap.size w w') : RP w' (· < w'.heap.size) U := fun u hu => (h u hu).up hb
theorem RP.sub {w : World} {N : Nat → Prop} {U V : List Ru} (h : RP w N U) (hs : ∀ u ∈ V, u ∈ U) : RP w N V := fun u hu => h u (hs u hu)
/-- A slice of rules, as a value that can be read. -/
def RV (w : World) (y : Value) (U : List Ru) : Prop := ∃ A c, y = .slice A U.length c ∧ GX encR 10 w (· < w.heap.size) A U ∧ RP w (· < w.heap.size) U ∧ (A = none → c = 0) ∧ U.length ≤ c ∧ U.length ≤ 9223372036854775807
theorem RV.up {w w' : World} {y : Value} {U : List Ru} (h : RV w y U) (hb : Below w.heap.size w w') : RV w' y U := by
  obtain ⟨A, c, e, h1, h2, h3⟩ := h
  exact ⟨A, c, e, h1.up hb, h2.up hb, h3⟩
theorem eqnil (t e : TypeId) (ht : Try.prog.underlying t = some (.slice e)) (a : Option Addr) (n c : Nat) (w : World) : (binOp .eql t (.slice a n c) (.slice none 0 0)).run Try.prog w = .ok (.bool a.isNone) w := by
  simp only [binOp]
  simp [run_equal_slice_nil w t e a n c ht]
set_option maxRecDepth 100000 in
set_option maxHeartbeats 4000000 in
theorem cloneP_any (x : Value) (L : List Pd) (w : World) (hx : PV w (· < w.heap.size) x L) (hl : L.length ≤ 1000000) :
    Calls Try.prog 40 #[x] w fun e w' => ∃ v, e = .returned v ∧ GB encP 3 53 w' w.heap.size v L ∧ Below w.heap.size w w' := by
  obtain ⟨A, c, rfl, h1, h2, h3, h4⟩ := hx
  have heq := eqnil 47 53 Try.underlying47
  rcases A with _ | ad
  · have hL0 : L = [] := by
      rcases L with _ | ⟨p, r⟩
      · rfl
      · obtain ⟨b, o, e, _⟩ := h1 0 (by simp)
        cases e
    subst hL0
    go_enter Try.func40, Try.ntmps40
    go_wp2_with fail
    go_returns
    exact ⟨_, rfl, GB.nil _ _, Below.refl _ _⟩
  · have hb0 := enew w (.cells #[] 53)
    have hown0 : GB encP 3 53 (w.alloc (.cells #[] 53)) w.heap.size (.slice (some ⟨w.heap.size, 0, none⟩) 0 0) [] := by
      have := World.ownsRow_lit (e := 53) (size := 3) w #[] 0 (Nat.le_refl _) (by unfold maxLen; omega) (by simp)
      simpa [GB, gvals] using this
    have H0 := hid (And.intro hb0 (And.intro hown0 (h1.up hb0).gx))
    clear hb0 hown0 h1
    go_enter Try.func40, Try.ntmps40
    go_wp2_with (at_builtin; refine wpList_append_gx (W0 := w) rowP rfl _ _ rfl w.heap.size (.slice (some ⟨w.heap.size, 0, none⟩) 0 0) [] L (some ad) c _ rfl H0.out.2.1 rfl H0.out.2.2 (fun h => by cases h) (by simp; omega) H0.out.1 (Nat.le_refl _) ?_)
    intro v1 w1 hown1 hbel1 _
    have H1 := hid (And.intro hown1 hbel1)
    clear hown1 hbel1
    go_wp2_with fail
    go_returns
    exact ⟨_, rfl, H1.out.1, H1.out.2⟩
set_option maxRecDepth 100000 in
set_option maxHeartbeats 4000000 in
theorem cloneR_any (A : Option Addr) (c : Nat) (U : List Ru) (w : World) (h1 : GX encR 10 w (· < w.heap.size) A U) (h2 : A = none → c = 0) (hl : U.length ≤ 1000000) :
    Calls Try.prog 39 #[.slice A U.length c] w fun e w' => ∃ v, e = .returned v ∧ GB encR 10 49 w' w.heap.size v U ∧ Below w.heap.size w w' := by
  have heq := eqnil 22 49 Try.underlying22
  rcases A with _ | ad
  · have hL0 : U = [] := by
      rcases U with _ | ⟨p, r⟩
      · rfl
      · obtain ⟨b, o, e, _⟩ := h1 0 (by simp)
        cases e
    subst hL0
    go_enter Try.func39, Try.ntmps39
    go_wp2_with fail
    go_returns
    exact ⟨_, rfl, GB.nil _ _, Below.refl _ _⟩
  · have hb0 := enew w (.cells #[] 49)
    have hown0 : GB encR 10 49 (w.alloc (.cells #[] 49)) w.heap.size (.slice (some ⟨w.heap.size, 0, none⟩) 0 0) [] := by
      have := World.ownsRow_lit (e := 49) (size := 10) w #[] 0 (Nat.le_refl _) (by unfold maxLen; omega) (by simp)
      simpa [GB, gvals] using this
    have H0 := hid (And.intro hb0 (And.intro hown0 (h1.up hb0)))
    clear hb0 hown0 h1
    go_enter Try.func39, Try.ntmps39
    go_wp2_with (at_builtin; refine wpList_append_gx (W0 := w) rowR rfl _ _ rfl w.heap.size (.slice (some ⟨w.heap.size, 0, none⟩) 0 0) [] U (some ad) c _ rfl H0.out.2.1 rfl H0.out.2.2 (fun h => by cases h) (by simp; omega) H0.out.1 (Nat.le_refl _) ?_)
    intro v1 w1 hown1 hbel1 _
    have H1 := hid (And.intro hown1 hbel1)
    clear hown1 hbel1
    go_wp2_with fail
    go_returns
    exact ⟨_, rfl, H1.out.1, H1.out.2⟩
end Go.Proofs.Ytingjembjpckcaa
namespace Go.Proofs.Ytingjembjpckcaa
set_option linter.unusedVariables false
set_option linter.unusedSimpArgs false
open Go.RowKit Go.Joins

set_option maxRecDepth 100000 in
set_option maxHeartbeats 2000000 in
theorem ins_nil (w : World) :
    Calls Try.prog 66 #[.slice none 0 0, .int .i64 0, .int .i64 0, .func (.func 42) #[] #[]] w fun e w' => e = .returned (.tuple #[]) ∧ w' = w := by
  go_enter Try.func66, Try.ntmps66
  go_wp2_with fail
  go_loopg [8] 1 (fun g1 vi wr => vi = .int .i64 1 ∧ wr = w)
  case atStart => exact ⟨rfl, rfl⟩
  case round =>
    obtain ⟨rfl, rfl⟩ := hrel
    go_wp2_with fail
    go_end0
    exact ⟨rfl, rfl⟩
set_option maxRecDepth 100000 in
set_option maxHeartbeats 2000000 in
theorem stable_nil (w : World) :
    Calls Try.prog 54 #[.slice none 0 0, .int .i64 0, .func (.func 42) #[] #[]] w fun e w' => e = .returned (.tuple #[]) ∧ w' = w := by
  go_enter Try.func54, Try.ntmps54
  go_wp2_with fail
  go_loopg [7, 8] 1 (fun g1 va vb wr => va = .int .i64 0 ∧ vb = .int .i64 20 ∧ wr = w)
  case atStart => exact ⟨rfl, rfl, rfl⟩
  case round =>
    obtain ⟨rfl, rfl, rfl⟩ := hrel
    go_wp2_with fail
    refine (ins_nil _).mono ?_
    rintro e w2 ⟨rfl, rfl⟩
    go_wp2_with fail
    go_loopg [6] 1 (fun g1 vs wr => vs = .int .i64 20 ∧ wr = w2)
    case atStart => exact ⟨rfl, rfl⟩
    case round =>
      obtain ⟨rfl, rfl⟩ := hrel
      go_wp2_with fail
      go_end0
      exact ⟨rfl, rfl⟩
set_option maxHeartbeats 1600000 in
theorem sortStable_nil (w : World) :
    Calls Try.prog 41 #[.slice none 0 0, .func (.func 42) #[] #[]] w fun e w' => e = .returned (.tuple #[]) ∧ w' = w := by
  go_enter Try.func41, Try.ntmps41
  go_wp2_with fail
  refine (stable_nil _).mono ?_
  rintro e w2 ⟨rfl, rfl⟩
  go_wp2_with fail
  go_end0
  exact ⟨rfl, rfl⟩
def Ru.with_ (u : Ru) (a : Option Addr) (n c : Nat) : Ru := { u with xa := a, xn := n, xc := c }
theorem Ru.with_sem (u : Ru) (a : Option Addr) (n c : Nat) : (u.with_ a n c).sem = u.sem := rfl
theorem GW.cell1 {w : World} {g : Nat} {C : List Ru} (h : GW encR 10 w g 0 C) {i : Nat} {u : Ru} (hi : C[i]? = some u) (a : Option Addr) (n c : Nat) : GW encR 10 (w.setCell ⟨g, i * 10 + 1, none⟩ (.slice a n c)) g 0 (C.set i (u.with_ a n c)) := by
  obtain ⟨hlt, rfl⟩ := List.getElem?_eq_some_iff.1 hi
  refine ⟨by rw [World.size_setCell]; exact h.1, fun t ht => ?_⟩
  rw [List.length_set] at ht
  rw [gvals_set encR 10 encR_len C i hlt _ t ht]
  have h0 := h.2 t ht
  have hfz : (w.setCell ⟨g, i * 10 + 1, none⟩ (.slice a n c)).frozen? ⟨g, 0 + t, none⟩ = w.frozen? ⟨g, 0 + t, none⟩ := by go_simp
  rw [hfz]
  refine ⟨?_, h0.2⟩
  by_cases e : t = i * 10 + 1
  · subst e
    rw [if_pos (by omega), Nat.zero_add]
    have hc : (w.cell? ⟨g, i * 10 + 1, none⟩).isSome = true := by
      rw [Nat.zero_add] at h0
      rw [h0.1, List.getElem?_eq_getElem (by rw [gvals_len encR 10 encR_len]; exact ht)]; rfl
    obtain ⟨old, hold⟩ := Option.isSome_iff_exists.1 hc
    rw [show i * 10 + 1 - i * 10 = 1 by omega]
    have := World.cell?_setCell_same w ⟨g, i * 10 + 1, none⟩ (.slice a n c) hold
    rw [this]; rfl
  · have hne : (w.setCell ⟨g, i * 10 + 1, none⟩ (.slice a n c)).cell? ⟨g, 0 + t, none⟩ = w.cell? ⟨g, 0 + t, none⟩ := World.cell?_setCell_other w ⟨g, i * 10 + 1, none⟩ ⟨g, 0 + t, none⟩ (.slice a n c) (by intro hh; injection hh with _ h2 _; omega)
    rw [hne, h0.1]
    by_cases hin : i * 10 ≤ t ∧ t < i * 10 + 10
    · rw [if_pos hin]
      obtain ⟨j, rfl⟩ : ∃ j, t = i * 10 + j := ⟨t - i * 10, by omega⟩
      rw [gvals_at encR 10 encR_len C i hlt j (by omega), show i * 10 + j - i * 10 = j by omega]
      match j, (show j < 10 by omega), (show j ≠ 1 by omega) with
      | 0, _, _ => rfl
      | 2, _, _ => rfl
      | 3, _, _ => rfl
      | 4, _, _ => rfl
      | 5, _, _ => rfl
      | 6, _, _ => rfl
      | 7, _, _ => rfl
      | 8, _, _ => rfl
      | 9, _, _ => rfl
    · rw [if_neg hin]
end Go.Proofs.Ytingjembjpckcaa
namespace Go.Proofs.Ytingjembjpckcaa
set_option linter.unusedVariables false
set_option linter.unusedSimpArgs false
open Go.RowKit Go.Joins

abbrev rkS (r : Rs) : Int := r.rank
theorem ordB_sem (U : List Ru) : (ordB rkR U).map Ru.sem = ordB rkS (U.map Ru.sem) := (ordB_map (key := rkS) Ru.sem U).symm
theorem mem_ordB {U : List Ru} {u : Ru} (h : u ∈ ordB rkR U) : u ∈ U := (ordB_eqv (key := rkR) U).mem h
set_option maxRecDepth 100000 in
set_option maxHeartbeats 8000000 in
theorem order_any (y : Value) (U : List Ru) (w : World) (hy : RV w y U) (h40 : U.length ≤ 40) (hps : ∀ u ∈ U, u.ps.length ≤ 1000000) :
    Calls Try.prog 23 #[y] w fun e w' => ∃ v V, e = .returned v ∧ (RV w' v V ∧ V.map Ru.sem = ordB rkS (U.map Ru.sem)) ∧ Below w.heap.size w w' := by
  obtain ⟨A, c, rfl, hx, hp, hA, hlc, hl9⟩ := hy
  have HCL := hid (cloneR_any A c U w hx hA (by omega))
  have HP := hid hp
  have HPS := hid hps
  clear hx hp hA hps
  go_enter Try.func23, Try.ntmps23
  go_wp2_with fail
  refine HCL.out.mono ?_
  rintro e w1 ⟨v1, rfl, hown, hb1⟩
  rcases GB.form encR_len hown with ⟨rfl, rfl⟩ | ⟨g, cap, rfl, hg1, hg2, hg3, hg4, hg5⟩
  · have HB1 := hid hb1
    clear hown hb1
    go_wp2_with fail
    go_loopg [9] 1 (fun g1 vi wr => vi = .int .i64 0 ∧ wr = w1)
    case atStart => exact ⟨rfl, rfl⟩
    case round =>
      obtain ⟨rfl, rfl⟩ := hrel
      go_wp2_with fail
      refine (sortStable_nil _).mono ?_
      rintro e w2 ⟨rfl, rfl⟩
      go_wp2_with fail
      go_returns
      exact ⟨_, [], rfl, ⟨⟨none, 0, rfl, GX.nil _ _ _, (fun u hu => by cases hu), fun _ => rfl, Nat.le_refl _, by simp⟩, rfl⟩, HB1.out⟩
  · have hGW : GW encR 10 w1 g 0 U := ⟨hg2, fun t ht => by rw [Nat.zero_add]; exact hg5 t ht⟩
    have hRP : RP w1 (fun b => b < w1.heap.size ∧ b ≠ g) U := (HP.out.same fun b hb => hb1.block b hb).imp fun b hb => ⟨Nat.lt_of_lt_of_le hb hb1.size, by omega⟩
    have HB1 := hid hb1
    have HG := hid (And.intro hg1 (And.intro hg3 hg4))
    have HST := hid (And.intro hGW hRP)
    clear hown hb1 hg1 hg3 hg4 hg5 hGW hRP hg2
    generalize hnU : U.length = n at *
    have HNU := hid hnU
    clear hnU
    go_wp2_with fail
    go_loopg [9] n (fun g1 vi wr => ∃ (i : Nat) (C : List Ru), vi = .int .i64 i ∧ i ≤ n ∧ n - i ≤ g1 ∧ Hid (C.length = n ∧ C.map Ru.sem = U.map Ru.sem ∧ GW encR 10 wr g 0 C ∧ RP wr (fun b => b < wr.heap.size ∧ b ≠ g) C ∧ Below w.heap.size w wr))
    case atStart => exact ⟨0, U, rfl, by omega, by omega, ⟨HNU.out, rfl, HST.out.1, HST.out.2, HB1.out⟩⟩
    case round =>
      obtain ⟨i, C, rfl, hin, hgk, HI⟩ := hrel
      by_cases hlt : i < n
      · have hltz : (i : Int) < (n : Int) := by omega
        have hi0 : (0 : Int) ≤ (i : Int) := by omega
        obtain ⟨f1, f2, f3, f4, f5⟩ := HI.out
        have hiC : i < C.length := by omega
        obtain ⟨u, hu⟩ : ∃ u, C[i]? = some u := ⟨_, List.getElem?_eq_getElem hiC⟩
        have humem : u ∈ C := List.mem_of_getElem? hu
        have hps2 : u.ps.length ≤ 1000000 := by
          have h1 : u.sem ∈ C.map Ru.sem := List.mem_map.2 ⟨u, humem, rfl⟩
          rw [f2] at h1
          obtain ⟨u', hu', he⟩ := List.mem_map.1 h1
          have := HPS.out u' hu'
          have e2 : u'.ps = u.ps := congrArg Rs.ps he
          rwa [e2] at this
        have hcell : wr.cell? ⟨g, i * 10 + 1, none⟩ = some (.slice u.xa u.xn u.xc) := by
          have h1 := f3.2 (i * 10 + 1) (idx_lt (k := 10) hiC (by omega))
          rw [Nat.zero_add] at h1
          have h2 := gvals_at encR 10 encR_len C i hiC 1 (by omega)
          rw [h1.1, h2]
          obtain ⟨_, rfl⟩ := List.getElem?_eq_some_iff.1 hu
          rfl
        have hfz : wr.frozen? ⟨g, i * 10 + 1, none⟩ = false := by
          have h1 := f3.2 (i * 10 + 1) (idx_lt (k := 10) hiC (by omega))
          rw [Nat.zero_add] at h1
          exact h1.2
        have hcp := cloneP_any u.x u.ps wr ((f4 u humem).imp fun b hb => hb.1) hps2
        have HCP := hid hcp
        have HU := hid (And.intro hu humem)
        have HF := hid (And.intro f1 (And.intro f2 (And.intro f3 (And.intro f4 f5))))
        have hgs := f3.1
        clear f1 f2 f3 f4 f5 hiC hu humem hps2 hcp HI
        unfold Ru.x at HCP
        go_wp2_with fail
        refine HCP.out.mono ?_
        rintro e w2 ⟨v2, rfl, hown2, hb2⟩
        obtain ⟨A2, c2, rfl, hgx2, hA2, hlc2, hcm2⟩ := GB.reads encP_len hown2
        have hcell2 : w2.cell? ⟨g, i * 10 + 1, none⟩ = some (.slice u.xa u.xn u.xc) := (hb2.cell (p := ⟨g, i * 10 + 1, none⟩) hgs).trans hcell
        have hfz2 : w2.frozen? ⟨g, i * 10 + 1, none⟩ = false := (hb2.frozen (p := ⟨g, i * 10 + 1, none⟩) hgs).trans hfz
        have H2 := hid (And.intro hgx2 (And.intro hA2 (And.intro hlc2 (And.intro hcm2 hb2))))
        clear hown2 hgx2 hA2 hlc2 hcm2 hb2 hcell hfz
        go_wp2_with fail
        go_roundg (n - (i + 1))
        case measure => omega
        case rel =>
          obtain ⟨f1, f2, f3, f4, f5⟩ := HF.out
          obtain ⟨hu, humem⟩ := HU.out
          obtain ⟨hgx2, hA2, hlc2, hcm2, hb2⟩ := H2.out
          have hg2 : GW encR 10 w2 g 0 C := f3.same (hb2.block g f3.1) hb2.size
          have hsz := hb2.size
          have hkeep : ∀ b, b ≠ g → (w2.setCell ⟨g, i * 10 + 1, none⟩ (.slice A2 u.ps.length c2)).heap[b]? = w2.heap[b]? := fun b hb => Below.heap_setCell _ _ _ b hb
          refine ⟨i + 1, C.set i (u.with_ A2 u.ps.length c2), by go_num, by omega, by omega, ⟨by simp; exact f1, ?_, hg2.cell1 hu A2 u.ps.length c2, fun z hz => ?_, ?_⟩⟩
          · rw [List.map_set, Ru.with_sem, ← f2]
            have : (C.map Ru.sem)[i]? = some u.sem := by rw [List.getElem?_map, hu]; rfl
            obtain ⟨h1, h2⟩ := List.getElem?_eq_some_iff.1 this
            rw [← h2, List.set_getElem_self]
          · rw [World.size_setCell]
            rcases List.mem_or_eq_of_mem_set hz with hz | rfl
            · have h1 := (f4 z hz).same (w' := w2) fun b hb => hb2.block b hb.1
              exact (h1.imp (M := fun b => b < w2.heap.size ∧ b ≠ g) fun b hb => ⟨Nat.lt_of_lt_of_le hb.1 hsz, hb.2⟩).same fun b hb => hkeep b hb.2
            · refine ⟨A2, c2, rfl, ?_, hA2, hlc2, by unfold maxLen at hcm2; show u.ps.length ≤ _; omega⟩
              have h1 : PX w2 (fun b => b < w2.heap.size ∧ b ≠ g) A2 u.ps := (hgx2.imp fun b hb => ⟨hb.2, by have := f3.1; have := hb.1; omega⟩).px
              exact h1.same fun b hb => hkeep b hb.2
          · exact (f5.trans (hb2.mono (by have := f5.size; omega))).setCell (by have := HG.out.1; exact this) _
      · obtain rfl : i = n := by omega
        have hltz : ¬ (i : Int) < (i : Int) := by omega
        obtain ⟨f1, f2, f3, f4, f5⟩ := HI.out
        have hs := sortStable_any g cap i C f1.symm h40 wr f3
        have HS := hid hs
        have HF := hid (And.intro f1 (And.intro f2 (And.intro f3 (And.intro f4 f5))))
        clear hs f1 f2 f3 f4 f5 HI
        go_wp2_with fail
        refine HS.out.mono ?_
        rintro e w2 ⟨rfl, hg2, ho2⟩
        have H2 := hid (And.intro hg2 ho2)
        clear hg2 ho2
        go_wp2_with fail
        go_returns
        obtain ⟨f1, f2, f3, f4, f5⟩ := HF.out
        obtain ⟨hg2, ho2⟩ := H2.out
        refine ⟨_, ordB rkR C, rfl, ⟨⟨some ⟨g, 0, none⟩, cap, by rw [ordB_length, f1]; rfl, ?_, ?_, fun h => (by cases h), by rw [ordB_length, f1]; have := HG.out.2.1; exact this, by rw [ordB_length, f1]; omega⟩, by rw [ordB_sem, f2]⟩, ?_⟩
        · intro j hj
          refine ⟨g, 0, rfl, hg2.1, fun q hq => ?_⟩
          have h1 := hg2.2 (j * 10 + q) (idx_lt (k := 10) hj hq)
          rw [h1.1]
          exact gvals_at encR 10 encR_len _ j hj q hq
        · have h1 : RP w2 (fun b => b < w2.heap.size ∧ b ≠ g) C := (f4.same fun b hb => ho2.block b hb.1 hb.2).imp fun b hb => ⟨Nat.lt_of_lt_of_le hb.1 ho2.size, hb.2⟩
          exact (h1.imp fun b hb => hb.1).sub fun u hu => mem_ordB hu
        · have hg1 := HG.out.1
          have hsz := f5.size
          exact ⟨ho2.os.trans f5.os, ho2.tape.trans f5.tape, ho2.output.trans f5.output, Nat.le_trans hsz ho2.size, fun k hk => (ho2.block k (by omega) (by omega)).trans (f5.block k hk)⟩
end Go.Proofs.Ytingjembjpckcaa
namespace Go.Proofs.Ytingjembjpckcaa
set_option linter.unusedVariables false
set_option linter.unusedSimpArgs false
open Go.RowKit

def fmtOK (l : List UInt8) : Bool := decide (l.length ≤ 120) && l.all (inB 32 126)
/-- The first error that rules have. -/
def fltC (p : Rs → Int) : List Rs → Int
  | [] => 0
  | r :: t => if p r ≠ 0 then p r else fltC p t
def chkC (p : Rs → Int) (f : List UInt8) (U : List Rs) : Int := if fmtOK f = false then 15 else if 16 < U.length then 8 else fltC p U
theorem fltC_drop (p : Rs → Int) {U : List Rs} {k : Nat} {r : Rs} (h : U[k]? = some r) : fltC p (U.drop k) = if p r ≠ 0 then p r else fltC p (U.drop (k + 1)) := by
  obtain ⟨hk, rfl⟩ := List.getElem?_eq_some_iff.1 h
  rw [List.drop_eq_getElem_cons hk]; rfl
theorem fltC_ok (p : Rs → Int) : ∀ {U : List Rs}, fltC p U = 0 → ∀ r ∈ U, p r = 0
  | [], _, r, hr => by cases hr
  | a :: t, h, r, hr => by
    rw [fltC] at h
    by_cases ha : p a ≠ 0
    · rw [if_pos ha] at h; exact absurd h ha
    · rw [if_neg ha] at h
      rcases List.mem_cons.1 hr with rfl | hr
      · exact Decidable.not_not.1 ha
      · exact fltC_ok p h r hr
theorem fltC_zero (p : Rs → Int) : ∀ {U : List Rs}, (∀ r ∈ U, p r = 0) → fltC p U = 0
  | [], _ => rfl
  | a :: t, h => by
    rw [fltC, if_neg (by rw [h a (by simp)]; simp)]
    exact fltC_zero p fun r hr => h r (by simp [hr])
theorem chkC_ok {p : Rs → Int} {f : List UInt8} {U : List Rs} (h : chkC p f U = 0) : fmtOK f = true ∧ U.length ≤ 16 ∧ ∀ r ∈ U, p r = 0 := by
  unfold chkC at h
  by_cases h1 : fmtOK f = false
  · rw [if_pos h1] at h; exact absurd h (by omega)
  rw [if_neg h1] at h
  by_cases h2 : 16 < U.length
  · rw [if_pos h2] at h; exact absurd h (by omega)
  rw [if_neg h2] at h
  exact ⟨by simpa using h1, by omega, fltC_ok p h⟩
theorem chkC_zero {p : Rs → Int} {f : List UInt8} {U : List Rs} (h1 : fmtOK f = true) (h2 : U.length ≤ 16) (h3 : ∀ r ∈ U, p r = 0) : chkC p f U = 0 := by
  rw [chkC, if_neg (by simp [h1]), if_neg (by omega), fltC_zero p h3]
/-- Order changes nothing of what may be, where all may be. -/
theorem chkC_ord {p : Rs → Int} {f : List UInt8} {U : List Rs} (h : chkC p f U = 0) : chkC p f (ordB rkS U) = 0 := by
  obtain ⟨h1, h2, h3⟩ := chkC_ok h
  exact chkC_zero h1 (by rw [ordB_length]; exact h2) fun r hr => h3 r ((ordB_eqv (key := rkS) U).mem hr)
set_option maxHeartbeats 800000 in
theorem oformat_any (l : List UInt8) (w : World) (hs : l.length ≤ 140737488351232) :
    Calls Try.prog 44 #[.string (bs l)] w fun e w' => e = .returned (.bool (fmtOK l)) ∧ w = w' := by
  by_cases h12 : l.length ≤ 120
  · have HN := hid (show fmtOK l = l.all (inB 32 126) by rw [fmtOK, decide_eq_true h12]; rfl)
    go_enter Try.func44, Try.ntmps44
    go_wp2_with fail
    go_loop [9] (fun i => ∃ k : Nat, k ≤ l.length ∧ Hid ((l.take k).all (inB 32 126) = true) ∧ i = .int .i64 k) (fun i => l.length - (intOf i).toNat)
    case atStart => exact ⟨0, by omega, hid rfl, rfl⟩
    case round =>
      obtain ⟨k, hk, Hk, rfl⟩ := hrel
      by_cases hlt : k < l.length
      · have hc := UInt8.toNat_lt l[k]
        by_cases h1 : (l[k].toNat : Int) < 32
        · go_wp2_with fail
          go_ret
          exact ⟨by rw [HN.out, all_false hlt (by simp [inB]; omega)]; rfl, rfl⟩
        · by_cases h2 : (l[k].toNat : Int) > 126
          · go_wp2_with fail
            go_ret
            exact ⟨by rw [HN.out, all_false hlt (by simp [inB]; omega)]; rfl, rfl⟩
          · go_wp2_with fail
            go_round
            case rel => exact ⟨k + 1, by omega, hid (by rw [all_take _ _ _ hlt, Hk.out]; simp [inB]; omega), by go_num⟩
            case measure => simp [intOf]; omega
      · obtain rfl : k = l.length := by omega
        go_wp2_with fail
        go_ret
        have h1 := Hk.out
        rw [List.take_length] at h1
        exact ⟨by rw [HN.out, h1]; rfl, rfl⟩
  · have HN := hid (show fmtOK l = false by rw [fmtOK, decide_eq_false h12]; rfl)
    go_enter Try.func44, Try.ntmps44
    go_wp2_with fail
    go_ret
    exact ⟨by rw [HN.out]; rfl, rfl⟩
set_option maxHeartbeats 800000 in
theorem rformat_any (l : List UInt8) (w : World) (hs : l.length ≤ 140737488351232) :
    Calls Try.prog 28 #[.string (bs l)] w fun e w' => e = .returned (.bool (fmtOK l)) ∧ w = w' := by
  by_cases h12 : l.length ≤ 120
  · have HN := hid (show fmtOK l = l.all (inB 32 126) by rw [fmtOK, decide_eq_true h12]; rfl)
    go_enter Try.func28, Try.ntmps28
    go_wp2_with fail
    go_loop [3] (fun i => ∃ k : Nat, k ≤ l.length ∧ Hid ((l.take k).all (inB 32 126) = true) ∧ i = .int .i64 k) (fun i => l.length - (intOf i).toNat)
    case atStart => exact ⟨0, by omega, hid rfl, rfl⟩
    case round =>
      obtain ⟨k, hk, Hk, rfl⟩ := hrel
      by_cases hlt : k < l.length
      · have hc := UInt8.toNat_lt l[k]
        by_cases h1 : (l[k].toNat : Int) < 32
        · go_wp2_with fail
          go_ret
          exact ⟨by rw [HN.out, all_false hlt (by simp [inB]; omega)]; rfl, rfl⟩
        · by_cases h2 : (l[k].toNat : Int) > 126
          · go_wp2_with fail
            go_ret
            exact ⟨by rw [HN.out, all_false hlt (by simp [inB]; omega)]; rfl, rfl⟩
          · go_wp2_with fail
            go_round
            case rel => exact ⟨k + 1, by omega, hid (by rw [all_take _ _ _ hlt, Hk.out]; simp [inB]; omega), by go_num⟩
            case measure => simp [intOf]; omega
      · obtain rfl : k = l.length := by omega
        go_wp2_with fail
        go_ret
        have h1 := Hk.out
        rw [List.take_length] at h1
        exact ⟨by rw [HN.out, h1]; rfl, rfl⟩
  · have HN := hid (show fmtOK l = false by rw [fmtOK, decide_eq_false h12]; rfl)
    go_enter Try.func28, Try.ntmps28
    go_wp2_with fail
    go_ret
    exact ⟨by rw [HN.out]; rfl, rfl⟩
end Go.Proofs.Ytingjembjpckcaa
namespace Go.Proofs.Ytingjembjpckcaa
set_option linter.unusedVariables false
set_option linter.unusedSimpArgs false
open Go.RowKit Go.Joins

/-- A variable that holds a rule. -/
def BR (w : World) (g : Nat) (u : Ru) : Prop := Bk w g 49 #[.int .i64 u.rank, .slice u.xa u.xn u.xc, .string (bs u.tg), .int .i64 u.ap, .int .i64 u.st, .int .i64 u.dp, .int .i64 u.dt, .int .i64 u.mp, .string (bs u.mi), .int .i64 u.sm]
theorem BR.new (w : World) (u : Ru) : BR (w.alloc (.cells #[.int .i64 u.rank, .slice u.xa u.xn u.xc, .string (bs u.tg), .int .i64 u.ap, .int .i64 u.st, .int .i64 u.dp, .int .i64 u.dt, .int .i64 u.mp, .string (bs u.mi), .int .i64 u.sm] 49)) w.heap.size u := Bk.new _ _ _
theorem BR.up {w w' : World} {g : Nat} {u : Ru} (k : BR w g u) (hb : Below w.heap.size w w') : BR w' g u := Bk.up k hb
theorem BR.cells {w : World} {g : Nat} {u : Ru} (k : BR w g u) : w.cell? ⟨g, 0, none⟩ = some (.int .i64 u.rank) ∧ w.cell? ⟨g, 1, none⟩ = some (.slice u.xa u.xn u.xc) ∧ w.cell? ⟨g, 2, none⟩ = some (.string (bs u.tg)) ∧ w.cell? ⟨g, 3, none⟩ = some (.int .i64 u.ap) ∧ w.cell? ⟨g, 4, none⟩ = some (.int .i64 u.st) ∧ w.cell? ⟨g, 5, none⟩ = some (.int .i64 u.dp) ∧ w.cell? ⟨g, 6, none⟩ = some (.int .i64 u.dt) ∧ w.cell? ⟨g, 7, none⟩ = some (.int .i64 u.mp) ∧ w.cell? ⟨g, 8, none⟩ = some (.string (bs u.mi)) ∧ w.cell? ⟨g, 9, none⟩ = some (.int .i64 u.sm) :=
  ⟨Bk.cell k 0, Bk.cell k 1, Bk.cell k 2, Bk.cell k 3, Bk.cell k 4, Bk.cell k 5, Bk.cell k 6, Bk.cell k 7, Bk.cell k 8, Bk.cell k 9⟩
/-- A rule's predicates, read where they lie. -/
def UV (w : World) (u : Ru) : Prop := PV w (· < w.heap.size) u.x u.ps
theorem UV.up {w w' : World} {u : Ru} (h : UV w u) (hb : Below w.heap.size w w') : UV w' u := PV.up h hb
theorem UV.out {w : World} {u : Ru} (h : UV w u) : u.xn = u.ps.length ∧ PX w (· < w.heap.size) u.xa u.ps ∧ (u.xa = none → u.xc = 0) ∧ u.ps.length ≤ u.xc ∧ u.ps.length ≤ 9223372036854775807 := by
  obtain ⟨A, c, e, h1, h2, h3, h4⟩ := h
  injection e with e1 e2 e3
  subst e1
  subst e3
  exact ⟨e2, h1, h2, h3, h4⟩
set_option maxRecDepth 100000 in
set_option maxHeartbeats 4000000 in
theorem hits_any (u : Ru) (m h p b : List UInt8) (x : Value) (L : List Hd) (w : World) (hu : UV w u) (hx : HV w x L) (hL : L.length ≤ 1000000) {z : Bool} (H : Hid (allE u.ps m h p L = z)) :
    Calls Try.prog 35 #[.agg #[.int .i64 u.rank, .slice u.xa u.xn u.xc, .string (bs u.tg), .int .i64 u.ap, .int .i64 u.st, .int .i64 u.dp, .int .i64 u.dt, .int .i64 u.mp, .string (bs u.mi), .int .i64 u.sm], .agg #[.string (bs m), .string (bs h), .string (bs p), x, .string (bs b)]] w fun e w' => e = .returned (.bool z) ∧ Below w.heap.size w w' := by
  have hb1 := enew w (.cells #[.int .i64 u.rank, .slice u.xa u.xn u.xc, .string (bs u.tg), .int .i64 u.ap, .int .i64 u.st, .int .i64 u.dp, .int .i64 u.dt, .int .i64 u.mp, .string (bs u.mi), .int .i64 u.sm] 49)
  have hb0 := estep hb1 (enew _ (.cells #[.string (bs m), .string (bs h), .string (bs p), x, .string (bs b)] 39))
  have hr0 := (BR.new w u).up (enew _ (.cells #[.string (bs m), .string (bs h), .string (bs p), x, .string (bs b)] 39))
  have hq0 := BQ.new (w.alloc (.cells #[.int .i64 u.rank, .slice u.xa u.xn u.xc, .string (bs u.tg), .int .i64 u.ap, .int .i64 u.st, .int .i64 u.dp, .int .i64 u.dt, .int .i64 u.mp, .string (bs u.mi), .int .i64 u.sm] 49)) m h p x b
  rw [World.size_alloc] at hq0
  obtain ⟨hn, hpx, _, _, hl9⟩ := (hu.up hb0).out
  have hx0 := hx.up hb0
  have HA := hid (fun w2 (h1 : PX w2 (· < w2.heap.size) u.xa u.ps) (h2 : HV w2 x L) => all_any m h p b x L u.xa u.xc u.ps w2 h1 hl9 h2 hL H)
  rw [← hn] at HA
  clear hu hx hb1 hn
  go_enter Try.func35, Try.ntmps35
  go_upto_region 1 with (fail)
  generalize (w.alloc (.cells #[.int .i64 u.rank, .slice u.xa u.xn u.xc, .string (bs u.tg), .int .i64 u.ap, .int .i64 u.st, .int .i64 u.dp, .int .i64 u.dt, .int .i64 u.mp, .string (bs u.mi), .int .i64 u.sm] 49)).alloc (.cells #[.string (bs m), .string (bs h), .string (bs p), x, .string (bs b)] 39) = v0 at *
  obtain ⟨-, r1, -⟩ := hr0.cells
  obtain ⟨q0, q1, q2, q3, q4⟩ := hq0.cells
  go_wp2_with fail
  refine (HA.out _ hpx hx0).mono ?_
  rintro e w1 ⟨rfl, hb2⟩
  go_wp2_with fail
  go_returns
  exact ⟨rfl, estep hb0 hb2⟩
set_option maxRecDepth 100000 in
set_option maxHeartbeats 4000000 in
theorem rhits_any (u : Ru) (m h p b : List UInt8) (x : Value) (L : List Hd) (w : World) (hu : UV w u) (hsm : smallP u.ps) (hx : HV w x L) (hL : L.length ≤ 1000000) (hpl : p.length ≤ 140737488351232) {z : Bool} (H : Hid (allE u.ps m h p L = z)) :
    Calls Try.prog 36 #[.agg #[.int .i64 u.rank, .slice u.xa u.xn u.xc, .string (bs u.tg), .int .i64 u.ap, .int .i64 u.st, .int .i64 u.dp, .int .i64 u.dt, .int .i64 u.mp, .string (bs u.mi), .int .i64 u.sm], .agg #[.string (bs m), .string (bs h), .string (bs p), x, .string (bs b)]] w fun e w' => e = .returned (.bool z) ∧ Below w.heap.size w w' := by
  have hb1 := enew w (.cells #[.int .i64 u.rank, .slice u.xa u.xn u.xc, .string (bs u.tg), .int .i64 u.ap, .int .i64 u.st, .int .i64 u.dp, .int .i64 u.dt, .int .i64 u.mp, .string (bs u.mi), .int .i64 u.sm] 49)
  have hb0 := estep hb1 (enew _ (.cells #[.string (bs m), .string (bs h), .string (bs p), x, .string (bs b)] 39))
  have hr0 := (BR.new w u).up (enew _ (.cells #[.string (bs m), .string (bs h), .string (bs p), x, .string (bs b)] 39))
  have hq0 := BQ.new (w.alloc (.cells #[.int .i64 u.rank, .slice u.xa u.xn u.xc, .string (bs u.tg), .int .i64 u.ap, .int .i64 u.st, .int .i64 u.dp, .int .i64 u.dt, .int .i64 u.mp, .string (bs u.mi), .int .i64 u.sm] 49)) m h p x b
  rw [World.size_alloc] at hq0
  obtain ⟨hn, hpx, _, _, hl9⟩ := (hu.up hb0).out
  have hx0 := hx.up hb0
  have HA := hid (fun w2 (h1 : PX w2 (· < w2.heap.size) u.xa u.ps) (h2 : HV w2 x L) => rallp_any m h p b x L u.xa u.xc u.ps w2 h1 hl9 hsm h2 hL hpl H)
  rw [← hn] at HA
  clear hu hx hb1 hn
  go_enter Try.func36, Try.ntmps36
  go_upto_region 1 with (fail)
  generalize (w.alloc (.cells #[.int .i64 u.rank, .slice u.xa u.xn u.xc, .string (bs u.tg), .int .i64 u.ap, .int .i64 u.st, .int .i64 u.dp, .int .i64 u.dt, .int .i64 u.mp, .string (bs u.mi), .int .i64 u.sm] 49)).alloc (.cells #[.string (bs m), .string (bs h), .string (bs p), x, .string (bs b)] 39) = v0 at *
  obtain ⟨-, r1, -⟩ := hr0.cells
  obtain ⟨q0, q1, q2, q3, q4⟩ := hq0.cells
  go_wp2_with fail
  refine (HA.out _ hpx hx0).mono ?_
  rintro e w1 ⟨rfl, hb2⟩
  go_wp2_with fail
  go_returns
  exact ⟨rfl, estep hb0 hb2⟩
/-- The place of the rule that hits, of the first k rules. -/
def fstK (hit : Ru → Bool) (U : List Ru) : Nat → Option Nat
  | 0 => none
  | k + 1 => match U[k]? with
    | none => fstK hit U k
    | some u => if hit u = true then (match fstK hit U k with | none => some k | some j => if kat rkR U j < u.rank then some k else some j) else fstK hit U k
def fstI (o : Option Nat) : Int := match o with | none => -1 | some j => j
theorem fstK_lt {hit : Ru → Bool} {U : List Ru} : ∀ {k j : Nat}, fstK hit U k = some j → j < k ∧ j < U.length
  | 0, j, h => by simp [fstK] at h
  | k + 1, j, h => by
    rw [fstK] at h
    cases hu : U[k]? with
    | none => rw [hu] at h; have := fstK_lt h; omega
    | some u =>
      rw [hu] at h
      have hk := (List.getElem?_eq_some_iff.1 hu).1
      simp only at h
      by_cases hh : hit u = true
      · rw [if_pos hh] at h
        cases hf : fstK hit U k with
        | none => rw [hf] at h; simp at h; omega
        | some i =>
          rw [hf] at h
          simp only at h
          have h1 := fstK_lt hf
          split at h
          · simp at h; omega
          · simp at h; omega
      · rw [if_neg hh] at h; have := fstK_lt h; omega
end Go.Proofs.Ytingjembjpckcaa
namespace Go.Proofs.Ytingjembjpckcaa
set_option linter.unusedVariables false
set_option linter.unusedSimpArgs false
open Go.RowKit Go.Joins

/-- A world that has all that v has, and may have more. -/
structure BW (v : World) where
  w : World
  h : Below v.heap.size v w
instance BW.instNonempty (v : World) : Nonempty (BW v) := ⟨⟨v, Below.refl _ _⟩⟩
theorem wp_region_bw {P : Program} {id : Nat} {Q : Exit → Act → World → Prop} {a : Act} {w : World} {l : List Oper} (hm : P.follows .mixedOrders = true) (hB : Region.lexB .any l.toArray = true) (h : wpQuiet P l.toArray (fun w' => ∃ p : BW w, w' = p.w) (fun a' => ∀ w', (∃ p : BW w, w' = p.w) → Q .normal a' w') l a) : (Code.region id l.toArray true).wp P Q a w :=
  wp_region_quiet (C := fun w' => ∃ p : BW w, w' = p.w) hm hB ⟨⟨_, (Below.refl _ _).drew⟩, rfl⟩ (by simpa using h)
theorem calls_bw {P : Program} {f : FuncId} {args : Array Value} {v0 : World} {p : BW v0} {v : Value} (h : Calls P f args p.w fun e w' => e = .returned v ∧ Below p.w.heap.size p.w w') : Calls P f args p.w fun e w'' => e = .returned v ∧ ∃ q : BW v0, w'' = q.w :=
  h.mono fun _ _ ⟨he, hb⟩ => ⟨he, ⟨_, p.h.trans (hb.mono p.h.size)⟩, rfl⟩
theorem BW.cell {v : World} {a : Addr} {x : Value} (h : v.cell? a = some x) (p : BW v) : p.w.cell? a = some x :=
  (p.h.cell (lt_of_cell h)).trans h
end Go.Proofs.Ytingjembjpckcaa
namespace Go.Proofs.Ytingjembjpckcaa
set_option linter.unusedVariables false
set_option linter.unusedSimpArgs false
open Go.RowKit Go.Joins

theorem fstK_none {hit : Ru → Bool} {U : List Ru} {i : Nat} {u : Ru} (hu : U[i]? = some u) (ho : fstK hit U i = none) : fstK hit U (i + 1) = if hit u = true then some i else none := by
  rw [fstK, hu]
  simp only [ho]
theorem fstK_some {hit : Ru → Bool} {U : List Ru} {i j : Nat} {u : Ru} (hu : U[i]? = some u) (ho : fstK hit U i = some j) : fstK hit U (i + 1) = if hit u = true ∧ kat rkR U j < u.rank then some i else some j := by
  rw [fstK, hu]
  simp only [ho]
  by_cases h1 : hit u = true <;> by_cases h2 : kat rkR U j < u.rank <;> simp [h1, h2]
theorem rank_cell {w : World} {N : Nat → Prop} {b o : Nat} {U : List Ru} (h : GX encR 10 w N (some ⟨b, o, none⟩) U) {i : Nat} {u : Ru} (hu : U[i]? = some u) : w.cell? ⟨b, o + i * 10, none⟩ = some (.int .i64 u.rank) ∧ w.cell? ⟨b, o + i * 10 + 1, none⟩ = some (.slice u.xa u.xn u.xc) ∧ w.cell? ⟨b, o + i * 10 + 2, none⟩ = some (.string (bs u.tg)) ∧ w.cell? ⟨b, o + i * 10 + 3, none⟩ = some (.int .i64 u.ap) ∧ w.cell? ⟨b, o + i * 10 + 4, none⟩ = some (.int .i64 u.st) ∧ w.cell? ⟨b, o + i * 10 + 5, none⟩ = some (.int .i64 u.dp) ∧ w.cell? ⟨b, o + i * 10 + 6, none⟩ = some (.int .i64 u.dt) ∧ w.cell? ⟨b, o + i * 10 + 7, none⟩ = some (.int .i64 u.mp) ∧ w.cell? ⟨b, o + i * 10 + 8, none⟩ = some (.string (bs u.mi)) ∧ w.cell? ⟨b, o + i * 10 + 9, none⟩ = some (.int .i64 u.sm) := by
  obtain ⟨hi, rfl⟩ := List.getElem?_eq_some_iff.1 hu
  obtain ⟨b', o', e, _, h2⟩ := h i hi
  injection e with e
  injection e with e1 e2
  subst e1
  subst e2
  exact ⟨h2 0 (by omega), h2 1 (by omega), h2 2 (by omega), h2 3 (by omega), h2 4 (by omega), h2 5 (by omega), h2 6 (by omega), h2 7 (by omega), h2 8 (by omega), h2 9 (by omega)⟩
theorem GX.some_of {w : World} {N : Nat → Prop} {A : Option Addr} {U : List Ru} (h : GX encR 10 w N A U) {i : Nat} (hi : i < U.length) : ∃ b o, A = some ⟨b, o, none⟩ ∧ N b := by
  obtain ⟨b, o, e, h1, _⟩ := h i hi
  exact ⟨b, o, e, h1⟩
set_option maxRecDepth 100000 in
set_option maxHeartbeats 16000000 in
theorem rfirst_any (A : Option Addr) (c : Nat) (U : List Ru) (m h p b : List UInt8) (x : Value) (L : List Hd) (w : World) (hU : GX encR 10 w (· < w.heap.size) A U) (hP : RP w (· < w.heap.size) U) (hS : ∀ u ∈ U, smallP u.ps) (hpl : p.length ≤ 140737488351232) (hl9 : U.length ≤ 1000000) (hx : HV w x L) (hL : L.length ≤ 1000000) {q : Option Nat} (H : Hid (fstK (fun u => allE u.ps m h p L) U U.length = q)) :
    Calls Try.prog 20 #[.slice A U.length c, .agg #[.string (bs m), .string (bs h), .string (bs p), x, .string (bs b)]] w fun e w' => e = .returned (.int .i64 (fstI q)) ∧ Below w.heap.size w w' := by
  have hnot := enot
  have hb0 := enew w (.cells #[.string (bs m), .string (bs h), .string (bs p), x, .string (bs b)] 39)
  have hq0 := BQ.new w m h p x b
  have hx0 := hx.up hb0
  have hU0 := hU.up hb0
  have hP0 := hP.up hb0
  have HH := hid (fun (w2 : World) (u : Ru) (hm : u ∈ U) (hu : UV w2 u) (h2 : HV w2 x L) (z : Bool) (hz : Hid (allE u.ps m h p L = z)) => rhits_any u m h p b x L w2 hu (hS u hm) h2 hL hpl hz)
  clear hx hU hP hS hpl
  generalize hnU : U.length = n at *
  have HNU := hid hnU
  clear hnU
  go_enter Try.func20, Try.ntmps20
  go_upto_region 1 with (fail)
  generalize w.alloc (.cells #[.string (bs m), .string (bs h), .string (bs p), x, .string (bs b)] 39) = v0 at *
  have H0 := hid (And.intro hb0 (And.intro hq0 (And.intro hx0 (And.intro hU0 hP0))))
  clear hb0 hq0 hx0 hU0 hP0
  go_wp2_with fail
  go_loopg [5, 6] n (fun g1 vf vi wr => ∃ i : Nat, vi = .int .i64 i ∧ vf = .int .i64 (fstI (fstK (fun u => allE u.ps m h p L) U i)) ∧ i ≤ n ∧ n - i ≤ g1 ∧ Hid (Below v0.heap.size v0 wr))
  case atStart => exact ⟨0, rfl, rfl, by omega, by omega, Below.refl _ _⟩
  case round =>
    obtain ⟨i, rfl, rfl, hin, hgk, HB⟩ := hrel
    by_cases hlt : i < n
    · have hltz : (i : Int) < (n : Int) := by omega
      have hltd : decide ((i : Int) < (n : Int)) = true := decide_eq_true hltz
      have hi0 : (0 : Int) ≤ (i : Int) := by omega
      have hiU : i < U.length := by have := HNU.out; omega
      obtain ⟨u, hu⟩ : ∃ u, U[i]? = some u := ⟨_, List.getElem?_eq_getElem hiU⟩
      have hum : u ∈ U := List.mem_of_getElem? hu
      obtain ⟨bb, oo, rfl, -⟩ := H0.out.2.2.2.1.some_of hiU
      have hUr := H0.out.2.2.2.1.up HB.out
      obtain ⟨z, hz⟩ : ∃ z, allE u.ps m h p L = z := ⟨_, rfl⟩
      have HHU := hid (fun (w2 : World) (hb2 : Below v0.heap.size v0 w2) => HH.out w2 u hum (UV.up (H0.out.2.2.2.2 u hum) hb2) (H0.out.2.2.1.up hb2) z (hid hz))
      have HUU := hid hu
      have HZ := hid hz
      obtain ⟨q, hq⟩ : ∃ q, fstK (fun u => allE u.ps m h p L) U i = q := ⟨_, rfl⟩
      have HQ := hid hq
      rw [hq]
      obtain ⟨r0, r1, r2, r3, r4, r5, r6, r7, r8, r9⟩ := rank_cell hUr hu
      obtain ⟨q0, q1, q2, q3, q4⟩ := (H0.out.2.1.up HB.out).cells
      clear hz hu hum
      have R0 := BW.cell r0
      have R1 := BW.cell r1
      have R2 := BW.cell r2
      have R3 := BW.cell r3
      have R4 := BW.cell r4
      have R5 := BW.cell r5
      have R6 := BW.cell r6
      have R7 := BW.cell r7
      have R8 := BW.cell r8
      have R9 := BW.cell r9
      have Q0 := BW.cell q0
      have Q1 := BW.cell q1
      have Q2 := BW.cell q2
      have Q3 := BW.cell q3
      have Q4 := BW.cell q4
      clear r0 r1 r2 r3 r4 r5 r6 r7 r8 r9 q0 q1 q2 q3 q4
      cases z with
      | false =>
        go_upto_region 5 with (fail)
        refine wp_region_bw (by kernel_rfl) (by kernel_rfl) ?_
        repeat (go_big_quiet_step ((go_at_call 36; exact calls_bw (HHU.out _ (estep HB.out (BW.h _))))))
        refine wpQuiet_nil ?_
        rintro _ ⟨pq, rfl⟩
        clear R0 R1 R2 R3 R4 R5 R6 R7 R8 R9 Q0 Q1 Q2 Q3 Q4
        have HB2 := hid (estep HB.out pq.h)
        go_wp2_with fail
        go_roundg (n - (i + 1))
        case measure => omega
        case rel => exact ⟨i + 1, by go_num, by cases q with
          | none => rw [fstK_none HUU.out HQ.out, if_neg (by rw [HZ.out]; simp)]
          | some j => rw [fstK_some HUU.out HQ.out, if_neg (by rw [HZ.out]; simp)], by omega, by omega, HB2.out⟩
      | true =>
        cases q with
        | none =>
          have hf1 : decide (fstI none < 0) = true := rfl
          generalize hff : fstI none = f0 at hf1 ⊢
          clear hff
          go_upto_region 5 with (fail)
          refine wp_region_bw (by kernel_rfl) (by kernel_rfl) ?_
          repeat (go_big_quiet_step ((go_at_call 36; exact calls_bw (HHU.out _ (estep HB.out (BW.h _))))))
          refine wpQuiet_nil ?_
          rintro _ ⟨pq, rfl⟩
          clear R0 R1 R2 R3 R4 R5 R6 R7 R8 R9 Q0 Q1 Q2 Q3 Q4
          have HB2 := hid (estep HB.out pq.h)
          go_wp2_with fail
          go_roundg (n - (i + 1))
          case measure => omega
          case rel => exact ⟨i + 1, by go_num, by rw [fstK_none HUU.out HQ.out, if_pos HZ.out]; rfl, by omega, by omega, HB2.out⟩
        | some j =>
          obtain ⟨hji, hjU⟩ := fstK_lt hq
          obtain ⟨v, hv⟩ : ∃ v, U[j]? = some v := ⟨_, List.getElem?_eq_getElem hjU⟩
          have hrj := BW.cell (rank_cell hUr hv).1
          have hkj := kat_eq (key := rkR) hv
          have HKJ := hid hkj
          have hj0 : (0 : Int) ≤ (j : Int) := by omega
          have hjn : (j : Int) < (n : Int) := by omega
          have hjd : decide ((j : Int) < 0) = false := decide_eq_false (by omega)
          clear hv hkj
          simp only [show fstI (some j) = (j : Int) from rfl]
          by_cases hrk : v.rank < u.rank
          · have hrd : decide (v.rank < u.rank) = true := decide_eq_true hrk
            have HRK := hid hrk
            clear hrk
            go_upto_region 5 with (fail)
            refine wp_region_bw (by kernel_rfl) (by kernel_rfl) ?_
            repeat (go_big_quiet_step ((go_at_call 36; exact calls_bw (HHU.out _ (estep HB.out (BW.h _))))))
            refine wpQuiet_nil ?_
            rintro _ ⟨pq, rfl⟩
            clear R0 R1 R2 R3 R4 R5 R6 R7 R8 R9 Q0 Q1 Q2 Q3 Q4
            have HB2 := hid (estep HB.out pq.h)
            go_wp2_with fail
            go_roundg (n - (i + 1))
            case measure => omega
            case rel => exact ⟨i + 1, by go_num, by rw [fstK_some HUU.out HQ.out, if_pos ⟨HZ.out, by rw [HKJ.out]; exact HRK.out⟩]; rfl, by omega, by omega, HB2.out⟩
          · have hrd : decide (v.rank < u.rank) = false := decide_eq_false hrk
            have HRK := hid (show u.rank ≤ v.rank by omega)
            clear hrk
            go_upto_region 5 with (fail)
            refine wp_region_bw (by kernel_rfl) (by kernel_rfl) ?_
            repeat (go_big_quiet_step ((go_at_call 36; exact calls_bw (HHU.out _ (estep HB.out (BW.h _))))))
            refine wpQuiet_nil ?_
            rintro _ ⟨pq, rfl⟩
            clear R0 R1 R2 R3 R4 R5 R6 R7 R8 R9 Q0 Q1 Q2 Q3 Q4
            have HB2 := hid (estep HB.out pq.h)
            go_wp2_with fail
            go_roundg (n - (i + 1))
            case measure => omega
            case rel => exact ⟨i + 1, by go_num, by rw [fstK_some HUU.out HQ.out, if_neg (fun h => absurd h.2 (by rw [HKJ.out]; exact Int.not_lt.2 HRK.out))]; rfl, by omega, by omega, HB2.out⟩
    · obtain rfl : i = n := by omega
      have hltz : ¬ (i : Int) < (i : Int) := by omega
      have hltd : decide ((i : Int) < (i : Int)) = false := decide_eq_false hltz
      have HF := hid (show fstK (fun u => allE u.ps m h p L) U i = q from H.out)
      go_wp2_with fail
      go_returns
      exact ⟨by rw [HF.out]; rfl, estep H0.out.1 HB.out⟩
end Go.Proofs.Ytingjembjpckcaa
namespace Go.Proofs.Ytingjembjpckcaa
set_option linter.unusedVariables false
set_option linter.unusedSimpArgs false
open Go.RowKit Go.Joins

theorem rwithin_any (n p q : Int) (w : World) {z : Bool} (H : Hid ((decide (p ≤ n) && decide (n ≤ q)) = z)) :
    Calls Try.prog 45 #[.int .i64 n, .int .i64 p, .int .i64 q] w fun e w' => e = .returned (.bool z) ∧ w = w' := by
  by_cases h1 : p ≤ n
  all_goals by_cases h2 : n ≤ q
  all_goals
    go_enter Try.func45, Try.ntmps45
    go_wp2_with fail
    go_ret
    exact ⟨by rw [← H.out]; simp [h1, h2], rfl⟩
theorem ispart_any (n : Int) (w : World) {z : Bool} (H : Hid (inPct n = z)) :
    Calls Try.prog 58 #[.int .i64 n] w fun e w' => e = .returned (.bool z) ∧ w = w' := by
  have HW := hid (fun w2 => rwithin_any n 0 100 w2 H)
  go_enter Try.func58, Try.ntmps58
  go_wp2_with fail
  refine (HW.out _).mono ?_
  rintro e w1 ⟨rfl, rfl⟩
  go_wp2_with fail
  go_ret
  exact ⟨rfl, rfl⟩
theorem part_any (n : Int) (w : World) {z : Bool} (H : Hid (inPct n = z)) :
    Calls Try.prog 51 #[.int .i64 n] w fun e w' => e = .returned (.bool z) ∧ w = w' := by
  by_cases h1 : 0 ≤ n
  all_goals by_cases h2 : n ≤ 100
  all_goals
    go_enter Try.func51, Try.ntmps51
    go_wp2_with fail
    go_ret
    exact ⟨by rw [← H.out]; simp [inPct, h1, h2], rfl⟩
theorem unused_any (a b : Int) (w : World) {z : Bool} (H : Hid ((decide (a = 0) && decide (b = 0)) = z)) :
    Calls Try.prog 59 #[.int .i64 a, .int .i64 b] w fun e w' => e = .returned (.bool z) ∧ w = w' := by
  by_cases h1 : a = 0
  all_goals by_cases h2 : b = 0
  all_goals
    have d1 : decide (a = 0) = decide (a = 0) := rfl
    go_enter Try.func59, Try.ntmps59
    go_wp2_with fail
    go_ret
    exact ⟨by rw [← H.out]; simp [h1, h2], rfl⟩
/-- names: not too many, and none is too long. -/
def fewN (l : List (List UInt8)) : Bool := decide (l.length ≤ 20) && l.all fun e => decide (e.length ≤ 400)
set_option maxHeartbeats 4000000 in
theorem in_any (A : Option Addr) (cap : Nat) (l : List (List UInt8)) (v : List UInt8) (N : Nat → Prop) (w : World) (hR : STexts w N A l) (hl : l.length ≤ 9223372036854775807) {z : Bool} (H : Hid (inN l v = z)) :
    Calls Try.prog 50 #[.slice A l.length cap, .string (bs v)] w fun e w' => e = .returned (.bool z) ∧ w = w' := by
  have HR := hid hR
  clear hR
  go_enter Try.func50, Try.ntmps50
  go_wp2_with fail
  go_loop [5] (fun i => ∃ k : Nat, k ≤ l.length ∧ i = .int .i64 k ∧ Hid (inN (l.take k) v = false)) (fun i => l.length - (intOf i).toNat)
  case atStart => exact ⟨0, by omega, rfl, hid (by simp [inN, memB])⟩
  case round =>
    obtain ⟨k, hk, rfl, HW⟩ := hrel
    by_cases hlt : k < l.length
    · obtain ⟨ad, rfl, hB, hc⟩ := HR.out k hlt
      by_cases he : (l[k] == v) = true
      · have HE := hid (show inN l v = true by
          rw [inN, memB, List.contains_iff_mem]
          exact (eq_of_beq he) ▸ List.getElem_mem hlt)
        go_wp2_with fail
        go_ret
        exact ⟨by rw [← H.out, HE.out]; rfl, rfl⟩
      · have he' : (l[k] == v) = false := by simpa using he
        have HE := hid (show inN (l.take (k + 1)) v = false by
          have h1 := HW.out
          rw [Bool.eq_false_iff] at h1 ⊢
          intro h2
          have h1 : v ∉ l.take k := fun hm => h1 (List.contains_iff_mem.2 hm)
          rw [inN, memB, List.contains_iff_mem] at h2
          rw [← List.take_append_getElem hlt, List.mem_append] at h2
          rcases h2 with h2 | h2
          · exact h1 h2
          · rw [List.mem_singleton] at h2
            rw [← h2] at he'
            simp at he')
        clear he
        go_wp2_with fail
        go_round
        case rel => exact ⟨k + 1, by omega, by go_num, hid HE.out⟩
        case measure => simp [intOf]; omega
    · obtain rfl : k = l.length := by omega
      have HE := hid (show inN l v = false by have := HW.out; rw [List.take_length] at this; exact this)
      go_wp2_with fail
      go_ret
      exact ⟨by rw [← H.out, HE.out]; rfl, rfl⟩
end Go.Proofs.Ytingjembjpckcaa
namespace Go.Proofs.Ytingjembjpckcaa
set_option linter.unusedVariables false
set_option linter.unusedSimpArgs false
open Go.RowKit Go.Joins

set_option maxRecDepth 100000 in
set_option maxHeartbeats 16000000 in
theorem inranges_any (u : Ru) (w : World) {z : Bool} (H : Hid (rngR u.sem = z)) :
    Calls Try.prog 48 #[.agg #[.int .i64 u.rank, .slice u.xa u.xn u.xc, .string (bs u.tg), .int .i64 u.ap, .int .i64 u.st, .int .i64 u.dp, .int .i64 u.dt, .int .i64 u.mp, .string (bs u.mi), .int .i64 u.sm]] w fun e w' => e = .returned (.bool z) ∧ Below w.heap.size w w' := by
  have hb0 := enew w (.cells #[.int .i64 u.rank, .slice u.xa u.xn u.xc, .string (bs u.tg), .int .i64 u.ap, .int .i64 u.st, .int .i64 u.dp, .int .i64 u.dt, .int .i64 u.mp, .string (bs u.mi), .int .i64 u.sm] 49)
  have hr0 := BR.new w u
  have HC := hid (show rngR u.sem = (inPct u.ap && (inPct u.dp && (inPct u.mp && (inPct u.sm && (((decide (400 ≤ u.st) && decide (u.st ≤ 599)) || (decide (u.ap = 0) && decide (u.st = 0))) && ((decide (1 ≤ u.dt) && decide (u.dt ≤ 50)) || (decide (u.dp = 0) && decide (u.dt = 0)))))))) from rfl)
  obtain ⟨z1, hz1⟩ : ∃ z, inPct u.ap = z := ⟨_, rfl⟩
  obtain ⟨z2, hz2⟩ : ∃ z, inPct u.dp = z := ⟨_, rfl⟩
  obtain ⟨z3, hz3⟩ : ∃ z, inPct u.mp = z := ⟨_, rfl⟩
  obtain ⟨z4, hz4⟩ : ∃ z, inPct u.sm = z := ⟨_, rfl⟩
  obtain ⟨z5, hz5⟩ : ∃ z, (decide (400 ≤ u.st) && decide (u.st ≤ 599)) = z := ⟨_, rfl⟩
  obtain ⟨z6, hz6⟩ : ∃ z, (decide (u.ap = 0) && decide (u.st = 0)) = z := ⟨_, rfl⟩
  obtain ⟨z7, hz7⟩ : ∃ z, (decide (1 ≤ u.dt) && decide (u.dt ≤ 50)) = z := ⟨_, rfl⟩
  obtain ⟨z8, hz8⟩ : ∃ z, (decide (u.dp = 0) && decide (u.dt = 0)) = z := ⟨_, rfl⟩
  have C1 := hid (fun w2 => ispart_any u.ap w2 (hid hz1))
  have C2 := hid (fun w2 => ispart_any u.dp w2 (hid hz2))
  have C3 := hid (fun w2 => ispart_any u.mp w2 (hid hz3))
  have C4 := hid (fun w2 => ispart_any u.sm w2 (hid hz4))
  have C5 := hid (fun w2 => rwithin_any u.st 400 599 w2 (hid hz5))
  have C6 := hid (fun w2 => unused_any u.ap u.st w2 (hid hz6))
  have C7 := hid (fun w2 => rwithin_any u.dt 1 50 w2 (hid hz7))
  have C8 := hid (fun w2 => unused_any u.dp u.dt w2 (hid hz8))
  rw [hz1, hz2, hz3, hz4, hz5, hz6, hz7, hz8] at HC
  clear hz1 hz2 hz3 hz4 hz5 hz6 hz7 hz8
  go_enter Try.func48, Try.ntmps48
  go_upto_region 1 with (fail)
  generalize w.alloc (.cells #[.int .i64 u.rank, .slice u.xa u.xn u.xc, .string (bs u.tg), .int .i64 u.ap, .int .i64 u.st, .int .i64 u.dp, .int .i64 u.dt, .int .i64 u.mp, .string (bs u.mi), .int .i64 u.sm] 49) = v0 at *
  have HB := hid hb0
  clear hb0
  obtain ⟨r0, r1, r2, r3, r4, r5, r6, r7, r8, r9⟩ := hr0.cells
  clear hr0 r0 r1 r2 r8
  cases z1
  · go_wp2_with (first
      | (with_reducible refine (C1.out _).mono ?_
         rintro e wq ⟨rfl, rfl⟩)
      | (with_reducible refine (C2.out _).mono ?_
         rintro e wq ⟨rfl, rfl⟩)
      | (with_reducible refine (C3.out _).mono ?_
         rintro e wq ⟨rfl, rfl⟩)
      | (with_reducible refine (C4.out _).mono ?_
         rintro e wq ⟨rfl, rfl⟩)
      | (with_reducible refine (C5.out _).mono ?_
         rintro e wq ⟨rfl, rfl⟩)
      | (with_reducible refine (C6.out _).mono ?_
         rintro e wq ⟨rfl, rfl⟩)
      | (with_reducible refine (C7.out _).mono ?_
         rintro e wq ⟨rfl, rfl⟩)
      | (with_reducible refine (C8.out _).mono ?_
         rintro e wq ⟨rfl, rfl⟩))
    go_returns
    exact ⟨by rw [← H.out, HC.out]; simp, HB.out⟩
  cases z2
  · go_wp2_with (first
      | (with_reducible refine (C1.out _).mono ?_
         rintro e wq ⟨rfl, rfl⟩)
      | (with_reducible refine (C2.out _).mono ?_
         rintro e wq ⟨rfl, rfl⟩)
      | (with_reducible refine (C3.out _).mono ?_
         rintro e wq ⟨rfl, rfl⟩)
      | (with_reducible refine (C4.out _).mono ?_
         rintro e wq ⟨rfl, rfl⟩)
      | (with_reducible refine (C5.out _).mono ?_
         rintro e wq ⟨rfl, rfl⟩)
      | (with_reducible refine (C6.out _).mono ?_
         rintro e wq ⟨rfl, rfl⟩)
      | (with_reducible refine (C7.out _).mono ?_
         rintro e wq ⟨rfl, rfl⟩)
      | (with_reducible refine (C8.out _).mono ?_
         rintro e wq ⟨rfl, rfl⟩))
    go_returns
    exact ⟨by rw [← H.out, HC.out]; simp, HB.out⟩
  cases z3
  · go_wp2_with (first
      | (with_reducible refine (C1.out _).mono ?_
         rintro e wq ⟨rfl, rfl⟩)
      | (with_reducible refine (C2.out _).mono ?_
         rintro e wq ⟨rfl, rfl⟩)
      | (with_reducible refine (C3.out _).mono ?_
         rintro e wq ⟨rfl, rfl⟩)
      | (with_reducible refine (C4.out _).mono ?_
         rintro e wq ⟨rfl, rfl⟩)
      | (with_reducible refine (C5.out _).mono ?_
         rintro e wq ⟨rfl, rfl⟩)
      | (with_reducible refine (C6.out _).mono ?_
         rintro e wq ⟨rfl, rfl⟩)
      | (with_reducible refine (C7.out _).mono ?_
         rintro e wq ⟨rfl, rfl⟩)
      | (with_reducible refine (C8.out _).mono ?_
         rintro e wq ⟨rfl, rfl⟩))
    go_returns
    exact ⟨by rw [← H.out, HC.out]; simp, HB.out⟩
  cases z4
  · go_wp2_with (first
      | (with_reducible refine (C1.out _).mono ?_
         rintro e wq ⟨rfl, rfl⟩)
      | (with_reducible refine (C2.out _).mono ?_
         rintro e wq ⟨rfl, rfl⟩)
      | (with_reducible refine (C3.out _).mono ?_
         rintro e wq ⟨rfl, rfl⟩)
      | (with_reducible refine (C4.out _).mono ?_
         rintro e wq ⟨rfl, rfl⟩)
      | (with_reducible refine (C5.out _).mono ?_
         rintro e wq ⟨rfl, rfl⟩)
      | (with_reducible refine (C6.out _).mono ?_
         rintro e wq ⟨rfl, rfl⟩)
      | (with_reducible refine (C7.out _).mono ?_
         rintro e wq ⟨rfl, rfl⟩)
      | (with_reducible refine (C8.out _).mono ?_
         rintro e wq ⟨rfl, rfl⟩))
    go_returns
    exact ⟨by rw [← H.out, HC.out]; simp, HB.out⟩
  cases z5
  · cases z6
    · go_wp2_with (first
        | (with_reducible refine (C1.out _).mono ?_
           rintro e wq ⟨rfl, rfl⟩)
        | (with_reducible refine (C2.out _).mono ?_
           rintro e wq ⟨rfl, rfl⟩)
        | (with_reducible refine (C3.out _).mono ?_
           rintro e wq ⟨rfl, rfl⟩)
        | (with_reducible refine (C4.out _).mono ?_
           rintro e wq ⟨rfl, rfl⟩)
        | (with_reducible refine (C5.out _).mono ?_
           rintro e wq ⟨rfl, rfl⟩)
        | (with_reducible refine (C6.out _).mono ?_
           rintro e wq ⟨rfl, rfl⟩)
        | (with_reducible refine (C7.out _).mono ?_
           rintro e wq ⟨rfl, rfl⟩)
        | (with_reducible refine (C8.out _).mono ?_
           rintro e wq ⟨rfl, rfl⟩))
      go_returns
      exact ⟨by rw [← H.out, HC.out]; simp, HB.out⟩
    · cases z7
      · cases z8
        all_goals
          go_wp2_with (first
            | (with_reducible refine (C1.out _).mono ?_
               rintro e wq ⟨rfl, rfl⟩)
            | (with_reducible refine (C2.out _).mono ?_
               rintro e wq ⟨rfl, rfl⟩)
            | (with_reducible refine (C3.out _).mono ?_
               rintro e wq ⟨rfl, rfl⟩)
            | (with_reducible refine (C4.out _).mono ?_
               rintro e wq ⟨rfl, rfl⟩)
            | (with_reducible refine (C5.out _).mono ?_
               rintro e wq ⟨rfl, rfl⟩)
            | (with_reducible refine (C6.out _).mono ?_
               rintro e wq ⟨rfl, rfl⟩)
            | (with_reducible refine (C7.out _).mono ?_
               rintro e wq ⟨rfl, rfl⟩)
            | (with_reducible refine (C8.out _).mono ?_
               rintro e wq ⟨rfl, rfl⟩))
          go_returns
          exact ⟨by rw [← H.out, HC.out]; simp, HB.out⟩
      · go_wp2_with (first
          | (with_reducible refine (C1.out _).mono ?_
             rintro e wq ⟨rfl, rfl⟩)
          | (with_reducible refine (C2.out _).mono ?_
             rintro e wq ⟨rfl, rfl⟩)
          | (with_reducible refine (C3.out _).mono ?_
             rintro e wq ⟨rfl, rfl⟩)
          | (with_reducible refine (C4.out _).mono ?_
             rintro e wq ⟨rfl, rfl⟩)
          | (with_reducible refine (C5.out _).mono ?_
             rintro e wq ⟨rfl, rfl⟩)
          | (with_reducible refine (C6.out _).mono ?_
             rintro e wq ⟨rfl, rfl⟩)
          | (with_reducible refine (C7.out _).mono ?_
             rintro e wq ⟨rfl, rfl⟩)
          | (with_reducible refine (C8.out _).mono ?_
             rintro e wq ⟨rfl, rfl⟩))
        go_returns
        exact ⟨by rw [← H.out, HC.out]; simp, HB.out⟩
  · cases z7
    · cases z8
      all_goals
        go_wp2_with (first
          | (with_reducible refine (C1.out _).mono ?_
             rintro e wq ⟨rfl, rfl⟩)
          | (with_reducible refine (C2.out _).mono ?_
             rintro e wq ⟨rfl, rfl⟩)
          | (with_reducible refine (C3.out _).mono ?_
             rintro e wq ⟨rfl, rfl⟩)
          | (with_reducible refine (C4.out _).mono ?_
             rintro e wq ⟨rfl, rfl⟩)
          | (with_reducible refine (C5.out _).mono ?_
             rintro e wq ⟨rfl, rfl⟩)
          | (with_reducible refine (C6.out _).mono ?_
             rintro e wq ⟨rfl, rfl⟩)
          | (with_reducible refine (C7.out _).mono ?_
             rintro e wq ⟨rfl, rfl⟩)
          | (with_reducible refine (C8.out _).mono ?_
             rintro e wq ⟨rfl, rfl⟩))
        go_returns
        exact ⟨by rw [← H.out, HC.out]; simp, HB.out⟩
    · go_wp2_with (first
        | (with_reducible refine (C1.out _).mono ?_
           rintro e wq ⟨rfl, rfl⟩)
        | (with_reducible refine (C2.out _).mono ?_
           rintro e wq ⟨rfl, rfl⟩)
        | (with_reducible refine (C3.out _).mono ?_
           rintro e wq ⟨rfl, rfl⟩)
        | (with_reducible refine (C4.out _).mono ?_
           rintro e wq ⟨rfl, rfl⟩)
        | (with_reducible refine (C5.out _).mono ?_
           rintro e wq ⟨rfl, rfl⟩)
        | (with_reducible refine (C6.out _).mono ?_
           rintro e wq ⟨rfl, rfl⟩)
        | (with_reducible refine (C7.out _).mono ?_
           rintro e wq ⟨rfl, rfl⟩)
        | (with_reducible refine (C8.out _).mono ?_
           rintro e wq ⟨rfl, rfl⟩))
      go_returns
      exact ⟨by rw [← H.out, HC.out]; simp, HB.out⟩
end Go.Proofs.Ytingjembjpckcaa
namespace Go.Proofs.Ytingjembjpckcaa
set_option linter.unusedVariables false
set_option linter.unusedSimpArgs false
open Go.RowKit Go.Joins

/-- What is said of a rule's predicates. -/
def chkL (l : List Pd) : Int := if 4 < l.length then 8 else fltR l
set_option maxRecDepth 100000 in
set_option maxHeartbeats 4000000 in
theorem checkpreds_any (A : Option Addr) (c : Nat) (l : List Pd) (w : World) (hl : PX w (· < w.heap.size) A l) (hln : l.length ≤ 9223372036854775807) (hsm : smallP l) {z : Int} (H : Hid (chkL l = z)) :
    Calls Try.prog 46 #[.slice A l.length c] w fun e w' => e = .returned (.int .i64 z) ∧ Below w.heap.size w w' := by
  have HR := hid hl
  have HSM := hid hsm
  clear hl hsm
  by_cases h4 : 4 < l.length
  · have hd : decide ((4 : Int) < ((l.length : Nat) : Int)) = true := decide_eq_true (by omega)
    have HC := hid (show chkL l = 8 by rw [chkL, if_pos h4])
    clear h4
    go_enter Try.func46, Try.ntmps46
    go_wp2_with fail
    go_returns
    exact ⟨by rw [← H.out, HC.out]; rfl, Below.refl _ _⟩
  · have hd : decide ((4 : Int) < ((l.length : Nat) : Int)) = false := decide_eq_false (by omega)
    have HC := hid (show chkL l = fltR l by rw [chkL, if_neg h4])
    clear h4
    go_enter Try.func46, Try.ntmps46
    go_wp2_with fail
    clear hd
    go_loopw [11] (fun i wr => ∃ k : Nat, k ≤ l.length ∧ i = .int .i64 k ∧ Hid (fltR l = fltR (l.drop k) ∧ Below w.heap.size w wr)) (fun i _ => l.length - (intOf i).toNat)
    case atStart => exact ⟨0, by omega, rfl, hid ⟨by rw [List.drop_zero], Below.refl _ _⟩⟩
    case round =>
      obtain ⟨k, hk, rfl, HW⟩ := hrel
      by_cases hlt : k < l.length
      · obtain ⟨bb, o, rfl, hB, c0, c1, c2⟩ := (HR.out.up HW.out.2) k hlt
        have HF := hid (fltR_drop l k hlt)
        obtain ⟨hs0, hs1⟩ := HSM.out.at_ hlt
        generalize l[k] = y at *
        obtain ⟨yk, yn, yv⟩ := y
        simp only at c0 c1 c2 HF hs0 hs1
        have hki : decide ((k : Int) < ((l.length : Nat) : Int)) = true := by simp; omega
        have hb1 := estep HW.out.2 (enew wr (.cells #[.int .i64 yk, .string (bs yn), .string (bs yv)] 53))
        have hp1 := BP.new wr yk yn yv
        obtain ⟨zz, hz⟩ : ∃ zz, cE yk yn yv = zz := ⟨_, rfl⟩
        have HZ := hid hz
        have HM := hid (fun w2 => pcheck_any yk yn yv w2 hs0 hs1 HZ)
        clear hz
        go_upto_region 6 with (fail)
        clear c0 c1 c2
        generalize wr.alloc (.cells #[.int .i64 yk, .string (bs yn), .string (bs yv)] 53) = v1 at *
        obtain ⟨c0, c1, c2⟩ := hp1.cells
        go_wp2_with fail
        refine (HM.out _).mono ?_
        rintro e w1 ⟨rfl, hb2⟩
        have hb3 := hid (estep hb1 hb2)
        clear hb1 hb2 hp1 c0 c1 c2
        by_cases e0 : zz = 0
        · subst e0
          have HFF := hid (show fltR (l.drop k) = fltR (l.drop (k + 1)) by rw [HF.out, HZ.out]; rfl)
          go_wp2_with fail
          go_roundw
          case rel => exact ⟨k + 1, by omega, by go_num, hid ⟨by rw [HW.out.1, HFF.out], hb3.out⟩⟩
          case measure => simp [intOf]; omega
        · have hd0 : decide (zz = 0) = false := decide_eq_false e0
          have hd1 : (!decide (zz = 0)) = true := by rw [hd0]; rfl
          have HFF := hid (show fltR (l.drop k) = zz by rw [HF.out, if_pos (by rw [HZ.out]; exact e0), HZ.out])
          go_wp2_with fail
          go_returns
          exact ⟨by rw [← H.out, HC.out, HW.out.1, HFF.out]; rfl, hb3.out⟩
      · obtain rfl : k = l.length := by omega
        have hki : decide (((l.length : Nat) : Int) < ((l.length : Nat) : Int)) = false := by simp
        have HFF := hid (show fltR l = 0 by rw [HW.out.1, List.drop_length]; rfl)
        go_wp2_with fail
        go_returns
        exact ⟨by rw [← H.out, HC.out, HFF.out]; rfl, HW.out.2⟩
end Go.Proofs.Ytingjembjpckcaa
namespace Go.Proofs.Ytingjembjpckcaa
set_option linter.unusedVariables false
set_option linter.unusedSimpArgs false
open Go.RowKit Go.Joins

theorem stx_up {w w' : World} {A : Option Addr} {l : List (List UInt8)} (h : STexts w (· < w.heap.size) A l) (hb : Below w.heap.size w w') : STexts w' (· < w'.heap.size) A l := by
  intro k hk
  obtain ⟨ad, e, h1, h2⟩ := (STexts.below h hb) k hk
  exact ⟨ad, e, Nat.lt_of_lt_of_le h1 hb.size, h2⟩
/-- What is said of a rule, in the order in which it is said. -/
theorem chkR_eq (r : Rs) (names : List (List UInt8)) {zr zt zm zi : Bool} {ze : Int} (h1 : (decide (0 ≤ r.rank) && decide (r.rank ≤ 99)) = zr) (h2 : chkL r.ps = ze) (h3 : inN names r.tg = zt) (h4 : inN names r.mi = zm) (h5 : rngR r = zi) :
    chkR r names = if zr = false then 12 else if ze ≠ 0 then ze else if zt = false ∨ (r.mi ≠ [] ∧ zm = false) then 7 else if zi = false then 12 else if 0 < r.mp ∧ r.mi = [] then 9 else 0 := by
  subst h1 h2 h3 h4 h5
  have h1 : ((decide (0 ≤ r.rank) && decide (r.rank ≤ 99)) = false) ↔ (r.rank < 0 ∨ 99 < r.rank) := by
    rw [Bool.and_eq_false_iff, decide_eq_false_iff_not, decide_eq_false_iff_not]; omega
  rw [chkR]
  by_cases hr : r.rank < 0 ∨ 99 < r.rank
  · rw [if_pos hr, if_pos (h1.2 hr)]
  · rw [if_neg hr, if_neg (fun h => hr (h1.1 h))]
    by_cases h4 : 4 < r.ps.length
    · rw [chkL, if_pos h4, if_pos (by omega), if_pos h4]
    · rw [chkL, if_neg h4, if_neg h4]
set_option maxRecDepth 100000 in
set_option maxHeartbeats 16000000 in
theorem rcheck_any (u : Ru) (A : Option Addr) (cap : Nat) (names : List (List UInt8)) (w : World) (hu : UV w u) (hs : okRs u.sem) (hN : STexts w (· < w.heap.size) A names) (hl : names.length ≤ 9223372036854775807) {z : Int} (H : Hid (chkR u.sem names = z)) :
    Calls Try.prog 27 #[.agg #[.int .i64 u.rank, .slice u.xa u.xn u.xc, .string (bs u.tg), .int .i64 u.ap, .int .i64 u.st, .int .i64 u.dp, .int .i64 u.dt, .int .i64 u.mp, .string (bs u.mi), .int .i64 u.sm], .slice A names.length cap] w fun e w' => e = .returned (.int .i64 z) ∧ Below w.heap.size w w' := by
  have hnot := enot
  have hb0 := enew w (.cells #[.int .i64 u.rank, .slice u.xa u.xn u.xc, .string (bs u.tg), .int .i64 u.ap, .int .i64 u.st, .int .i64 u.dp, .int .i64 u.dt, .int .i64 u.mp, .string (bs u.mi), .int .i64 u.sm] 49)
  have hr0 := BR.new w u
  have hN0 := stx_up hN hb0
  obtain ⟨hn, hpx, -, -, hl9⟩ := (hu.up hb0).out
  have CI := hid (fun w2 z (hz : Hid (rngR u.sem = z)) => inranges_any u w2 hz)
  have CP := hid (fun w2 (h2 : PX w2 (· < w2.heap.size) u.xa u.ps) z (hz : Hid (chkL u.ps = z)) => checkpreds_any u.xa u.xc u.ps w2 h2 hl9 hs.1 hz)
  clear hu hs hN
  rw [← hn] at CP
  clear hn hl9
  obtain ⟨rk, xa, xn, xc, ps, tg, ap, st, dp, dt, mp, mi, sm⟩ := u
  simp only [Ru.sem] at H CI CP hb0 hr0 hN0 hpx ⊢
  obtain ⟨zr, hzr⟩ : ∃ z, (decide (0 ≤ rk) && decide (rk ≤ 99)) = z := ⟨_, rfl⟩
  obtain ⟨ze, hze⟩ : ∃ z, chkL ps = z := ⟨_, rfl⟩
  obtain ⟨zt, hzt⟩ : ∃ z, inN names tg = z := ⟨_, rfl⟩
  obtain ⟨zm, hzm⟩ : ∃ z, inN names mi = z := ⟨_, rfl⟩
  obtain ⟨zi, hzi⟩ : ∃ z, rngR ⟨rk, ps, tg, ap, st, dp, dt, mp, mi, sm⟩ = z := ⟨_, rfl⟩
  have CR := hid (fun w2 => rwithin_any rk 0 99 w2 (hid hzr))
  have CT := hid (fun w2 (h2 : STexts w2 (· < w2.heap.size) A names) => (contains_any A cap names tg _ w2 h2 hl).mono fun e w' ⟨h1, h3⟩ => (⟨by rw [← hzt]; exact h1, h3⟩ : e = Ending.returned (.bool zt) ∧ w2 = w'))
  have CM := hid (fun w2 (h2 : STexts w2 (· < w2.heap.size) A names) => (contains_any A cap names mi _ w2 h2 hl).mono fun e w' ⟨h1, h3⟩ => (⟨by rw [← hzm]; exact h1, h3⟩ : e = Ending.returned (.bool zm) ∧ w2 = w'))
  have CI2 := hid (fun w2 => CI.out w2 _ (hid hzi))
  have CP2 := hid (fun w2 h2 => CP.out w2 h2 _ (hid hze))
  have HC := hid (chkR_eq ⟨rk, ps, tg, ap, st, dp, dt, mp, mi, sm⟩ names hzr hze hzt hzm hzi)
  simp only at HC
  clear CI CP hzr hze hzt hzm hzi
  have HB := hid hb0
  clear hb0
  go_enter Try.func27, Try.ntmps27
  go_upto_region 1 with (fail)
  generalize w.alloc (.cells #[.int .i64 rk, .slice xa xn xc, .string (bs tg), .int .i64 ap, .int .i64 st, .int .i64 dp, .int .i64 dt, .int .i64 mp, .string (bs mi), .int .i64 sm] 49) = v0 at *
  obtain ⟨r0, r1, r2, r3, r4, r5, r6, r7, r8, r9⟩ := hr0.cells
  cases zr
  · clear r1 r2 r3 r4 r5 r6 r7 r8 r9 hpx hN0
    go_wp2_with fail
    refine (CR.out _).mono ?_
    rintro e w1 ⟨rfl, rfl⟩
    go_wp2_with fail
    go_returns
    exact ⟨by rw [← H.out, HC.out]; rfl, HB.out⟩
  go_wp2_with fail
  refine (CR.out _).mono ?_
  rintro e w1 ⟨rfl, rfl⟩
  clear r0 r2 r3 r4 r5 r6 r7 r8 r9
  go_wp2_with fail
  refine (CP2.out _ hpx).mono ?_
  rintro e w1 ⟨rfl, hb1⟩
  have hN1 := stx_up hN0 hb1
  obtain ⟨r0, r1, r2, r3, r4, r5, r6, r7, r8, r9⟩ := (hr0.up hb1).cells
  have HB1 := hid (estep HB.out hb1)
  by_cases e0 : ze = 0
  case neg =>
    have hd0 : decide (ze = 0) = false := decide_eq_false e0
    have hd1 : (!decide (ze = 0)) = true := by rw [hd0]; rfl
    have HE := hid e0
    clear r0 r1 r2 r3 r4 r5 r6 r7 r8 r9
    go_wp2_with fail
    go_returns
    exact ⟨by rw [← H.out, HC.out, if_neg (by simp), if_pos HE.out]; rfl, HB1.out⟩
  subst e0
  clear r0 r1 r3 r4 r5 r6 r7 r8 r9
  go_wp2_with fail
  refine (CT.out _ hN1).mono ?_
  rintro e w1 ⟨rfl, rfl⟩
  cases zt
  · have HZ := hid (show z = 7 by rw [← H.out, HC.out]; simp)
    go_wp2_with fail
    go_returns
    exact ⟨by rw [HZ.out]; rfl, HB1.out⟩
  clear r2
  by_cases hm : mi = []
  · subst hm
    have c4 : (ByteArray.mk #[]) = bs [] := rfl
    obtain ⟨r0, r1, r2, r3, r4, r5, r6, r7, r8, r9⟩ := (hr0.up hb1).cells
    go_wp2_with fail
    refine (CI2.out _).mono ?_
    rintro e w2 ⟨rfl, hb2⟩
    have HB2 := hid (estep HB1.out hb2)
    clear r0 r1 r2 r3 r4 r5 r6 r7 r8 r9
    obtain ⟨-, -, -, -, -, -, -, r7, r8, -⟩ := ((hr0.up hb1).up hb2).cells
    cases zi
    · have HZ := hid (show z = 12 by rw [← H.out, HC.out]; simp)
      go_wp2_with fail
      go_returns
      exact ⟨by rw [HZ.out]; rfl, HB2.out⟩
    by_cases hp : 0 < mp
    · have hd2 : decide (0 < mp) = true := decide_eq_true hp
      have HZ := hid (show z = 9 by rw [← H.out, HC.out]; simp [hp])
      go_wp2_with fail
      go_returns
      exact ⟨by rw [HZ.out]; rfl, HB2.out⟩
    · have hd2 : decide (0 < mp) = false := decide_eq_false hp
      have HZ := hid (show z = 0 by rw [← H.out, HC.out]; simp [hp])
      go_wp2_with fail
      go_returns
      exact ⟨by rw [HZ.out]; rfl, HB2.out⟩
  · have c4 : (ByteArray.mk #[]) = bs [] := rfl
    have hmd : mi.isEmpty = false := by cases mi with
      | nil => exact absurd rfl hm
      | cons => rfl
    have hme : (!mi.isEmpty) = true := by rw [hmd]; rfl
    obtain ⟨r0, r1, r2, r3, r4, r5, r6, r7, r8, r9⟩ := (hr0.up hb1).cells
    go_wp2_with fail
    refine (CM.out _ hN1).mono ?_
    rintro e w1 ⟨rfl, rfl⟩
    cases zm
    · have HZ := hid (show z = 7 by rw [← H.out, HC.out]; simp [hm])
      go_wp2_with fail
      go_returns
      exact ⟨by rw [HZ.out]; rfl, HB1.out⟩
    go_wp2_with fail
    refine (CI2.out _).mono ?_
    rintro e w2 ⟨rfl, hb2⟩
    have HB2 := hid (estep HB1.out hb2)
    clear r0 r1 r2 r3 r4 r5 r6 r7 r8 r9
    obtain ⟨-, -, -, -, -, -, -, r7, r8, -⟩ := ((hr0.up hb1).up hb2).cells
    cases zi
    · have HZ := hid (show z = 12 by rw [← H.out, HC.out]; simp)
      go_wp2_with fail
      go_returns
      exact ⟨by rw [HZ.out]; rfl, HB2.out⟩
    by_cases hp : 0 < mp
    · have hd2 : decide (0 < mp) = true := decide_eq_true hp
      have HZ := hid (show z = 0 by rw [← H.out, HC.out]; simp [hp, hm])
      go_wp2_with fail
      go_returns
      exact ⟨by rw [HZ.out]; rfl, HB2.out⟩
    · have hd2 : decide (0 < mp) = false := decide_eq_false hp
      have HZ := hid (show z = 0 by rw [← H.out, HC.out]; simp [hp])
      go_wp2_with fail
      go_returns
      exact ⟨by rw [HZ.out]; rfl, HB2.out⟩
end Go.Proofs.Ytingjembjpckcaa
namespace Go.Proofs.Ytingjembjpckcaa
set_option linter.unusedVariables false
set_option linter.unusedSimpArgs false
open Go.RowKit Go.Joins

set_option maxRecDepth 100000 in
set_option maxHeartbeats 32000000 in
theorem rrcheck_any (u : Ru) (A : Option Addr) (cap : Nat) (names : List (List UInt8)) (w : World) (hu : UV w u) (hs : okRs u.sem) (hN : STexts w (· < w.heap.size) A names) (hl : names.length ≤ 9223372036854775807) {z : Int} (H : Hid (chkR u.sem names = z)) :
    Calls Try.prog 29 #[.agg #[.int .i64 u.rank, .slice u.xa u.xn u.xc, .string (bs u.tg), .int .i64 u.ap, .int .i64 u.st, .int .i64 u.dp, .int .i64 u.dt, .int .i64 u.mp, .string (bs u.mi), .int .i64 u.sm], .slice A names.length cap] w fun e w' => e = .returned (.int .i64 z) ∧ Below w.heap.size w w' := by
  have hnot := enot
  have hb0 := enew w (.cells #[.int .i64 u.rank, .slice u.xa u.xn u.xc, .string (bs u.tg), .int .i64 u.ap, .int .i64 u.st, .int .i64 u.dp, .int .i64 u.dt, .int .i64 u.mp, .string (bs u.mi), .int .i64 u.sm] 49)
  have hr0 := BR.new w u
  have hN0 := stx_up hN hb0
  obtain ⟨hn, hpx, -, -, hl9⟩ := (hu.up hb0).out
  have hs9 : smallP u.ps := hs.1
  clear hu hN hs
  obtain ⟨rk, xa, xn, xc, ps, tg, ap, st, dp, dt, mp, mi, sm⟩ := u
  simp only [Ru.sem] at H hb0 hr0 hN0 hpx hn hl9 hs9 ⊢
  subst hn
  obtain ⟨zr, hzr⟩ : ∃ z, (decide (0 ≤ rk) && decide (rk ≤ 99)) = z := ⟨_, rfl⟩
  obtain ⟨zt, hzt⟩ : ∃ z, inN names tg = z := ⟨_, rfl⟩
  obtain ⟨zm, hzm⟩ : ∃ z, inN names mi = z := ⟨_, rfl⟩
  obtain ⟨z1, hz1⟩ : ∃ z, inPct ap = z := ⟨_, rfl⟩
  obtain ⟨z2, hz2⟩ : ∃ z, inPct dp = z := ⟨_, rfl⟩
  obtain ⟨z3, hz3⟩ : ∃ z, inPct mp = z := ⟨_, rfl⟩
  obtain ⟨z4, hz4⟩ : ∃ z, inPct sm = z := ⟨_, rfl⟩
  obtain ⟨zs, hzs⟩ : ∃ z, ((decide (400 ≤ st) && decide (st ≤ 599)) || (decide (ap = 0) && decide (st = 0))) = z := ⟨_, rfl⟩
  obtain ⟨zd, hzd⟩ : ∃ z, ((decide (1 ≤ dt) && decide (dt ≤ 50)) || (decide (dp = 0) && decide (dt = 0))) = z := ⟨_, rfl⟩
  have hzi : rngR ⟨rk, ps, tg, ap, st, dp, dt, mp, mi, sm⟩ = (z1 && (z2 && (z3 && (z4 && (zs && zd))))) := by rw [← hz1, ← hz2, ← hz3, ← hz4, ← hzs, ← hzd]; rfl
  have HC := hid (chkR_eq ⟨rk, ps, tg, ap, st, dp, dt, mp, mi, sm⟩ names hzr rfl hzt hzm hzi)
  simp only at HC
  have P1 := hid (fun w2 => part_any ap w2 (hid hz1))
  have P2 := hid (fun w2 => part_any dp w2 (hid hz2))
  have P3 := hid (fun w2 => part_any mp w2 (hid hz3))
  have P4 := hid (fun w2 => part_any sm w2 (hid hz4))
  have CT := hid (fun w2 (h2 : STexts w2 (· < w2.heap.size) A names) => in_any A cap names tg _ w2 h2 hl (hid hzt))
  have CM := hid (fun w2 (h2 : STexts w2 (· < w2.heap.size) A names) => in_any A cap names mi _ w2 h2 hl (hid hzm))
  have HZS := hid hzs
  have HZD := hid hzd
  clear hz1 hz2 hz3 hz4 hzt hzm hzi hzs hzd
  have HB := hid hb0
  have HR := hid hpx
  have HSM := hid hs9
  clear hb0 hpx hs9
  go_enter Try.func29, Try.ntmps29
  go_upto_region 1 with (fail)
  generalize w.alloc (.cells #[.int .i64 rk, .slice xa ps.length xc, .string (bs tg), .int .i64 ap, .int .i64 st, .int .i64 dp, .int .i64 dt, .int .i64 mp, .string (bs mi), .int .i64 sm] 49) = v0 at *
  obtain ⟨r0, r1, -⟩ := hr0.cells
  by_cases k1 : rk < 0
  · have d1 : decide (rk < 0) = true := decide_eq_true k1
    have HZ := hid (show z = 12 by rw [← H.out, HC.out, ← hzr, decide_eq_false (show ¬ 0 ≤ rk by omega)]; simp)
    go_wp2_with fail
    go_returns
    exact ⟨by rw [HZ.out]; rfl, HB.out⟩
  have d1 : decide (rk < 0) = false := decide_eq_false k1
  by_cases k2 : 99 < rk
  · have d2 : decide (99 < rk) = true := decide_eq_true k2
    have HZ := hid (show z = 12 by rw [← H.out, HC.out, ← hzr, decide_eq_false (show ¬ rk ≤ 99 by omega)]; simp)
    go_wp2_with fail
    go_returns
    exact ⟨by rw [HZ.out]; rfl, HB.out⟩
  have d2 : decide (99 < rk) = false := decide_eq_false k2
  obtain rfl : zr = true := by rw [← hzr, decide_eq_true (show 0 ≤ rk by omega), decide_eq_true (show rk ≤ 99 by omega)]; rfl
  clear hzr k1 k2
  by_cases h4 : 4 < ps.length
  · have d3 : decide ((4 : Int) < (ps.length : Int)) = true := decide_eq_true (by omega)
    have HZ := hid (show z = 8 by rw [← H.out, HC.out, chkL, if_pos h4]; simp)
    clear h4
    go_wp2_with fail
    go_returns
    exact ⟨by rw [HZ.out]; rfl, HB.out⟩
  have d3 : decide ((4 : Int) < (ps.length : Int)) = false := decide_eq_false (by omega)
  have HCL := hid (show chkL ps = fltR ps by rw [chkL, if_neg h4])
  clear h4
  go_wp2_with fail
  clear d1 d2 d3 r0 r1
  go_loopw [5] (fun i wr => ∃ k : Nat, k ≤ ps.length ∧ i = .int .i64 k ∧ Hid (fltR ps = fltR (ps.drop k) ∧ Below v0.heap.size v0 wr)) (fun i _ => ps.length - (intOf i).toNat)
  case atStart => exact ⟨0, by omega, rfl, hid ⟨by rw [List.drop_zero], Below.refl _ _⟩⟩
  case round =>
    obtain ⟨k, hk, rfl, HW⟩ := hrel
    obtain ⟨-, r1, -⟩ := (hr0.up HW.out.2).cells
    by_cases hlt : k < ps.length
    · obtain ⟨bb, o, rfl, hB, c0, c1, c2⟩ := (HR.out.up HW.out.2) k hlt
      have HF := hid (fltR_drop ps k hlt)
      obtain ⟨hs0, hs1⟩ := HSM.out.at_ hlt
      generalize ps[k] = y at *
      obtain ⟨yk, yn, yv⟩ := y
      simp only at c0 c1 c2 HF hs0 hs1
      have hki : decide ((k : Int) < ((ps.length : Nat) : Int)) = true := by simp; omega
      have hk0 : (0 : Int) ≤ (k : Int) := by omega
      have hk1 : (k : Int) < (ps.length : Int) := by omega
      obtain ⟨zz, hz⟩ : ∃ zz, cE yk yn yv = zz := ⟨_, rfl⟩
      have HZ := hid hz
      have HM := hid (fun w2 => rpcheck_any yk yn yv w2 hs0 hs1 HZ)
      clear hz
      go_wp2_with fail
      refine (HM.out _).mono ?_
      rintro e w1 ⟨rfl, hb2⟩
      have hb3 := hid (estep HW.out.2 hb2)
      clear hb2 c0 c1 c2 r1
      by_cases e0 : zz = 0
      · subst e0
        have HFF := hid (show fltR (ps.drop k) = fltR (ps.drop (k + 1)) by rw [HF.out, HZ.out]; rfl)
        go_wp2_with fail
        go_roundw
        case rel => exact ⟨k + 1, by omega, by go_num, hid ⟨by rw [HW.out.1, HFF.out], hb3.out⟩⟩
        case measure => simp [intOf]; omega
      · have hd0 : decide (zz = 0) = false := decide_eq_false e0
        have hd1 : (!decide (zz = 0)) = true := by rw [hd0]; rfl
        have HFF := hid (show fltR (ps.drop k) = zz by rw [HF.out, if_pos (by rw [HZ.out]; exact e0), HZ.out])
        have HZ9 := hid (show z = zz by rw [← H.out, HC.out, HCL.out, HW.out.1, HFF.out, if_neg (by simp), if_pos e0])
        go_wp2_with fail
        go_returns
        exact ⟨by rw [HZ9.out]; rfl, estep HB.out hb3.out⟩
    · obtain rfl : k = ps.length := by omega
      have hki : decide (((ps.length : Nat) : Int) < ((ps.length : Nat) : Int)) = false := by simp
      have HFF := hid (show chkL ps = 0 by rw [HCL.out, HW.out.1, List.drop_length]; rfl)
      have HC2 := hid (show z = if zt = false ∨ (mi ≠ [] ∧ zm = false) then 7 else if (z1 && (z2 && (z3 && (z4 && (zs && zd))))) = false then 12 else if 0 < mp ∧ mi = [] then 9 else 0 by
        rw [← H.out, HC.out, HFF.out, if_neg (by simp), if_neg (by simp)])
      have hN1 := stx_up hN0 HW.out.2
      have hr1 := hr0.up HW.out.2
      have HB2 := hid (estep HB.out HW.out.2)
      clear HC HCL HFF H HR HSM hN0 hr0 hl9
      go_upto_region 11 with (fail)
      clear r1
      obtain ⟨r0, r1, r2, r3, r4, r5, r6, r7, r8, r9⟩ := hr1.cells
      clear hr1 r0 r1
      have c4 : (ByteArray.mk #[]) = bs [] := rfl
      obtain ⟨zn, hzn⟩ : ∃ b : Bool, b = (!zt || (!mi.isEmpty && !zm)) := ⟨_, rfl⟩
      have HZN := hid hzn
      clear hzn
      generalize hw0 : wr = w0 at *
      go_cut [51] from 35 to 51 (fun s wx => s = .bool zn ∧ wx = w0)
      case first =>
        cases zt
        · go_wp2_with (first
            | (with_reducible refine (CT.out _ hN1).mono ?_
               rintro e wq ⟨rfl, rfl⟩))
          go_meet
          exact ⟨by rw [HZN.out]; rfl, rfl⟩
        by_cases hm : mi = []
        · subst hm
          go_wp2_with (first
            | (with_reducible refine (CT.out _ hN1).mono ?_
               rintro e wq ⟨rfl, rfl⟩))
          go_meet
          exact ⟨by rw [HZN.out]; rfl, rfl⟩
        · have hmd : mi.isEmpty = false := by cases mi with
            | nil => exact absurd rfl hm
            | cons => rfl
          have hme : (!mi.isEmpty) = true := by rw [hmd]; rfl
          have HM9 := hid hmd
          cases zm
          all_goals
            go_wp2_with (first
              | (with_reducible refine (CT.out _ hN1).mono ?_
                 rintro e wq ⟨rfl, rfl⟩)
              | (with_reducible refine (CM.out _ hN1).mono ?_
                 rintro e wq ⟨rfl, rfl⟩))
            go_meet
            exact ⟨by rw [HZN.out, HM9.out]; rfl, rfl⟩
      case rest =>
        obtain ⟨rfl, hwc⟩ := hcut
        subst hwc
        obtain ⟨w1, rfl⟩ : ∃ w1, w1 = wc := ⟨_, rfl⟩
        cases zn
        case true =>
          have HZ := hid (show z = 7 by
            have h1 := HZN.out
            rw [HC2.out, if_pos]
            revert h1
            cases zt <;> cases zm <;> cases mi <;> simp)
          go_wp2_with fail
          go_returns
          exact ⟨by rw [HZ.out]; rfl, HB2.out⟩
        have HC3 := hid (show z = if (z1 && (z2 && (z3 && (z4 && (zs && zd))))) = false then 12 else if 0 < mp ∧ mi = [] then 9 else 0 by
          have h1 := HZN.out
          rw [HC2.out, if_neg]
          revert h1
          cases zt <;> cases zm <;> cases mi <;> simp)
        clear HC2 HZN CT CM
        go_upto_region 13 with (fail)
        go_cut [73] from 52 to 73 (fun s wx => s = .bool (!(z1 && (z2 && (z3 && z4)))) ∧ wx = w1)
        case first =>
          cases z1
          · go_wp2_with (first
              | (with_reducible refine (P1.out _).mono ?_
                 rintro e wq ⟨rfl, rfl⟩)
              | (with_reducible refine (P2.out _).mono ?_
                 rintro e wq ⟨rfl, rfl⟩)
              | (with_reducible refine (P3.out _).mono ?_
                 rintro e wq ⟨rfl, rfl⟩)
              | (with_reducible refine (P4.out _).mono ?_
                 rintro e wq ⟨rfl, rfl⟩))
            go_meet
            exact ⟨rfl, rfl⟩
          cases z2
          · go_wp2_with (first
              | (with_reducible refine (P1.out _).mono ?_
                 rintro e wq ⟨rfl, rfl⟩)
              | (with_reducible refine (P2.out _).mono ?_
                 rintro e wq ⟨rfl, rfl⟩)
              | (with_reducible refine (P3.out _).mono ?_
                 rintro e wq ⟨rfl, rfl⟩)
              | (with_reducible refine (P4.out _).mono ?_
                 rintro e wq ⟨rfl, rfl⟩))
            go_meet
            exact ⟨rfl, rfl⟩
          cases z3
          · go_wp2_with (first
              | (with_reducible refine (P1.out _).mono ?_
                 rintro e wq ⟨rfl, rfl⟩)
              | (with_reducible refine (P2.out _).mono ?_
                 rintro e wq ⟨rfl, rfl⟩)
              | (with_reducible refine (P3.out _).mono ?_
                 rintro e wq ⟨rfl, rfl⟩)
              | (with_reducible refine (P4.out _).mono ?_
                 rintro e wq ⟨rfl, rfl⟩))
            go_meet
            exact ⟨rfl, rfl⟩
          cases z4
          all_goals
            go_wp2_with (first
              | (with_reducible refine (P1.out _).mono ?_
                 rintro e wq ⟨rfl, rfl⟩)
              | (with_reducible refine (P2.out _).mono ?_
                 rintro e wq ⟨rfl, rfl⟩)
              | (with_reducible refine (P3.out _).mono ?_
                 rintro e wq ⟨rfl, rfl⟩)
              | (with_reducible refine (P4.out _).mono ?_
                 rintro e wq ⟨rfl, rfl⟩))
            go_meet
            exact ⟨rfl, rfl⟩
        case rest =>
          obtain ⟨rfl, hwc⟩ := hcut
          subst hwc
          obtain ⟨w2, rfl⟩ : ∃ w2, w2 = wc := ⟨_, rfl⟩
          clear P1 P2 P3 P4
          obtain ⟨zp, hzp⟩ : ∃ zp, (z1 && (z2 && (z3 && z4))) = zp := ⟨_, rfl⟩
          have HC4 := hid (show z = if (zp && (zs && zd)) = false then 12 else if 0 < mp ∧ mi = [] then 9 else 0 by
            rw [HC3.out, ← hzp]
            cases z1 <;> cases z2 <;> cases z3 <;> cases z4 <;> rfl)
          rw [hzp]
          clear hzp HC3
          cases zp
          · have HZ := hid (show z = 12 by rw [HC4.out]; rfl)
            go_wp2_with fail
            go_returns
            exact ⟨by rw [HZ.out]; rfl, HB2.out⟩
          go_upto_region 15 with (fail)
          go_cut [91] from 74 to 91 (fun s wx => s = .bool (!zs) ∧ wx = w2)
          case first =>
            by_cases a1 : st < 400
            · have b1 : decide (st < 400) = true := decide_eq_true a1
              by_cases a3 : st = 0
              · subst a3
                by_cases a4 : ap = 0
                · subst a4
                  go_wp2_with fail
                  go_meet
                  exact ⟨by rw [← HZS.out]; simp, rfl⟩
                · have b4 : decide (ap = 0) = false := decide_eq_false a4
                  have b4' : (!decide (ap = 0)) = true := by rw [b4]; rfl
                  go_wp2_with fail
                  go_meet
                  exact ⟨by rw [← HZS.out]; simp [bne, a4], rfl⟩
              · have b3 : decide (st = 0) = false := decide_eq_false a3
                have b3' : (!decide (st = 0)) = true := by rw [b3]; rfl
                have HV := hid (show ((decide (400 ≤ st) && decide (st ≤ 599)) || (decide (ap = 0) && decide (st = 0))) = false by rw [decide_eq_false (show ¬ 400 ≤ st by omega), decide_eq_false a3]; simp)
                go_wp2_with fail
                go_meet
                exact ⟨by rw [← HZS.out, HV.out]; rfl, rfl⟩
            · have b1 : decide (st < 400) = false := decide_eq_false a1
              by_cases a2 : 599 < st
              · have b2 : decide (599 < st) = true := decide_eq_true a2
                have a3 : ¬ st = 0 := by omega
                have b3 : decide (st = 0) = false := decide_eq_false a3
                have b3' : (!decide (st = 0)) = true := by rw [b3]; rfl
                have HV := hid (show ((decide (400 ≤ st) && decide (st ≤ 599)) || (decide (ap = 0) && decide (st = 0))) = false by rw [decide_eq_false (show ¬ st ≤ 599 by omega), decide_eq_false a3]; simp)
                go_wp2_with fail
                go_meet
                exact ⟨by rw [← HZS.out, HV.out]; rfl, rfl⟩
              · have b2 : decide (599 < st) = false := decide_eq_false a2
                have HV := hid (show ((decide (400 ≤ st) && decide (st ≤ 599)) || (decide (ap = 0) && decide (st = 0))) = true by rw [decide_eq_true (show 400 ≤ st by omega), decide_eq_true (show st ≤ 599 by omega)]; simp)
                go_wp2_with fail
                go_meet
                exact ⟨by rw [← HZS.out, HV.out]; rfl, rfl⟩
          case rest =>
            obtain ⟨rfl, hwc⟩ := hcut
            subst hwc
            obtain ⟨w3, rfl⟩ : ∃ w3, w3 = wc := ⟨_, rfl⟩
            cases zs
            · have HZ := hid (show z = 12 by rw [HC4.out]; rfl)
              go_wp2_with fail
              go_returns
              exact ⟨by rw [HZ.out]; rfl, HB2.out⟩
            go_upto_region 17 with (fail)
            go_cut [109] from 92 to 109 (fun s wx => s = .bool (!zd) ∧ wx = w3)
            case first =>
              by_cases a1 : dt < 1
              · have b1 : decide (dt < 1) = true := decide_eq_true a1
                by_cases a3 : dt = 0
                · subst a3
                  by_cases a4 : dp = 0
                  · subst a4
                    go_wp2_with fail
                    go_meet
                    exact ⟨by rw [← HZD.out]; simp, rfl⟩
                  · have b4 : decide (dp = 0) = false := decide_eq_false a4
                    have b4' : (!decide (dp = 0)) = true := by rw [b4]; rfl
                    go_wp2_with fail
                    go_meet
                    exact ⟨by rw [← HZD.out]; simp [bne, a4], rfl⟩
                · have b3 : decide (dt = 0) = false := decide_eq_false a3
                  have b3' : (!decide (dt = 0)) = true := by rw [b3]; rfl
                  have HV := hid (show ((decide (1 ≤ dt) && decide (dt ≤ 50)) || (decide (dp = 0) && decide (dt = 0))) = false by rw [decide_eq_false (show ¬ 1 ≤ dt by omega), decide_eq_false a3]; simp)
                  go_wp2_with fail
                  go_meet
                  exact ⟨by rw [← HZD.out, HV.out]; rfl, rfl⟩
              · have b1 : decide (dt < 1) = false := decide_eq_false a1
                by_cases a2 : 50 < dt
                · have b2 : decide (50 < dt) = true := decide_eq_true a2
                  have a3 : ¬ dt = 0 := by omega
                  have b3 : decide (dt = 0) = false := decide_eq_false a3
                  have b3' : (!decide (dt = 0)) = true := by rw [b3]; rfl
                  have HV := hid (show ((decide (1 ≤ dt) && decide (dt ≤ 50)) || (decide (dp = 0) && decide (dt = 0))) = false by rw [decide_eq_false (show ¬ dt ≤ 50 by omega), decide_eq_false a3]; simp)
                  go_wp2_with fail
                  go_meet
                  exact ⟨by rw [← HZD.out, HV.out]; rfl, rfl⟩
                · have b2 : decide (50 < dt) = false := decide_eq_false a2
                  have HV := hid (show ((decide (1 ≤ dt) && decide (dt ≤ 50)) || (decide (dp = 0) && decide (dt = 0))) = true by rw [decide_eq_true (show 1 ≤ dt by omega), decide_eq_true (show dt ≤ 50 by omega)]; simp)
                  go_wp2_with fail
                  go_meet
                  exact ⟨by rw [← HZD.out, HV.out]; rfl, rfl⟩
            case rest =>
              obtain ⟨rfl, hwc⟩ := hcut
              subst hwc
              cases zd
              · have HZ := hid (show z = 12 by rw [HC4.out]; rfl)
                go_wp2_with fail
                go_returns
                exact ⟨by rw [HZ.out]; rfl, HB2.out⟩
              have HC5 := hid (show z = if 0 < mp ∧ mi = [] then 9 else 0 from HC4.out)
              clear HC4
              by_cases hp : 0 < mp
              · have hd2 : decide (0 < mp) = true := decide_eq_true hp
                by_cases hm : mi = []
                · subst hm
                  have HZ := hid (show z = 9 by rw [HC5.out, if_pos ⟨hp, rfl⟩])
                  go_wp2_with fail
                  go_returns
                  exact ⟨by rw [HZ.out]; rfl, HB2.out⟩
                · have hmd : mi.isEmpty = false := by cases mi with
                    | nil => exact absurd rfl hm
                    | cons => rfl
                  have HZ := hid (show z = 0 by rw [HC5.out, if_neg (fun h => hm h.2)])
                  go_wp2_with fail
                  go_returns
                  exact ⟨by rw [HZ.out]; rfl, HB2.out⟩
              · have hd2 : decide (0 < mp) = false := decide_eq_false hp
                have HZ := hid (show z = 0 by rw [HC5.out, if_neg (fun h => hp h.1)])
                go_wp2_with fail
                go_returns
                exact ⟨by rw [HZ.out]; rfl, HB2.out⟩
end Go.Proofs.Ytingjembjpckcaa
namespace Go.Proofs.Ytingjembjpckcaa
set_option linter.unusedVariables false
set_option linter.unusedSimpArgs false
open Go.RowKit Go.Joins

/-- What a function value says of rules: an error's number; it may make memory. -/
def FR (w0 : World) (fv : Value) (U : List Ru) (p : Rs → Int) : Prop :=
  ∃ (F : Nat) (c : Value), fv = .func (.func F) #[] #[c] ∧ (∀ args w, (callFunc F args).run Try.prog w = .ok (.enter F args) w) ∧
    ∀ u ∈ U, ∀ w, Below w0.heap.size w0 w → Calls Try.prog F #[.agg #[.int .i64 u.rank, .slice u.xa u.xn u.xc, .string (bs u.tg), .int .i64 u.ap, .int .i64 u.st, .int .i64 u.dp, .int .i64 u.dt, .int .i64 u.mp, .string (bs u.mi), .int .i64 u.sm], c] w fun e w' => e = .returned (.int .i64 (p u.sem)) ∧ Below w.heap.size w w'
/-- A variable that holds a config. -/
def BF (w : World) (g : Nat) (y : Value) (f : List UInt8) : Prop := Bk w g 24 #[y, .string (bs f)]
theorem BF.new (w : World) (y : Value) (f : List UInt8) : BF (w.alloc (.cells #[y, .string (bs f)] 24)) w.heap.size y f := Bk.new _ _ _
theorem BF.up {w w' : World} {g : Nat} {y : Value} {f : List UInt8} (k : BF w g y f) (hb : Below w.heap.size w w') : BF w' g y f := Bk.up k hb
theorem BF.cells {w : World} {g : Nat} {y : Value} {f : List UInt8} (k : BF w g y f) : w.cell? ⟨g, 0, none⟩ = some y ∧ w.cell? ⟨g, 1, none⟩ = some (.string (bs f)) := ⟨Bk.cell k 0, Bk.cell k 1⟩
theorem sem_of {U : List Ru} {i : Nat} {u : Ru} (hu : U[i]? = some u) : (U.map Ru.sem)[i]? = some u.sem := by
  rw [List.getElem?_map, hu]; rfl
set_option maxRecDepth 100000 in
set_option maxHeartbeats 4000000 in
theorem ocheck_any (y : Value) (f : List UInt8) (fv : Value) (U : List Ru) (p : Rs → Int) (w : World) (hy : RV w y U) (hf : f.length ≤ 140737488351232) (hF : FR w fv U p) {z : Int} (H : Hid (chkC p f (U.map Ru.sem) = z)) :
    Calls Try.prog 25 #[.agg #[y, .string (bs f)], fv] w fun e w' => e = .returned (.int .i64 z) ∧ Below w.heap.size w w' := by
  have hnot := notB'
  obtain ⟨A, c, rfl, hgx, hrp, hA, hlc, hl9⟩ := hy
  obtain ⟨F, cv, rfl, eg, hF⟩ := hF
  have hb0 := enew w (.cells #[.slice A U.length c, .string (bs f)] 24)
  have hk0 := BF.new w (.slice A U.length c) f
  have H0 := hid (And.intro (hgx.up hb0) (And.intro (hrp.up hb0) hb0))
  have HF := hid (fun u hu w2 (h2 : Below (w.alloc (.cells #[.slice A U.length c, .string (bs f)] 24)).heap.size (w.alloc (.cells #[.slice A U.length c, .string (bs f)] 24)) w2) => hF u hu w2 (estep hb0 h2))
  obtain ⟨zf, hzf⟩ : ∃ b, fmtOK f = b := ⟨_, rfl⟩
  have HFM := hid (fun w2 => oformat_any f w2 hf)
  rw [hzf] at HFM
  have HC := hid (show chkC p f (U.map Ru.sem) = if zf = false then 15 else if 16 < U.length then 8 else fltC p (U.map Ru.sem) by rw [chkC, hzf, List.length_map])
  clear hgx hrp hA hlc hF hb0 hf hzf
  generalize hnU : U.length = n at *
  have HNU := hid hnU
  clear hnU
  go_enter Try.func25, Try.ntmps25
  go_upto_region 1 with (fail)
  generalize w.alloc (.cells #[.slice A n c, .string (bs f)] 24) = v0 at *
  obtain ⟨k0, k1⟩ := hk0.cells
  cases zf with
  | false =>
    have HZ := hid (show z = 15 by rw [← H.out, HC.out, if_pos rfl])
    go_wp2_with fail
    refine (HFM.out _).mono ?_
    rintro e w1 ⟨rfl, rfl⟩
    go_wp2_with fail
    go_returns
    exact ⟨by rw [HZ.out]; rfl, H0.out.2.2⟩
  | true =>
    by_cases h16 : 16 < n
    · have d16 : decide ((16 : Int) < (n : Int)) = true := decide_eq_true (by omega)
      have HZ := hid (show z = 8 by rw [← H.out, HC.out, if_neg (by simp), if_pos h16])
      clear h16
      go_wp2_with fail
      refine (HFM.out _).mono ?_
      rintro e w1 ⟨rfl, rfl⟩
      go_wp2_with fail
      go_returns
      exact ⟨by rw [HZ.out]; rfl, H0.out.2.2⟩
    · have d16 : decide ((16 : Int) < (n : Int)) = false := decide_eq_false (by omega)
      have HCZ := hid (show fltC p (U.map Ru.sem) = z by rw [← H.out, HC.out, if_neg (by simp), if_neg h16])
      clear HC H h16
      go_wp2_with fail
      refine (HFM.out _).mono ?_
      rintro e w1 ⟨rfl, rfl⟩
      go_wp2_with fail
      clear d16 k0 k1
      go_loopg [21] n (fun g1 vi wr => ∃ i : Nat, vi = .int .i64 i ∧ i ≤ n ∧ n - i ≤ g1 ∧ Hid (fltC p ((U.map Ru.sem).drop i) = z ∧ Below v0.heap.size v0 wr))
      case atStart => exact ⟨0, rfl, by omega, by omega, hid ⟨HCZ.out, Below.refl _ _⟩⟩
      case round =>
        obtain ⟨i, rfl, hin, hgk, HW⟩ := hrel
        by_cases hlt : i < n
        · have hltz : (i : Int) < (n : Int) := by omega
          have hltd : decide ((i : Int) < (n : Int)) = true := decide_eq_true hltz
          have hi0 : (0 : Int) ≤ (i : Int) := by omega
          have hiU : i < U.length := by have := HNU.out; omega
          obtain ⟨u, hu⟩ : ∃ u, U[i]? = some u := ⟨_, List.getElem?_eq_getElem hiU⟩
          have hum : u ∈ U := List.mem_of_getElem? hu
          have HD := hid (fltC_drop p (sem_of hu))
          obtain ⟨bb, oo, rfl, -⟩ := H0.out.1.some_of hiU
          obtain ⟨r0, r1, r2, r3, r4, r5, r6, r7, r8, r9⟩ := rank_cell (H0.out.1.up HW.out.2) hu
          obtain ⟨zz, hz⟩ : ∃ zz, p u.sem = zz := ⟨_, rfl⟩
          have HZ := hid hz
          have HU := hid (fun w2 h2 => HF.out u hum w2 h2)
          rw [hz] at HU
          clear hz hu hum
          have hbE := enew wr (.cells #[.int .i64 u.rank, .slice u.xa u.xn u.xc, .string (bs u.tg), .int .i64 u.ap, .int .i64 u.st, .int .i64 u.dp, .int .i64 u.dt, .int .i64 u.mp, .string (bs u.mi), .int .i64 u.sm] 49)
          have hrE := BR.new wr u
          have HT := hid (estep HW.out.2 hbE)
          clear hbE
          go_upto_region 8 with (fail)
          clear r0 r1 r2 r3 r4 r5 r6 r7 r8 r9
          generalize wr.alloc (.cells #[.int .i64 u.rank, .slice u.xa u.xn u.xc, .string (bs u.tg), .int .i64 u.ap, .int .i64 u.st, .int .i64 u.dp, .int .i64 u.dt, .int .i64 u.mp, .string (bs u.mi), .int .i64 u.sm] 49) = v1 at *
          obtain ⟨r0, r1, r2, r3, r4, r5, r6, r7, r8, r9⟩ := hrE.cells
          clear hrE
          go_wp2_with fail
          refine (HU.out _ HT.out).mono ?_
          rintro e w2 ⟨rfl, hb2⟩
          have HB2 := hid (estep HT.out hb2)
          clear hb2 r0 r1 r2 r3 r4 r5 r6 r7 r8 r9
          by_cases e0 : zz = 0
          · subst e0
            have HFF := hid (show fltC p ((U.map Ru.sem).drop (i + 1)) = z by rw [← HW.out.1, HD.out, if_neg (by rw [HZ.out]; simp)])
            go_wp2_with fail
            go_roundg (n - (i + 1))
            case measure => omega
            case rel => exact ⟨i + 1, by go_num, by omega, by omega, hid ⟨HFF.out, HB2.out⟩⟩
          · have hd0 : decide (zz = 0) = false := decide_eq_false e0
            have hd1 : (!decide (zz = 0)) = true := by rw [hd0]; rfl
            have HZ9 := hid (show z = zz by rw [← HW.out.1, HD.out, if_pos (by rw [HZ.out]; exact e0), HZ.out])
            go_wp2_with fail
            go_returns
            exact ⟨by rw [HZ9.out]; rfl, estep H0.out.2.2 HB2.out⟩
        · obtain rfl : i = n := by omega
          have hltd : decide ((i : Int) < (i : Int)) = false := by simp
          have HZ9 := hid (show z = 0 by rw [← HW.out.1, List.drop_of_length_le (by rw [List.length_map, HNU.out]; omega)]; rfl)
          go_wp2_with fail
          go_returns
          exact ⟨by rw [HZ9.out]; rfl, estep H0.out.2.2 HW.out.2⟩
end Go.Proofs.Ytingjembjpckcaa
namespace Go.Proofs.Ytingjembjpckcaa
set_option linter.unusedVariables false
set_option linter.unusedSimpArgs false
open Go.RowKit Go.Joins

def k12a : Ru := ⟨1, none, 0, 0, [], [97], 0, 0, 0, 0, 0, [], 0⟩
def k12b (g : Nat) : Ru := ⟨5, some ⟨g, 0, none⟩, 1, 1, [⟨2, [], [120]⟩], [98], 0, 0, 0, 0, 0, [], 0⟩
def k12c : Ru := ⟨5, none, 0, 0, [], [99], 0, 0, 0, 0, 0, [], 0⟩
def k12U (g : Nat) : List Ru := [k12a, k12b g, k12c]
def k12C (g : Nat) : Array Value := #[.int .i64 1, .slice none 0 0, .string (bs [97]), .int .i64 0, .int .i64 0, .int .i64 0, .int .i64 0, .int .i64 0, .string (bs []), .int .i64 0, .int .i64 5, .slice (some ⟨g, 0, none⟩) 1 1, .string (bs [98]), .int .i64 0, .int .i64 0, .int .i64 0, .int .i64 0, .int .i64 0, .string (bs []), .int .i64 0, .int .i64 5, .slice none 0 0, .string (bs [99]), .int .i64 0, .int .i64 0, .int .i64 0, .int .i64 0, .int .i64 0, .string (bs []), .int .i64 0]
theorem k12_row (g i j : Nat) (hi : i < 3) (hj : j < 10) : (k12C g)[i * 10 + j]? = (encR ((k12U g)[i]'hi))[j]? := by
  match i, hi, j, hj with
  | 0, _, 0, _ => rfl
  | 0, _, 1, _ => rfl
  | 0, _, 2, _ => rfl
  | 0, _, 3, _ => rfl
  | 0, _, 4, _ => rfl
  | 0, _, 5, _ => rfl
  | 0, _, 6, _ => rfl
  | 0, _, 7, _ => rfl
  | 0, _, 8, _ => rfl
  | 0, _, 9, _ => rfl
  | 1, _, 0, _ => rfl
  | 1, _, 1, _ => rfl
  | 1, _, 2, _ => rfl
  | 1, _, 3, _ => rfl
  | 1, _, 4, _ => rfl
  | 1, _, 5, _ => rfl
  | 1, _, 6, _ => rfl
  | 1, _, 7, _ => rfl
  | 1, _, 8, _ => rfl
  | 1, _, 9, _ => rfl
  | 2, _, 0, _ => rfl
  | 2, _, 1, _ => rfl
  | 2, _, 2, _ => rfl
  | 2, _, 3, _ => rfl
  | 2, _, 4, _ => rfl
  | 2, _, 5, _ => rfl
  | 2, _, 6, _ => rfl
  | 2, _, 7, _ => rfl
  | 2, _, 8, _ => rfl
  | 2, _, 9, _ => rfl
theorem k12_rv (w : World) (g gp : Nat) (h : Bk w g 49 (k12C gp)) (hp : Bk w gp 53 #[.int .i64 2, .string (bs []), .string (bs [120])]) (hg : g < w.heap.size) (hgp : gp < w.heap.size) : RV w (.slice (some ⟨g, 0, none⟩) 3 3) (k12U gp) := by
  refine ⟨some ⟨g, 0, none⟩, 3, rfl, fun i hi => ⟨g, 0, rfl, hg, fun j hj => ?_⟩, fun u hu => ?_, by simp, by simp [k12U], by simp [k12U]⟩
  · rw [Nat.zero_add, Bk.cell h]
    exact k12_row gp i j hi hj
  · simp only [k12U, List.mem_cons, List.mem_nil_iff, or_false] at hu
    rcases hu with rfl | rfl | rfl
    · exact PV.nil _ _
    · refine ⟨some ⟨gp, 0, none⟩, 1, rfl, fun k hk => ?_, by simp, by simp [k12b], by simp [k12b]⟩
      match k, hk with
      | 0, _ => exact ⟨gp, 0, rfl, hgp, Bk.cell hp 0, Bk.cell hp 1, Bk.cell hp 2⟩
    · exact PV.nil _ _
theorem k12_ord (g : Nat) : ordB rkS ((k12U g).map Ru.sem) = [(k12b 0).sem, k12c.sem, k12a.sem] := by
  show ordB rkS [k12a.sem, (k12b 0).sem, k12c.sem] = _
  decide +kernel
end Go.Proofs.Ytingjembjpckcaa
namespace Go.Proofs.Ytingjembjpckcaa
set_option linter.unusedVariables false
set_option linter.unusedSimpArgs false
open Go.RowKit Go.Joins

end Go.Proofs.Ytingjembjpckcaa
namespace Go.Proofs.Ytingjembjpckcaa
set_option linter.unusedVariables false
set_option linter.unusedSimpArgs false
open Go.RowKit Go.Joins

theorem tx_up {w w' : World} {v : Value} {L : List (List UInt8)} (h : TX w (· < w.heap.size) v L) (hb : Below w.heap.size w w') : TX w' (· < w'.heap.size) v L := by
  obtain ⟨A, cap, e, h1, h2⟩ := h
  exact ⟨A, cap, e, stx_up h1 hb, h2⟩
theorem maxLen_le {n : Nat} (h : n ≤ maxLen) : n ≤ 9223372036854775807 := by unfold maxLen at h; omega
set_option maxRecDepth 100000 in
set_option maxHeartbeats 4000000 in
theorem tcheck1_any (g : Nat) (u : Ru) (y : Value) (l : List (List UInt8)) (w : World) (hc : w.cell? ⟨g, 0, none⟩ = some y) (hy : TX w (· < w.heap.size) y l) (hu : UV w u) (hs : okRs u.sem) :
    Calls Try.prog 26 #[.agg #[.int .i64 u.rank, .slice u.xa u.xn u.xc, .string (bs u.tg), .int .i64 u.ap, .int .i64 u.st, .int .i64 u.dp, .int .i64 u.dt, .int .i64 u.mp, .string (bs u.mi), .int .i64 u.sm], .pointer (some ⟨g, 0, none⟩)] w fun e w' => e = .returned (.int .i64 (chkR u.sem l)) ∧ Below w.heap.size w w' := by
  have hb1 := enew w (.cells #[.int .i64 u.rank, .slice u.xa u.xn u.xc, .string (bs u.tg), .int .i64 u.ap, .int .i64 u.st, .int .i64 u.dp, .int .i64 u.dt, .int .i64 u.mp, .string (bs u.mi), .int .i64 u.sm] 49)
  have hr0 := BR.new w u
  have hc0 := (hb1.cell (p := ⟨g, 0, none⟩) (lt_of_cell hc)).trans hc
  obtain ⟨A, cap, rfl, hN, hl, hll⟩ := hy
  have HN := hid (stx_up hN hb1)
  have HU := hid (hu.up hb1)
  have HR := hid (fun (w2 : World) (h1 : UV w2 u) (h2 : STexts w2 (· < w2.heap.size) A l) => rcheck_any u A cap l w2 h1 hs h2 (maxLen_le hl) (hid rfl))
  have HB := hid hb1
  clear hN hu hb1 hc
  go_enter Try.func26, Try.ntmps26
  go_upto_region 1 with (fail)
  generalize w.alloc (.cells #[.int .i64 u.rank, .slice u.xa u.xn u.xc, .string (bs u.tg), .int .i64 u.ap, .int .i64 u.st, .int .i64 u.dp, .int .i64 u.dt, .int .i64 u.mp, .string (bs u.mi), .int .i64 u.sm] 49) = v0 at *
  obtain ⟨r0, r1, r2, r3, r4, r5, r6, r7, r8, r9⟩ := hr0.cells
  go_wp2_with fail
  refine (HR.out _ HU.out HN.out).mono ?_
  rintro e w1 ⟨rfl, hb2⟩
  go_wp2_with fail
  go_returns
  exact ⟨rfl, estep HB.out hb2⟩
set_option maxRecDepth 100000 in
set_option maxHeartbeats 4000000 in
theorem tcheck_any (y : Value) (f : List UInt8) (U : List Ru) (ny : Value) (l : List (List UInt8)) (w : World) (hy : RV w y U) (hs : ∀ u ∈ U, okRs u.sem) (hf : f.length ≤ 140737488351232) (hn : TX w (· < w.heap.size) ny l) {z : Int} (H : Hid (chkC (chkR · l) f (U.map Ru.sem) = z)) :
    Calls Try.prog 11 #[.agg #[y, .string (bs f)], ny] w fun e w' => e = .returned (.int .i64 z) ∧ Below w.heap.size w w' := by
  have hmf : ∀ (fn : Fn) (first cap : Array Value) (w : World), (Instr.makeFunc fn first cap).run Try.prog w = .ok (.func fn first cap) w := fun _ _ _ _ => rfl
  have hb1 := enew w (.cells #[y, .string (bs f)] 24)
  have hb2 := enew (w.alloc (.cells #[y, .string (bs f)] 24)) (.cells #[ny] 25)
  have hk0 := (BF.new w y f).up hb2
  have hn0 := Bk.new (w.alloc (.cells #[y, .string (bs f)] 24)) 25 #[ny]
  rw [World.size_alloc] at hn0
  have hb0 := estep hb1 hb2
  obtain ⟨A, cap, rfl, hN, hl, hll⟩ := hn
  have HN := hid (stx_up hN hb0)
  have HY := hid (hy.up hb0)
  have HB := hid hb0
  clear hN hb0 hb1 hb2 hy
  go_enter Try.func11, Try.ntmps11
  go_upto_region 1 with (fail)
  generalize (w.alloc (.cells #[y, .string (bs f)] 24)).alloc (.cells #[.slice A l.length cap] 25) = v0 at *
  obtain ⟨k0, k1⟩ := hk0.cells
  have HFR : Hid (FR v0 (.func (.func 26) #[] #[.pointer (some ⟨w.heap.size + 1, 0, none⟩)]) U (chkR · l)) := hid ⟨_, _, rfl, fun _ _ => by kernel_rfl, fun u hu w2 h2 => by
    obtain ⟨_, _, e, hx, hrp, -⟩ := HY.out
    exact tcheck1_any (w.heap.size + 1) u (.slice A l.length cap) l w2 (Bk.cell (hn0.up h2) 0) ⟨A, cap, rfl, stx_up HN.out h2, hl, hll⟩ (UV.up (hrp u hu) h2) (hs u hu)⟩
  have HOC := hid (ocheck_any y f _ U (chkR · l) v0 HY.out hf HFR.out H)
  go_wp2_with fail
  refine HOC.out.mono ?_
  rintro e w1 ⟨rfl, hb2⟩
  go_wp2_with fail
  go_returns
  exact ⟨rfl, estep HB.out hb2⟩
set_option maxRecDepth 100000 in
set_option maxHeartbeats 4000000 in
theorem rtcheck_any (y : Value) (f : List UInt8) (U : List Ru) (ny : Value) (l : List (List UInt8)) (w : World) (hy : RV w y U) (hs : ∀ u ∈ U, okRs u.sem) (hf : f.length ≤ 140737488351232) (hn : TX w (· < w.heap.size) ny l) {z : Int} (H : Hid (chkC (chkR · l) f (U.map Ru.sem) = z)) :
    Calls Try.prog 12 #[.agg #[y, .string (bs f)], ny] w fun e w' => e = .returned (.int .i64 z) ∧ Below w.heap.size w w' := by
  have hnot := notB'
  obtain ⟨A, c, rfl, hgx, hrp, hA, hlc, hl9⟩ := hy
  obtain ⟨NA, ncap, rfl, hN, hnl, -⟩ := hn
  have hb0 := enew w (.cells #[.slice A U.length c, .string (bs f)] 24)
  have hk0 := BF.new w (.slice A U.length c) f
  have H0 := hid (And.intro (hgx.up hb0) (And.intro (hrp.up hb0) (And.intro hb0 (stx_up hN hb0))))
  obtain ⟨zf, hzf⟩ : ∃ b, fmtOK f = b := ⟨_, rfl⟩
  have HFM := hid (fun w2 => rformat_any f w2 hf)
  rw [hzf] at HFM
  have HC := hid (show chkC (chkR · l) f (U.map Ru.sem) = if zf = false then 15 else if 16 < U.length then 8 else fltC (chkR · l) (U.map Ru.sem) by rw [chkC, hzf, List.length_map])
  have HF := hid (fun (u : Ru) (hu : u ∈ U) (w2 : World) (h1 : UV w2 u) (h2 : STexts w2 (· < w2.heap.size) NA l) => rrcheck_any u NA ncap l w2 h1 (hs u hu) h2 (maxLen_le hnl) (hid rfl))
  clear hgx hrp hA hlc hb0 hf hzf hs hN
  generalize hnU : U.length = n at *
  have HNU := hid hnU
  clear hnU
  go_enter Try.func12, Try.ntmps12
  go_upto_region 1 with (fail)
  generalize w.alloc (.cells #[.slice A n c, .string (bs f)] 24) = v0 at *
  obtain ⟨k0, k1⟩ := hk0.cells
  cases zf with
  | false =>
    have HZ := hid (show z = 15 by rw [← H.out, HC.out, if_pos rfl])
    go_wp2_with fail
    refine (HFM.out _).mono ?_
    rintro e w1 ⟨rfl, rfl⟩
    go_wp2_with fail
    go_returns
    exact ⟨by rw [HZ.out]; rfl, H0.out.2.2.1⟩
  | true =>
    by_cases h16 : 16 < n
    · have d16 : decide ((16 : Int) < (n : Int)) = true := decide_eq_true (by omega)
      have HZ := hid (show z = 8 by rw [← H.out, HC.out, if_neg (by simp), if_pos h16])
      clear h16
      go_wp2_with fail
      refine (HFM.out _).mono ?_
      rintro e w1 ⟨rfl, rfl⟩
      go_wp2_with fail
      go_returns
      exact ⟨by rw [HZ.out]; rfl, H0.out.2.2.1⟩
    · have d16 : decide ((16 : Int) < (n : Int)) = false := decide_eq_false (by omega)
      have HCZ := hid (show fltC (chkR · l) (U.map Ru.sem) = z by rw [← H.out, HC.out, if_neg (by simp), if_neg h16])
      clear HC H h16
      go_wp2_with fail
      refine (HFM.out _).mono ?_
      rintro e w1 ⟨rfl, rfl⟩
      go_wp2_with fail
      clear d16 k0 k1
      go_loopg [5] n (fun g1 vi wr => ∃ i : Nat, vi = .int .i64 i ∧ i ≤ n ∧ n - i ≤ g1 ∧ Hid (fltC (chkR · l) ((U.map Ru.sem).drop i) = z ∧ Below v0.heap.size v0 wr))
      case atStart => exact ⟨0, rfl, by omega, by omega, hid ⟨HCZ.out, Below.refl _ _⟩⟩
      case round =>
        obtain ⟨i, rfl, hin, hgk, HW⟩ := hrel
        obtain ⟨k0, k1⟩ := (hk0.up HW.out.2).cells
        by_cases hlt : i < n
        · have hltz : (i : Int) < (n : Int) := by omega
          have hltd : decide ((i : Int) < (n : Int)) = true := decide_eq_true hltz
          have hi0 : (0 : Int) ≤ (i : Int) := by omega
          have hiU : i < U.length := by have := HNU.out; omega
          obtain ⟨u, hu⟩ : ∃ u, U[i]? = some u := ⟨_, List.getElem?_eq_getElem hiU⟩
          have hum : u ∈ U := List.mem_of_getElem? hu
          have HD := hid (fltC_drop (chkR · l) (sem_of hu))
          obtain ⟨bb, oo, rfl, -⟩ := H0.out.1.some_of hiU
          obtain ⟨r0, r1, r2, r3, r4, r5, r6, r7, r8, r9⟩ := rank_cell (H0.out.1.up HW.out.2) hu
          obtain ⟨zz, hz⟩ : ∃ zz, chkR u.sem l = zz := ⟨_, rfl⟩
          have HZ := hid hz
          have HU := hid (HF.out u hum wr (UV.up (H0.out.2.1 u hum) HW.out.2) (stx_up H0.out.2.2.2 HW.out.2))
          rw [hz] at HU
          clear hz hu hum
          go_wp2_with fail
          refine HU.out.mono ?_
          rintro e w2 ⟨rfl, hb2⟩
          have HB2 := hid (estep HW.out.2 hb2)
          clear hb2 r0 r1 r2 r3 r4 r5 r6 r7 r8 r9 k0 k1
          by_cases e0 : zz = 0
          · subst e0
            have HFF := hid (show fltC (chkR · l) ((U.map Ru.sem).drop (i + 1)) = z by rw [← HW.out.1, HD.out, if_neg (by rw [HZ.out]; simp)])
            go_wp2_with fail
            go_roundg (n - (i + 1))
            case measure => omega
            case rel => exact ⟨i + 1, by go_num, by omega, by omega, hid ⟨HFF.out, HB2.out⟩⟩
          · have hd0 : decide (zz = 0) = false := decide_eq_false e0
            have hd1 : (!decide (zz = 0)) = true := by rw [hd0]; rfl
            have HZ9 := hid (show z = zz by rw [← HW.out.1, HD.out, if_pos (by rw [HZ.out]; exact e0), HZ.out])
            go_wp2_with fail
            go_returns
            exact ⟨by rw [HZ9.out]; rfl, estep H0.out.2.2.1 HB2.out⟩
        · obtain rfl : i = n := by omega
          have hltd : decide ((i : Int) < (i : Int)) = false := by simp
          have HZ9 := hid (show z = 0 by rw [← HW.out.1, List.drop_of_length_le (by rw [List.length_map, HNU.out]; omega)]; rfl)
          go_wp2_with fail
          go_returns
          exact ⟨by rw [HZ9.out]; rfl, estep H0.out.2.2.1 HW.out.2⟩
end Go.Proofs.Ytingjembjpckcaa
namespace Go.Proofs.Ytingjembjpckcaa
set_option linter.unusedVariables false
set_option linter.unusedSimpArgs false
open Go.RowKit Go.Joins

theorem pd_guard (op : BinOp) (p q : Operand) (xs ys : Array Value) (w : World) : (eqGuard op 53 p q (.agg xs) (.agg ys)).run Try.prog w = .ok () w := run_eqGuard_agg w op _ p q xs ys (by kernel_rfl)
theorem pd_eqIn (w : World) (k : Int) (n v : List UInt8) : (Op.equalIn 10000 53 (.agg #[.int .i64 k, .string (bs n), .string (bs v)]) (.agg #[.int .i64 k, .string (bs n), .string (bs v)])).run Try.prog w = .ok true w := by
  have us2 := Try.underlying3
  have as2 := Try.isAgg3
  have zs2 := Try.sizeOf3
  have us4 := Try.underlying9
  have as4 := Try.isAgg9
  have zs4 := Try.sizeOf9
  rw [show (10000 : Nat) = 9999 + 1 from rfl, run_equalIn_agg w 9999 _ _ _ (by kernel_rfl) (by kernel_rfl)]
  simp only [Program.fieldsOf, Try.underlying53]
  go_simp
theorem pd_neq (w : World) (k : Int) (n v : List UInt8) : (binOp .neq 53 (.agg #[.int .i64 k, .string (bs n), .string (bs v)]) (.agg #[.int .i64 k, .string (bs n), .string (bs v)])).run Try.prog w = .ok (.bool false) w := by
  rw [run_neq_struct, pd_eqIn]; rfl
set_option maxRecDepth 100000 in
set_option maxHeartbeats 1600000 in
theorem psame_any (A1 A2 : Option Addr) (c1 c2 : Nat) (L : List Pd) (w : World) (h1 : PX w (· < w.heap.size) A1 L) (h2 : PX w (· < w.heap.size) A2 L) (hl : L.length ≤ 9223372036854775807) :
    Calls Try.prog 37 #[.slice A1 L.length c1, .slice A2 L.length c2] w fun e w' => e = .returned (.bool true) ∧ Below w.heap.size w w' := by
  have G1 := hid h1
  have G2 := hid h2
  have hg := pd_guard
  clear h1 h2
  go_enter Try.func37, Try.ntmps37
  go_wp2_with fail
  go_loopw [5] (fun i wr => ∃ k : Nat, k ≤ L.length ∧ i = .int .i64 k ∧ Hid (Below w.heap.size w wr)) (fun i _ => L.length - (intOf i).toNat)
  case atStart => exact ⟨0, by omega, rfl, hid (Below.refl _ _)⟩
  case round =>
    obtain ⟨k, hk, rfl, HW⟩ := hrel
    by_cases hlt : k < L.length
    · obtain ⟨b1, o1, rfl, hB1, r0, r1, r2⟩ := (G1.out.up HW.out) k hlt
      obtain ⟨b2, o2, rfl, hB2, d0, d1, d2⟩ := (G2.out.up HW.out) k hlt
      generalize L[k] = s at *
      obtain ⟨a, n, v⟩ := s
      simp only at r0 r1 r2 d0 d1 d2
      have hki : decide ((k : Int) < ((L.length : Nat) : Int)) = true := by simp; omega
      have hne : ∀ w : World, (binOp .neq 53 (.agg #[.int .i64 a, .string (bs n), .string (bs v)]) (.agg #[.int .i64 a, .string (bs n), .string (bs v)])).run Try.prog w = .ok (.bool false) w := fun w => pd_neq w a n v
      go_wp2_with fail
      go_quiet (fail)
      go_wp2_with fail
      go_roundw
      case rel => exact ⟨k + 1, by omega, by go_num, hid (below_drewN HW.out _)⟩
      case measure => simp [intOf]; omega
    · obtain rfl : k = L.length := by omega
      go_wp2_with fail
      go_returns
      exact ⟨rfl, HW.out⟩
set_option maxRecDepth 100000 in
set_option maxHeartbeats 4000000 in
theorem one_any (u v : Ru) (w : World) (he : u.sem = v.sem) (hu : UV w u) (hv : UV w v) :
    Calls Try.prog 21 #[.agg #[.int .i64 u.rank, .slice u.xa u.xn u.xc, .string (bs u.tg), .int .i64 u.ap, .int .i64 u.st, .int .i64 u.dp, .int .i64 u.dt, .int .i64 u.mp, .string (bs u.mi), .int .i64 u.sm], .agg #[.int .i64 v.rank, .slice v.xa v.xn v.xc, .string (bs v.tg), .int .i64 v.ap, .int .i64 v.st, .int .i64 v.dp, .int .i64 v.dt, .int .i64 v.mp, .string (bs v.mi), .int .i64 v.sm]] w fun e w' => e = .returned (.bool true) ∧ Below w.heap.size w w' := by
  obtain ⟨rk, xa, xn, xc, ps, tg, ap, st, dp, dt, mp, mi, sm⟩ := u
  obtain ⟨rk', ya, yn, yc, ps', tg', ap', st', dp', dt', mp', mi', sm'⟩ := v
  simp only [Ru.sem, Rs.mk.injEq] at he
  obtain ⟨rfl, rfl, rfl, rfl, rfl, rfl, rfl, rfl, rfl, rfl⟩ := he
  obtain ⟨hn1, hx1, -, -, hl9⟩ := hu.out
  obtain ⟨hn2, hx2, -, -, -⟩ := hv.out
  simp only at hn1 hx1 hl9 hn2 hx2 ⊢
  subst hn1 hn2
  have HS := hid (fun w2 (h1 : PX w2 (· < w2.heap.size) xa ps) (h2 : PX w2 (· < w2.heap.size) ya ps) => psame_any xa ya xc yc ps w2 h1 h2 hl9)
  have hb1 := enew w (.cells #[.int .i64 rk, .slice xa ps.length xc, .string (bs tg), .int .i64 ap, .int .i64 st, .int .i64 dp, .int .i64 dt, .int .i64 mp, .string (bs mi), .int .i64 sm] 49)
  have hb0 := estep hb1 (enew _ (.cells #[.int .i64 rk, .slice ya ps.length yc, .string (bs tg), .int .i64 ap, .int .i64 st, .int .i64 dp, .int .i64 dt, .int .i64 mp, .string (bs mi), .int .i64 sm] 49))
  have hr0 := (BR.new w ⟨rk, xa, ps.length, xc, ps, tg, ap, st, dp, dt, mp, mi, sm⟩).up (enew _ (.cells #[.int .i64 rk, .slice ya ps.length yc, .string (bs tg), .int .i64 ap, .int .i64 st, .int .i64 dp, .int .i64 dt, .int .i64 mp, .string (bs mi), .int .i64 sm] 49))
  have hs0 := BR.new (w.alloc (.cells #[.int .i64 rk, .slice xa ps.length xc, .string (bs tg), .int .i64 ap, .int .i64 st, .int .i64 dp, .int .i64 dt, .int .i64 mp, .string (bs mi), .int .i64 sm] 49)) ⟨rk, ya, ps.length, yc, ps, tg, ap, st, dp, dt, mp, mi, sm⟩
  rw [World.size_alloc] at hs0
  have HX1 := hid (hx1.up hb0)
  have HX2 := hid (hx2.up hb0)
  clear hu hv hx1 hx2 hb1
  go_enter Try.func21, Try.ntmps21
  go_wp2_with fail
  refine (HS.out _ HX1.out HX2.out).mono ?_
  rintro e w1 ⟨rfl, hb2⟩
  have hr1 := hr0.up hb2
  have hs1 := hs0.up hb2
  clear hr0 hs0
  obtain ⟨r0, r1, r2, r3, r4, r5, r6, r7, r8, r9⟩ := hr1.cells
  obtain ⟨d0, d1, d2, d3, d4, d5, d6, d7, d8, d9⟩ := hs1.cells
  have HB := hid (estep hb0 hb2)
  clear hb0 hb2
  go_wp2_with fail
  go_returns
  exact ⟨rfl, HB.out⟩
set_option maxRecDepth 100000 in
set_option maxHeartbeats 16000000 in
theorem rsame_any (A B : Option Addr) (c d : Nat) (U V : List Ru) (w : World) (he : U.map Ru.sem = V.map Ru.sem) (hU : GX encR 10 w (· < w.heap.size) A U) (hP : RP w (· < w.heap.size) U) (hV : GX encR 10 w (· < w.heap.size) B V) (hQ : RP w (· < w.heap.size) V) (hl : U.length ≤ 1000000) :
    Calls Try.prog 30 #[.slice A U.length c, .slice B V.length d] w fun e w' => e = .returned (.bool true) ∧ Below w.heap.size w w' := by
  have hnot := enot
  have hUV : V.length = U.length := by have := congrArg List.length he; simpa using this.symm
  have HE := hid (fun (k : Nat) (u v : Ru) (h1 : U[k]? = some u) (h2 : V[k]? = some v) => show u.sem = v.sem by
    have := congrArg (fun l : List Rs => l[k]?) he
    simp only [List.getElem?_map, h1, h2] at this
    exact Option.some.inj this)
  have H0 := hid (And.intro hU (And.intro hP (And.intro hV hQ)))
  have HL := hid hUV
  rw [hUV]
  clear hU hP hV hQ hUV he
  generalize hnU : U.length = n at *
  have HNU := hid hnU
  clear hnU
  go_enter Try.func30, Try.ntmps30
  go_wp2_with fail
  go_loopg [5] n (fun g1 vi wr => ∃ i : Nat, vi = .int .i64 i ∧ i ≤ n ∧ n - i ≤ g1 ∧ Hid (Below w.heap.size w wr))
  case atStart => exact ⟨0, rfl, by omega, by omega, Below.refl _ _⟩
  case round =>
    obtain ⟨i, rfl, hin, hgk, HB⟩ := hrel
    by_cases hlt : i < n
    · have hltz : (i : Int) < (n : Int) := by omega
      have hltd : decide ((i : Int) < (n : Int)) = true := decide_eq_true hltz
      have hi0 : (0 : Int) ≤ (i : Int) := by omega
      have hiU : i < U.length := by have := HNU.out; omega
      have hiV : i < V.length := by have := HNU.out; have := HL.out; omega
      obtain ⟨u, hu⟩ : ∃ u, U[i]? = some u := ⟨_, List.getElem?_eq_getElem hiU⟩
      obtain ⟨v, hv⟩ : ∃ v, V[i]? = some v := ⟨_, List.getElem?_eq_getElem hiV⟩
      have hEq := HE.out i u v hu hv
      have hum : u ∈ U := List.mem_of_getElem? hu
      have hvm : v ∈ V := List.mem_of_getElem? hv
      obtain ⟨bb, oo, rfl, -⟩ := H0.out.1.some_of hiU
      obtain ⟨bc, oc, rfl, -⟩ := H0.out.2.2.1.some_of hiV
      have hUr := H0.out.1.up HB.out
      have hVr := H0.out.2.2.1.up HB.out
      have HHU := hid (fun (w2 : World) (hb2 : Below wr.heap.size wr w2) => one_any u v w2 hEq (UV.up (UV.up (H0.out.2.1 u hum) HB.out) hb2) (UV.up (UV.up (H0.out.2.2.2 v hvm) HB.out) hb2))
      obtain ⟨r0, r1, r2, r3, r4, r5, r6, r7, r8, r9⟩ := rank_cell hUr hu
      obtain ⟨d0, d1, d2, d3, d4, d5, d6, d7, d8, d9⟩ := rank_cell hVr hv
      have R0 := BW.cell r0
      have R1 := BW.cell r1
      have R2 := BW.cell r2
      have R3 := BW.cell r3
      have R4 := BW.cell r4
      have R5 := BW.cell r5
      have R6 := BW.cell r6
      have R7 := BW.cell r7
      have R8 := BW.cell r8
      have R9 := BW.cell r9
      have D0 := BW.cell d0
      have D1 := BW.cell d1
      have D2 := BW.cell d2
      have D3 := BW.cell d3
      have D4 := BW.cell d4
      have D5 := BW.cell d5
      have D6 := BW.cell d6
      have D7 := BW.cell d7
      have D8 := BW.cell d8
      have D9 := BW.cell d9
      clear r0 r1 r2 r3 r4 r5 r6 r7 r8 r9 d0 d1 d2 d3 d4 d5 d6 d7 d8 d9 hUr hVr hu hv hEq hum hvm
      go_upto_region 6 with (fail)
      refine wp_region_bw (by kernel_rfl) (by kernel_rfl) ?_
      repeat (go_big_quiet_step ((go_at_call 21; exact calls_bw (HHU.out _ (BW.h _)))))
      refine wpQuiet_nil ?_
      rintro _ ⟨pq, rfl⟩
      clear R0 R1 R2 R3 R4 R5 R6 R7 R8 R9 D0 D1 D2 D3 D4 D5 D6 D7 D8 D9
      have HB2 := hid (estep HB.out pq.h)
      go_wp2_with fail
      go_roundg (n - (i + 1))
      case measure => omega
      case rel => exact ⟨i + 1, by go_num, by omega, by omega, HB2.out⟩
    · obtain rfl : i = n := by omega
      have hltd : decide ((i : Int) < (i : Int)) = false := by simp
      go_wp2_with fail
      go_returns
      exact ⟨rfl, HB.out⟩
end Go.Proofs.Ytingjembjpckcaa
namespace Go.Proofs.Ytingjembjpckcaa
set_option linter.unusedVariables false
set_option linter.unusedSimpArgs false
open Go.RowKit Go.Joins

def fewR1 (r : Rs) : Bool := fewP r.ps && decide (r.tg.length + r.mi.length ≤ 400)
theorem fewRu_eq {l : List Rs} (h : l.length ≤ 40) : fewRu l = l.all fewR1 := by
  rw [fewRu, decide_eq_true h, Bool.true_and]; rfl
theorem fewRu_big {l : List Rs} (h : ¬ l.length ≤ 40) : fewRu l = false := by
  rw [fewRu, decide_eq_false h, Bool.false_and]
theorem all_up {α : Type} {p : α → Bool} {l : List α} {k : Nat} {x : α} (hx : l[k]? = some x) (h : (l.take k).all p = true) (hp : p x = true) : (l.take (k + 1)).all p = true := by
  obtain ⟨hk, rfl⟩ := List.getElem?_eq_some_iff.1 hx
  rw [List.take_add_one, List.all_append, h, List.getElem?_eq_getElem hk]
  simp [hp]
theorem all_off {α : Type} {p : α → Bool} {l : List α} {k : Nat} {x : α} (hx : l[k]? = some x) (hp : p x = false) : l.all p = false := by
  rw [List.all_eq_false]
  exact ⟨x, List.mem_of_getElem? hx, by simp [hp]⟩
theorem map_at' {U : List Ru} {i : Nat} {u : Ru} (hu : U[i]? = some u) : (U.map Ru.sem)[i]? = some u.sem := by
  rw [List.getElem?_map, hu]; rfl
set_option maxRecDepth 100000 in
set_option maxHeartbeats 16000000 in
theorem rufew_any (A : Option Addr) (c : Nat) (U : List Ru) (w : World) (hU : GX encR 10 w (· < w.heap.size) A U) (hP : RP w (· < w.heap.size) U) (hs : ∀ u ∈ U, okRs u.sem) (hl9 : U.length ≤ 9223372036854775807) {z : Bool} (H : Hid (fewRu (U.map Ru.sem) = z)) :
    Calls Try.prog 22 #[.slice A U.length c] w fun e w' => e = .returned (.bool z) ∧ Below w.heap.size w w' := by
  have hnot := enot
  have H0 := hid (And.intro hU (And.intro hP hs))
  clear hU hP hs
  by_cases h40 : U.length ≤ 40
  · have hd : decide ((40 : Int) < ((U.length : Nat) : Int)) = false := decide_eq_false (by omega)
    have HC := hid (fewRu_eq (l := U.map Ru.sem) (by rw [List.length_map]; exact h40))
    generalize hnU : U.length = n at *
    have HNU := hid hnU
    clear hnU
    go_enter Try.func22, Try.ntmps22
    go_wp2_with fail
    clear hd
    go_loopg [3] n (fun g1 vi wr => ∃ i : Nat, vi = .int .i64 i ∧ i ≤ n ∧ n - i ≤ g1 ∧ Hid (((U.map Ru.sem).take i).all fewR1 = true ∧ Below w.heap.size w wr))
    case atStart => exact ⟨0, rfl, by omega, by omega, hid ⟨by simp, Below.refl _ _⟩⟩
    case round =>
      obtain ⟨i, rfl, hin, hgk, HW⟩ := hrel
      by_cases hlt : i < n
      · have hltz : (i : Int) < (n : Int) := by omega
        have hltd : decide ((i : Int) < (n : Int)) = true := decide_eq_true hltz
        have hi0 : (0 : Int) ≤ (i : Int) := by omega
        have hiU : i < U.length := by have := HNU.out; omega
        obtain ⟨u, hu⟩ : ∃ u, U[i]? = some u := ⟨_, List.getElem?_eq_getElem hiU⟩
        have hum : u ∈ U := List.mem_of_getElem? hu
        have HM := hid (map_at' hu)
        obtain ⟨bb, oo, rfl, -⟩ := H0.out.1.some_of hiU
        have hUr := H0.out.1.up HW.out.2
        obtain ⟨r0, r1, r2, r3, r4, r5, r6, r7, r8, r9⟩ := rank_cell hUr hu
        obtain ⟨o1, o2, o3, o4⟩ := H0.out.2.2 u hum
        obtain ⟨zf, hzf⟩ : ∃ z, fewP u.ps = z := ⟨_, rfl⟩
        have HPF := hid (fun w2 (hb : Below wr.heap.size wr w2) => by
          have hv : UV w2 u := UV.up (UV.up (H0.out.2.1 u hum) HW.out.2) hb
          obtain ⟨hn, hpx, -, -, hp9⟩ := hv.out
          have := pfew_any u.xa u.xc u.ps w2 hpx hp9 o1 (hid hzf)
          rw [← hn] at this
          exact this)
        have HZ := hid hzf
        have hl2 : u.tg.length ≤ 140737488351232 := o2
        have hl8 : u.mi.length ≤ 140737488351232 := o3
        have hadd : IntKind.i64.wrap ((u.tg.length : Int) + (u.mi.length : Int)) = (u.tg.length : Int) + (u.mi.length : Int) := IntWalk.i64_in _ (by omega)
        have R1 := BW.cell r1
        have R2 := BW.cell r2
        have R8 := BW.cell r8
        clear r0 r1 r2 r3 r4 r5 r6 r7 r8 r9 hUr hum hu o1 o2 o3 o4 hzf
        cases zf with
        | false =>
          have HE := hid (show z = false by
            rw [← H.out, HC.out]
            exact all_off HM.out (by unfold fewR1; rw [show u.sem.ps = u.ps from rfl, HZ.out]; rfl))
          clear hl2 hl8 hadd
          go_upto_region 6 with (fail)
          refine wp_region_bw (by kernel_rfl) (by kernel_rfl) ?_
          repeat (go_big_quiet_step ((go_at_call 38; exact calls_bw (HPF.out _ (BW.h _)))))
          refine wpQuiet_nil ?_
          rintro _ ⟨pq, rfl⟩
          clear R1 R2 R8
          have HB2 := hid (estep HW.out.2 pq.h)
          go_wp2_with fail
          go_returns
          exact ⟨by rw [HE.out]; rfl, HB2.out⟩
        | true =>
          by_cases hle : u.tg.length + u.mi.length ≤ 400
          · have hd : decide ((400 : Int) < (u.tg.length : Int) + (u.mi.length : Int)) = false := decide_eq_false (by omega)
            have HO := hid (show fewR1 u.sem = true by unfold fewR1; rw [show u.sem.ps = u.ps from rfl, HZ.out]; exact decide_eq_true hle)
            clear hle
            go_upto_region 6 with (fail)
            refine wp_region_bw (by kernel_rfl) (by kernel_rfl) ?_
            repeat (go_big_quiet_step ((go_at_call 38; exact calls_bw (HPF.out _ (BW.h _)))))
            refine wpQuiet_nil ?_
            rintro _ ⟨pq, rfl⟩
            clear R1 R2 R8
            have HB2 := hid (estep HW.out.2 pq.h)
            go_wp2_with fail
            go_roundg (n - (i + 1))
            case measure => omega
            case rel => exact ⟨i + 1, by go_num, by omega, by omega, hid ⟨all_up HM.out HW.out.1 HO.out, HB2.out⟩⟩
          · have hd : decide ((400 : Int) < (u.tg.length : Int) + (u.mi.length : Int)) = true := decide_eq_true (by omega)
            have HE := hid (show z = false by
              rw [← H.out, HC.out]
              exact all_off HM.out (by unfold fewR1; rw [decide_eq_false (show ¬ (u.sem.tg.length + u.sem.mi.length ≤ 400) from hle), Bool.and_false]))
            clear hle
            go_upto_region 6 with (fail)
            refine wp_region_bw (by kernel_rfl) (by kernel_rfl) ?_
            repeat (go_big_quiet_step ((go_at_call 38; exact calls_bw (HPF.out _ (BW.h _)))))
            refine wpQuiet_nil ?_
            rintro _ ⟨pq, rfl⟩
            clear R1 R2 R8
            have HB2 := hid (estep HW.out.2 pq.h)
            go_wp2_with fail
            go_returns
            exact ⟨by rw [HE.out]; rfl, HB2.out⟩
      · obtain rfl : i = n := by omega
        have hkd : decide ((i : Int) < (i : Int)) = false := by simp
        have HE := hid (show z = true by
          rw [← H.out, HC.out]
          have := HW.out.1
          rwa [List.take_of_length_le (by rw [List.length_map]; have := HNU.out; omega)] at this)
        go_wp2_with fail
        go_returns
        exact ⟨by rw [HE.out]; rfl, HW.out.2⟩
  · have hd : decide ((40 : Int) < ((U.length : Nat) : Int)) = true := decide_eq_true (by omega)
    have HE := hid (show z = false by rw [← H.out]; exact fewRu_big (by rw [List.length_map]; exact h40))
    go_enter Try.func22, Try.ntmps22
    go_wp2_with fail
    go_returns
    exact ⟨by rw [HE.out]; rfl, Below.refl _ _⟩
end Go.Proofs.Ytingjembjpckcaa
namespace Go.Proofs.Ytingjembjpckcaa
set_option linter.unusedVariables false
set_option linter.unusedSimpArgs false
open Go.RowKit Go.Joins

theorem GX.left {w : World} {N : Nat → Prop} {A : Option Addr} {S T : List Ru} (h : GX encR 10 w N A (S ++ T)) : GX encR 10 w N A S := by
  have := h.take S.length
  rwa [List.take_left] at this
theorem GX.right {w : World} {N : Nat → Prop} {b o : Nat} {S T : List Ru} (h : GX encR 10 w N (some ⟨b, o, none⟩) (S ++ T)) : GX encR 10 w N (some ⟨b, o + S.length * 10, none⟩) T := by
  have := h.drop S.length
  rwa [List.drop_left] at this
theorem GX.right' {w w' : World} {N : Nat → Prop} {b o : Nat} {S T : List Ru} (h : GX encR 10 w N (some ⟨b, o, none⟩) (S ++ T)) (hs : ∀ b, N b → w'.heap[b]? = w.heap[b]?) : GX encR 10 w' N (some ⟨b, o + S.length * 10, none⟩) T := h.right.same hs
theorem GX.right'N {w w' : World} {N : Nat → Prop} {S T : List Ru} (h : GX encR 10 w N none (S ++ T)) (hs : ∀ b, N b → w'.heap[b]? = w.heap[b]?) : GX encR 10 w' N none T := by
  have : T = [] := by
    rcases T with _ | ⟨x, r⟩
    · rfl
    · obtain ⟨b, o, e, _⟩ := h S.length (by simp)
      cases e
  subst this
  exact GX.nil _ _ _
theorem take_snoc' {α : Type} (L : List α) (i : Nat) (x : α) (h : L[i]? = some x) : L.take (i + 1) = L.take i ++ [x] := by
  obtain ⟨hi, rfl⟩ := List.getElem?_eq_some_iff.1 h
  exact List.take_succ_eq_append_getElem hi
theorem ordB_snoc (L : List Ru) (u : Ru) : ordB rkR (L ++ [u]) = insB rkR (ordB rkR L) u := by
  unfold ordB
  rw [List.foldl_append]; rfl
theorem GB.reads2 {w : World} {base : Nat} {v : Value} {L : List Ru} (h : GB encR 10 49 w base v L) : ∃ A cap, v = .slice A L.length cap ∧ GX encR 10 w (fun b => base ≤ b ∧ b < w.heap.size) A L ∧ (A = none → cap = 0) ∧ L.length ≤ cap ∧ cap ≤ maxLen ∧ (A = none ∨ ∃ g, A = some ⟨g, 0, none⟩) := by
  obtain ⟨A, cap, e, h1, h2, h3, h4⟩ := GB.reads encR_len h
  refine ⟨A, cap, e, h1, h2, h3, h4, ?_⟩
  rcases GB.form encR_len h with ⟨e1, _⟩ | ⟨g, c, e1, _⟩
  · rw [e1] at e
    injection e with e2
    exact Or.inl e2.symm
  · rw [e1] at e
    injection e with e2
    exact Or.inr ⟨g, e2.symm⟩
set_option maxRecDepth 100000 in
set_option maxHeartbeats 16000000 in
theorem rorder_any (A : Option Addr) (c : Nat) (U : List Ru) (w : World) (hx : GX encR 10 w (· < w.heap.size) A U) (hl9 : U.length ≤ 1000) :
    Calls Try.prog 24 #[.slice A U.length c] w fun e w' => ∃ v, e = .returned v ∧ GB encR 10 49 w' w.heap.size v (ordB rkR U) ∧ Below w.heap.size w w' := by
  have HX := hid hx
  clear hx
  generalize hnU : U.length = n at *
  have HNU := hid hnU
  clear hnU
  go_enter Try.func24, Try.ntmps24
  go_wp2_with fail
  go_loopg [3, 4] n (fun g1 vo vi wr => ∃ (i : Nat), vi = .int .i64 i ∧ i ≤ n ∧ n - i ≤ g1 ∧ Hid (GB encR 10 49 wr w.heap.size vo (ordB rkR (U.take i)) ∧ Below w.heap.size w wr))
  case atStart => exact ⟨0, rfl, by omega, by omega, ⟨GB.nil _ _, Below.refl _ _⟩⟩
  case round =>
    obtain ⟨i, rfl, hin, hgk, HI⟩ := hrel
    by_cases hlt : i < n
    · have hltz : (i : Int) < (n : Int) := by omega
      have hi0 : (0 : Int) ≤ (i : Int) := by omega
      have hiU : i < U.length := by have := HNU.out; omega
      obtain ⟨u, hu⟩ : ∃ u, U[i]? = some u := ⟨_, List.getElem?_eq_getElem hiU⟩
      obtain ⟨bb, oo, rfl, hbb, hcl⟩ := HX.out i hiU
      have huL : encR U[i] = encR u := by
        obtain ⟨_, rfl⟩ := List.getElem?_eq_some_iff.1 hu
        rfl
      rw [huL] at hcl
      have hru : wr.cell? ⟨bb, oo + i * 10, none⟩ = some (.int .i64 u.rank) := (HI.out.2.cell (p := ⟨bb, oo + i * 10, none⟩) hbb).trans (hcl 0 (by omega))
      have hol : (ordB rkR (U.take i)).length = i := by rw [ordB_length]; simp; omega
      have HU := hid hu
      have HUW := hid (And.intro hcl hbb)
      obtain ⟨O, hO⟩ : ∃ O, ordB rkR (U.take i) = O := ⟨_, rfl⟩
      rw [hO] at HI hol
      have HO := hid hO
      clear hO hu hcl huL hbb
      obtain ⟨A2, c2, rfl, hgx, hA2, hc2, hcm, hsp⟩ := GB.reads2 HI.out.1
      rw [hol]
      rw [hol] at hc2
      have HGX := hid (And.intro hgx (And.intro hA2 (And.intro hol hcm)))
      have HSP := hid hsp
      clear hgx hA2 hol hcm hsp
      obtain ⟨w0, rfl⟩ : ∃ w0, w0 = wr := ⟨_, rfl⟩
      go_wp2_with fail
      go_loopg [5] i (fun g2 va wr2 => ∃ j : Nat, va = .int .i64 j ∧ j ≤ i ∧ i - j ≤ g2 ∧ Hid ((∀ t (h : t < O.length), t < j → u.rank ≤ O[t].rank) ∧ ∃ q, wr2 = w0.drewN q))
      case atStart => exact ⟨0, rfl, by omega, by omega, ⟨fun t h h2 => absurd h2 (by omega), 0, rfl⟩⟩
      case round =>
        obtain ⟨j, rfl, hji, hgj, HJ⟩ := hrel
        by_cases hjlt : j < i
        · have hd : decide ((j : Int) < (i : Int)) = true := decide_eq_true (by omega)
          have hjz : (j : Int) < (i : Int) := by omega
          have hj0 : (0 : Int) ≤ (j : Int) := by omega
          have hjO : j < O.length := by have := HGX.out.2.2.1; omega
          obtain ⟨v, hv⟩ : ∃ v, O[j]? = some v := ⟨_, List.getElem?_eq_getElem hjO⟩
          obtain ⟨b2, o2, hA2e, hb2, hcl2⟩ := HGX.out.1 j hjO
          subst hA2e
          have hvL : encR O[j] = encR v := by
            obtain ⟨_, rfl⟩ := List.getElem?_eq_some_iff.1 hv
            rfl
          rw [hvL] at hcl2
          have hrv0 : w0.cell? ⟨b2, o2 + j * 10, none⟩ = some (.int .i64 v.rank) := hcl2 0 (by omega)
          have hrv : wr.cell? ⟨b2, o2 + j * 10, none⟩ = some (.int .i64 v.rank) := by obtain ⟨q, rfl⟩ := HJ.out.2; exact hrv0
          have hru2 : wr.cell? ⟨bb, oo + i * 10, none⟩ = some (.int .i64 u.rank) := by obtain ⟨q, rfl⟩ := HJ.out.2; exact hru
          have hvg : O[j] = v := by
            obtain ⟨_, rfl⟩ := List.getElem?_eq_some_iff.1 hv
            rfl
          have HV := hid (And.intro hv hvg)
          clear hv hvL hcl2 hb2 hrv0
          by_cases hle : u.rank ≤ v.rank
          · have hle2 : decide (u.rank ≤ v.rank) = true := decide_eq_true hle
            go_upto_region 6 with (fail)
            go_quiet (fail)
            go_wp2_with fail
            go_roundg (i - (j + 1))
            case measure => omega
            case rel =>
              refine ⟨j + 1, by go_num, by omega, by omega, ⟨fun t h ht => ?_, ?_⟩⟩
              · by_cases e : t = j
                · subst e; rw [HV.out.2]; exact hle
                · exact HJ.out.1 t h (by omega)
              · obtain ⟨q, hq⟩ := HJ.out.2
                exact ⟨q + nq, by rw [hq]; exact World.drewN_drewN _ _ _⟩
          · have hle2 : decide (u.rank ≤ v.rank) = false := decide_eq_false hle
            have HSTOP := hid (show ∀ h : j < O.length, decide (u.rank ≤ O[j].rank) = false from fun h => by rw [HV.out.2]; exact hle2)
            go_upto_region 6 with (fail)
            go_quiet (fail)
            go_upto_region 8 with (fail)
            obtain ⟨S, T, hST, hSl, hTl, hins⟩ : ∃ S T : List Ru, O = S ++ T ∧ S.length = j ∧ T.length = i - j ∧ insB rkR O u = S ++ u :: T := by
              have hO := HGX.out.2.2.1
              obtain ⟨h1, h2⟩ := while_at (p := fun y : Ru => decide (u.rank ≤ y.rank)) O j (by omega) (fun t h ht => decide_eq_true (HJ.out.1 t h ht)) (fun h => HSTOP.out h)
              refine ⟨O.take j, O.drop j, (List.take_append_drop _ _).symm, by rw [List.length_take]; omega, by rw [List.length_drop]; omega, ?_⟩
              have h3 : insB rkR O u = O.takeWhile (fun y => decide (u.rank ≤ y.rank)) ++ u :: O.dropWhile (fun y => decide (u.rank ≤ y.rank)) := rfl
              rw [h3, h1, h2]
            have hg5 : GX encR 10 (wr.drewN nq) (fun b => w.heap.size ≤ b ∧ b < w0.heap.size) (some ⟨b2, o2, none⟩) (S ++ T) := by
              obtain ⟨q, hq⟩ := HJ.out.2
              have h9 := HGX.out.1
              rw [hST] at h9
              rw [hq]
              exact h9.same fun b _ => rfl
            have hb5 : Below w.heap.size w (wr.drewN nq) := by
              obtain ⟨q, hq⟩ := HJ.out.2
              rw [hq]
              exact below_drewN (below_drewN HI.out.2 _) _
            have hs5 : (wr.drewN nq).heap.size = w0.heap.size := by
              obtain ⟨q, hq⟩ := HJ.out.2
              rw [hq]; rfl
            have hl5 := HGX.out.2.2.1
            have HSI := hid (And.intro hST (And.intro hSl (And.intro hTl (And.intro hins (And.intro hl5 HGX.out.2.2.2)))))
            have HA2 := hid HGX.out.2.1
            have H5 := hid (And.intro hg5 (And.intro hb5 hs5))
            have HU5 := hid (fun (w6 : World) (hb6 : Below w.heap.size w w6) (q : Nat) (hq : q < 10) => (hb6.cell (p := ⟨bb, oo + (i * 10 + q), none⟩) HUW.out.2).trans (HUW.out.1 q hq))
            clear hg5 hb5 hs5 hl5 hST hins HSTOP HJ HGX HI
            generalize wr.drewN nq = w5 at *
            have hSz : (S.length : Int) = ((j : Nat) : Int) := by rw [hSl]
            go_wp2_with (at_builtin; refine wpList_append_gx (W0 := w5) rowR rfl _ _ rfl w5.heap.size (.slice none 0 0) [] S (some ⟨b2, o2, none⟩) c2 _ rfl (GB.nil _ _) (by rw [hSl]; rfl) H5.out.1.left (fun h => by cases h) (by have := HSI.out.2.1; simp; omega) (Below.refl _ _) (Nat.le_refl _) ?_)
            intro v6 w6 hown6 hbel6 hgr6
            have hbw6 : Below w.heap.size w w6 := H5.out.2.1.trans (hbel6.mono H5.out.2.1.size)
            have hk0 := HU5.out w6 hbw6 0 (by omega)
            have hk1 := HU5.out w6 hbw6 1 (by omega)
            have hk2 := HU5.out w6 hbw6 2 (by omega)
            have hk3 := HU5.out w6 hbw6 3 (by omega)
            have hk4 := HU5.out w6 hbw6 4 (by omega)
            have hk5 := HU5.out w6 hbw6 5 (by omega)
            have hk6 := HU5.out w6 hbw6 6 (by omega)
            have hk7 := HU5.out w6 hbw6 7 (by omega)
            have hk8 := HU5.out w6 hbw6 8 (by omega)
            have hk9 := HU5.out w6 hbw6 9 (by omega)
            have q0 : w6.cell? ⟨bb, oo + i * 10, none⟩ = some (.int .i64 u.rank) := hk0
            have q1 : w6.cell? ⟨bb, oo + i * 10 + 1, none⟩ = some (.slice u.xa u.xn u.xc) := hk1
            have q2 : w6.cell? ⟨bb, oo + i * 10 + 2, none⟩ = some (.string (bs u.tg)) := hk2
            have q3 : w6.cell? ⟨bb, oo + i * 10 + 3, none⟩ = some (.int .i64 u.ap) := hk3
            have q4 : w6.cell? ⟨bb, oo + i * 10 + 4, none⟩ = some (.int .i64 u.st) := hk4
            have q5 : w6.cell? ⟨bb, oo + i * 10 + 5, none⟩ = some (.int .i64 u.dp) := hk5
            have q6 : w6.cell? ⟨bb, oo + i * 10 + 6, none⟩ = some (.int .i64 u.dt) := hk6
            have q7 : w6.cell? ⟨bb, oo + i * 10 + 7, none⟩ = some (.int .i64 u.mp) := hk7
            have q8 : w6.cell? ⟨bb, oo + i * 10 + 8, none⟩ = some (.string (bs u.mi)) := hk8
            have q9 : w6.cell? ⟨bb, oo + i * 10 + 9, none⟩ = some (.int .i64 u.sm) := hk9
            clear hk0 hk1 hk2 hk3 hk4 hk5 hk6 hk7 hk8 hk9
            have hbE := enew w6 (.cells #[.int .i64 u.rank, .slice u.xa u.xn u.xc, .string (bs u.tg), .int .i64 u.ap, .int .i64 u.st, .int .i64 u.dp, .int .i64 u.dt, .int .i64 u.mp, .string (bs u.mi), .int .i64 u.sm] 49)
            have HE := hid (And.intro (hbel6.trans (hbE.mono hbel6.size)) (And.intro (hown6.below hbE) (GX.one (x := u) (enc := encR) (k := 10) (Bk.new w6 49 #[.int .i64 u.rank, .slice u.xa u.xn u.xc, .string (bs u.tg), .int .i64 u.ap, .int .i64 u.st, .int .i64 u.dp, .int .i64 u.dt, .int .i64 u.mp, .string (bs u.mi), .int .i64 u.sm]) rfl)))
            clear hbE hown6 hbel6 hgr6 hbw6
            go_wp2_with (at_builtin; refine wpList_append_gx (W0 := w5) rowR rfl _ _ rfl w5.heap.size v6 ([] ++ S) [u] (some ⟨w6.heap.size, 0, none⟩) 1 _ rfl HE.out.2.1 rfl HE.out.2.2 (fun h => by cases h) (by have := HSI.out.2.1; simp; omega) HE.out.1 (Nat.le_refl _) ?_)
            intro v7 w7 hown7 hbel7 hgr7
            have hT7 : GX encR 10 w7 (fun b => w.heap.size ≤ b ∧ b < w0.heap.size) (some ⟨b2, o2 + j * 10, none⟩) T := by
              have h := H5.out.1.right' (w' := w7) fun b hb => hbel7.block b (by have := H5.out.2.2; omega)
              rw [HSI.out.2.1] at h
              exact h
            have HG7 := hid (And.intro hown7 (And.intro hbel7 hT7))
            clear q0 q1 q2 q3 q4 q5 q6 q7 q8 q9 hown7 hbel7 hgr7 hT7
            go_wp2_with (at_builtin; refine wpList_append_gx (W0 := w5) rowR rfl _ _ rfl w5.heap.size v7 ([] ++ S ++ [u]) T (some ⟨b2, o2 + j * 10, none⟩) (c2 - j) _ rfl HG7.out.1 (by rw [hTl]; rfl) HG7.out.2.2 (fun h => by cases h) (by have := HSI.out.2.1; have := HSI.out.2.2.1; simp; omega) HG7.out.2.1 (Nat.le_refl _) ?_)
            intro v8 w8 hown8 hbel8 hgr8
            have H8 := hid (And.intro hown8 hbel8)
            clear hown8 hbel8 hgr8
            go_wp2_with fail
            go_roundg (n - (i + 1))
            case measure => omega
            case rel =>
              refine ⟨i + 1, by go_num, by omega, by omega, ⟨?_, H5.out.2.1.trans (H8.out.2.mono H5.out.2.1.size)⟩⟩
              rw [take_snoc' U i u HU.out, ordB_snoc, HO.out, HSI.out.2.2.2.1]
              have h8 := H8.out.1.more H5.out.2.1.size
              simpa [List.append_assoc] using h8
        · obtain ⟨i', hii⟩ : ∃ i', i' = i := ⟨_, rfl⟩
          obtain rfl : j = i := by omega
          have hd : decide ((j : Int) < (j : Int)) = false := decide_eq_false (by omega)
          have HSTOP := hid (show ∀ h : j < O.length, decide (u.rank ≤ O[j].rank) = false from fun h => absurd h (by have := HGX.out.2.2.1; omega))
          go_upto_region 6 with (fail)
          go_quiet (fail)
          go_upto_region 8 with (fail)
          rcases HSP.out with rfl | ⟨b2, rfl⟩
          · obtain rfl : c2 = 0 := HGX.out.2.1 rfl
            obtain rfl : j = 0 := by omega
            obtain ⟨S, T, hST, hSl, hTl, hins⟩ : ∃ S T : List Ru, O = S ++ T ∧ S.length = 0 ∧ T.length = 0 ∧ insB rkR O u = S ++ u :: T := by
              have hO := HGX.out.2.2.1
              obtain ⟨h1, h2⟩ := while_at (p := fun y : Ru => decide (u.rank ≤ y.rank)) O 0 (by omega) (fun t h ht => decide_eq_true (HJ.out.1 t h ht)) (fun h => HSTOP.out h)
              refine ⟨O.take 0, O.drop 0, (List.take_append_drop _ _).symm, by rw [List.length_take]; omega, by rw [List.length_drop]; omega, ?_⟩
              have h3 : insB rkR O u = O.takeWhile (fun y => decide (u.rank ≤ y.rank)) ++ u :: O.dropWhile (fun y => decide (u.rank ≤ y.rank)) := rfl
              rw [h3, h1, h2]
            have hg5 : GX encR 10 (wr.drewN nq) (fun b => w.heap.size ≤ b ∧ b < w0.heap.size) none (S ++ T) := by
              obtain ⟨q, hq⟩ := HJ.out.2
              have h9 := HGX.out.1
              rw [hST] at h9
              rw [hq]
              exact h9.same fun b _ => rfl
            have hb5 : Below w.heap.size w (wr.drewN nq) := by
              obtain ⟨q, hq⟩ := HJ.out.2
              rw [hq]
              exact below_drewN (below_drewN HI.out.2 _) _
            have hs5 : (wr.drewN nq).heap.size = w0.heap.size := by
              obtain ⟨q, hq⟩ := HJ.out.2
              rw [hq]; rfl
            have hl5 := HGX.out.2.2.1
            have HSI := hid (And.intro hST (And.intro hSl (And.intro hTl (And.intro hins (And.intro hl5 HGX.out.2.2.2)))))
            have HA2 := hid HGX.out.2.1
            have H5 := hid (And.intro hg5 (And.intro hb5 hs5))
            have HU5 := hid (fun (w6 : World) (hb6 : Below w.heap.size w w6) (q : Nat) (hq : q < 10) => (hb6.cell (p := ⟨bb, oo + (0 * 10 + q), none⟩) HUW.out.2).trans (HUW.out.1 q hq))
            clear hg5 hb5 hs5 hl5 hST hins HSTOP HJ HGX HI
            generalize wr.drewN nq = w5 at *
            have hSz : (S.length : Int) = ((0 : Nat) : Int) := by rw [hSl]
            go_wp2_with (at_builtin; refine wpList_append_gx (W0 := w5) rowR rfl _ _ rfl w5.heap.size (.slice none 0 0) [] S none 0 _ rfl (GB.nil _ _) (by rw [hSl]; rfl) H5.out.1.left (fun _ => rfl) (by have := HSI.out.2.1; simp; omega) (Below.refl _ _) (Nat.le_refl _) ?_)
            intro v6 w6 hown6 hbel6 hgr6
            have hbw6 : Below w.heap.size w w6 := H5.out.2.1.trans (hbel6.mono H5.out.2.1.size)
            have hk0 := HU5.out w6 hbw6 0 (by omega)
            have hk1 := HU5.out w6 hbw6 1 (by omega)
            have hk2 := HU5.out w6 hbw6 2 (by omega)
            have hk3 := HU5.out w6 hbw6 3 (by omega)
            have hk4 := HU5.out w6 hbw6 4 (by omega)
            have hk5 := HU5.out w6 hbw6 5 (by omega)
            have hk6 := HU5.out w6 hbw6 6 (by omega)
            have hk7 := HU5.out w6 hbw6 7 (by omega)
            have hk8 := HU5.out w6 hbw6 8 (by omega)
            have hk9 := HU5.out w6 hbw6 9 (by omega)
            have q0 : w6.cell? ⟨bb, oo, none⟩ = some (.int .i64 u.rank) := by have hh := hk0; simp only [Nat.zero_mul, Nat.zero_add, Nat.add_zero] at hh; exact hh
            have q1 : w6.cell? ⟨bb, oo + 1, none⟩ = some (.slice u.xa u.xn u.xc) := by have hh := hk1; simp only [Nat.zero_mul, Nat.zero_add, Nat.add_zero] at hh; exact hh
            have q2 : w6.cell? ⟨bb, oo + 2, none⟩ = some (.string (bs u.tg)) := by have hh := hk2; simp only [Nat.zero_mul, Nat.zero_add, Nat.add_zero] at hh; exact hh
            have q3 : w6.cell? ⟨bb, oo + 3, none⟩ = some (.int .i64 u.ap) := by have hh := hk3; simp only [Nat.zero_mul, Nat.zero_add, Nat.add_zero] at hh; exact hh
            have q4 : w6.cell? ⟨bb, oo + 4, none⟩ = some (.int .i64 u.st) := by have hh := hk4; simp only [Nat.zero_mul, Nat.zero_add, Nat.add_zero] at hh; exact hh
            have q5 : w6.cell? ⟨bb, oo + 5, none⟩ = some (.int .i64 u.dp) := by have hh := hk5; simp only [Nat.zero_mul, Nat.zero_add, Nat.add_zero] at hh; exact hh
            have q6 : w6.cell? ⟨bb, oo + 6, none⟩ = some (.int .i64 u.dt) := by have hh := hk6; simp only [Nat.zero_mul, Nat.zero_add, Nat.add_zero] at hh; exact hh
            have q7 : w6.cell? ⟨bb, oo + 7, none⟩ = some (.int .i64 u.mp) := by have hh := hk7; simp only [Nat.zero_mul, Nat.zero_add, Nat.add_zero] at hh; exact hh
            have q8 : w6.cell? ⟨bb, oo + 8, none⟩ = some (.string (bs u.mi)) := by have hh := hk8; simp only [Nat.zero_mul, Nat.zero_add, Nat.add_zero] at hh; exact hh
            have q9 : w6.cell? ⟨bb, oo + 9, none⟩ = some (.int .i64 u.sm) := by have hh := hk9; simp only [Nat.zero_mul, Nat.zero_add, Nat.add_zero] at hh; exact hh
            clear hk0 hk1 hk2 hk3 hk4 hk5 hk6 hk7 hk8 hk9
            have hbE := enew w6 (.cells #[.int .i64 u.rank, .slice u.xa u.xn u.xc, .string (bs u.tg), .int .i64 u.ap, .int .i64 u.st, .int .i64 u.dp, .int .i64 u.dt, .int .i64 u.mp, .string (bs u.mi), .int .i64 u.sm] 49)
            have HE := hid (And.intro (hbel6.trans (hbE.mono hbel6.size)) (And.intro (hown6.below hbE) (GX.one (x := u) (enc := encR) (k := 10) (Bk.new w6 49 #[.int .i64 u.rank, .slice u.xa u.xn u.xc, .string (bs u.tg), .int .i64 u.ap, .int .i64 u.st, .int .i64 u.dp, .int .i64 u.dt, .int .i64 u.mp, .string (bs u.mi), .int .i64 u.sm]) rfl)))
            clear hbE hown6 hbel6 hgr6 hbw6
            go_wp2_with (at_builtin; refine wpList_append_gx (W0 := w5) rowR rfl _ _ rfl w5.heap.size v6 ([] ++ S) [u] (some ⟨w6.heap.size, 0, none⟩) 1 _ rfl HE.out.2.1 rfl HE.out.2.2 (fun h => by cases h) (by have := HSI.out.2.1; simp; omega) HE.out.1 (Nat.le_refl _) ?_)
            intro v7 w7 hown7 hbel7 hgr7
            have hT7 : GX encR 10 w7 (fun b => w.heap.size ≤ b ∧ b < w0.heap.size) none T := by
              have h := H5.out.1.right'N (w' := w7) fun b hb => hbel7.block b (by have := H5.out.2.2; omega)
              skip
              exact h
            have HG7 := hid (And.intro hown7 (And.intro hbel7 hT7))
            clear q0 q1 q2 q3 q4 q5 q6 q7 q8 q9 hown7 hbel7 hgr7 hT7
            go_wp2_with (at_builtin; refine wpList_append_gx (W0 := w5) rowR rfl _ _ rfl w5.heap.size v7 ([] ++ S ++ [u]) T none 0 _ rfl HG7.out.1 (by rw [HSI.out.2.2.1]; rfl) HG7.out.2.2 (fun _ => rfl) (by have := HSI.out.2.1; have := HSI.out.2.2.1; simp; omega) HG7.out.2.1 (Nat.le_refl _) ?_)
            intro v8 w8 hown8 hbel8 hgr8
            have H8 := hid (And.intro hown8 hbel8)
            clear hown8 hbel8 hgr8
            go_wp2_with fail
            go_roundg (n - (0 + 1))
            case measure => omega
            case rel =>
              refine ⟨0 + 1, by go_num, by omega, by omega, ⟨?_, H5.out.2.1.trans (H8.out.2.mono H5.out.2.1.size)⟩⟩
              rw [take_snoc' U 0 u HU.out, ordB_snoc, HO.out, HSI.out.2.2.2.1]
              have h8 := H8.out.1.more H5.out.2.1.size
              simpa [List.append_assoc] using h8
          · have hjc : j ≤ c2 := hc2
            by_cases hcj : c2 = j
            · have hcj3 := hcj.symm
              subst hcj3
              obtain ⟨S, T, hST, hSl, hTl, hins⟩ : ∃ S T : List Ru, O = S ++ T ∧ S.length = j ∧ T.length = j - j ∧ insB rkR O u = S ++ u :: T := by
                have hO := HGX.out.2.2.1
                obtain ⟨h1, h2⟩ := while_at (p := fun y : Ru => decide (u.rank ≤ y.rank)) O j (by omega) (fun t h ht => decide_eq_true (HJ.out.1 t h ht)) (fun h => HSTOP.out h)
                refine ⟨O.take j, O.drop j, (List.take_append_drop _ _).symm, by rw [List.length_take]; omega, by rw [List.length_drop]; omega, ?_⟩
                have h3 : insB rkR O u = O.takeWhile (fun y => decide (u.rank ≤ y.rank)) ++ u :: O.dropWhile (fun y => decide (u.rank ≤ y.rank)) := rfl
                rw [h3, h1, h2]
              have hg5 : GX encR 10 (wr.drewN nq) (fun b => w.heap.size ≤ b ∧ b < w0.heap.size) (some ⟨b2, 0, none⟩) (S ++ T) := by
                obtain ⟨q, hq⟩ := HJ.out.2
                have h9 := HGX.out.1
                rw [hST] at h9
                rw [hq]
                exact h9.same fun b _ => rfl
              have hb5 : Below w.heap.size w (wr.drewN nq) := by
                obtain ⟨q, hq⟩ := HJ.out.2
                rw [hq]
                exact below_drewN (below_drewN HI.out.2 _) _
              have hs5 : (wr.drewN nq).heap.size = w0.heap.size := by
                obtain ⟨q, hq⟩ := HJ.out.2
                rw [hq]; rfl
              have hl5 := HGX.out.2.2.1
              have HSI := hid (And.intro hST (And.intro hSl (And.intro hTl (And.intro hins (And.intro hl5 HGX.out.2.2.2)))))
              have HA2 := hid HGX.out.2.1
              have H5 := hid (And.intro hg5 (And.intro hb5 hs5))
              have HU5 := hid (fun (w6 : World) (hb6 : Below w.heap.size w w6) (q : Nat) (hq : q < 10) => (hb6.cell (p := ⟨bb, oo + (j * 10 + q), none⟩) HUW.out.2).trans (HUW.out.1 q hq))
              clear hg5 hb5 hs5 hl5 hST hins HSTOP HJ HGX HI
              generalize wr.drewN nq = w5 at *
              have hSz : (S.length : Int) = ((j : Nat) : Int) := by rw [hSl]
              go_wp2_with (at_builtin; refine wpList_append_gx (W0 := w5) rowR rfl _ _ rfl w5.heap.size (.slice none 0 0) [] S (some ⟨b2, 0, none⟩) j _ rfl (GB.nil _ _) (by rw [hSl]; rfl) H5.out.1.left (fun h => by cases h) (by have := HSI.out.2.1; simp; omega) (Below.refl _ _) (Nat.le_refl _) ?_)
              intro v6 w6 hown6 hbel6 hgr6
              have hbw6 : Below w.heap.size w w6 := H5.out.2.1.trans (hbel6.mono H5.out.2.1.size)
              have hk0 := HU5.out w6 hbw6 0 (by omega)
              have hk1 := HU5.out w6 hbw6 1 (by omega)
              have hk2 := HU5.out w6 hbw6 2 (by omega)
              have hk3 := HU5.out w6 hbw6 3 (by omega)
              have hk4 := HU5.out w6 hbw6 4 (by omega)
              have hk5 := HU5.out w6 hbw6 5 (by omega)
              have hk6 := HU5.out w6 hbw6 6 (by omega)
              have hk7 := HU5.out w6 hbw6 7 (by omega)
              have hk8 := HU5.out w6 hbw6 8 (by omega)
              have hk9 := HU5.out w6 hbw6 9 (by omega)
              have q0 : w6.cell? ⟨bb, oo + j * 10, none⟩ = some (.int .i64 u.rank) := hk0
              have q1 : w6.cell? ⟨bb, oo + j * 10 + 1, none⟩ = some (.slice u.xa u.xn u.xc) := hk1
              have q2 : w6.cell? ⟨bb, oo + j * 10 + 2, none⟩ = some (.string (bs u.tg)) := hk2
              have q3 : w6.cell? ⟨bb, oo + j * 10 + 3, none⟩ = some (.int .i64 u.ap) := hk3
              have q4 : w6.cell? ⟨bb, oo + j * 10 + 4, none⟩ = some (.int .i64 u.st) := hk4
              have q5 : w6.cell? ⟨bb, oo + j * 10 + 5, none⟩ = some (.int .i64 u.dp) := hk5
              have q6 : w6.cell? ⟨bb, oo + j * 10 + 6, none⟩ = some (.int .i64 u.dt) := hk6
              have q7 : w6.cell? ⟨bb, oo + j * 10 + 7, none⟩ = some (.int .i64 u.mp) := hk7
              have q8 : w6.cell? ⟨bb, oo + j * 10 + 8, none⟩ = some (.string (bs u.mi)) := hk8
              have q9 : w6.cell? ⟨bb, oo + j * 10 + 9, none⟩ = some (.int .i64 u.sm) := hk9
              clear hk0 hk1 hk2 hk3 hk4 hk5 hk6 hk7 hk8 hk9
              have hbE := enew w6 (.cells #[.int .i64 u.rank, .slice u.xa u.xn u.xc, .string (bs u.tg), .int .i64 u.ap, .int .i64 u.st, .int .i64 u.dp, .int .i64 u.dt, .int .i64 u.mp, .string (bs u.mi), .int .i64 u.sm] 49)
              have HE := hid (And.intro (hbel6.trans (hbE.mono hbel6.size)) (And.intro (hown6.below hbE) (GX.one (x := u) (enc := encR) (k := 10) (Bk.new w6 49 #[.int .i64 u.rank, .slice u.xa u.xn u.xc, .string (bs u.tg), .int .i64 u.ap, .int .i64 u.st, .int .i64 u.dp, .int .i64 u.dt, .int .i64 u.mp, .string (bs u.mi), .int .i64 u.sm]) rfl)))
              clear hbE hown6 hbel6 hgr6 hbw6
              go_wp2_with (at_builtin; refine wpList_append_gx (W0 := w5) rowR rfl _ _ rfl w5.heap.size v6 ([] ++ S) [u] (some ⟨w6.heap.size, 0, none⟩) 1 _ rfl HE.out.2.1 rfl HE.out.2.2 (fun h => by cases h) (by have := HSI.out.2.1; simp; omega) HE.out.1 (Nat.le_refl _) ?_)
              intro v7 w7 hown7 hbel7 hgr7
              have hT7 : GX encR 10 w7 (fun b => w.heap.size ≤ b ∧ b < w0.heap.size) (some ⟨b2, 0, none⟩) T := by
                have hT0 : T = [] := List.eq_nil_of_length_eq_zero (by omega)
                rw [hT0]; exact GX.nil _ _ _
              have HG7 := hid (And.intro hown7 (And.intro hbel7 hT7))
              clear q0 q1 q2 q3 q4 q5 q6 q7 q8 q9 hown7 hbel7 hgr7 hT7
              go_wp2_with (at_builtin; refine wpList_append_gx (W0 := w5) rowR rfl _ _ rfl w5.heap.size v7 ([] ++ S ++ [u]) T (some ⟨b2, 0, none⟩) 0 _ rfl HG7.out.1 (by first | (rw [hTl, Nat.sub_self]; rfl) | (rw [hTl]; rfl)) HG7.out.2.2 (fun h => by cases h) (by have := HSI.out.2.1; have := HSI.out.2.2.1; simp; omega) HG7.out.2.1 (Nat.le_refl _) ?_)
              intro v8 w8 hown8 hbel8 hgr8
              have H8 := hid (And.intro hown8 hbel8)
              clear hown8 hbel8 hgr8
              go_wp2_with fail
              go_roundg (n - (j + 1))
              case measure => omega
              case rel =>
                refine ⟨j + 1, by go_num, by omega, by omega, ⟨?_, H5.out.2.1.trans (H8.out.2.mono H5.out.2.1.size)⟩⟩
                rw [take_snoc' U j u HU.out, ordB_snoc, HO.out, HSI.out.2.2.2.1]
                have h8 := H8.out.1.more H5.out.2.1.size
                simpa [List.append_assoc] using h8
            · have hcj2 : j < c2 := by omega
              obtain ⟨S, T, hST, hSl, hTl, hins⟩ : ∃ S T : List Ru, O = S ++ T ∧ S.length = j ∧ T.length = j - j ∧ insB rkR O u = S ++ u :: T := by
                have hO := HGX.out.2.2.1
                obtain ⟨h1, h2⟩ := while_at (p := fun y : Ru => decide (u.rank ≤ y.rank)) O j (by omega) (fun t h ht => decide_eq_true (HJ.out.1 t h ht)) (fun h => HSTOP.out h)
                refine ⟨O.take j, O.drop j, (List.take_append_drop _ _).symm, by rw [List.length_take]; omega, by rw [List.length_drop]; omega, ?_⟩
                have h3 : insB rkR O u = O.takeWhile (fun y => decide (u.rank ≤ y.rank)) ++ u :: O.dropWhile (fun y => decide (u.rank ≤ y.rank)) := rfl
                rw [h3, h1, h2]
              have hg5 : GX encR 10 (wr.drewN nq) (fun b => w.heap.size ≤ b ∧ b < w0.heap.size) (some ⟨b2, 0, none⟩) (S ++ T) := by
                obtain ⟨q, hq⟩ := HJ.out.2
                have h9 := HGX.out.1
                rw [hST] at h9
                rw [hq]
                exact h9.same fun b _ => rfl
              have hb5 : Below w.heap.size w (wr.drewN nq) := by
                obtain ⟨q, hq⟩ := HJ.out.2
                rw [hq]
                exact below_drewN (below_drewN HI.out.2 _) _
              have hs5 : (wr.drewN nq).heap.size = w0.heap.size := by
                obtain ⟨q, hq⟩ := HJ.out.2
                rw [hq]; rfl
              have hl5 := HGX.out.2.2.1
              have HSI := hid (And.intro hST (And.intro hSl (And.intro hTl (And.intro hins (And.intro hl5 HGX.out.2.2.2)))))
              have HA2 := hid HGX.out.2.1
              have H5 := hid (And.intro hg5 (And.intro hb5 hs5))
              have HU5 := hid (fun (w6 : World) (hb6 : Below w.heap.size w w6) (q : Nat) (hq : q < 10) => (hb6.cell (p := ⟨bb, oo + (j * 10 + q), none⟩) HUW.out.2).trans (HUW.out.1 q hq))
              clear hg5 hb5 hs5 hl5 hST hins HSTOP HJ HGX HI
              generalize wr.drewN nq = w5 at *
              have hSz : (S.length : Int) = ((j : Nat) : Int) := by rw [hSl]
              go_wp2_with (at_builtin; refine wpList_append_gx (W0 := w5) rowR rfl _ _ rfl w5.heap.size (.slice none 0 0) [] S (some ⟨b2, 0, none⟩) c2 _ rfl (GB.nil _ _) (by rw [hSl]; rfl) H5.out.1.left (fun h => by cases h) (by have := HSI.out.2.1; simp; omega) (Below.refl _ _) (Nat.le_refl _) ?_)
              intro v6 w6 hown6 hbel6 hgr6
              have hbw6 : Below w.heap.size w w6 := H5.out.2.1.trans (hbel6.mono H5.out.2.1.size)
              have hk0 := HU5.out w6 hbw6 0 (by omega)
              have hk1 := HU5.out w6 hbw6 1 (by omega)
              have hk2 := HU5.out w6 hbw6 2 (by omega)
              have hk3 := HU5.out w6 hbw6 3 (by omega)
              have hk4 := HU5.out w6 hbw6 4 (by omega)
              have hk5 := HU5.out w6 hbw6 5 (by omega)
              have hk6 := HU5.out w6 hbw6 6 (by omega)
              have hk7 := HU5.out w6 hbw6 7 (by omega)
              have hk8 := HU5.out w6 hbw6 8 (by omega)
              have hk9 := HU5.out w6 hbw6 9 (by omega)
              have q0 : w6.cell? ⟨bb, oo + j * 10, none⟩ = some (.int .i64 u.rank) := hk0
              have q1 : w6.cell? ⟨bb, oo + j * 10 + 1, none⟩ = some (.slice u.xa u.xn u.xc) := hk1
              have q2 : w6.cell? ⟨bb, oo + j * 10 + 2, none⟩ = some (.string (bs u.tg)) := hk2
              have q3 : w6.cell? ⟨bb, oo + j * 10 + 3, none⟩ = some (.int .i64 u.ap) := hk3
              have q4 : w6.cell? ⟨bb, oo + j * 10 + 4, none⟩ = some (.int .i64 u.st) := hk4
              have q5 : w6.cell? ⟨bb, oo + j * 10 + 5, none⟩ = some (.int .i64 u.dp) := hk5
              have q6 : w6.cell? ⟨bb, oo + j * 10 + 6, none⟩ = some (.int .i64 u.dt) := hk6
              have q7 : w6.cell? ⟨bb, oo + j * 10 + 7, none⟩ = some (.int .i64 u.mp) := hk7
              have q8 : w6.cell? ⟨bb, oo + j * 10 + 8, none⟩ = some (.string (bs u.mi)) := hk8
              have q9 : w6.cell? ⟨bb, oo + j * 10 + 9, none⟩ = some (.int .i64 u.sm) := hk9
              clear hk0 hk1 hk2 hk3 hk4 hk5 hk6 hk7 hk8 hk9
              have hbE := enew w6 (.cells #[.int .i64 u.rank, .slice u.xa u.xn u.xc, .string (bs u.tg), .int .i64 u.ap, .int .i64 u.st, .int .i64 u.dp, .int .i64 u.dt, .int .i64 u.mp, .string (bs u.mi), .int .i64 u.sm] 49)
              have HE := hid (And.intro (hbel6.trans (hbE.mono hbel6.size)) (And.intro (hown6.below hbE) (GX.one (x := u) (enc := encR) (k := 10) (Bk.new w6 49 #[.int .i64 u.rank, .slice u.xa u.xn u.xc, .string (bs u.tg), .int .i64 u.ap, .int .i64 u.st, .int .i64 u.dp, .int .i64 u.dt, .int .i64 u.mp, .string (bs u.mi), .int .i64 u.sm]) rfl)))
              clear hbE hown6 hbel6 hgr6 hbw6
              go_wp2_with (at_builtin; refine wpList_append_gx (W0 := w5) rowR rfl _ _ rfl w5.heap.size v6 ([] ++ S) [u] (some ⟨w6.heap.size, 0, none⟩) 1 _ rfl HE.out.2.1 rfl HE.out.2.2 (fun h => by cases h) (by have := HSI.out.2.1; simp; omega) HE.out.1 (Nat.le_refl _) ?_)
              intro v7 w7 hown7 hbel7 hgr7
              have hT7 : GX encR 10 w7 (fun b => w.heap.size ≤ b ∧ b < w0.heap.size) (some ⟨b2, j * 10, none⟩) T := by
                have hT0 : T = [] := List.eq_nil_of_length_eq_zero (by omega)
                rw [hT0]; exact GX.nil _ _ _
              have HG7 := hid (And.intro hown7 (And.intro hbel7 hT7))
              clear q0 q1 q2 q3 q4 q5 q6 q7 q8 q9 hown7 hbel7 hgr7 hT7
              go_wp2_with (at_builtin; refine wpList_append_gx (W0 := w5) rowR rfl _ _ rfl w5.heap.size v7 ([] ++ S ++ [u]) T (some ⟨b2, j * 10, none⟩) (c2 - j) _ rfl HG7.out.1 (by first | (rw [hTl, Nat.sub_self]; rfl) | (rw [hTl]; rfl)) HG7.out.2.2 (fun h => by cases h) (by have := HSI.out.2.1; have := HSI.out.2.2.1; simp; omega) HG7.out.2.1 (Nat.le_refl _) ?_)
              intro v8 w8 hown8 hbel8 hgr8
              have H8 := hid (And.intro hown8 hbel8)
              clear hown8 hbel8 hgr8
              go_wp2_with fail
              go_roundg (n - (j + 1))
              case measure => omega
              case rel =>
                refine ⟨j + 1, by go_num, by omega, by omega, ⟨?_, H5.out.2.1.trans (H8.out.2.mono H5.out.2.1.size)⟩⟩
                rw [take_snoc' U j u HU.out, ordB_snoc, HO.out, HSI.out.2.2.2.1]
                have h8 := H8.out.1.more H5.out.2.1.size
                simpa [List.append_assoc] using h8
    · obtain rfl : i = n := by omega
      have hltz : ¬ (i : Int) < (i : Int) := by omega
      have hf := HI.out.1
      rw [List.take_of_length_le (by have := HNU.out; omega)] at hf
      have HF := hid hf
      clear hf
      go_wp2_with fail
      go_returns
      exact ⟨_, rfl, HF.out, HI.out.2⟩
end Go.Proofs.Ytingjembjpckcaa
namespace Go.Proofs.Ytingjembjpckcaa
set_option linter.unusedVariables false
set_option linter.unusedSimpArgs false
open Go.RowKit Go.Joins

theorem fewRu_len {l : List Rs} (h : fewRu l = true) : l.length ≤ 40 := by
  unfold fewRu at h
  simp at h
  exact h.1
theorem fewRu_ps {U : List Ru} (h : fewRu (U.map Ru.sem) = true) : ∀ u ∈ U, u.ps.length ≤ 20 := fun u hu => by
  have h40 := fewRu_len h
  rw [fewRu_eq h40] at h
  have h1 := List.all_eq_true.1 h u.sem (List.mem_map.2 ⟨u, hu, rfl⟩)
  unfold fewR1 at h1
  rw [Bool.and_eq_true] at h1
  have h2 := h1.1
  unfold fewP at h2
  rw [Bool.and_eq_true] at h2
  have h3 := h2.1
  simp at h3
  exact h3
/-- The definition's Order, as a slice that can be read. -/
theorem rorder_rv (y : Value) (U : List Ru) (w : World) (hy : RV w y U) (hl : U.length ≤ 1000) :
    Calls Try.prog 24 #[y] w fun e w' => ∃ v V, e = .returned v ∧ (RV w' v V ∧ V.map Ru.sem = ordB rkS (U.map Ru.sem)) ∧ Below w.heap.size w w' := by
  obtain ⟨A, c, rfl, hx, hp, hA, hlc, hl9⟩ := hy
  refine (rorder_any A c U w hx hl).mono ?_
  rintro e w' ⟨v, rfl, hg, hb⟩
  obtain ⟨A', cap, rfl, hgx, hA', hlc', hcm⟩ := GB.reads encR_len hg
  refine ⟨_, ordB rkR U, rfl, ⟨⟨A', cap, rfl, hgx.imp fun b hb => hb.2, fun u hu => (hp.up hb) u (mem_ordB hu), hA', hlc', by unfold maxLen at hcm; omega⟩, ordB_sem U⟩, hb⟩
theorem rsame_rv (y1 y2 : Value) (U V : List Ru) (w : World) (he : U.map Ru.sem = V.map Ru.sem) (h1 : RV w y1 U) (h2 : RV w y2 V) (hl : U.length ≤ 1000000) :
    Calls Try.prog 30 #[y1, y2] w fun e w' => e = .returned (.bool true) ∧ Below w.heap.size w w' := by
  obtain ⟨A, c, rfl, hx, hp, -⟩ := h1
  obtain ⟨B, d, rfl, hx2, hp2, -⟩ := h2
  exact rsame_any A B c d U V w he hx hp hx2 hp2 hl
theorem rfirst_rv (y : Value) (U : List Ru) (m h p b : List UInt8) (x : Value) (L : List Hd) (w : World) (hy : RV w y U) (hS : ∀ u ∈ U, smallP u.ps) (hpl : p.length ≤ 140737488351232) (hl9 : U.length ≤ 1000000) (hx : HV w x L) (hL : L.length ≤ 1000000) {q : Option Nat} (H : Hid (fstK (fun u => allE u.ps m h p L) U U.length = q)) :
    Calls Try.prog 20 #[y, .agg #[.string (bs m), .string (bs h), .string (bs p), x, .string (bs b)]] w fun e w' => e = .returned (.int .i64 (fstI q)) ∧ Below w.heap.size w w' := by
  obtain ⟨A, c, rfl, hgx, hp, -⟩ := hy
  exact rfirst_any A c U m h p b x L w hgx hp hS hpl hl9 hx hL H
theorem keepBQ {v w' : World} {g : Nat} {m h p b : List UInt8} {x : Value} (k : BQ v g m h p x b) (hz : Below v.heap.size v w') : w'.cell? ⟨g, 0, none⟩ = some (.string (bs m)) ∧ w'.cell? ⟨g, 1, none⟩ = some (.string (bs h)) ∧ w'.cell? ⟨g, 2, none⟩ = some (.string (bs p)) ∧ w'.cell? ⟨g, 3, none⟩ = some x ∧ w'.cell? ⟨g, 4, none⟩ = some (.string (bs b)) ∧ Below v.heap.size v w' := by
  obtain ⟨q0, q1, q2, q3, q4⟩ := (k.up hz).cells
  exact ⟨q0, q1, q2, q3, q4, hz⟩
end Go.Proofs.Ytingjembjpckcaa
namespace Go.Proofs.Ytingjembjpckcaa
set_option linter.unusedVariables false
set_option linter.unusedSimpArgs false
open Go.RowKit Go.Joins

/-- A slice of rules that can be read, in blocks that N allows. -/
def RN (w : World) (N : Nat → Prop) (y : Value) (U : List Ru) : Prop := ∃ A c, y = .slice A U.length c ∧ GX encR 10 w N A U ∧ RP w N U ∧ (A = none → c = 0) ∧ U.length ≤ c ∧ U.length ≤ 9223372036854775807
theorem RN.same {w w' : World} {N : Nat → Prop} {y : Value} {U : List Ru} (h : RN w N y U) (hs : ∀ b, N b → w'.heap[b]? = w.heap[b]?) : RN w' N y U := by
  obtain ⟨A, c, e, h1, h2, h3⟩ := h
  exact ⟨A, c, e, h1.same hs, h2.same hs, h3⟩
theorem RN.imp {w : World} {N M : Nat → Prop} {y : Value} {U : List Ru} (h : RN w N y U) (hs : ∀ b, N b → M b) : RN w M y U := by
  obtain ⟨A, c, e, h1, h2, h3⟩ := h
  exact ⟨A, c, e, h1.imp hs, h2.imp hs, h3⟩
theorem RN.rv {w : World} {N : Nat → Prop} {y : Value} {U : List Ru} (h : RN w N y U) (hs : ∀ b, N b → b < w.heap.size) : RV w y U := h.imp hs
theorem RV.rn {w : World} {y : Value} {U : List Ru} (h : RV w y U) : RN w (· < w.heap.size) y U := h
set_option maxRecDepth 100000 in
set_option maxHeartbeats 8000000 in
theorem order_in (N : Nat → Prop) (y : Value) (U : List Ru) (w : World) (hy : RN w N y U) (hN : ∀ b, N b → b < w.heap.size) (h40 : U.length ≤ 40) (hps : ∀ u ∈ U, u.ps.length ≤ 1000000) :
    Calls Try.prog 23 #[y] w fun e w' => ∃ v V, e = .returned v ∧ (RN w' (fun b => (w.heap.size ≤ b ∧ b < w'.heap.size) ∨ N b) v V ∧ V.map Ru.sem = ordB rkS (U.map Ru.sem)) ∧ Below w.heap.size w w' := by
  obtain ⟨A, c, rfl, hx, hp, hA, hlc, hl9⟩ := hy
  have HCL := hid (cloneR_any A c U w (hx.imp hN) hA (by omega))
  have HN := hid hN
  have HP := hid hp
  have HPS := hid hps
  clear hx hp hA hps hN
  go_enter Try.func23, Try.ntmps23
  go_wp2_with fail
  refine HCL.out.mono ?_
  rintro e w1 ⟨v1, rfl, hown, hb1⟩
  rcases GB.form encR_len hown with ⟨rfl, rfl⟩ | ⟨g, cap, rfl, hg1, hg2, hg3, hg4, hg5⟩
  · have HB1 := hid hb1
    clear hown hb1
    go_wp2_with fail
    go_loopg [9] 1 (fun g1 vi wr => vi = .int .i64 0 ∧ wr = w1)
    case atStart => exact ⟨rfl, rfl⟩
    case round =>
      obtain ⟨rfl, rfl⟩ := hrel
      go_wp2_with fail
      refine (sortStable_nil _).mono ?_
      rintro e w2 ⟨rfl, rfl⟩
      go_wp2_with fail
      go_returns
      exact ⟨_, [], rfl, ⟨⟨none, 0, rfl, GX.nil _ _ _, (fun u hu => by cases hu), fun _ => rfl, Nat.le_refl _, by simp⟩, rfl⟩, HB1.out⟩
  · have hGW : GW encR 10 w1 g 0 U := ⟨hg2, fun t ht => by rw [Nat.zero_add]; exact hg5 t ht⟩
    have hRP : RP w1 (fun b => b < w1.heap.size ∧ b ≠ g ∧ (w.heap.size ≤ b ∨ N b)) U := (HP.out.same fun b hb => hb1.block b (HN.out b hb)).imp fun b hb => ⟨Nat.lt_of_lt_of_le (HN.out b hb) hb1.size, by have := HN.out b hb; omega, Or.inr hb⟩
    have HB1 := hid hb1
    have HG := hid (And.intro hg1 (And.intro hg3 hg4))
    have HST := hid (And.intro hGW hRP)
    clear hown hb1 hg1 hg3 hg4 hg5 hGW hRP hg2
    generalize hnU : U.length = n at *
    have HNU := hid hnU
    clear hnU
    go_wp2_with fail
    go_loopg [9] n (fun g1 vi wr => ∃ (i : Nat) (C : List Ru), vi = .int .i64 i ∧ i ≤ n ∧ n - i ≤ g1 ∧ Hid (C.length = n ∧ C.map Ru.sem = U.map Ru.sem ∧ GW encR 10 wr g 0 C ∧ RP wr (fun b => b < wr.heap.size ∧ b ≠ g ∧ (w.heap.size ≤ b ∨ N b)) C ∧ Below w.heap.size w wr))
    case atStart => exact ⟨0, U, rfl, by omega, by omega, ⟨HNU.out, rfl, HST.out.1, HST.out.2, HB1.out⟩⟩
    case round =>
      obtain ⟨i, C, rfl, hin, hgk, HI⟩ := hrel
      by_cases hlt : i < n
      · have hltz : (i : Int) < (n : Int) := by omega
        have hi0 : (0 : Int) ≤ (i : Int) := by omega
        obtain ⟨f1, f2, f3, f4, f5⟩ := HI.out
        have hiC : i < C.length := by omega
        obtain ⟨u, hu⟩ : ∃ u, C[i]? = some u := ⟨_, List.getElem?_eq_getElem hiC⟩
        have humem : u ∈ C := List.mem_of_getElem? hu
        have hps2 : u.ps.length ≤ 1000000 := by
          have h1 : u.sem ∈ C.map Ru.sem := List.mem_map.2 ⟨u, humem, rfl⟩
          rw [f2] at h1
          obtain ⟨u', hu', he⟩ := List.mem_map.1 h1
          have := HPS.out u' hu'
          have e2 : u'.ps = u.ps := congrArg Rs.ps he
          rwa [e2] at this
        have hcell : wr.cell? ⟨g, i * 10 + 1, none⟩ = some (.slice u.xa u.xn u.xc) := by
          have h1 := f3.2 (i * 10 + 1) (idx_lt (k := 10) hiC (by omega))
          rw [Nat.zero_add] at h1
          have h2 := gvals_at encR 10 encR_len C i hiC 1 (by omega)
          rw [h1.1, h2]
          obtain ⟨_, rfl⟩ := List.getElem?_eq_some_iff.1 hu
          rfl
        have hfz : wr.frozen? ⟨g, i * 10 + 1, none⟩ = false := by
          have h1 := f3.2 (i * 10 + 1) (idx_lt (k := 10) hiC (by omega))
          rw [Nat.zero_add] at h1
          exact h1.2
        have hcp := cloneP_any u.x u.ps wr ((f4 u humem).imp fun b hb => hb.1) hps2
        have HCP := hid hcp
        have HU := hid (And.intro hu humem)
        have HF := hid (And.intro f1 (And.intro f2 (And.intro f3 (And.intro f4 f5))))
        have hgs := f3.1
        clear f1 f2 f3 f4 f5 hiC hu humem hps2 hcp HI
        unfold Ru.x at HCP
        go_wp2_with fail
        refine HCP.out.mono ?_
        rintro e w2 ⟨v2, rfl, hown2, hb2⟩
        obtain ⟨A2, c2, rfl, hgx2, hA2, hlc2, hcm2⟩ := GB.reads encP_len hown2
        have hcell2 : w2.cell? ⟨g, i * 10 + 1, none⟩ = some (.slice u.xa u.xn u.xc) := (hb2.cell (p := ⟨g, i * 10 + 1, none⟩) hgs).trans hcell
        have hfz2 : w2.frozen? ⟨g, i * 10 + 1, none⟩ = false := (hb2.frozen (p := ⟨g, i * 10 + 1, none⟩) hgs).trans hfz
        have H2 := hid (And.intro hgx2 (And.intro hA2 (And.intro hlc2 (And.intro hcm2 hb2))))
        clear hown2 hgx2 hA2 hlc2 hcm2 hb2 hcell hfz
        go_wp2_with fail
        go_roundg (n - (i + 1))
        case measure => omega
        case rel =>
          obtain ⟨f1, f2, f3, f4, f5⟩ := HF.out
          obtain ⟨hu, humem⟩ := HU.out
          obtain ⟨hgx2, hA2, hlc2, hcm2, hb2⟩ := H2.out
          have hg2 : GW encR 10 w2 g 0 C := f3.same (hb2.block g f3.1) hb2.size
          have hsz := hb2.size
          have hkeep : ∀ b, b ≠ g → (w2.setCell ⟨g, i * 10 + 1, none⟩ (.slice A2 u.ps.length c2)).heap[b]? = w2.heap[b]? := fun b hb => Below.heap_setCell _ _ _ b hb
          refine ⟨i + 1, C.set i (u.with_ A2 u.ps.length c2), by go_num, by omega, by omega, ⟨by simp; exact f1, ?_, hg2.cell1 hu A2 u.ps.length c2, fun z hz => ?_, ?_⟩⟩
          · rw [List.map_set, Ru.with_sem, ← f2]
            have : (C.map Ru.sem)[i]? = some u.sem := by rw [List.getElem?_map, hu]; rfl
            obtain ⟨h1, h2⟩ := List.getElem?_eq_some_iff.1 this
            rw [← h2, List.set_getElem_self]
          · rw [World.size_setCell]
            rcases List.mem_or_eq_of_mem_set hz with hz | rfl
            · have h1 := (f4 z hz).same (w' := w2) fun b hb => hb2.block b hb.1
              exact (h1.imp (M := fun b => b < w2.heap.size ∧ b ≠ g ∧ (w.heap.size ≤ b ∨ N b)) fun b hb => ⟨Nat.lt_of_lt_of_le hb.1 hsz, hb.2⟩).same fun b hb => hkeep b hb.2.1
            · refine ⟨A2, c2, rfl, ?_, hA2, hlc2, by unfold maxLen at hcm2; show u.ps.length ≤ _; omega⟩
              have h1 : PX w2 (fun b => b < w2.heap.size ∧ b ≠ g ∧ (w.heap.size ≤ b ∨ N b)) A2 u.ps := (hgx2.imp fun b hb => ⟨hb.2, by have := f3.1; have := hb.1; omega, Or.inl (Nat.le_trans f5.size hb.1)⟩).px
              exact h1.same fun b hb => hkeep b hb.2.1
          · exact (f5.trans (hb2.mono (by have := f5.size; omega))).setCell (by have := HG.out.1; exact this) _
      · obtain rfl : i = n := by omega
        have hltz : ¬ (i : Int) < (i : Int) := by omega
        obtain ⟨f1, f2, f3, f4, f5⟩ := HI.out
        have hs := sortStable_any g cap i C f1.symm h40 wr f3
        have HS := hid hs
        have HF := hid (And.intro f1 (And.intro f2 (And.intro f3 (And.intro f4 f5))))
        clear hs f1 f2 f3 f4 f5 HI
        go_wp2_with fail
        refine HS.out.mono ?_
        rintro e w2 ⟨rfl, hg2, ho2⟩
        have H2 := hid (And.intro hg2 ho2)
        clear hg2 ho2
        go_wp2_with fail
        go_returns
        obtain ⟨f1, f2, f3, f4, f5⟩ := HF.out
        obtain ⟨hg2, ho2⟩ := H2.out
        refine ⟨_, ordB rkR C, rfl, ⟨⟨some ⟨g, 0, none⟩, cap, by rw [ordB_length, f1]; rfl, ?_, ?_, fun h => (by cases h), by rw [ordB_length, f1]; have := HG.out.2.1; exact this, by rw [ordB_length, f1]; omega⟩, by rw [ordB_sem, f2]⟩, ?_⟩
        · intro j hj
          refine ⟨g, 0, rfl, Or.inl ⟨HG.out.1, hg2.1⟩, fun q hq => ?_⟩
          have h1 := hg2.2 (j * 10 + q) (idx_lt (k := 10) hj hq)
          rw [h1.1]
          exact gvals_at encR 10 encR_len _ j hj q hq
        · have h1 : RP w2 (fun b => b < w2.heap.size ∧ b ≠ g ∧ (w.heap.size ≤ b ∨ N b)) C := (f4.same fun b hb => ho2.block b hb.1 hb.2.1).imp fun b hb => ⟨Nat.lt_of_lt_of_le hb.1 ho2.size, hb.2⟩
          exact (h1.imp fun b hb => hb.2.2.elim (fun h => Or.inl ⟨h, hb.1⟩) Or.inr).sub fun u hu => mem_ordB hu
        · have hg1 := HG.out.1
          have hsz := f5.size
          exact ⟨ho2.os.trans f5.os, ho2.tape.trans f5.tape, ho2.output.trans f5.output, Nat.le_trans hsz ho2.size, fun k hk => (ho2.block k (by omega) (by omega)).trans (f5.block k hk)⟩
theorem rorder_in (N : Nat → Prop) (y : Value) (U : List Ru) (w : World) (hy : RN w N y U) (hN : ∀ b, N b → b < w.heap.size) (hl : U.length ≤ 1000) :
    Calls Try.prog 24 #[y] w fun e w' => ∃ v V, e = .returned v ∧ (RN w' (fun b => (w.heap.size ≤ b ∧ b < w'.heap.size) ∨ N b) v V ∧ V.map Ru.sem = ordB rkS (U.map Ru.sem)) ∧ Below w.heap.size w w' := by
  obtain ⟨A, c, rfl, hx, hp, hA, hlc, hl9⟩ := hy
  refine (rorder_any A c U w (hx.imp hN) hl).mono ?_
  rintro e w' ⟨v, rfl, hg, hb⟩
  obtain ⟨A', cap, rfl, hgx, hA', hlc', hcm⟩ := GB.reads encR_len hg
  refine ⟨_, ordB rkR U, rfl, ⟨⟨A', cap, rfl, hgx.imp fun b hb => Or.inl hb, fun u hu => ((hp u (mem_ordB hu)).same fun b hb' => hb.block b (hN b hb')).imp fun b hb => Or.inr hb, hA', hlc', by unfold maxLen at hcm; omega⟩, ordB_sem U⟩, hb⟩
end Go.Proofs.Ytingjembjpckcaa
namespace Go.Proofs.Ytingjembjpckcaa
set_option linter.unusedVariables false
set_option linter.unusedSimpArgs false
open Go.RowKit Go.Joins

/-- A table: its version, its format, its rules. -/
abbrev Tt := Int × List UInt8 × List Rs
def noT : Tt := (0, [], [])
def badV (v : Int) : Bool := decide (v < 1) || decide (1099511627776 < v)
def compT (v : Int) (f : List UInt8) (U : List Rs) (l : List (List UInt8)) : Int × Tt :=
  if badV v = true then (12, noT) else if chkC (chkR · l) f U ≠ 0 then (chkC (chkR · l) f U, noT) else (0, (v, f, ordB rkS U))
/-- A table, as a value that can be read. -/
def TV (w : World) (t : Value) (T : Tt) : Prop := ∃ y V, t = .agg #[.int .i64 T.1, y, .string (bs T.2.1)] ∧ RV w y V ∧ V.map Ru.sem = T.2.2
theorem TV.up {w w' : World} {t : Value} {T : Tt} (h : TV w t T) (hb : Below w.heap.size w w') : TV w' t T := by
  obtain ⟨y, V, e, h1, h2⟩ := h
  exact ⟨y, V, e, h1.up hb, h2⟩
theorem rv_none (w : World) : RV w (.slice none 0 0) [] := ⟨none, 0, rfl, GX.nil _ _ _, fun u hu => (by cases hu), fun _ => rfl, Nat.le_refl _, by simp⟩
theorem TV.none (w : World) : TV w (.agg #[.int .i64 0, .slice none 0 0, .string (bs [])]) noT := ⟨_, [], rfl, rv_none w, rfl⟩
/-- A variable that holds a table. -/
def BT (w : World) (g : Nat) (v : Int) (y : Value) (f : List UInt8) : Prop := Bk w g 30 #[.int .i64 v, y, .string (bs f)]
theorem BT.new (w : World) (v : Int) (y : Value) (f : List UInt8) : BT (w.alloc (.cells #[.int .i64 v, y, .string (bs f)] 30)) w.heap.size v y f := Bk.new _ _ _
theorem BT.up {w w' : World} {g : Nat} {v : Int} {y : Value} {f : List UInt8} (k : BT w g v y f) (hb : Below w.heap.size w w') : BT w' g v y f := Bk.up k hb
theorem BT.cells {w : World} {g : Nat} {v : Int} {y : Value} {f : List UInt8} (k : BT w g v y f) : w.cell? ⟨g, 0, none⟩ = some (.int .i64 v) ∧ w.cell? ⟨g, 1, none⟩ = some y ∧ w.cell? ⟨g, 2, none⟩ = some (.string (bs f)) := ⟨Bk.cell k 0, Bk.cell k 1, Bk.cell k 2⟩
theorem BT.set3 {w : World} {g : Nat} {v : Int} {y : Value} {f : List UInt8} (k : BT w g v y f) (v' : Int) (y' : Value) (f' : List UInt8) : BT (((w.setCell ⟨g, 0, none⟩ (.int .i64 v')).setCell ⟨g, 1, none⟩ y').setCell ⟨g, 2, none⟩ (.string (bs f'))) g v' y' f' := by
  have := ((Bk.set_ k 0 (.int .i64 v')).set_ 1 y').set_ 2 (.string (bs f'))
  exact this
theorem BT.froz {w : World} {g : Nat} {v : Int} {y : Value} {f : List UInt8} (k : BT w g v y f) : w.frozen? ⟨g, 0, none⟩ = false ∧ w.frozen? ⟨g, 1, none⟩ = false ∧ w.frozen? ⟨g, 2, none⟩ = false := ⟨Bk.frozen k 0, Bk.frozen k 1, Bk.frozen k 2⟩
theorem below_set3 {B : Nat} {w w' : World} (h : Below B w w') (g : Nat) (hg : B ≤ g) (a b c : Value) : Below B w (((w'.setCell ⟨g, 0, none⟩ a).setCell ⟨g, 1, none⟩ b).setCell ⟨g, 2, none⟩ c) :=
  Below.setCell (Below.setCell (Below.setCell h hg _) hg _) hg _
theorem rn_set3 {w : World} {N : Nat → Prop} {y : Value} {V : List Ru} (h : RN w N y V) (g : Nat) (hg : ∀ b, N b → b ≠ g) (hs : ∀ b, N b → b < w.heap.size) (a b c : Value) : RV (((w.setCell ⟨g, 0, none⟩ a).setCell ⟨g, 1, none⟩ b).setCell ⟨g, 2, none⟩ c) y V := by
  refine (h.same fun k hk => ?_).rv fun k hk => ?_
  · rw [Below.heap_setCell _ _ _ k (hg k hk), Below.heap_setCell _ _ _ k (hg k hk), Below.heap_setCell _ _ _ k (hg k hk)]
  · rw [World.size_setCell, World.size_setCell, World.size_setCell]; exact hs k hk
theorem chkR_ps {r : Rs} {l : List (List UInt8)} (h : chkR r l = 0) : r.ps.length ≤ 4 := by
  unfold chkR at h
  by_cases h1 : r.rank < 0 ∨ 99 < r.rank
  · rw [if_pos h1] at h; exact absurd h (by omega)
  rw [if_neg h1] at h
  by_cases h2 : 4 < r.ps.length
  · rw [if_pos h2] at h; exact absurd h (by omega)
  omega
theorem chkC_small {f : List UInt8} {U : List Ru} {l : List (List UInt8)} (h : chkC (chkR · l) f (U.map Ru.sem) = 0) : U.length ≤ 16 ∧ ∀ u ∈ U, u.ps.length ≤ 4 := by
  obtain ⟨-, h2, h3⟩ := chkC_ok h
  exact ⟨by simpa using h2, fun u hu => chkR_ps (r := u.sem) (h3 u.sem (List.mem_map.2 ⟨u, hu, rfl⟩))⟩
theorem keepBF0 {w v w' : World} {g : Nat} {y : Value} {f : List UInt8} (k : BF v g y f) (hb : Below w.heap.size w v) (hz : Below v.heap.size v w') : w'.cell? ⟨g, 0, none⟩ = some y ∧ w'.cell? ⟨g, 1, none⟩ = some (.string (bs f)) ∧ Below w.heap.size w w' := by
  obtain ⟨q0, q1⟩ := (k.up hz).cells
  exact ⟨q0, q1, estep hb hz⟩
theorem keepBF3 {w v w' : World} {g : Nat} {y : Value} {f : List UInt8} (k : BF v g y f) (hb : Below w.heap.size w v) (hz : Below v.heap.size v w') (h : Nat) (hh : w.heap.size ≤ h) (hne : h ≠ g) (a b c : Value) : (((w'.setCell ⟨h, 0, none⟩ a).setCell ⟨h, 1, none⟩ b).setCell ⟨h, 2, none⟩ c).cell? ⟨g, 0, none⟩ = some y ∧ (((w'.setCell ⟨h, 0, none⟩ a).setCell ⟨h, 1, none⟩ b).setCell ⟨h, 2, none⟩ c).cell? ⟨g, 1, none⟩ = some (.string (bs f)) ∧ Below w.heap.size w (((w'.setCell ⟨h, 0, none⟩ a).setCell ⟨h, 1, none⟩ b).setCell ⟨h, 2, none⟩ c) := by
  obtain ⟨q0, q1⟩ := (k.up hz).cells
  have hx : ∀ (x : World) (i j : Nat) (u : Value), (x.setCell ⟨h, i, none⟩ u).cell? ⟨g, j, none⟩ = x.cell? ⟨g, j, none⟩ := fun x i j u => World.cell?_setCell_other x ⟨h, i, none⟩ ⟨g, j, none⟩ u (by intro e; injection e with e1; exact hne e1)
  refine ⟨?_, ?_, below_set3 (estep hb hz) h hh a b c⟩
  · rw [hx, hx, hx]; exact q0
  · rw [hx, hx, hx]; exact q1
set_option maxRecDepth 100000 in
set_option maxHeartbeats 8000000 in
theorem tcompile_any (y : Value) (f : List UInt8) (U : List Ru) (v : Int) (ny : Value) (l : List (List UInt8)) (w : World) (hy : RV w y U) (hs : ∀ u ∈ U, okRs u.sem) (hf : f.length ≤ 140737488351232) (hn : TX w (· < w.heap.size) ny l) {z : Int} {T : Tt} (H : Hid (compT v f (U.map Ru.sem) l = (z, T))) :
    Calls Try.prog 9 #[.agg #[y, .string (bs f)], .int .i64 v, ny] w fun e w' => (∃ t, e = .returned (.tuple #[t, .int .i64 z]) ∧ TV w' t T) ∧ Below w.heap.size w w' := by
  have c3 : (ByteArray.mk #[]) = bs [] := rfl
  have hb1 := enew w (.cells #[y, .string (bs f)] 24)
  have hb2 := enew (w.alloc (.cells #[y, .string (bs f)] 24)) (.cells #[.int .i64 0, .slice none 0 0, .string (bs [])] 30)
  have hk0 := (BF.new w y f).up hb2
  have ht0 := BT.new (w.alloc (.cells #[y, .string (bs f)] 24)) 0 (.slice none 0 0) []
  rw [World.size_alloc] at ht0
  have hb0 := estep hb1 hb2
  have HY := hid (And.intro (hy.up hb0) (tx_up hn hb0))
  have HB := hid hb0
  have HYR := hid hy
  have hgg : w.heap.size ≤ w.heap.size + 1 := by omega
  have hgn : w.heap.size + 1 ≠ w.heap.size := by omega
  have H0 := hid H.out
  have HCH := hid (fun (w2 : World) (h1 : RV w2 y U) (h2 : TX w2 (· < w2.heap.size) ny l) (zc : Int) (hz : Hid (chkC (chkR · l) f (U.map Ru.sem) = zc)) => tcheck_any y f U ny l w2 h1 hs hf h2 hz)
  have HC := hid (show compT v f (U.map Ru.sem) l = if badV v = true then (12, noT) else if chkC (chkR · l) f (U.map Ru.sem) ≠ 0 then (chkC (chkR · l) f (U.map Ru.sem), noT) else (0, (v, f, ordB rkS (U.map Ru.sem))) from rfl)
  clear hn hb0 hb1 hb2 hy hs hf H
  go_enter Try.func9, Try.ntmps9
  go_upto_region 1 with (fail)
  generalize (w.alloc (.cells #[y, .string (bs f)] 24)).alloc (.cells #[.int .i64 0, .slice none 0 0, .string (bs [])] 30) = v0 at *
  obtain ⟨k0, k1⟩ := hk0.cells
  obtain ⟨t0, t1, t2⟩ := ht0.cells
  obtain ⟨z0, z1, z2⟩ := ht0.froz
  have HT := hid ht0
  have HK := hid hk0
  clear ht0 hk0
  by_cases hv : badV v = true
  · have HZ := hid (show (12, noT) = (z, T) by rw [← H0.out, HC.out, if_pos hv])
    obtain ⟨e1, e2⟩ := Prod.mk.inj HZ.out
    subst e1 e2
    obtain ⟨a0, a1, a2⟩ := (HT.out.set3 0 (.slice none 0 0) []).cells
    have HB2 := hid (below_set3 HB.out (w.heap.size + 1) hgg (.int .i64 0) (.slice none 0 0) (.string (bs [])))
    have HT2 := hid (fun w2 => TV.none w2)
    clear HCH HC H0 HZ HY HT
    by_cases hv1 : v < 1
    · have d1 : decide (v < 1) = true := decide_eq_true hv1
      clear hv hv1
      have HA := hid (And.intro a0 (And.intro a1 a2))
      clear a0 a1 a2
      go_wp2_with fail
      (try simp only [Exit.inBlock, Exit.then])
      refine bodyPost_ret (v := .tuple #[.agg #[.int .i64 0, .slice none 0 0, .string (bs [])], .int .i64 12]) (by simp [results, Try.results9, go_sem, HA.out.1, HA.out.2.1, HA.out.2.2]; try rfl) rfl ?_
      exact ⟨⟨_, rfl, HT2.out _⟩, HB2.out⟩
    · have d1 : decide (v < 1) = false := decide_eq_false hv1
      have d2 : decide (1099511627776 < v) = true := by rw [badV, d1, Bool.false_or] at hv; exact hv
      clear hv hv1
      have HA := hid (And.intro a0 (And.intro a1 a2))
      clear a0 a1 a2
      go_wp2_with fail
      (try simp only [Exit.inBlock, Exit.then])
      refine bodyPost_ret (v := .tuple #[.agg #[.int .i64 0, .slice none 0 0, .string (bs [])], .int .i64 12]) (by simp [results, Try.results9, go_sem, HA.out.1, HA.out.2.1, HA.out.2.2]; try rfl) rfl ?_
      exact ⟨⟨_, rfl, HT2.out _⟩, HB2.out⟩
  have hvf : badV v = false := by simpa using hv
  rw [badV, Bool.or_eq_false_iff] at hvf
  obtain ⟨d1, d2⟩ := hvf
  have HC1 := hid (show (z, T) = if chkC (chkR · l) f (U.map Ru.sem) ≠ 0 then (chkC (chkR · l) f (U.map Ru.sem), noT) else (0, (v, f, ordB rkS (U.map Ru.sem))) by rw [← H0.out, HC.out, if_neg hv])
  obtain ⟨zc, hzc⟩ : ∃ zc, chkC (chkR · l) f (U.map Ru.sem) = zc := ⟨_, rfl⟩
  rw [hzc] at HC1
  have HZC := hid hzc
  clear hv H0 HC hzc
  go_wp2_with fail
  refine (HCH.out _ HY.out.1 HY.out.2 zc HZC).mono ?_
  rintro e w1 ⟨rfl, hb2⟩
  have HB1 := hid (estep HB.out hb2)
  have HY1 := hid (HY.out.1.up hb2)
  have HYN := hid (tx_up HY.out.2 hb2)
  have hk1 := HK.out.up hb2
  have ht1 := HT.out.up hb2
  clear k0 k1 t0 t1 t2 z0 z1 z2 d1 d2
  obtain ⟨t0, t1, t2⟩ := ht1.cells
  obtain ⟨z0, z1, z2⟩ := ht1.froz
  by_cases hz0 : zc = 0
  · subst hz0
    have HZ := hid (show (z, T) = (0, (v, f, ordB rkS (U.map Ru.sem))) by rw [HC1.out, if_neg (by simp)])
    obtain ⟨e1, e2⟩ := Prod.mk.inj HZ.out
    subst e1 e2
    have hok := chkC_small HZC.out
    have HO := hid (fun (w2 : World) (h : Below w.heap.size w w2) => order_in (· < w.heap.size) y U w2 (HYR.out.rn.same fun b hb => h.block b hb) (fun b hb => Nat.lt_of_lt_of_le hb h.size) (by have := hok.1; omega) (fun u hu => by have := hok.2 u hu; omega))
    have hN : ∀ (w2 w3 : World), w1.heap.size ≤ w2.heap.size → w2.heap.size ≤ w3.heap.size → ∀ b, ((w2.heap.size ≤ b ∧ b < w3.heap.size) ∨ b < w.heap.size) → b ≠ w.heap.size + 1 ∧ b < w3.heap.size := fun w2 w3 h1 h2 b hb => by have := Bk.lt ht1; omega
    have HN := hid hN
    clear hN
    have HB2 := hid hb2
    have HT1 := hid ht1
    have HK1 := hid hk1
    have hsz1 : w.heap.size + 1 < w1.heap.size := Bk.lt ht1
    clear HCH HC1 HZ hok hb2 HT HK HY
    go_upto_region 6 with (fail)
    clear t0 t1 t2 z0 z1 z2
    obtain ⟨k0, k1⟩ := HK1.out.cells
    obtain ⟨t0, t1, t2⟩ := HT1.out.cells
    obtain ⟨z0, z1, z2⟩ := HT1.out.froz
    have hz : Below w1.heap.size w1 w1.drew := (Below.refl _ _).drew
    go_region_held3 (fun w' => w'.cell? ⟨w.heap.size, 0, none⟩ = some y ∧ w'.cell? ⟨w.heap.size, 1, none⟩ = some (.string (bs f)) ∧ Below w.heap.size w w') (first | (with_reducible exact keepBF0 HK1.out HB1.out hz) | (with_reducible exact keepBF0 HK1.out HB1.out (hz.trans (Below.mono (by assumption) hz.size))) | (with_reducible exact keepBF3 HK1.out HB1.out hz _ hgg hgn _ _ _)) (first
      | (go_at_call 23
         ((with_reducible refine (HO.out _ (estep HB1.out hz)).mono ?_); rintro e w5 ⟨y1, V1, rfl, ⟨hrv1, hvm1⟩, hy5⟩)
         obtain ⟨A1, c1, rfl, -⟩ := id hrv1
         have hzs := hz.size
         have hzt := hy5.size
         have hz := hz.trans (hy5.mono hz.size)
         have ht5 := HT1.out.up hz
         obtain ⟨t0, t1, t2⟩ := ht5.cells
         obtain ⟨z0, z1, z2⟩ := ht5.froz))
    all_goals
      obtain ⟨a0, a1, a2⟩ := (ht5.set3 v (.slice A1 V1.length c1) f).cells
      have HB3 := hid (below_set3 (estep HB1.out hz) (w.heap.size + 1) hgg (.int .i64 v) (.slice A1 V1.length c1) (.string (bs f)))
      have hgl := hsz1
      have HA := hid (And.intro a0 (And.intro a1 a2))
      clear a0 a1 a2
      go_wp2_with fail
      (try simp only [Exit.inBlock, Exit.then])
      refine bodyPost_ret (v := .tuple #[.agg #[.int .i64 v, .slice A1 V1.length c1, .string (bs f)], .int .i64 0]) (by simp [results, Try.results9, go_sem, HA.out.1, HA.out.2.1, HA.out.2.2]; try rfl) rfl ?_
      refine ⟨⟨_, rfl, _, V1, rfl, ?_, hvm1⟩, HB3.out⟩
      exact rn_set3 hrv1 (w.heap.size + 1) (fun b hb => (HN.out _ _ hzs hzt b hb).1) (fun b hb => (HN.out _ _ hzs hzt b hb).2) _ _ _
  · have hz1 : (zc != 0) = true := by simpa using hz0
    have hz2 : decide (zc = 0) = false := decide_eq_false hz0
    have hz3 : (!decide (zc = 0)) = true := by rw [hz2]; rfl
    have HZ := hid (show (z, T) = (zc, noT) by rw [HC1.out, if_pos hz0])
    obtain ⟨rfl, rfl⟩ := Prod.mk.inj HZ.out
    obtain ⟨a0, a1, a2⟩ := (ht1.set3 0 (.slice none 0 0) []).cells
    have HB2 := hid (below_set3 HB1.out (w.heap.size + 1) hgg (.int .i64 0) (.slice none 0 0) (.string (bs [])))
    have HT2 := hid (fun w2 => TV.none w2)
    clear hb2 hz0 HY HC1 HZ HT HK
    have HA := hid (And.intro a0 (And.intro a1 a2))
    clear a0 a1 a2
    clear HCH hk1 ht1
    go_wp2_with fail
    (try simp only [Exit.inBlock, Exit.then])
    refine bodyPost_ret (v := .tuple #[.agg #[.int .i64 0, .slice none 0 0, .string (bs [])], .int .i64 z]) (by simp [results, Try.results9, go_sem, HA.out.1, HA.out.2.1, HA.out.2.2]; try rfl) rfl ?_
    exact ⟨⟨_, rfl, HT2.out _⟩, HB2.out⟩
set_option maxRecDepth 100000 in
set_option maxHeartbeats 8000000 in
theorem rtcompile_any (y : Value) (f : List UInt8) (U : List Ru) (v : Int) (ny : Value) (l : List (List UInt8)) (w : World) (hy : RV w y U) (hs : ∀ u ∈ U, okRs u.sem) (hf : f.length ≤ 140737488351232) (hn : TX w (· < w.heap.size) ny l) {z : Int} {T : Tt} (H : Hid (compT v f (U.map Ru.sem) l = (z, T))) :
    Calls Try.prog 10 #[.agg #[y, .string (bs f)], .int .i64 v, ny] w fun e w' => (∃ t, e = .returned (.tuple #[t, .int .i64 z]) ∧ TV w' t T) ∧ Below w.heap.size w w' := by
  have c3 : (ByteArray.mk #[]) = bs [] := rfl
  have hb1 := enew w (.cells #[y, .string (bs f)] 24)
  have hb2 := enew (w.alloc (.cells #[y, .string (bs f)] 24)) (.cells #[.int .i64 0, .slice none 0 0, .string (bs [])] 30)
  have hk0 := (BF.new w y f).up hb2
  have ht0 := BT.new (w.alloc (.cells #[y, .string (bs f)] 24)) 0 (.slice none 0 0) []
  rw [World.size_alloc] at ht0
  have hb0 := estep hb1 hb2
  have HY := hid (And.intro (hy.up hb0) (tx_up hn hb0))
  have HB := hid hb0
  have HYR := hid hy
  have hgg : w.heap.size ≤ w.heap.size + 1 := by omega
  have hgn : w.heap.size + 1 ≠ w.heap.size := by omega
  have H0 := hid H.out
  have HCH := hid (fun (w2 : World) (h1 : RV w2 y U) (h2 : TX w2 (· < w2.heap.size) ny l) (zc : Int) (hz : Hid (chkC (chkR · l) f (U.map Ru.sem) = zc)) => rtcheck_any y f U ny l w2 h1 hs hf h2 hz)
  have HC := hid (show compT v f (U.map Ru.sem) l = if badV v = true then (12, noT) else if chkC (chkR · l) f (U.map Ru.sem) ≠ 0 then (chkC (chkR · l) f (U.map Ru.sem), noT) else (0, (v, f, ordB rkS (U.map Ru.sem))) from rfl)
  clear hn hb0 hb1 hb2 hy hs hf H
  go_enter Try.func10, Try.ntmps10
  go_upto_region 1 with (fail)
  generalize (w.alloc (.cells #[y, .string (bs f)] 24)).alloc (.cells #[.int .i64 0, .slice none 0 0, .string (bs [])] 30) = v0 at *
  obtain ⟨k0, k1⟩ := hk0.cells
  obtain ⟨t0, t1, t2⟩ := ht0.cells
  obtain ⟨z0, z1, z2⟩ := ht0.froz
  have HT := hid ht0
  have HK := hid hk0
  clear ht0 hk0
  by_cases hv : badV v = true
  · have HZ := hid (show (12, noT) = (z, T) by rw [← H0.out, HC.out, if_pos hv])
    obtain ⟨e1, e2⟩ := Prod.mk.inj HZ.out
    subst e1 e2
    obtain ⟨a0, a1, a2⟩ := (HT.out.set3 0 (.slice none 0 0) []).cells
    have HB2 := hid (below_set3 HB.out (w.heap.size + 1) hgg (.int .i64 0) (.slice none 0 0) (.string (bs [])))
    have HT2 := hid (fun w2 => TV.none w2)
    clear HCH HC H0 HZ HY HT
    by_cases hv1 : v < 1
    · have d1 : decide (v < 1) = true := decide_eq_true hv1
      clear hv hv1
      have HA := hid (And.intro a0 (And.intro a1 a2))
      clear a0 a1 a2
      go_wp2_with fail
      (try simp only [Exit.inBlock, Exit.then])
      refine bodyPost_ret (v := .tuple #[.agg #[.int .i64 0, .slice none 0 0, .string (bs [])], .int .i64 12]) (by simp [results, Try.results10, go_sem, HA.out.1, HA.out.2.1, HA.out.2.2]; try rfl) rfl ?_
      exact ⟨⟨_, rfl, HT2.out _⟩, HB2.out⟩
    · have d1 : decide (v < 1) = false := decide_eq_false hv1
      have d2 : decide (1099511627776 < v) = true := by rw [badV, d1, Bool.false_or] at hv; exact hv
      clear hv hv1
      have HA := hid (And.intro a0 (And.intro a1 a2))
      clear a0 a1 a2
      go_wp2_with fail
      (try simp only [Exit.inBlock, Exit.then])
      refine bodyPost_ret (v := .tuple #[.agg #[.int .i64 0, .slice none 0 0, .string (bs [])], .int .i64 12]) (by simp [results, Try.results10, go_sem, HA.out.1, HA.out.2.1, HA.out.2.2]; try rfl) rfl ?_
      exact ⟨⟨_, rfl, HT2.out _⟩, HB2.out⟩
  have hvf : badV v = false := by simpa using hv
  rw [badV, Bool.or_eq_false_iff] at hvf
  obtain ⟨d1, d2⟩ := hvf
  have HC1 := hid (show (z, T) = if chkC (chkR · l) f (U.map Ru.sem) ≠ 0 then (chkC (chkR · l) f (U.map Ru.sem), noT) else (0, (v, f, ordB rkS (U.map Ru.sem))) by rw [← H0.out, HC.out, if_neg hv])
  obtain ⟨zc, hzc⟩ : ∃ zc, chkC (chkR · l) f (U.map Ru.sem) = zc := ⟨_, rfl⟩
  rw [hzc] at HC1
  have HZC := hid hzc
  clear hv H0 HC hzc
  go_wp2_with fail
  refine (HCH.out _ HY.out.1 HY.out.2 zc HZC).mono ?_
  rintro e w1 ⟨rfl, hb2⟩
  have HB1 := hid (estep HB.out hb2)
  have HY1 := hid (HY.out.1.up hb2)
  have HYN := hid (tx_up HY.out.2 hb2)
  have hk1 := HK.out.up hb2
  have ht1 := HT.out.up hb2
  clear k0 k1 t0 t1 t2 z0 z1 z2 d1 d2
  obtain ⟨t0, t1, t2⟩ := ht1.cells
  obtain ⟨z0, z1, z2⟩ := ht1.froz
  by_cases hz0 : zc = 0
  · subst hz0
    have HZ := hid (show (z, T) = (0, (v, f, ordB rkS (U.map Ru.sem))) by rw [HC1.out, if_neg (by simp)])
    obtain ⟨e1, e2⟩ := Prod.mk.inj HZ.out
    subst e1 e2
    have hok := chkC_small HZC.out
    have HO := hid (fun (w2 : World) (h : Below w.heap.size w w2) => rorder_in (· < w.heap.size) y U w2 (HYR.out.rn.same fun b hb => h.block b hb) (fun b hb => Nat.lt_of_lt_of_le hb h.size) (by have := hok.1; omega))
    have hN : ∀ (w2 w3 : World), w1.heap.size ≤ w2.heap.size → w2.heap.size ≤ w3.heap.size → ∀ b, ((w2.heap.size ≤ b ∧ b < w3.heap.size) ∨ b < w.heap.size) → b ≠ w.heap.size + 1 ∧ b < w3.heap.size := fun w2 w3 h1 h2 b hb => by have := Bk.lt ht1; omega
    have HN := hid hN
    clear hN
    have HB2 := hid hb2
    have HT1 := hid ht1
    have HK1 := hid hk1
    have hsz1 : w.heap.size + 1 < w1.heap.size := Bk.lt ht1
    clear HCH HC1 HZ hok hb2 HT HK HY
    go_upto_region 5 with (fail)
    clear t0 t1 t2 z0 z1 z2
    obtain ⟨k0, k1⟩ := HK1.out.cells
    obtain ⟨t0, t1, t2⟩ := HT1.out.cells
    obtain ⟨z0, z1, z2⟩ := HT1.out.froz
    have hz : Below w1.heap.size w1 w1.drew := (Below.refl _ _).drew
    go_region_held3 (fun w' => w'.cell? ⟨w.heap.size, 0, none⟩ = some y ∧ w'.cell? ⟨w.heap.size, 1, none⟩ = some (.string (bs f)) ∧ Below w.heap.size w w') (first | (with_reducible exact keepBF0 HK1.out HB1.out hz) | (with_reducible exact keepBF0 HK1.out HB1.out (hz.trans (Below.mono (by assumption) hz.size))) | (with_reducible exact keepBF3 HK1.out HB1.out hz _ hgg hgn _ _ _)) (first
      | (go_at_call 24
         ((with_reducible refine (HO.out _ (estep HB1.out hz)).mono ?_); rintro e w5 ⟨y1, V1, rfl, ⟨hrv1, hvm1⟩, hy5⟩)
         obtain ⟨A1, c1, rfl, -⟩ := id hrv1
         have hzs := hz.size
         have hzt := hy5.size
         have hz := hz.trans (hy5.mono hz.size)
         have ht5 := HT1.out.up hz
         obtain ⟨t0, t1, t2⟩ := ht5.cells
         obtain ⟨z0, z1, z2⟩ := ht5.froz))
    all_goals
      obtain ⟨a0, a1, a2⟩ := (ht5.set3 v (.slice A1 V1.length c1) f).cells
      have HB3 := hid (below_set3 (estep HB1.out hz) (w.heap.size + 1) hgg (.int .i64 v) (.slice A1 V1.length c1) (.string (bs f)))
      have hgl := hsz1
      have HA := hid (And.intro a0 (And.intro a1 a2))
      clear a0 a1 a2
      go_wp2_with fail
      (try simp only [Exit.inBlock, Exit.then])
      refine bodyPost_ret (v := .tuple #[.agg #[.int .i64 v, .slice A1 V1.length c1, .string (bs f)], .int .i64 0]) (by simp [results, Try.results10, go_sem, HA.out.1, HA.out.2.1, HA.out.2.2]; try rfl) rfl ?_
      refine ⟨⟨_, rfl, _, V1, rfl, ?_, hvm1⟩, HB3.out⟩
      exact rn_set3 hrv1 (w.heap.size + 1) (fun b hb => (HN.out _ _ hzs hzt b hb).1) (fun b hb => (HN.out _ _ hzs hzt b hb).2) _ _ _
  · have hz1 : (zc != 0) = true := by simpa using hz0
    have hz2 : decide (zc = 0) = false := decide_eq_false hz0
    have hz3 : (!decide (zc = 0)) = true := by rw [hz2]; rfl
    have HZ := hid (show (z, T) = (zc, noT) by rw [HC1.out, if_pos hz0])
    obtain ⟨rfl, rfl⟩ := Prod.mk.inj HZ.out
    obtain ⟨a0, a1, a2⟩ := (ht1.set3 0 (.slice none 0 0) []).cells
    have HB2 := hid (below_set3 HB1.out (w.heap.size + 1) hgg (.int .i64 0) (.slice none 0 0) (.string (bs [])))
    have HT2 := hid (fun w2 => TV.none w2)
    clear hb2 hz0 HY HC1 HZ HT HK
    have hy2 := HY1.out
    obtain ⟨k0, k1⟩ := hk1.cells
    have HH2 := hid (HCH.out w1 HY1.out HYN.out z HZC)
    go_wp2_with fail
    refine HH2.out.mono ?_
    rintro e w2 ⟨rfl, hb3⟩
    have ht2 := ht1.up hb3
    clear t0 t1 t2 z0 z1 z2 k0 k1
    obtain ⟨t0, t1, t2⟩ := ht2.cells
    obtain ⟨z0, z1, z2⟩ := ht2.froz
    obtain ⟨a0, a1, a2⟩ := (ht2.set3 0 (.slice none 0 0) []).cells
    have HB2 := hid (below_set3 (estep HB1.out hb3) (w.heap.size + 1) hgg (.int .i64 0) (.slice none 0 0) (.string (bs [])))
    have HA := hid (And.intro a0 (And.intro a1 a2))
    clear a0 a1 a2 hb3
    go_wp2_with fail
    (try simp only [Exit.inBlock, Exit.then])
    refine bodyPost_ret (v := .tuple #[.agg #[.int .i64 0, .slice none 0 0, .string (bs [])], .int .i64 z]) (by simp [results, Try.results10, go_sem, HA.out.1, HA.out.2.1, HA.out.2.2]; try rfl) rfl ?_
    exact ⟨⟨_, rfl, HT2.out _⟩, HB2.out⟩
end Go.Proofs.Ytingjembjpckcaa
namespace Go.Proofs.Ytingjembjpckcaa
set_option linter.unusedVariables false
set_option linter.unusedSimpArgs false

section
variable {α : Type} {key : α → Int}
/-- How many of the first n have this key. -/
def cntK (key : α → Int) (r : Int) (L : List α) (n : Nat) : Nat := ((L.take n).filter (fun x => decide (key x = r))).length
theorem cntK_zero (r : Int) (L : List α) : cntK key r L 0 = 0 := by simp [cntK]
theorem cntK_succ (r : Int) {L : List α} {i : Nat} {x : α} (h : L[i]? = some x) : cntK key r L (i + 1) = cntK key r L i + if key x = r then 1 else 0 := by
  obtain ⟨hi, rfl⟩ := List.getElem?_eq_some_iff.1 h
  unfold cntK
  rw [List.take_add_one, List.filter_append, List.length_append, List.getElem?_eq_getElem hi]
  by_cases e : key L[i] = r <;> simp [e]
theorem filter_at (r : Int) {L : List α} {i : Nat} {x : α} (h : L[i]? = some x) (hr : key x = r) : (L.filter (fun x => decide (key x = r)))[cntK key r L i]? = some x := by
  obtain ⟨hi, rfl⟩ := List.getElem?_eq_some_iff.1 h
  have e : L.filter (fun x => decide (key x = r)) = (L.take i).filter (fun x => decide (key x = r)) ++ (L.drop i).filter (fun x => decide (key x = r)) := by
    rw [← List.filter_append, List.take_append_drop]
  unfold cntK
  rw [e, List.getElem?_append_right (Nat.le_refl _), Nat.sub_self]
  rw [List.drop_eq_getElem_cons hi, List.filter_cons, if_pos (by simpa using hr)]
  rfl
theorem cntK_all (r : Int) (L : List α) : cntK key r L L.length = (L.filter (fun x => decide (key x = r))).length := by unfold cntK; rw [List.take_length]
theorem cntK_none {T : List α} (hs : Srt key T) {i : Nat} {x y : α} (hx : T[i + 1]? = some x) (hy : T[i]? = some y) (hne : key x ≠ key y) : cntK key (key x) T (i + 1) = 0 := by
  unfold cntK
  rw [List.length_eq_zero_iff, List.filter_eq_nil_iff]
  intro z hz
  obtain ⟨j, hj, hjl, hk⟩ := mem_kat_take (key := key) hz
  have hil := (List.getElem?_eq_some_iff.1 hx).1
  have h1 := srt_kat hs (i := j) (j := i) (by omega) (by omega)
  have h2 := srt_kat hs (i := i) (j := i + 1) (by omega) hil
  rw [kat_eq hx, kat_eq hy] at h2
  rw [kat_eq hy] at h1
  simp
  omega
theorem srt_next {T : List α} (hs : Srt key T) {i : Nat} {x y : α} (hx : T[i + 1]? = some x) (hy : T[i]? = some y) : key x ≤ key y := by
  have h2 := srt_kat hs (i := i) (j := i + 1) (by omega) (List.getElem?_eq_some_iff.1 hx).1
  rwa [kat_eq hx, kat_eq hy] at h2
end

theorem fstK_spec (hit : Ru → Bool) (U : List Ru) : ∀ n, n ≤ U.length → match fstK hit U n with
    | none => ∀ j u, j < n → U[j]? = some u → hit u = false
    | some k => k < n ∧ ∃ u, U[k]? = some u ∧ hit u = true ∧ ∀ j v, j < n → U[j]? = some v → hit v = true → v.rank ≤ u.rank ∧ (v.rank = u.rank → k ≤ j)
  | 0, _ => by simp [fstK]
  | n + 1, hn => by
    have ih := fstK_spec hit U n (by omega)
    have hu : U[n]? = some U[n] := List.getElem?_eq_getElem (by omega)
    cases hf : fstK hit U n with
    | none =>
      rw [hf] at ih
      rw [fstK_none hu hf]
      by_cases hh : hit U[n] = true
      · rw [if_pos hh]
        refine ⟨by omega, _, hu, hh, fun j v hj hv hit' => ?_⟩
        rcases Nat.lt_or_ge j n with h | h
        · rw [ih j v h hv] at hit'; cases hit'
        · obtain rfl : j = n := by omega
          rw [hu] at hv
          obtain rfl := Option.some.inj hv
          exact ⟨Int.le_refl _, fun _ => Nat.le_refl _⟩
      · rw [if_neg hh]
        intro j v hj hv
        rcases Nat.lt_or_ge j n with h | h
        · exact ih j v h hv
        · obtain rfl : j = n := by omega
          rw [hu] at hv
          obtain rfl := Option.some.inj hv
          simpa using hh
    | some k =>
      rw [hf] at ih
      obtain ⟨hk, u, huk, hhu, hall⟩ := ih
      rw [fstK_some hu hf, kat_eq (key := rkR) huk]
      by_cases hh : hit U[n] = true ∧ rkR u < U[n].rank
      · rw [if_pos hh]
        refine ⟨by omega, _, hu, hh.1, fun j v hj hv hit' => ?_⟩
        rcases Nat.lt_or_ge j n with h | h
        · have := (hall j v h hv hit').1
          have h2 := hh.2
          unfold rkR at h2
          exact ⟨by omega, fun e => by omega⟩
        · obtain rfl : j = n := by omega
          rw [hu] at hv
          obtain rfl := Option.some.inj hv
          exact ⟨Int.le_refl _, fun _ => Nat.le_refl _⟩
      · rw [if_neg hh]
        refine ⟨by omega, u, huk, hhu, fun j v hj hv hit' => ?_⟩
        rcases Nat.lt_or_ge j n with h | h
        · exact hall j v h hv hit'
        · obtain rfl : j = n := by omega
          rw [hu] at hv
          obtain rfl := Option.some.inj hv
          have : ¬ (rkR u < U[j].rank) := fun h => hh ⟨hit', h⟩
          unfold rkR at this
          exact ⟨by omega, fun _ => by omega⟩
theorem map_at {U : List Ru} {T : List Rs} (h : U.map Ru.sem = T) {i : Nat} {u : Ru} (hu : U[i]? = some u) : T[i]? = some u.sem := by
  rw [← h, List.getElem?_map, hu]; rfl
theorem at_map {U : List Ru} {T : List Rs} (h : U.map Ru.sem = T) {i : Nat} {s : Rs} (hs : T[i]? = some s) : ∃ u, U[i]? = some u ∧ u.sem = s := by
  rw [← h, List.getElem?_map] at hs
  cases hu : U[i]? with
  | none => rw [hu] at hs; cases hs
  | some u => rw [hu] at hs; exact ⟨u, rfl, Option.some.inj hs⟩
/-- None hits in what is ordered: none is first, neither here nor there. -/
theorem fst_none {hit : Rs → Bool} {U : List Ru} {T : List Rs} (hm : ∀ s ∈ U.map Ru.sem, s ∈ T) (h0 : ∀ j s, j < T.length → T[j]? = some s → hit s = false) : fstK (fun u => hit u.sem) U U.length = none := by
  have h := fstK_spec (fun u => hit u.sem) U U.length (Nat.le_refl _)
  cases hf : fstK (fun u => hit u.sem) U U.length with
  | none => rfl
  | some k =>
    rw [hf] at h
    obtain ⟨hk, u, hu, hh, -⟩ := h
    have hmem : u.sem ∈ T := hm _ (List.mem_map.2 ⟨u, List.mem_of_getElem? hu, rfl⟩)
    obtain ⟨j, hj, hs⟩ := List.getElem_of_mem hmem
    rw [h0 j u.sem hj (by rw [List.getElem?_eq_getElem hj, hs])] at hh
    cases hh
/-- The first that hits of a sorted list is the one that First finds there. -/
theorem fst_sorted {hit : Rs → Bool} {V : List Ru} {T : List Rs} (hV : V.map Ru.sem = T) (hs : Srt rkS T) {f : Nat} {s : Rs} (hf : T[f]? = some s) (hh : hit s = true) (h0 : ∀ j t, j < f → T[j]? = some t → hit t = false) : fstK (fun u => hit u.sem) V V.length = some f := by
  obtain ⟨v, hv, hvs⟩ := at_map hV hf
  have hfl := (List.getElem?_eq_some_iff.1 hv).1
  have h := fstK_spec (fun u => hit u.sem) V V.length (Nat.le_refl _)
  cases hk : fstK (fun u => hit u.sem) V V.length with
  | none =>
    rw [hk] at h
    have := h f v hfl hv
    rw [hvs, hh] at this
    cases this
  | some k =>
    rw [hk] at h
    obtain ⟨hkl, u, hu, hhu, hall⟩ := h
    obtain ⟨h1, h2⟩ := hall f v hfl hv (by rw [hvs]; exact hh)
    have hfk : f ≤ k := by
      rcases Nat.lt_or_ge k f with h | h
      · have := h0 k _ h (map_at hV hu)
        rw [this] at hhu
        cases hhu
      · exact h
    have h3 := srt_kat hs hfk (by rw [← hV, List.length_map]; exact hkl)
    rw [kat_eq (map_at hV hu), kat_eq (map_at hV hv)] at h3
    have h4 : v.rank = u.rank := by
      have : u.rank ≤ v.rank := h3
      omega
    have := h2 h4
    rw [show k = f by omega]
theorem find_least {α : Type} {p : α → Bool} {L : List α} {k : Nat} {x : α} (hx : L[k]? = some x) (hp : p x = true) (h0 : ∀ j y, j < k → L[j]? = some y → p y = false) : L.find? p = some x := by
  obtain ⟨hk, rfl⟩ := List.getElem?_eq_some_iff.1 hx
  rw [List.find?_eq_some_iff_getElem]
  exact ⟨hp, k, hk, rfl, fun j hj => by simpa using h0 j _ hj (List.getElem?_eq_getElem (by omega))⟩
/-- It is the same rule as the one that First finds of those as they stood. -/
theorem fst_stood {hit : Rs → Bool} {U : List Ru} {T : List Rs} (he : Eqv rkS (U.map Ru.sem) T) (hs : Srt rkS T) {f : Nat} {s : Rs} (hf : T[f]? = some s) (hh : hit s = true) (h0 : ∀ j t, j < f → T[j]? = some t → hit t = false) :
    ∃ k u, fstK (fun u => hit u.sem) U U.length = some k ∧ U[k]? = some u ∧ u.sem = s := by
  have hsT : s ∈ T := List.mem_of_getElem? hf
  have hsU : s ∈ U.map Ru.sem := he.symm.mem hsT
  obtain ⟨v, hvU, hvs⟩ := List.mem_map.1 hsU
  obtain ⟨j, hj, hvj⟩ := List.getElem_of_mem hvU
  have hv : U[j]? = some v := by rw [List.getElem?_eq_getElem hj, hvj]
  have h := fstK_spec (fun u => hit u.sem) U U.length (Nat.le_refl _)
  cases hk : fstK (fun u => hit u.sem) U U.length with
  | none =>
    rw [hk] at h
    have := h j v hj hv
    rw [hvs, hh] at this
    cases this
  | some k =>
    rw [hk] at h
    obtain ⟨hkl, u, hu, hhu, hall⟩ := h
    obtain ⟨h1, -⟩ := hall j v hj hv (by rw [hvs]; exact hh)
    have hut : u.sem ∈ T := he.mem (List.mem_map.2 ⟨u, List.mem_of_getElem? hu, rfl⟩)
    obtain ⟨g, hg, hgu⟩ := List.getElem_of_mem hut
    have hgu' : T[g]? = some u.sem := by rw [List.getElem?_eq_getElem hg, hgu]
    have hfg : f ≤ g := by
      rcases Nat.lt_or_ge g f with h | h
      · have := h0 g _ h hgu'
        rw [this] at hhu
        cases hhu
      · exact h
    have h3 := srt_kat hs hfg hg
    rw [kat_eq hgu', kat_eq hf] at h3
    have hr : u.rank = s.rank := by
      have a1 : u.rank ≤ s.rank := h3
      have a2 : s.rank = v.rank := by rw [← hvs]; rfl
      omega
    have e1 : T.find? (fun x => hit x && decide (rkS x = s.rank)) = some s := find_least hf (by rw [hh]; simp [rkS]) fun i y hi hy => by rw [h0 i y hi hy]; rfl
    have e2 : (U.map Ru.sem).find? (fun x => hit x && decide (rkS x = s.rank)) = some u.sem := by
      refine find_least (map_at rfl hu) (by rw [hhu]; simp [rkS]; exact hr) fun i y hi hy => ?_
      obtain ⟨x, hx, rfl⟩ := at_map rfl hy
      have hxl := (List.getElem?_eq_some_iff.1 hx).1
      by_cases hhx : hit x.sem = true
      · have hne : x.rank ≠ u.rank := fun e => by have := (hall i x hxl hx hhx).2 e; omega
        rw [hhx]
        simp only [Bool.true_and, decide_eq_false_iff_not]
        intro e
        exact hne (by rw [hr]; exact e)
      · rw [Bool.not_eq_true] at hhx
        rw [hhx]; rfl
    have e3 : ∀ L : List Rs, L.find? (fun x => hit x && decide (rkS x = s.rank)) = (L.filter (fun x => decide (rkS x = s.rank))).find? hit := fun L => by
      rw [List.find?_filter]
      congr 1
      funext x
      cases hit x <;> simp
    rw [e3, ← he s.rank, ← e3, e2] at e1
    exact ⟨k, u, rfl, hu, Option.some.inj e1⟩
end Go.Proofs.Ytingjembjpckcaa
namespace Go.Proofs.Ytingjembjpckcaa
set_option linter.unusedVariables false
set_option linter.unusedSimpArgs false
open Go.RowKit Go.Joins

def rkEq (U V : List Ru) : Bool := decide (U.map rkR = V.map rkR)
theorem rkEq_true {U V : List Ru} (hl : V.length = U.length) (h : ∀ (j : Nat) (a b : Ru), U[j]? = some a → V[j]? = some b → a.rank = b.rank) : rkEq U V = true := by
  refine decide_eq_true (List.ext_getElem (by simp [hl]) fun j h1 h2 => ?_)
  rw [List.getElem_map, List.getElem_map]
  rw [List.length_map] at h1 h2
  exact h j _ _ (List.getElem?_eq_getElem h1) (List.getElem?_eq_getElem h2)
theorem rkEq_false {U V : List Ru} {i : Nat} {a b : Ru} (h1 : U[i]? = some a) (h2 : V[i]? = some b) (h : a.rank ≠ b.rank) : rkEq U V = false := by
  refine decide_eq_false fun e => h ?_
  have := congrArg (fun l : List Int => l[i]?) e
  simp only [List.getElem?_map, h1, h2, Option.map_some] at this
  exact Option.some.inj this
/-- Where ranks are the same up to a place, the rules there are the same: of one rank none has moved. -/
def Stay (U V : List Ru) : Prop := ∀ (i : Nat) (u v : Ru), U[i]? = some u → V[i]? = some v → (∀ (j : Nat) (a b : Ru), j ≤ i → U[j]? = some a → V[j]? = some b → a.rank = b.rank) → u.sem = v.sem
theorem cnt_same {L M : List Rs} (r : Int) : ∀ (i : Nat), (∀ (j : Nat) (a b : Rs), j < i → L[j]? = some a → M[j]? = some b → a.rank = b.rank) → i ≤ L.length → i ≤ M.length → cntK rkS r L i = cntK rkS r M i
  | 0, _, _, _ => by rw [cntK_zero, cntK_zero]
  | i + 1, h, h1, h2 => by
    have hL : L[i]? = some (L[i]'(by omega)) := List.getElem?_eq_getElem _
    have hM : M[i]? = some (M[i]'(by omega)) := List.getElem?_eq_getElem _
    rw [cntK_succ r hL, cntK_succ r hM, cnt_same r i (fun j a b hj => h j a b (by omega)) (by omega) (by omega)]
    have := h i _ _ (by omega) hL hM
    unfold rkS
    rw [this]
theorem stay_ord {U V : List Ru} (he : V.map Ru.sem = ordB rkS (U.map Ru.sem)) : Stay U V := fun i u v hu hv h => by
  have hE : Eqv rkS (V.map Ru.sem) (U.map Ru.sem) := by rw [he]; exact ordB_eqv _
  have hui := (List.getElem?_eq_some_iff.1 hu).1
  have hvi := (List.getElem?_eq_some_iff.1 hv).1
  have hr := h i u v (Nat.le_refl _) hu hv
  have hc := cnt_same (L := U.map Ru.sem) (M := V.map Ru.sem) u.rank i (fun j a b hj ha hb => by
    rw [List.getElem?_map] at ha hb
    obtain ⟨a', ha', rfl⟩ := Option.map_eq_some_iff.1 ha
    obtain ⟨b', hb', rfl⟩ := Option.map_eq_some_iff.1 hb
    exact h j a' b' (by omega) ha' hb') (by simp; omega) (by simp; omega)
  have f1 := filter_at (key := rkS) u.rank (L := U.map Ru.sem) (x := u.sem) (sem_of hu) rfl
  have f2 := filter_at (key := rkS) u.rank (L := V.map Ru.sem) (x := v.sem) (sem_of hv) hr.symm
  rw [← hE u.rank, hc, f2] at f1
  exact (Option.some.inj f1).symm
set_option maxRecDepth 100000 in
set_option maxHeartbeats 4000000 in
theorem one_rank (u v : Ru) (w : World) (he : u.rank ≠ v.rank) :
    Calls Try.prog 21 #[.agg #[.int .i64 u.rank, .slice u.xa u.xn u.xc, .string (bs u.tg), .int .i64 u.ap, .int .i64 u.st, .int .i64 u.dp, .int .i64 u.dt, .int .i64 u.mp, .string (bs u.mi), .int .i64 u.sm], .agg #[.int .i64 v.rank, .slice v.xa v.xn v.xc, .string (bs v.tg), .int .i64 v.ap, .int .i64 v.st, .int .i64 v.dp, .int .i64 v.dt, .int .i64 v.mp, .string (bs v.mi), .int .i64 v.sm]] w fun e w' => e = .returned (.bool false) ∧ Below w.heap.size w w' := by
  have d1 : decide (u.rank = v.rank) = false := decide_eq_false he
  have d2 : (u.rank == v.rank) = false := by simpa using he
  have hb1 := enew w (.cells #[.int .i64 u.rank, .slice u.xa u.xn u.xc, .string (bs u.tg), .int .i64 u.ap, .int .i64 u.st, .int .i64 u.dp, .int .i64 u.dt, .int .i64 u.mp, .string (bs u.mi), .int .i64 u.sm] 49)
  have hb0 := hid (estep hb1 (enew _ (.cells #[.int .i64 v.rank, .slice v.xa v.xn v.xc, .string (bs v.tg), .int .i64 v.ap, .int .i64 v.st, .int .i64 v.dp, .int .i64 v.dt, .int .i64 v.mp, .string (bs v.mi), .int .i64 v.sm] 49)))
  clear he hb1
  go_enter Try.func21, Try.ntmps21
  go_wp2_with fail
  go_returns
  exact ⟨rfl, hb0.out⟩
set_option maxRecDepth 100000 in
set_option maxHeartbeats 16000000 in
theorem rsame_rank (A B : Option Addr) (c d : Nat) (U V : List Ru) (w : World) (hst : Stay U V) (hVU : V.length = U.length) (hU : GX encR 10 w (· < w.heap.size) A U) (hP : RP w (· < w.heap.size) U) (hV : GX encR 10 w (· < w.heap.size) B V) (hQ : RP w (· < w.heap.size) V) (hl : U.length ≤ 1000000) {z : Bool} (H : Hid (rkEq U V = z)) :
    Calls Try.prog 30 #[.slice A U.length c, .slice B V.length d] w fun e w' => e = .returned (.bool z) ∧ Below w.heap.size w w' := by
  have hnot := enot
  have H0 := hid (And.intro hU (And.intro hP (And.intro hV hQ)))
  have HL := hid hVU
  have HS := hid hst
  rw [hVU]
  clear hU hP hV hQ hVU hst
  generalize hnU : U.length = n at *
  have HNU := hid hnU
  clear hnU
  go_enter Try.func30, Try.ntmps30
  go_wp2_with fail
  go_loopg [5] n (fun g1 vi wr => ∃ i : Nat, vi = .int .i64 i ∧ i ≤ n ∧ n - i ≤ g1 ∧ Hid ((∀ (j : Nat) (a b : Ru), j < i → U[j]? = some a → V[j]? = some b → a.rank = b.rank) ∧ Below w.heap.size w wr))
  case atStart => exact ⟨0, rfl, by omega, by omega, hid ⟨fun j a b hj => by omega, Below.refl _ _⟩⟩
  case round =>
    obtain ⟨i, rfl, hin, hgk, HB⟩ := hrel
    by_cases hlt : i < n
    · have hltz : (i : Int) < (n : Int) := by omega
      have hltd : decide ((i : Int) < (n : Int)) = true := decide_eq_true hltz
      have hi0 : (0 : Int) ≤ (i : Int) := by omega
      have hiU : i < U.length := by have := HNU.out; omega
      have hiV : i < V.length := by have := HNU.out; have := HL.out; omega
      obtain ⟨u, hu⟩ : ∃ u, U[i]? = some u := ⟨_, List.getElem?_eq_getElem hiU⟩
      obtain ⟨v, hv⟩ : ∃ v, V[i]? = some v := ⟨_, List.getElem?_eq_getElem hiV⟩
      have hum : u ∈ U := List.mem_of_getElem? hu
      have hvm : v ∈ V := List.mem_of_getElem? hv
      obtain ⟨bb, oo, rfl, -⟩ := H0.out.1.some_of hiU
      obtain ⟨bc, oc, rfl, -⟩ := H0.out.2.2.1.some_of hiV
      have hUr := H0.out.1.up HB.out.2
      have hVr := H0.out.2.2.1.up HB.out.2
      have HUP := hid (UV.up (H0.out.2.1 u hum) HB.out.2)
      have HVP := hid (UV.up (H0.out.2.2.2 v hvm) HB.out.2)
      have HU := hid hu
      have HV := hid hv
      obtain ⟨r0, r1, r2, r3, r4, r5, r6, r7, r8, r9⟩ := rank_cell hUr hu
      obtain ⟨d0, d1, d2, d3, d4, d5, d6, d7, d8, d9⟩ := rank_cell hVr hv
      have R0 := BW.cell r0
      have R1 := BW.cell r1
      have R2 := BW.cell r2
      have R3 := BW.cell r3
      have R4 := BW.cell r4
      have R5 := BW.cell r5
      have R6 := BW.cell r6
      have R7 := BW.cell r7
      have R8 := BW.cell r8
      have R9 := BW.cell r9
      have D0 := BW.cell d0
      have D1 := BW.cell d1
      have D2 := BW.cell d2
      have D3 := BW.cell d3
      have D4 := BW.cell d4
      have D5 := BW.cell d5
      have D6 := BW.cell d6
      have D7 := BW.cell d7
      have D8 := BW.cell d8
      have D9 := BW.cell d9
      clear r0 r1 r2 r3 r4 r5 r6 r7 r8 r9 d0 d1 d2 d3 d4 d5 d6 d7 d8 d9 hUr hVr hu hv hum hvm
      by_cases he : u.rank = v.rank
      · have HUPTO := hid (show ∀ (j : Nat) (a b : Ru), j < i + 1 → U[j]? = some a → V[j]? = some b → a.rank = b.rank from fun j a b hj ha hb => by
          by_cases e : j = i
          · subst e
            rw [HU.out] at ha
            rw [HV.out] at hb
            cases ha
            cases hb
            exact he
          · exact HB.out.1 j a b (by omega) ha hb)
        have hEq : u.sem = v.sem := HS.out i u v HU.out HV.out fun j a b hj => HUPTO.out j a b (by omega)
        have HHU := hid (fun (w2 : World) (hb2 : Below wr.heap.size wr w2) => one_any u v w2 hEq (UV.up HUP.out hb2) (UV.up HVP.out hb2))
        clear he hEq
        go_upto_region 6 with (fail)
        refine wp_region_bw (by kernel_rfl) (by kernel_rfl) ?_
        repeat (go_big_quiet_step ((go_at_call 21; exact calls_bw (HHU.out _ (BW.h _)))))
        refine wpQuiet_nil ?_
        rintro _ ⟨pq, rfl⟩
        clear R0 R1 R2 R3 R4 R5 R6 R7 R8 R9 D0 D1 D2 D3 D4 D5 D6 D7 D8 D9
        have HB2 := hid (estep HB.out.2 pq.h)
        go_wp2_with fail
        go_roundg (n - (i + 1))
        case measure => omega
        case rel => exact ⟨i + 1, by go_num, by omega, by omega, hid ⟨HUPTO.out, HB2.out⟩⟩
      · have HZ := hid (show z = false by rw [← H.out]; exact rkEq_false HU.out HV.out he)
        have HHU := hid (fun (w2 : World) => one_rank u v w2 he)
        clear he
        go_upto_region 6 with (fail)
        refine wp_region_bw (by kernel_rfl) (by kernel_rfl) ?_
        repeat (go_big_quiet_step ((go_at_call 21; exact calls_bw (HHU.out _))))
        refine wpQuiet_nil ?_
        rintro _ ⟨pq, rfl⟩
        clear R0 R1 R2 R3 R4 R5 R6 R7 R8 R9 D0 D1 D2 D3 D4 D5 D6 D7 D8 D9
        have HB2 := hid (estep HB.out.2 pq.h)
        go_wp2_with fail
        go_returns
        exact ⟨by rw [HZ.out]; rfl, HB2.out⟩
    · obtain rfl : i = n := by omega
      have hltd : decide ((i : Int) < (i : Int)) = false := by simp
      have HZ := hid (show z = true by
        rw [← H.out]
        refine rkEq_true (by rw [HL.out, HNU.out]) fun j a b ha hb => HB.out.1 j a b ?_ ha hb
        have := (List.getElem?_eq_some_iff.1 ha).1
        have := HNU.out
        omega)
      go_wp2_with fail
      go_returns
      exact ⟨by rw [HZ.out]; rfl, HB.out.2⟩
set_option maxRecDepth 100000 in
set_option maxHeartbeats 4000000 in
theorem sameRank_any (u v : Ru) (w : World) :
    Calls Try.prog 32 #[.agg #[.int .i64 u.rank, .slice u.xa u.xn u.xc, .string (bs u.tg), .int .i64 u.ap, .int .i64 u.st, .int .i64 u.dp, .int .i64 u.dt, .int .i64 u.mp, .string (bs u.mi), .int .i64 u.sm], .agg #[.int .i64 v.rank, .slice v.xa v.xn v.xc, .string (bs v.tg), .int .i64 v.ap, .int .i64 v.st, .int .i64 v.dp, .int .i64 v.dt, .int .i64 v.mp, .string (bs v.mi), .int .i64 v.sm]] w fun e w' => e = .returned (.bool (decide (u.rank = v.rank))) ∧ Below w.heap.size w w' := by
  have hb1 := enew w (.cells #[.int .i64 u.rank, .slice u.xa u.xn u.xc, .string (bs u.tg), .int .i64 u.ap, .int .i64 u.st, .int .i64 u.dp, .int .i64 u.dt, .int .i64 u.mp, .string (bs u.mi), .int .i64 u.sm] 49)
  have hb0 := hid (estep hb1 (enew _ (.cells #[.int .i64 v.rank, .slice v.xa v.xn v.xc, .string (bs v.tg), .int .i64 v.ap, .int .i64 v.st, .int .i64 v.dp, .int .i64 v.dt, .int .i64 v.mp, .string (bs v.mi), .int .i64 v.sm] 49)))
  clear hb1
  go_enter Try.func32, Try.ntmps32
  go_wp2_with fail
  go_returns
  exact ⟨rfl, hb0.out⟩
end Go.Proofs.Ytingjembjpckcaa
namespace Go.Proofs.Ytingjembjpckcaa
set_option linter.unusedVariables false
set_option linter.unusedSimpArgs false
open Go.RowKit Go.Joins

set_option maxRecDepth 100000 in
set_option maxHeartbeats 16000000 in
theorem equalFunc_any (A B : Option Addr) (c d : Nat) (U V : List Ru) (w : World) (hVU : V.length = U.length) (hU : GX encR 10 w (· < w.heap.size) A U) (hV : GX encR 10 w (· < w.heap.size) B V) (hl : U.length ≤ 1000000) {z : Bool} (H : Hid (rkEq U V = z)) :
    Calls Try.prog 31 #[.slice A U.length c, .slice B V.length d, .func (.func 32) #[] #[]] w fun e w' => e = .returned (.bool z) ∧ Below w.heap.size w w' := by
  have hnot := enot
  have eg : ∀ args w, (callFunc 32 args).run Try.prog w = .ok (.enter 32 args) w := fun _ _ => by kernel_rfl
  have H0 := hid (And.intro hU hV)
  have HL := hid hVU
  rw [hVU]
  clear hU hV hVU
  generalize hnU : U.length = n at *
  have HNU := hid hnU
  clear hnU
  go_enter Try.func31, Try.ntmps31
  go_wp2_with fail
  go_loopg [17] n (fun g1 vi wr => ∃ i : Nat, vi = .int .i64 i ∧ i ≤ n ∧ n - i ≤ g1 ∧ Hid ((∀ (j : Nat) (a b : Ru), j < i → U[j]? = some a → V[j]? = some b → a.rank = b.rank) ∧ Below w.heap.size w wr))
  case atStart => exact ⟨0, rfl, by omega, by omega, hid ⟨fun j a b hj => by omega, Below.refl _ _⟩⟩
  case round =>
    obtain ⟨i, rfl, hin, hgk, HB⟩ := hrel
    by_cases hlt : i < n
    · have hltz : (i : Int) < (n : Int) := by omega
      have hltd : decide ((i : Int) < (n : Int)) = true := decide_eq_true hltz
      have hi0 : (0 : Int) ≤ (i : Int) := by omega
      have hiU : i < U.length := by have := HNU.out; omega
      have hiV : i < V.length := by have := HNU.out; have := HL.out; omega
      obtain ⟨u, hu⟩ : ∃ u, U[i]? = some u := ⟨_, List.getElem?_eq_getElem hiU⟩
      obtain ⟨v, hv⟩ : ∃ v, V[i]? = some v := ⟨_, List.getElem?_eq_getElem hiV⟩
      obtain ⟨bb, oo, rfl, -⟩ := H0.out.1.some_of hiU
      obtain ⟨bc, oc, rfl, -⟩ := H0.out.2.some_of hiV
      have HU := hid hu
      have HV := hid hv
      obtain ⟨r0, r1, r2, r3, r4, r5, r6, r7, r8, r9⟩ := rank_cell (H0.out.1.up HB.out.2) hu
      have hbE := enew wr (.cells #[.int .i64 u.rank, .slice u.xa u.xn u.xc, .string (bs u.tg), .int .i64 u.ap, .int .i64 u.st, .int .i64 u.dp, .int .i64 u.dt, .int .i64 u.mp, .string (bs u.mi), .int .i64 u.sm] 49)
      have hrE := BR.new wr u
      have HT := hid (estep HB.out.2 hbE)
      have hVr := (H0.out.2.up HB.out.2).up hbE
      clear hbE hu hv hiU hiV
      go_upto_region 6 with (fail)
      clear r0 r1 r2 r3 r4 r5 r6 r7 r8 r9
      generalize hg1 : wr.alloc (.cells #[.int .i64 u.rank, .slice u.xa u.xn u.xc, .string (bs u.tg), .int .i64 u.ap, .int .i64 u.st, .int .i64 u.dp, .int .i64 u.dt, .int .i64 u.mp, .string (bs u.mi), .int .i64 u.sm] 49) = v1 at *
      clear hg1
      obtain ⟨d0, d1, d2, d3, d4, d5, d6, d7, d8, d9⟩ := rank_cell hVr HV.out
      have hbF := enew v1 (.cells #[.int .i64 v.rank, .slice v.xa v.xn v.xc, .string (bs v.tg), .int .i64 v.ap, .int .i64 v.st, .int .i64 v.dp, .int .i64 v.dt, .int .i64 v.mp, .string (bs v.mi), .int .i64 v.sm] 49)
      have hrF := BR.new v1 v
      have HT2 := hid (estep HT.out hbF)
      have hrE2 := hrE.up hbF
      clear hbF hVr hrE
      go_upto_region 7 with (fail)
      clear d0 d1 d2 d3 d4 d5 d6 d7 d8 d9
      generalize hg2 : v1.alloc (.cells #[.int .i64 v.rank, .slice v.xa v.xn v.xc, .string (bs v.tg), .int .i64 v.ap, .int .i64 v.st, .int .i64 v.dp, .int .i64 v.dt, .int .i64 v.mp, .string (bs v.mi), .int .i64 v.sm] 49) = v2 at *
      clear hg2
      obtain ⟨r0, r1, r2, r3, r4, r5, r6, r7, r8, r9⟩ := hrE2.cells
      obtain ⟨d0, d1, d2, d3, d4, d5, d6, d7, d8, d9⟩ := hrF.cells
      clear hrE2 hrF
      have HHU := hid (fun (w2 : World) => sameRank_any u v w2)
      obtain ⟨zr, hzr⟩ : ∃ b, decide (u.rank = v.rank) = b := ⟨_, rfl⟩
      rw [hzr] at HHU
      have HZR := hid hzr
      clear hzr
      go_wp2_with fail
      refine (HHU.out _).mono ?_
      rintro e w3 ⟨rfl, hb3⟩
      have HB3 := hid (estep HT2.out hb3)
      clear hb3 r0 r1 r2 r3 r4 r5 r6 r7 r8 r9 d0 d1 d2 d3 d4 d5 d6 d7 d8 d9
      cases zr with
      | true =>
        have HUPTO := hid (show ∀ (j : Nat) (a b : Ru), j < i + 1 → U[j]? = some a → V[j]? = some b → a.rank = b.rank from fun j a b hj ha hb => by
          by_cases e : j = i
          · subst e
            rw [HU.out] at ha
            rw [HV.out] at hb
            cases ha
            cases hb
            exact of_decide_eq_true HZR.out
          · exact HB.out.1 j a b (by omega) ha hb)
        go_wp2_with fail
        go_roundg (n - (i + 1))
        case measure => omega
        case rel => exact ⟨i + 1, by go_num, by omega, by omega, hid ⟨HUPTO.out, HB3.out⟩⟩
      | false =>
        have HZ := hid (show z = false by rw [← H.out]; exact rkEq_false HU.out HV.out (of_decide_eq_false HZR.out))
        go_wp2_with fail
        go_returns
        exact ⟨by rw [HZ.out]; rfl, HB3.out⟩
    · obtain rfl : i = n := by omega
      have hltd : decide ((i : Int) < (i : Int)) = false := by simp
      have HZ := hid (show z = true by
        rw [← H.out]
        refine rkEq_true (by rw [HL.out, HNU.out]) fun j a b ha hb => HB.out.1 j a b ?_ ha hb
        have := (List.getElem?_eq_some_iff.1 ha).1
        have := HNU.out
        omega)
      go_wp2_with fail
      go_returns
      exact ⟨by rw [HZ.out]; rfl, HB.out.2⟩
/-- The definition's Same of tables, but for what their rules are. -/
theorem rtsame_with (v : Int) (f : List UInt8) (y1 y2 : Value) (z : Bool) (w : World) (hS : ∀ w2, Below w.heap.size w w2 → Calls Try.prog 30 #[y1, y2] w2 fun e w' => e = .returned (.bool z) ∧ Below w2.heap.size w2 w') :
    Calls Try.prog 13 #[.agg #[.int .i64 v, y1, .string (bs f)], .agg #[.int .i64 v, y2, .string (bs f)]] w fun e w' => e = .returned (.bool z) ∧ Below w.heap.size w w' := by
  have hb1 := enew w (.cells #[.int .i64 v, y1, .string (bs f)] 30)
  have hb2 := enew (w.alloc (.cells #[.int .i64 v, y1, .string (bs f)] 30)) (.cells #[.int .i64 v, y2, .string (bs f)] 30)
  have hr0 := (BT.new w v y1 f).up hb2
  have hs0 := BT.new (w.alloc (.cells #[.int .i64 v, y1, .string (bs f)] 30)) v y2 f
  rw [World.size_alloc] at hs0
  have hb0 := estep hb1 hb2
  have HB := hid hb0
  have HS := hid hS
  clear hb1 hb2 hb0 hS
  go_enter Try.func13, Try.ntmps13
  go_upto_region 1 with (fail)
  generalize (w.alloc (.cells #[.int .i64 v, y1, .string (bs f)] 30)).alloc (.cells #[.int .i64 v, y2, .string (bs f)] 30) = v0 at *
  obtain ⟨k0, k1, k2⟩ := hr0.cells
  obtain ⟨d0, d1, d2⟩ := hs0.cells
  go_wp2_with fail
  refine (HS.out _ HB.out).mono ?_
  rintro e w1 ⟨rfl, hb2⟩
  go_wp2_with fail
  go_returns
  exact ⟨rfl, estep HB.out hb2⟩
end Go.Proofs.Ytingjembjpckcaa
namespace Go.Proofs.Ytingjembjpckcaa
set_option linter.unusedVariables false
set_option linter.unusedSimpArgs false
open Go.RowKit Go.Joins

def wholeB (v : Int) (f : List UInt8) (U : List Rs) (l : List (List UInt8)) : Bool := decide ((compT v f U l).1 = 0) && decide (U.map rkS = (ordB rkS U).map rkS)
theorem compT_ok {v : Int} {f : List UInt8} {U : List Rs} {l : List (List UInt8)} {T : Tt} (h : compT v f U l = (0, T)) : T = (v, f, ordB rkS U) ∧ badV v = false ∧ chkC (chkR · l) f U = 0 := by
  unfold compT at h
  by_cases h1 : badV v = true
  · rw [if_pos h1] at h
    have := congrArg Prod.fst h
    simp at this
  rw [if_neg h1] at h
  by_cases h2 : chkC (chkR · l) f U ≠ 0
  · rw [if_pos h2] at h
    exact absurd (congrArg Prod.fst h) h2
  rw [if_neg h2] at h
  exact ⟨(congrArg Prod.snd h).symm, by simpa using h1, Decidable.not_not.1 h2⟩
theorem compT_no {v : Int} {f : List UInt8} {U : List Rs} {l : List (List UInt8)} {z : Int} {T : Tt} (h : compT v f U l = (z, T)) (hz : z ≠ 0) : T = noT := by
  unfold compT at h
  by_cases h1 : badV v = true
  · rw [if_pos h1] at h; exact (congrArg Prod.snd h).symm
  rw [if_neg h1] at h
  by_cases h2 : chkC (chkR · l) f U ≠ 0
  · rw [if_pos h2] at h; exact (congrArg Prod.snd h).symm
  rw [if_neg h2] at h
  exact absurd (congrArg Prod.fst h).symm hz
theorem rkEq_of {U V : List Ru} (he : V.map Ru.sem = ordB rkS (U.map Ru.sem)) : rkEq U V = decide ((U.map Ru.sem).map rkS = (ordB rkS (U.map Ru.sem)).map rkS) := by
  rw [rkEq, ← he, List.map_map, List.map_map]
  rfl
theorem ord_len {U V : List Ru} (he : V.map Ru.sem = ordB rkS (U.map Ru.sem)) : V.length = U.length := by
  have := congrArg List.length he
  rw [ordB_length, List.length_map, List.length_map] at this
  exact this
theorem okRs_ord {U V : List Ru} (he : V.map Ru.sem = ordB rkS (U.map Ru.sem)) (h : ∀ u ∈ U, okRs u.sem) : ∀ v ∈ V, okRs v.sem := fun v hv => by
  have h1 : v.sem ∈ ordB rkS (U.map Ru.sem) := by rw [← he]; exact List.mem_map.2 ⟨v, hv, rfl⟩
  obtain ⟨u, hu, e⟩ := List.mem_map.1 ((ordB_eqv (key := rkS) (U.map Ru.sem)).mem h1)
  rw [← e]; exact h u hu
set_option maxRecDepth 100000 in
set_option maxHeartbeats 4000000 in
theorem whole_any (v : Int) (y : Value) (f : List UInt8) (U : List Ru) (ny : Value) (l : List (List UInt8)) (w : World) (hy : RV w y U) (hs : ∀ u ∈ U, okRs u.sem) (hf : f.length ≤ 140737488351232) (hn : TX w (· < w.heap.size) ny l) {z : Bool} (H : Hid (wholeB v f (U.map Ru.sem) l = z)) :
    Calls Try.prog 16 #[.agg #[.int .i64 v, y, .string (bs f)], ny] w fun e w' => e = .returned (.bool z) ∧ Below w.heap.size w w' := by
  obtain ⟨zc, T, hc⟩ : ∃ z T, compT v f (U.map Ru.sem) l = (z, T) := ⟨_, _, rfl⟩
  have HC := hid hc
  have HW := hid (show z = (decide (zc = 0) && decide ((U.map Ru.sem).map rkS = (ordB rkS (U.map Ru.sem)).map rkS)) by rw [← H.out, wholeB, hc])
  have hb1 := enew w (.cells #[.int .i64 v, y, .string (bs f)] 30)
  have hr0 := BT.new w v y f
  have HY := hid (hy.up hb1)
  have HN := hid (tx_up hn hb1)
  have HB := hid hb1
  obtain ⟨A, c, rfl, -⟩ := id hy
  have HCM := hid (tcompile_any (.slice A U.length c) f U v ny l _ HY.out hs hf HN.out HC)
  clear hc hy hn hb1 hs
  generalize hnU : U.length = n at *
  have HNU := hid hnU
  clear hnU
  go_enter Try.func16, Try.ntmps16
  go_upto_region 1 with (fail)
  generalize w.alloc (.cells #[.int .i64 v, .slice A n c, .string (bs f)] 30) = v0 at *
  obtain ⟨k0, k1, k2⟩ := hr0.cells
  go_wp2_with fail
  refine HCM.out.mono ?_
  rintro e w1 ⟨⟨t, rfl, y', V, rfl, hrv, hvm⟩, hb2⟩
  obtain ⟨A', c', rfl, hgx, hrp, -⟩ := id hrv
  have HB2 := hid (estep HB.out hb2)
  have hr1 := hr0.up hb2
  clear k0 k1 k2 hr0
  obtain ⟨T1, T2, T3⟩ := T
  simp only at hvm
  by_cases hz : zc = 0
  · subst hz
    obtain ⟨e1, -, hck⟩ := compT_ok HC.out
    obtain ⟨rfl, e2⟩ := Prod.mk.inj e1
    obtain ⟨rfl, rfl⟩ := Prod.mk.inj e2
    have hbn := enew w1 (.cells #[.int .i64 T1, .slice A' V.length c', .string (bs T2)] 30)
    have hr2 := hr1.up hbn
    have ht2 := BT.new w1 T1 (.slice A' V.length c') T2
    have h16 : U.length ≤ 1000000 := by have := (chkC_small hck).1; omega
    have HZ := hid (show rkEq U V = z by rw [HW.out, rkEq_of hvm]; simp)
    have HL := hid (ord_len hvm)
    obtain ⟨A9, c9, e9, hgU, -⟩ := (HY.out.up hb2).up hbn
    injection e9 with e1 e2 e3
    subst e1 e3
    clear e2
    have HE := hid (equalFunc_any A A' c c' U V _ HL.out hgU (hgx.up hbn) h16 HZ)
    rw [HNU.out] at HE
    have HB3 := hid (estep HB2.out hbn)
    clear hbn hr1 hgU hgx hrp hb2 hrv
    generalize hnV : V.length = m at *
    clear hnV
    go_upto_region 2 with (fail)
    generalize w1.alloc (.cells #[.int .i64 T1, .slice A' m c', .string (bs T2)] 30) = v1 at *
    obtain ⟨k0, k1, k2⟩ := hr2.cells
    obtain ⟨t0, t1, t2⟩ := ht2.cells
    go_wp2_with fail
    with_reducible refine HE.out.mono ?_
    rintro e w3 ⟨rfl, hb4⟩
    go_wp2_with fail
    go_returns
    exact ⟨rfl, estep HB3.out hb4⟩
  · have d1 : decide (zc = 0) = false := decide_eq_false hz
    have d2 : (zc == 0) = false := by simpa using hz
    have HZ := hid (show z = false by rw [HW.out, d1]; rfl)
    have hbn := enew w1 (.cells #[.int .i64 T1, .slice A' V.length c', .string (bs T2)] 30)
    have HB3 := hid (estep HB2.out hbn)
    clear hbn hr1 hgx hrp hb2 hrv hz
    go_wp2_with fail
    go_returns
    exact ⟨by rw [HZ.out]; rfl, HB3.out⟩
set_option maxRecDepth 100000 in
set_option maxHeartbeats 4000000 in
theorem rwhole_any (v : Int) (y : Value) (f : List UInt8) (U : List Ru) (ny : Value) (l : List (List UInt8)) (w : World) (hy : RV w y U) (hs : ∀ u ∈ U, okRs u.sem) (hf : f.length ≤ 140737488351232) (hn : TX w (· < w.heap.size) ny l) {z : Bool} (H : Hid (wholeB v f (U.map Ru.sem) l = z)) :
    Calls Try.prog 17 #[.agg #[.int .i64 v, y, .string (bs f)], ny] w fun e w' => e = .returned (.bool z) ∧ Below w.heap.size w w' := by
  obtain ⟨zc, T, hc⟩ : ∃ z T, compT v f (U.map Ru.sem) l = (z, T) := ⟨_, _, rfl⟩
  have HC := hid hc
  have HW := hid (show z = (decide (zc = 0) && decide ((U.map Ru.sem).map rkS = (ordB rkS (U.map Ru.sem)).map rkS)) by rw [← H.out, wholeB, hc])
  have hb1 := enew w (.cells #[.int .i64 v, y, .string (bs f)] 30)
  have hr0 := BT.new w v y f
  have HY := hid (hy.up hb1)
  have HN := hid (tx_up hn hb1)
  have HB := hid hb1
  obtain ⟨A, c, rfl, -⟩ := id hy
  have HCM := hid (rtcompile_any (.slice A U.length c) f U v ny l _ HY.out hs hf HN.out HC)
  clear hc hy hn hb1 hs
  generalize hnU : U.length = n at *
  have HNU := hid hnU
  clear hnU
  go_enter Try.func17, Try.ntmps17
  go_upto_region 1 with (fail)
  generalize w.alloc (.cells #[.int .i64 v, .slice A n c, .string (bs f)] 30) = v0 at *
  obtain ⟨k0, k1, k2⟩ := hr0.cells
  go_wp2_with fail
  refine HCM.out.mono ?_
  rintro e w1 ⟨⟨t, rfl, y', V, rfl, hrv, hvm⟩, hb2⟩
  obtain ⟨A', c', rfl, hgx, hrp, -⟩ := id hrv
  have HB2 := hid (estep HB.out hb2)
  have hr1 := hr0.up hb2
  clear k0 k1 k2 hr0
  obtain ⟨T1, T2, T3⟩ := T
  simp only at hvm
  by_cases hz : zc = 0
  · subst hz
    obtain ⟨e1, -, hck⟩ := compT_ok HC.out
    obtain ⟨rfl, e2⟩ := Prod.mk.inj e1
    obtain ⟨rfl, rfl⟩ := Prod.mk.inj e2
    have hbn := enew w1 (.cells #[.int .i64 T1, .slice A' V.length c', .string (bs T2)] 30)
    have hr2 := hr1.up hbn
    have ht2 := BT.new w1 T1 (.slice A' V.length c') T2
    have h16 : U.length ≤ 1000000 := by have := (chkC_small hck).1; omega
    have HZ := hid (show rkEq U V = z by rw [HW.out, rkEq_of hvm]; simp)
    have HL := hid (ord_len hvm)
    obtain ⟨A9, c9, e9, hgU, hpU, -⟩ := (HY.out.up hb2).up hbn
    injection e9 with e1 e2 e3
    subst e1 e3
    clear e2
    have hgV := hgx.up hbn
    have hpV := hrp.up hbn
    have HS := hid (fun (w2 : World) (hb : Below (w1.alloc (.cells #[.int .i64 T1, .slice A' V.length c', .string (bs T2)] 30)).heap.size (w1.alloc (.cells #[.int .i64 T1, .slice A' V.length c', .string (bs T2)] 30)) w2) => rsame_rank A A' c c' U V w2 (stay_ord hvm) HL.out (hgU.up hb) (hpU.up hb) (hgV.up hb) (hpV.up hb) h16 HZ)
    have HE := hid (rtsame_with T1 T2 (.slice A U.length c) (.slice A' V.length c') z _ HS.out)
    rw [HNU.out] at HE
    have HB3 := hid (estep HB2.out hbn)
    clear hbn hr1 hgU hgx hrp hb2 hrv hpU hgV hpV HS
    generalize hnV : V.length = m at *
    clear hnV
    go_upto_region 2 with (fail)
    generalize w1.alloc (.cells #[.int .i64 T1, .slice A' m c', .string (bs T2)] 30) = v1 at *
    obtain ⟨k0, k1, k2⟩ := hr2.cells
    obtain ⟨t0, t1, t2⟩ := ht2.cells
    go_wp2_with fail
    with_reducible refine HE.out.mono ?_
    rintro e w3 ⟨rfl, hb4⟩
    go_wp2_with fail
    go_returns
    exact ⟨rfl, estep HB3.out hb4⟩
  · have d1 : decide (zc = 0) = false := decide_eq_false hz
    have d2 : (zc == 0) = false := by simpa using hz
    have HZ := hid (show z = false by rw [HW.out, d1]; rfl)
    have hbn := enew w1 (.cells #[.int .i64 T1, .slice A' V.length c', .string (bs T2)] 30)
    have HB3 := hid (estep HB2.out hbn)
    clear hbn hr1 hgx hrp hb2 hrv hz
    go_wp2_with fail
    go_returns
    exact ⟨by rw [HZ.out]; rfl, HB3.out⟩
end Go.Proofs.Ytingjembjpckcaa
