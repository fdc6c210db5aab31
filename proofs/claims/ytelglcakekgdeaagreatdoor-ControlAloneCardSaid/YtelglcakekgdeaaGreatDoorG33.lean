/- Texts put together: Lc. -/
import Derived.Test.YtelglcakekgdeaaGreatDoorG03
import Derived.Test.YtelglcakekgdeaaGreatDoorG08
import Derived.Test.YtelglcakekgdeaaGreatDoorG19
import Derived.Test.YtelglcakekgdeaaGreatDoorG18
import Derived.Test.YtelglcakekgdeaaGreatDoorG15
namespace Go.Proofs.YtelglcakekgdeaaGreatDoor
set_option linter.unusedVariables false
set_option linter.unusedSimpArgs false
open Go.RowKit Go.Joins

/-- What a function value says of rules: an error's number; it may make memory. -/
def FC (w0 : World) (fv : Value) (U : List Ru) (p : Rs → Int) : Prop :=
  ∃ (F : Nat), fv = .func (.func F) #[] #[] ∧ (∀ args w, (callFunc F args).run Tryz.prog w = .ok (.enter F args) w) ∧
    ∀ u ∈ U, ∀ w, Below w0.heap.size w0 w → Calls Tryz.prog F #[.agg #[.int .i64 u.rank, .slice u.xa u.xn u.xc, .string (bs u.tg), .int .i64 u.ap, .int .i64 u.st, .int .i64 u.dp, .int .i64 u.dt, .int .i64 u.mp, .string (bs u.mi), .int .i64 u.sm]] w fun e w' => e = .returned (.int .i64 (p u.sem)) ∧ Below w.heap.size w w'
set_option maxRecDepth 100000 in
set_option maxHeartbeats 4000000 in
theorem ocheckC_any (y : Value) (f : List UInt8) (fv : Value) (U : List Ru) (p : Rs → Int) (w : World) (hy : RV w y U) (hf : f.length ≤ 140737488351232) (hF : FC w fv U p) {z : Int} (H : Hid (chkC p f (U.map Ru.sem) = z)) :
    Calls Tryz.prog 34 #[.agg #[y, .string (bs f)], fv] w fun e w' => e = .returned (.int .i64 z) ∧ Below w.heap.size w w' := by
  have hnot := notB'
  obtain ⟨A, c, rfl, hgx, hrp, hA, hlc, hl9⟩ := hy
  obtain ⟨F, rfl, eg, hF⟩ := hF
  have hb0 := enew w (.cells #[.slice A U.length c, .string (bs f)] 41)
  have hk0 := BF.new w (.slice A U.length c) f
  have H0 := hid (And.intro (hgx.up hb0) (And.intro (hrp.up hb0) hb0))
  have HF := hid (fun u hu w2 (h2 : Below (w.alloc (.cells #[.slice A U.length c, .string (bs f)] 41)).heap.size (w.alloc (.cells #[.slice A U.length c, .string (bs f)] 41)) w2) => hF u hu w2 (estep hb0 h2))
  obtain ⟨zf, hzf⟩ : ∃ b, fmtOK f = b := ⟨_, rfl⟩
  have HFM := hid (fun w2 => oformat_any f w2 hf)
  rw [hzf] at HFM
  have HC := hid (show chkC p f (U.map Ru.sem) = if zf = false then 15 else if 16 < U.length then 8 else fltC p (U.map Ru.sem) by rw [chkC, hzf, List.length_map])
  clear hgx hrp hA hlc hF hb0 hf hzf
  generalize hnU : U.length = n at *
  have HNU := hid hnU
  clear hnU
  go_enter Tryz.func34, Tryz.ntmps34
  go_upto_region 1 with (fail)
  generalize w.alloc (.cells #[.slice A n c, .string (bs f)] 41) = v0 at *
  obtain ⟨k0, k1⟩ := hk0.cells
  cases zf with
  | false =>
    have HZ := hid (show z = 15 by rw [← H.out, HC.out, if_pos rfl])
    go_wp2_with fail
    refine (HFM.out _).mono ?_
    rintro e w1 ⟨rfl, rfl⟩
    go_wp2_with fail
    go_returns
    exact ⟨by rw [HZ.out]; rfl, H0.out.2.2⟩
  | true =>
    by_cases h16 : 16 < n
    · have d16 : decide ((16 : Int) < (n : Int)) = true := decide_eq_true (by omega)
      have HZ := hid (show z = 8 by rw [← H.out, HC.out, if_neg (by simp), if_pos h16])
      clear h16
      go_wp2_with fail
      refine (HFM.out _).mono ?_
      rintro e w1 ⟨rfl, rfl⟩
      go_wp2_with fail
      go_returns
      exact ⟨by rw [HZ.out]; rfl, H0.out.2.2⟩
    · have d16 : decide ((16 : Int) < (n : Int)) = false := decide_eq_false (by omega)
      have HCZ := hid (show fltC p (U.map Ru.sem) = z by rw [← H.out, HC.out, if_neg (by simp), if_neg h16])
      clear HC H h16
      go_wp2_with fail
      refine (HFM.out _).mono ?_
      rintro e w1 ⟨rfl, rfl⟩
      go_wp2_with fail
      clear d16 k0 k1
      go_loopg [21] n (fun g1 vi wr => ∃ i : Nat, vi = .int .i64 i ∧ i ≤ n ∧ n - i ≤ g1 ∧ Hid (fltC p ((U.map Ru.sem).drop i) = z ∧ Below v0.heap.size v0 wr))
      case atStart => exact ⟨0, rfl, by omega, by omega, hid ⟨HCZ.out, Below.refl _ _⟩⟩
      case round =>
        obtain ⟨i, rfl, hin, hgk, HW⟩ := hrel
        by_cases hlt : i < n
        · have hltz : (i : Int) < (n : Int) := by omega
          have hltd : decide ((i : Int) < (n : Int)) = true := decide_eq_true hltz
          have hi0 : (0 : Int) ≤ (i : Int) := by omega
          have hiU : i < U.length := by have := HNU.out; omega
          obtain ⟨u, hu⟩ : ∃ u, U[i]? = some u := ⟨_, List.getElem?_eq_getElem hiU⟩
          have hum : u ∈ U := List.mem_of_getElem? hu
          have HD := hid (fltC_drop p (sem_of hu))
          obtain ⟨bb, oo, rfl, -⟩ := H0.out.1.some_of hiU
          obtain ⟨r0, r1, r2, r3, r4, r5, r6, r7, r8, r9⟩ := rank_cell (H0.out.1.up HW.out.2) hu
          obtain ⟨zz, hz⟩ : ∃ zz, p u.sem = zz := ⟨_, rfl⟩
          have HZ := hid hz
          have HU := hid (fun w2 h2 => HF.out u hum w2 h2)
          rw [hz] at HU
          clear hz hu hum
          have hbE := enew wr (.cells #[.int .i64 u.rank, .slice u.xa u.xn u.xc, .string (bs u.tg), .int .i64 u.ap, .int .i64 u.st, .int .i64 u.dp, .int .i64 u.dt, .int .i64 u.mp, .string (bs u.mi), .int .i64 u.sm] 72)
          have hrE := BR.new wr u
          have HT := hid (estep HW.out.2 hbE)
          clear hbE
          go_upto_region 8 with (fail)
          clear r0 r1 r2 r3 r4 r5 r6 r7 r8 r9
          generalize wr.alloc (.cells #[.int .i64 u.rank, .slice u.xa u.xn u.xc, .string (bs u.tg), .int .i64 u.ap, .int .i64 u.st, .int .i64 u.dp, .int .i64 u.dt, .int .i64 u.mp, .string (bs u.mi), .int .i64 u.sm] 72) = v1 at *
          obtain ⟨r0, r1, r2, r3, r4, r5, r6, r7, r8, r9⟩ := hrE.cells
          clear hrE
          go_wp2_with fail
          refine (HU.out _ HT.out).mono ?_
          rintro e w2 ⟨rfl, hb2⟩
          have HB2 := hid (estep HT.out hb2)
          clear hb2 r0 r1 r2 r3 r4 r5 r6 r7 r8 r9
          by_cases e0 : zz = 0
          · subst e0
            have HFF := hid (show fltC p ((U.map Ru.sem).drop (i + 1)) = z by rw [← HW.out.1, HD.out, if_neg (by rw [HZ.out]; simp)])
            go_wp2_with fail
            go_roundg (n - (i + 1))
            case measure => omega
            case rel => exact ⟨i + 1, by go_num, by omega, by omega, hid ⟨HFF.out, HB2.out⟩⟩
          · have hd0 : decide (zz = 0) = false := decide_eq_false e0
            have hd1 : (!decide (zz = 0)) = true := by rw [hd0]; rfl
            have HZ9 := hid (show z = zz by rw [← HW.out.1, HD.out, if_pos (by rw [HZ.out]; exact e0), HZ.out])
            go_wp2_with fail
            go_returns
            exact ⟨by rw [HZ9.out]; rfl, estep H0.out.2.2 HB2.out⟩
        · obtain rfl : i = n := by omega
          have hltd : decide ((i : Int) < (i : Int)) = false := by simp
          have HZ9 := hid (show z = 0 by rw [← HW.out.1, List.drop_of_length_le (by rw [List.length_map, HNU.out]; omega)]; rfl)
          go_wp2_with fail
          go_returns
          exact ⟨by rw [HZ9.out]; rfl, estep H0.out.2.2 HW.out.2⟩
def encI (n : Int) : List Value := [.int .i64 n]
theorem GX.int {w : World} {N : Nat → Prop} {A : Option Addr} {L : List Int} (h : GX encI 1 w N A L) {i : Nat} (hi : i < L.length) : ∃ b o, A = some ⟨b, o, none⟩ ∧ N b ∧ w.cell? ⟨b, o + i, none⟩ = some (.int .i64 L[i]) := by
  obtain ⟨b, o, e, h1, h2⟩ := h i hi
  have := h2 0 (by omega)
  rw [Nat.mul_one, Nat.add_zero] at this
  exact ⟨b, o, e, h1, this⟩
theorem num_all_take {L : List Int} {k : Nat} (hk : k < L.length) (h : (L.take k).all inNum = true) (hh : inNum L[k] = true) : (L.take (k + 1)).all inNum = true := by
  rw [List.take_succ_eq_append_getElem hk, List.all_append, h]
  simp [hh]
theorem num_off {L : List Int} {k : Nat} (hk : k < L.length) (hh : inNum L[k] = false) : L.all inNum = false := by
  rw [List.all_eq_false]
  exact ⟨L[k], List.getElem_mem hk, by simp [hh]⟩
set_option maxHeartbeats 800000 in
theorem areNumbers_any (A : Option Addr) (c : Nat) (L : List Int) (w : World) (hL : GX encI 1 w (· < w.heap.size) A L) (hl : L.length ≤ 9223372036854775807) :
    Calls Tryz.prog 65 #[.slice A L.length c] w fun e w' => e = .returned (.bool (L.all inNum)) ∧ w = w' := by
  have HL := hid hL
  clear hL
  go_enter Tryz.func65, Tryz.ntmps65
  go_wp2_with fail
  go_loop [7] (fun i => ∃ k : Nat, k ≤ L.length ∧ Hid ((L.take k).all inNum = true) ∧ i = .int .i64 k) (fun i => L.length - (intOf i).toNat)
  case atStart => exact ⟨0, by omega, hid rfl, rfl⟩
  case round =>
    obtain ⟨k, hk, Hk, rfl⟩ := hrel
    by_cases hlt : k < L.length
    · obtain ⟨b, o, rfl, hB, hc⟩ := HL.out.int hlt
      have hki : decide ((k : Int) < ((L.length : Nat) : Int)) = true := by simp; omega
      have hk0 : (0 : Int) ≤ (k : Int) := by omega
      have hk1 : (k : Int) < (L.length : Int) := by omega
      have HUP := hid (num_all_take hlt Hk.out)
      have HOFF := hid (num_off hlt)
      have hin : inNum L[k] = (decide (0 ≤ L[k]) && decide (L[k] ≤ 999999)) := rfl
      have HIN := hid hin
      clear hin
      generalize L[k] = n at *
      by_cases h1 : n < 0
      · have d1 : decide (n < 0) = true := decide_eq_true h1
        have HZ := hid (show L.all inNum = false from HOFF.out (by rw [HIN.out, decide_eq_false (show ¬ 0 ≤ n by omega)]; rfl))
        clear h1
        go_wp2_with fail
        go_ret
        exact ⟨by rw [HZ.out]; rfl, rfl⟩
      · have d1 : decide (n < 0) = false := decide_eq_false h1
        by_cases h2 : 999999 < n
        · have d2 : decide (999999 < n) = true := decide_eq_true h2
          have HZ := hid (show L.all inNum = false from HOFF.out (by rw [HIN.out, decide_eq_false (show ¬ n ≤ 999999 by omega), Bool.and_false]))
          clear h1 h2
          go_wp2_with fail
          go_ret
          exact ⟨by rw [HZ.out]; rfl, rfl⟩
        · have d2 : decide (999999 < n) = false := decide_eq_false h2
          have HN := hid (HUP.out (by rw [HIN.out, decide_eq_true (show 0 ≤ n by omega), decide_eq_true (show n ≤ 999999 by omega)]; rfl))
          clear h1 h2
          go_wp2_with fail
          go_round
          case rel => exact ⟨k + 1, by omega, hid HN.out, by go_num⟩
          case measure => simp [intOf]; omega
    · obtain rfl : k = L.length := by omega
      have hki : decide (((L.length : Nat) : Int) < ((L.length : Nat) : Int)) = false := by simp
      go_wp2_with fail
      go_ret
      have h1 := Hk.out
      rw [List.take_length] at h1
      exact ⟨by rw [h1]; rfl, rfl⟩
set_option maxHeartbeats 800000 in
theorem isMirror_any (l : List UInt8) (p : Int) (w : World) (hs : l.length ≤ 140737488351232) {z : Bool} (H : Hid (mirB l p = z)) :
    Calls Tryz.prog 64 #[.string (bs l), .int .i64 p] w fun e w' => e = .returned (.bool z) ∧ w = w' := by
  have c3 : (ByteArray.mk #[]) = bs [] := rfl
  have HN := hid (hname_any l w hs)
  by_cases hl : l = []
  · subst hl
    have HM := hid (show z = decide (p = 0) by rw [← H.out, mirB, if_pos rfl])
    go_enter Tryz.func64, Tryz.ntmps64
    go_wp2_with fail
    go_returns
    exact ⟨by rw [HM.out]; rfl, rfl⟩
  · have hb : l.isEmpty = false := by cases l with
      | nil => exact absurd rfl hl
      | cons => rfl
    have hb2 : (l == []) = false := by cases l with
      | nil => exact absurd rfl hl
      | cons => rfl
    have HM := hid (show z = nameB l by rw [← H.out, mirB, if_neg hl])
    clear hl
    go_enter Tryz.func64, Tryz.ntmps64
    go_wp2_with fail
    refine HN.out.mono ?_
    rintro e w1 ⟨rfl, rfl⟩
    go_wp2_with fail
    go_returns
    exact ⟨by rw [HM.out]; rfl, rfl⟩
theorem nums_row (w : World) (a b c d e f g : Int) (t : TypeId) : GX encI 1 (w.alloc (.cells #[.int .i64 a, .int .i64 b, .int .i64 c, .int .i64 d, .int .i64 e, .int .i64 f, .int .i64 g] t)) (· < (w.alloc (.cells #[.int .i64 a, .int .i64 b, .int .i64 c, .int .i64 d, .int .i64 e, .int .i64 f, .int .i64 g] t)).heap.size) (some ⟨w.heap.size, 0, none⟩) [a, b, c, d, e, f, g] := by
  intro i hi
  refine ⟨w.heap.size, 0, rfl, by simp, fun j hj => ?_⟩
  have := Bk.cell (Bk.new w t #[.int .i64 a, .int .i64 b, .int .i64 c, .int .i64 d, .int .i64 e, .int .i64 f, .int .i64 g]) i
  obtain rfl : j = 0 := by omega
  rw [Nat.zero_add, Nat.mul_one, Nat.add_zero, this]
  match i, hi with
  | 0, _ => rfl
  | 1, _ => rfl
  | 2, _ => rfl
  | 3, _ => rfl
  | 4, _ => rfl
  | 5, _ => rfl
  | 6, _ => rfl
theorem fltR_nil_of {ps : List Pd} {k : Nat} (hk : ps.length ≤ k) : fltR (ps.drop k) = 0 := by rw [List.drop_of_length_le hk]; rfl
set_option maxRecDepth 100000 in
set_option maxHeartbeats 8000000 in
theorem checkRule_any (u : Ru) (w : World) (hu : UV w u) (hs : okRs u.sem) {z : Int} (H : Hid (cfR u.sem = z)) :
    Calls Tryz.prog 47 #[.agg #[.int .i64 u.rank, .slice u.xa u.xn u.xc, .string (bs u.tg), .int .i64 u.ap, .int .i64 u.st, .int .i64 u.dp, .int .i64 u.dt, .int .i64 u.mp, .string (bs u.mi), .int .i64 u.sm]] w fun e w' => e = .returned (.int .i64 z) ∧ Below w.heap.size w w' := by
  have hnot := enot
  have hb0 := enew w (.cells #[.int .i64 u.rank, .slice u.xa u.xn u.xc, .string (bs u.tg), .int .i64 u.ap, .int .i64 u.st, .int .i64 u.dp, .int .i64 u.dt, .int .i64 u.mp, .string (bs u.mi), .int .i64 u.sm] 72)
  have hr0 := BR.new w u
  obtain ⟨hn, hpx, _, _, hl9⟩ := (hu.up hb0).out
  obtain ⟨hsm, hs2, hs3, -⟩ := hs
  obtain ⟨rk, xa, xn, xc, ps, tg, ap, st, dp, dt, mp, mi, sm⟩ := u
  simp only [Ru.sem] at H hsm hs2 hs3
  simp only at hn hpx hl9 hr0 hb0 ⊢
  subst hn
  obtain ⟨zt, hzt⟩ : ∃ b, nameB tg = b := ⟨_, rfl⟩
  obtain ⟨zm, hzm⟩ : ∃ b, mirB mi mp = b := ⟨_, rfl⟩
  obtain ⟨zn, hzn⟩ : ∃ b, ([rk, ap, st, dp, dt, mp, sm] : List Int).all inNum = b := ⟨_, rfl⟩
  have HT := hid (fun w2 => hname_any tg w2 hs2)
  rw [hzt] at HT
  have HM := hid (fun w2 => isMirror_any mi mp w2 hs3 (hid hzm))
  have HNN := hid (fun (w2 : World) (A : Option Addr) (c : Nat) (h : GX encI 1 w2 (· < w2.heap.size) A [rk, ap, st, dp, dt, mp, sm]) => areNumbers_any A c [rk, ap, st, dp, dt, mp, sm] w2 h (by simp))
  rw [hzn] at HNN
  have HC := hid (show z = if 4 < ps.length then 8 else if fltR ps ≠ 0 then fltR ps else if zt = false ∨ zm = false then 7 else if zn = false then 12 else 0 by
    rw [← H.out, cfR]; simp only [numsR, hzt, hzm, hzn])
  have HR := hid hpx
  have HSM := hid hsm
  have HB := hid hb0
  clear hu hpx hsm hb0 hs2 hs3 hzt hzm hzn H
  go_enter Tryz.func47, Tryz.ntmps47
  go_upto_region 1 with (fail)
  generalize w.alloc (.cells #[.int .i64 rk, .slice xa ps.length xc, .string (bs tg), .int .i64 ap, .int .i64 st, .int .i64 dp, .int .i64 dt, .int .i64 mp, .string (bs mi), .int .i64 sm] 72) = v0 at *
  obtain ⟨r0, r1, r2, r3, r4, r5, r6, r7, r8, r9⟩ := hr0.cells
  by_cases h4 : 4 < ps.length
  · have d4 : decide ((4 : Int) < (ps.length : Int)) = true := decide_eq_true (by omega)
    have HZ := hid (show z = 8 by rw [HC.out, if_pos h4])
    clear h4 HC
    go_wp2_with fail
    go_returns
    exact ⟨by rw [HZ.out]; rfl, HB.out⟩
  have d4 : decide ((4 : Int) < (ps.length : Int)) = false := decide_eq_false (by omega)
  have HC1 := hid (show z = if fltR ps ≠ 0 then fltR ps else if zt = false ∨ zm = false then 7 else if zn = false then 12 else 0 by rw [HC.out, if_neg h4])
  clear h4 HC
  go_wp2_with fail
  clear d4 r0 r1 r2 r3 r4 r5 r6 r7 r8 r9
  go_loopw [13] (fun i wr => ∃ k : Nat, k ≤ ps.length ∧ i = .int .i64 k ∧ Hid (fltR ps = fltR (ps.drop k) ∧ Below v0.heap.size v0 wr)) (fun i _ => ps.length - (intOf i).toNat)
  case atStart => exact ⟨0, by omega, rfl, hid ⟨by rw [List.drop_zero], Below.refl _ _⟩⟩
  case round =>
    obtain ⟨k, hk, rfl, HW⟩ := hrel
    by_cases hlt : k < ps.length
    · obtain ⟨bb, o, rfl, hB, c0, c1, c2⟩ := (HR.out.up HW.out.2) k hlt
      have HF := hid (fltR_drop ps k hlt)
      obtain ⟨hs0, hs1⟩ := HSM.out.at_ hlt
      generalize ps[k] = y at *
      obtain ⟨yk, yn, yv⟩ := y
      simp only at c0 c1 c2 HF hs0 hs1
      have hki : decide ((k : Int) < ((ps.length : Nat) : Int)) = true := by simp; omega
      have hk0 : (0 : Int) ≤ (k : Int) := by omega
      have hk1 : (k : Int) < (ps.length : Int) := by omega
      have hb1 := estep HW.out.2 (enew wr (.cells #[.int .i64 yk, .string (bs yn), .string (bs yv)] 83))
      have hp1 := BP.new wr yk yn yv
      obtain ⟨zz, hz⟩ : ∃ zz, cE yk yn yv = zz := ⟨_, rfl⟩
      have HZ := hid hz
      have HPC := hid (fun w2 => pcheck_any yk yn yv w2 hs0 hs1 HZ)
      clear hz
      go_upto_region 6 with (fail)
      clear c0 c1 c2
      generalize wr.alloc (.cells #[.int .i64 yk, .string (bs yn), .string (bs yv)] 83) = v1 at *
      obtain ⟨c0, c1, c2⟩ := hp1.cells
      go_wp2_with fail
      refine (HPC.out _).mono ?_
      rintro e w1 ⟨rfl, hb2⟩
      have hb3 := hid (estep hb1 hb2)
      clear hb1 hb2 hp1 c0 c1 c2
      by_cases e0 : zz = 0
      · subst e0
        have HFF := hid (show fltR (ps.drop k) = fltR (ps.drop (k + 1)) by rw [HF.out, HZ.out]; rfl)
        go_wp2_with fail
        go_roundw
        case rel => exact ⟨k + 1, by omega, by go_num, hid ⟨by rw [HW.out.1, HFF.out], hb3.out⟩⟩
        case measure => simp [intOf]; omega
      · have hd0 : decide (zz = 0) = false := decide_eq_false e0
        have hd1 : (!decide (zz = 0)) = true := by rw [hd0]; rfl
        have HFF := hid (show fltR (ps.drop k) = zz by rw [HF.out, if_pos (by rw [HZ.out]; exact e0), HZ.out])
        have HZ9 := hid (show z = zz by rw [HC1.out, HW.out.1, HFF.out, if_pos e0])
        go_wp2_with fail
        go_returns
        exact ⟨by rw [HZ9.out]; rfl, estep HB.out hb3.out⟩
    · obtain rfl : k = ps.length := by omega
      have hki : decide (((ps.length : Nat) : Int) < ((ps.length : Nat) : Int)) = false := by simp
      have HC2 := hid (show z = if zt = false ∨ zm = false then 7 else if zn = false then 12 else 0 by rw [HC1.out, HW.out.1, fltR_nil_of (Nat.le_refl _), if_neg (by simp)])
      obtain ⟨r0, r1, r2, r3, r4, r5, r6, r7, r8, r9⟩ := (hr0.up HW.out.2).cells
      have hb5 := enew wr (.cells #[.int .i64 rk, .int .i64 ap, .int .i64 st, .int .i64 dp, .int .i64 dt, .int .i64 mp, .int .i64 sm] 3)
      have HN5 := hid (HNN.out _ _ 7 (nums_row wr rk ap st dp dt mp sm 3))
      have HB5 := hid (estep HB.out (estep HW.out.2 hb5))
      have HB2 := hid (estep HB.out HW.out.2)
      clear HC1 HR HSM hl9 hb5 HNN
      cases zt
      · have HZ := hid (show z = 7 by rw [HC2.out, if_pos (Or.inl rfl)])
        go_wp2_with fail
        refine (HT.out _).mono ?_
        rintro e w1 ⟨rfl, rfl⟩
        go_wp2_with fail
        go_returns
        exact ⟨by rw [HZ.out]; rfl, HB2.out⟩
      cases zm
      · have HZ := hid (show z = 7 by rw [HC2.out, if_pos (Or.inr rfl)])
        go_wp2_with fail
        refine (HT.out _).mono ?_
        rintro e w1 ⟨rfl, rfl⟩
        go_wp2_with fail
        refine (HM.out _).mono ?_
        rintro e w1 ⟨rfl, rfl⟩
        go_wp2_with fail
        go_returns
        exact ⟨by rw [HZ.out]; rfl, HB2.out⟩
      have HZ := hid (show z = if zn = false then 12 else 0 by rw [HC2.out, if_neg (by simp)])
      clear HC2
      go_wp2_with fail
      refine (HT.out _).mono ?_
      rintro e w1 ⟨rfl, rfl⟩
      go_wp2_with fail
      refine (HM.out _).mono ?_
      rintro e w1 ⟨rfl, rfl⟩
      go_wp2_with fail
      refine HN5.out.mono ?_
      rintro e w1 ⟨rfl, rfl⟩
      cases zn
      · go_wp2_with fail
        go_returns
        exact ⟨by rw [HZ.out]; rfl, HB5.out⟩
      · go_wp2_with fail
        go_returns
        exact ⟨by rw [HZ.out]; rfl, HB5.out⟩
set_option maxRecDepth 100000 in
set_option maxHeartbeats 4000000 in
theorem ccheck_any (y : Value) (f : List UInt8) (U : List Ru) (w : World) (hy : RV w y U) (hs : ∀ u ∈ U, okRs u.sem) (hf : f.length ≤ 140737488351232) {z : Int} (H : Hid (chkC cfR f (U.map Ru.sem) = z)) :
    Calls Tryz.prog 33 #[.agg #[y, .string (bs f)]] w fun e w' => e = .returned (.int .i64 z) ∧ Below w.heap.size w w' := by
  have hb1 := enew w (.cells #[y, .string (bs f)] 41)
  have hk0 := BF.new w y f
  have HY := hid (hy.up hb1)
  have HB := hid hb1
  clear hy hb1
  go_enter Tryz.func33, Tryz.ntmps33
  go_upto_region 1 with (fail)
  generalize w.alloc (.cells #[y, .string (bs f)] 41) = v0 at *
  obtain ⟨k0, k1⟩ := hk0.cells
  have HFC : Hid (FC v0 (.func (.func 47) #[] #[]) U cfR) := hid ⟨_, rfl, fun _ _ => by kernel_rfl, fun u hu w2 h2 => by
    obtain ⟨_, _, e, hx, hrp, -⟩ := HY.out
    exact checkRule_any u w2 (UV.up (hrp u hu) h2) (hs u hu) (hid rfl)⟩
  have HOC := hid (ocheckC_any y f _ U cfR v0 HY.out hf HFC.out H)
  go_wp2_with fail
  refine HOC.out.mono ?_
  rintro e w1 ⟨rfl, hb2⟩
  go_wp2_with fail
  go_returns
  exact ⟨rfl, estep HB.out hb2⟩
end Go.Proofs.YtelglcakekgdeaaGreatDoor
