/- Texts put together: Rk. -/
import Derived.Test.YtelglcakekgdeaaGreatDoorG20
import Derived.Deep.CutRange
namespace Go.Proofs.YtelglcakekgdeaaGreatDoor
set_option linter.unusedVariables false
set_option linter.unusedSimpArgs false
open Go.RowKit Go.Sort Go.Proofs
variable {P : Program} {α : Type} {enc : α → List Value} {k : Nat} {key : α → Int}

/-- The sort's functions in the program. -/
structure SortF (P : Program) : Prop where
  f88 : P.funcs[102]? = some Tryz.f102
  e88 : ∀ args w, (callFunc 102 args).run P w = .ok (.enter 102 args) w
  f85 : P.funcs[84]? = some Tryz.f84
  e85 : ∀ args w, (callFunc 84 args).run P w = .ok (.enter 84 args) w
  f79 : P.funcs[70]? = some Tryz.f70
  e79 : ∀ args w, (callFunc 70 args).run P w = .ok (.enter 70 args) w
  f78 : P.funcs[69]? = some Tryz.f69
  e78 : ∀ args w, (callFunc 69 args).run P w = .ok (.enter 69 args) w
theorem sortF : SortF Tryz.prog where
  f88 := Tryz.func102
  e88 := fun _ _ => by kernel_rfl
  f85 := Tryz.func84
  e85 := fun _ _ => by kernel_rfl
  f79 := Tryz.func70
  e79 := fun _ _ => by kernel_rfl
  f78 := Tryz.func69
  e78 := fun _ _ => by kernel_rfl
def MergeC (P : Program) (enc : α → List Value) (k : Nat) (key : α → Int) (f : FuncId) (g o cap n sz : Nat) : Prop :=
  ∀ (a m b : Nat) (pre X Y post : List α), X.length + Y.length ≤ sz → 0 < X.length → 0 < Y.length → a = pre.length → m = a + X.length → b = m + Y.length → n = b + post.length → Srt key X → Srt key Y → ∀ w : World, GW enc k w g o (pre ++ X ++ Y ++ post) →
    Calls P 70 #[.slice (some ⟨g, o, none⟩) n cap, .int .i64 a, .int .i64 m, .int .i64 b, .func (.func f) #[] #[]] w fun e w' => e = .returned (.tuple #[]) ∧ ∃ Z : List α, (Z.length = X.length + Y.length ∧ Srt key Z ∧ Eqv key (X ++ Y) Z) ∧ GW enc k w' g o (pre ++ Z ++ post) ∧ Onl g w w'
set_option maxHeartbeats 16000000 in
set_option maxRecDepth 1000000 in
theorem symMerge_big (S : SortP P k) (SF : SortF P) (hk : ∀ x, (enc x).length = k) (h1 : ∀ x, ∀ v ∈ enc x, v.oneCell' = true)
    {f : FuncId} {cf : α → α → Int} (C : CmpP P enc key f cf) (g o cap n a m b sz : Nat) (IH : MergeC P enc k key f g o cap n sz) (pre X Y post : List α) (hsz2 : X.length + Y.length ≤ sz + 1) (ha : a = pre.length) (hm : m = a + X.length) (hX2 : 1 < X.length) (hb : b = m + Y.length) (hY2 : 1 < Y.length) (hn : n = b + post.length) (hsz : n ≤ 1000000) (hX : Srt key X) (hY : Srt key Y)
    (w : World) (hW : GW enc k w g o (pre ++ X ++ Y ++ post)) :
    Calls P 70 #[.slice (some ⟨g, o, none⟩) n cap, .int .i64 a, .int .i64 m, .int .i64 b, .func (.func f) #[] #[]] w fun e w' => e = .returned (.tuple #[]) ∧ ∃ Z : List α, (Z.length = X.length + Y.length ∧ Srt key Z ∧ Eqv key (X ++ Y) Z) ∧ GW enc k w' g o (pre ++ Z ++ post) ∧ Onl g w w' := by
  have mixed := S.mixed; have t0 := S.t0; have a0 := S.a0; have z0 := S.z0; have v0 := S.v0; have t3 := S.t3; have a3 := S.a3; have z3 := S.z3; have v3 := S.v3; have t4 := S.t4; have a4 := S.a4; have z4 := S.z4; have v4 := S.v4; have t22 := S.t22; have a22 := S.a22; have z22 := S.z22; have v22 := S.v22; have t25 := S.t25; have a25 := S.a25; have z25 := S.z25; have v25 := S.v25; have aE := S.aE; have zE := S.zE; have tu := S.tu; have au := S.au; have zu := S.zu; have vu := S.vu
  have und := run_underlying S.t22
  have undu := run_underlying S.tu
  have und3 := run_underlying S.t3
  have enot2 : ∀ (x : Bool) (w : World), (Op.unary .not (.bool x)).run P w = .ok (.bool (!x)) w := fun _ _ => rfl
  have e85 := SF.e85
  have e79 := SF.e79
  have hma : (((m : Int) - (a : Int)) == 1) = false := by rw [beq_eq_false_iff_ne]; omega
  have hmb : (((b : Int) - (m : Int)) == 1) = false := by rw [beq_eq_false_iff_ne]; omega
  have hbn : b ≤ n := by omega
  have hm_b : m + 1 < b := by omega
  have ham : a + 1 < m := by omega
  have eg := C.e
  have HC := hid C
  have HIH := hid IH
  have HROT := hid (fun (w2 : World) (a m b : Nat) (pre X Y post : List α) (hX : 0 < X.length) (hY : 0 < Y.length) (ha : a = pre.length) (hm : m = pre.length + X.length) (hb : b = pre.length + X.length + Y.length) (hn : n = pre.length + X.length + Y.length + post.length) (hW : GW enc k w2 g o (pre ++ X ++ Y ++ post)) => rotate_any S SF.f88 SF.e88 SF.f85 hk h1 g o cap n a m b (.func (.func f) #[] #[]) pre X Y post hX hY ha hm hb hn hsz w2 hW)
  have H0 : Hid (a = pre.length ∧ m = a + X.length ∧ b = m + Y.length ∧ n = b + post.length ∧ X.length + Y.length ≤ sz + 1) := ⟨ha, hm, hb, hn, hsz2⟩
  have HK : Hid (∀ x, (enc x).length = k) := hk
  have HW : Hid (GW enc k w g o (pre ++ X ++ Y ++ post)) := hW
  have HSX : Hid (Srt key X) := hX
  have HSY : Hid (Srt key Y) := hY
  obtain ⟨mid, hmid, hmid1, hmid2, hmid3, hmid5⟩ : ∃ mid : Nat, ((a : Int) + (b : Int)) / 2 = (mid : Int) ∧ a < mid ∧ mid < b ∧ 2 * mid ≤ a + b ∧ a + b ≤ 2 * mid + 1 := ⟨(a + b) / 2, by omega, by omega, by omega, by omega, by omega⟩
  have hmid4 : mid + m ≤ 2 * n := by omega
  have hmidb : mid + m ≤ b + m := by omega
  clear ha hm hb hn hk h1 hW C hX hY hX2 hY2 hsz2 IH
  go_enter SF.f79, Tryz.ntmps70
  go_upto_if 140 with (fail)
  clear hmid
  go_cut [20, 21] from 138 to 146 (fun s r wx => ∃ lo hi : Nat, s = .int .i64 lo ∧ r = .int .i64 hi ∧ wx = w ∧ a ≤ lo ∧ lo ≤ hi ∧ hi ≤ m ∧ hi ≤ mid ∧ mid + m ≤ b + lo ∧ (lo = a ∨ lo + b = mid + m) ∧ (hi = m ∨ hi = mid))
  case first =>
    by_cases hmm : mid < m
    · have hmz : (mid : Int) < (m : Int) := by omega
      have hlo : (mid : Int) + (m : Int) - (b : Int) = ((mid + m - b : Nat) : Int) := by omega
      go_wp2_with fail
      go_meet
      exact ⟨mid + m - b, mid, by congr 1, rfl, rfl, by omega, by omega, by omega, by omega, by omega, by omega, by omega⟩
    · have hmz : ¬ (mid : Int) < (m : Int) := by omega
      go_wp2_with fail
      go_meet
      exact ⟨a, m, rfl, rfl, rfl, by omega, by omega, by omega, by omega, by omega, by omega, by omega⟩
  case rest =>
    obtain ⟨lo, hi, rfl, rfl, rfl, hlo1, hlo2, hhi1, hhi2, hlo3, hlo4, hhi3⟩ := hcut
    obtain ⟨w0, rfl⟩ : ∃ w0, w0 = wc := ⟨_, rfl⟩
    have HLH := hid (And.intro hlo4 hhi3)
    clear hlo4 hhi3
    obtain ⟨pp, hpp, p0⟩ : ∃ pp : Nat, pp = mid + m - 1 ∧ (mid : Int) + (m : Int) - 1 = (pp : Int) := ⟨mid + m - 1, rfl, by omega⟩
    have hppn : pp ≤ 2 * n := by omega
    have HPP := hid hpp
    clear hpp
    go_wp2_with fail
    go_loopg [20, 21] (hi - lo) (fun g1 vi vj wr => ∃ (i j : Nat), vi = .int .i64 i ∧ vj = .int .i64 j ∧ lo ≤ i ∧ i ≤ j ∧ j ≤ hi ∧ j - i ≤ g1 ∧ Hid ((i = lo ∨ kat key Y (mid - i) ≤ kat key X (i - 1 - a)) ∧ (j = hi ∨ kat key X (j - a) < kat key Y (mid - 1 - j)) ∧ GW enc k wr g o (pre ++ X ++ Y ++ post) ∧ Onl g w0 wr))
    case atStart => exact ⟨lo, hi, rfl, rfl, by omega, by omega, by omega, by omega, ⟨Or.inl rfl, Or.inl rfl, HW.out, Onl.refl _ _⟩⟩
    case round =>
      obtain ⟨i, j, rfl, rfl, hli, hij, hjh, hg1, HI⟩ := hrel
      by_cases hlt : i < j
      · have hltz : (i : Int) < (j : Int) := by omega
        obtain ⟨c, hh, hic, hcj⟩ : ∃ c : Nat, ((i : Int) + (j : Int)) / 2 = (c : Int) ∧ i ≤ c ∧ c < j := ⟨(i + j) / 2, by omega, by omega, by omega⟩
        obtain ⟨d1, d2, d3, d4, d5⟩ := H0.out
        have hXc : c - a < X.length := by omega
        have hYc : mid - 1 - c < Y.length := by omega
        obtain ⟨x, hxx⟩ : ∃ x, X[c - a]? = some x := ⟨_, List.getElem?_eq_getElem hXc⟩
        obtain ⟨y, hyy⟩ : ∃ y, Y[mid - 1 - c]? = some y := ⟨_, List.getElem?_eq_getElem hYc⟩
        have hkx := kat_eq (key := key) hxx
        have hky := kat_eq (key := key) hyy
        obtain ⟨d, hd⟩ : ∃ d, mid + m - 1 - c = d := ⟨_, rfl⟩
        have gc : (pre ++ X ++ Y ++ post)[c]? = some x := by
          rw [List.append_assoc, List.getElem?_append_left (by simp; omega), List.getElem?_append_right (by omega)]
          rw [← hxx]; congr 1; omega
        have gd : (pre ++ X ++ Y ++ post)[d]? = some y := by
          rw [List.append_assoc, List.getElem?_append_right (by simp; omega), List.getElem?_append_left (by simp; omega)]
          rw [← hyy]; congr 1; simp; omega
        have hG := HI.out.2.2.1
        have HWO := hid (And.intro hG HI.out.2.2.2)
        have lc : ∀ n' os', Sem.run P (loadCellsFrom ⟨g, o + c * k, none⟩ 0 k #[]) (Sort.grow (wr.drewN n') os') = .ok (enc x).toArray (Sort.grow (wr.drewN n') os') := fun n' os' => (hG.grown n' os').load HK.out gc
        have ld : ∀ n' os', Sem.run P (loadCellsFrom ⟨g, o + d * k, none⟩ 0 k #[]) (Sort.grow (wr.drewN n') os') = .ok (enc y).toArray (Sort.grow (wr.drewN n') os') := fun n' os' => (hG.grown n' os').load HK.out gd
        have hcg : ∀ n' os', Calls P f #[.agg (enc y).toArray, .agg (enc x).toArray] (Sort.grow (wr.drewN n') os') fun e w' => e = .returned (.int .i64 (cf y x)) ∧ ∃ q os'', w' = Sort.grow ((Sort.grow (wr.drewN n') os').drewN q) os'' := fun n' os' => HC.out.c _ y x
        have HKX := hid (And.intro hkx hky)
        have HB := hid (And.intro HI.out.1 HI.out.2.1)
        have pd : (pp : Int) - (c : Int) = (d : Int) := by have := HPP.out; omega
        have hwd : IntKind.i64.wrap (d : Int) = (d : Int) := by rw [IntKind.wrap_i64]; omega
        have qc : (c : Int) < (n : Int) := by omega
        have qd : (d : Int) < (n : Int) := by omega
        have hcm : c < mid := by omega
        have hcn : c ≤ n := by omega
        clear d1 d2 d3 d4 d5 hXc hYc hxx hyy hkx hky gc gd hG HI hd
        go_upto_region 35 with (fail)
        clear hh
        by_cases hlv : cf y x < 0
        · have HLT := hid ((HC.out.lt y x).1 hlv)
          have hdv : (!decide (cf y x < 0)) = false := by rw [decide_eq_true hlv]; rfl
          go_wp2_with fail
          go_quiet_grown (first | (go_at_fn f; refine Calls.grown_of (hcg _ _)))
          go_wp2_with fail
          go_roundg (c - i)
          case measure => omega
          case rel =>
            refine ⟨i, c, rfl, rfl, hli, by omega, by omega, by omega, ⟨HB.out.1, Or.inr ?_, HWO.out.1.grown _ _, (HWO.out.2.drewN _).grow _⟩⟩
            rw [HKX.out.1, HKX.out.2]; exact HLT.out
        · have hdv : (!decide (cf y x < 0)) = true := by rw [decide_eq_false hlv]; rfl
          have HLT := hid (show key y ≤ key x by
            have := HC.out.lt y x
            by_cases h : key x < key y
            · exact absurd (this.2 h) hlv
            · omega)
          go_wp2_with fail
          go_quiet_grown (first | (go_at_fn f; refine Calls.grown_of (hcg _ _)))
          go_wp2_with fail
          go_roundg (j - (c + 1))
          case measure => omega
          case rel =>
            refine ⟨c + 1, j, by go_num, rfl, by omega, by omega, hjh, by omega, ⟨Or.inr ?_, HB.out.2, HWO.out.1.grown _ _, (HWO.out.2.drewN _).grow _⟩⟩
            rw [show c + 1 - 1 - a = c - a by omega, show mid - (c + 1) = mid - 1 - c by omega, HKX.out.1, HKX.out.2]; exact HLT.out
      · obtain rfl : i = j := by omega
        have hltz : ¬ (i : Int) < (i : Int) := by omega
        obtain ⟨d1, d2, d3, d4, d5⟩ := H0.out
        have f1 := split_ge (key := key) (X := X) (Y := Y) HSX.out HSY.out (s := i - a) (e := mid - i) (by omega) (by omega) (by
          rcases HI.out.1 with h | h
          · rcases HLH.out.1 with h2 | h2
            · exact Or.inl (by omega)
            · exact Or.inr (Or.inl (by omega))
          · by_cases h0 : mid - i = Y.length
            · exact Or.inr (Or.inl h0)
            · exact Or.inr (Or.inr ⟨by omega, by rwa [show i - a - 1 = i - 1 - a by omega]⟩))
        have f2 := split_lt (key := key) (X := X) (Y := Y) HSX.out HSY.out (s := i - a) (e := mid - i) (by omega) (by omega) (by
          rcases HI.out.2.1 with h | h
          · rcases HLH.out.2 with h2 | h2
            · exact Or.inl (by omega)
            · exact Or.inr (Or.inl (by omega))
          · by_cases h0 : i - a = X.length
            · exact Or.inl h0
            · exact Or.inr (Or.inr ⟨by omega, by rwa [show mid - i - 1 = mid - 1 - i by omega]⟩))
        have hXs : X = X.take (i - a) ++ X.drop (i - a) := (List.take_append_drop _ _).symm
        have hYs : Y = Y.take (mid - i) ++ Y.drop (mid - i) := (List.take_append_drop _ _).symm
        have l1 : (X.take (i - a)).length = i - a := by simp; omega
        have l2 : (X.drop (i - a)).length = m - i := by simp; omega
        have l3 : (Y.take (mid - i)).length = mid - i := by simp; omega
        have l4 : (Y.drop (mid - i)).length = b - (mid + m - i) := by simp; omega
        have sX := HSX.out
        have sY := HSY.out
        have hG := HI.out.2.2.1
        have hO := HI.out.2.2.2
        have HXY := hid (And.intro hXs hYs)
        rw [hXs] at sX
        rw [hYs] at sY
        rw [hXs, hYs] at hG
        generalize X.take (i - a) = A1 at *
        generalize X.drop (i - a) = A2 at *
        generalize Y.take (mid - i) = B1 at *
        generalize Y.drop (mid - i) = B2 at *
        have HF := hid (And.intro f1 (And.intro f2 (And.intro sX (And.intro sY (And.intro l1 (And.intro l2 (And.intro l3 l4)))))))
        have HW2 := hid (And.intro hG hO)
        clear f1 f2 hXs hYs l1 l2 l3 l4 sX sY hG hO HI
        have hend : (mid : Int) + (m : Int) - (i : Int) = ((mid + m - i : Nat) : Int) := by omega
        obtain ⟨en, hen⟩ : ∃ en, mid + m - i = en := ⟨_, rfl⟩
        rw [hen] at hend
        have hen1 : m ≤ en := by omega
        have hen2 : mid ≤ en := by omega
        have hen3 : en ≤ b := by omega
        have him : i ≤ m := by omega
        have himid : i ≤ mid := by omega
        have hai : a ≤ i := by omega
        have HEN := hid (And.intro hen (And.intro d1 (And.intro d2 (And.intro d3 (And.intro d4 d5)))))
        clear d1 d2 d3 d4 d5 hen
        go_upto_region 39 with (fail)
        obtain ⟨wm, rfl⟩ : ∃ wm, wm = wr := ⟨_, rfl⟩
        go_cut [185] from 178 to 185 (fun s wx => s = .bool (decide (i < m ∧ m < en)) ∧ wx = wm)
        case first =>
          by_cases q1 : i < m
          · have q1z : (i : Int) < (m : Int) := by omega
            by_cases q2 : m < en
            · have q2z : (m : Int) < (en : Int) := by omega
              go_wp2_with fail
              go_meet
              exact ⟨by simp [q1, q2], rfl⟩
            · have q2z : ¬ (m : Int) < (en : Int) := by omega
              go_wp2_with fail
              go_meet
              exact ⟨by simp [q1, q2], rfl⟩
          · have q1z : ¬ (i : Int) < (m : Int) := by omega
            go_wp2_with fail
            go_meet
            exact ⟨by simp [q1], rfl⟩
        case rest =>
          obtain ⟨rfl, hw⟩ := hcut
          rw [← hw] at HW2
          clear hw
          obtain ⟨wn, rfl⟩ : ∃ wn, wn = wc := ⟨_, rfl⟩
          go_upto_if 185 with (fail)
          go_cut [] from 178 to 191 (fun wx => Hid (GW enc k wx g o (pre ++ A1 ++ B1 ++ (A2 ++ B2 ++ post)) ∧ Onl g w0 wx))
          case first =>
            by_cases q : i < m ∧ m < en
            · have qd : decide (i < m ∧ m < en) = true := decide_eq_true q
              obtain ⟨l1, l2, l3, l4⟩ := HF.out.2.2.2.2
              obtain ⟨hen, d1, d2, d3, d4, d5⟩ := HEN.out
              have hr := HROT.out wn i m en (pre ++ A1) A2 B1 (B2 ++ post) (by omega) (by omega) (by simp; omega) (by simp; omega) (by simp; omega) (by simp; omega) (by simpa [List.append_assoc] using HW2.out.1)
              have HR := hid hr
              clear hr l1 l2 l3 l4 hen d1 d2 d3 d4 d5
              go_wp2_with fail
              refine HR.out.mono ?_
              rintro e w2 ⟨rfl, hg2, ho2⟩
              have H2 := hid (And.intro hg2 (HW2.out.2.trans ho2))
              clear hg2 ho2
              go_wp2_with fail
              go_meet
              exact ⟨by simpa [List.append_assoc] using H2.out.1, H2.out.2⟩
            · have qd : decide (i < m ∧ m < en) = false := decide_eq_false q
              obtain ⟨l1, l2, l3, l4⟩ := HF.out.2.2.2.2
              obtain ⟨hen, d1, d2, d3, d4, d5⟩ := HEN.out
              have he : A2 ++ B1 = B1 ++ A2 := by
                by_cases q1 : i < m
                · have : B1 = [] := List.eq_nil_of_length_eq_zero (by omega)
                  rw [this]; simp
                · have : A2 = [] := List.eq_nil_of_length_eq_zero (by omega)
                  rw [this]; simp
              have hl : pre ++ (A1 ++ A2) ++ (B1 ++ B2) ++ post = pre ++ A1 ++ B1 ++ (A2 ++ B2 ++ post) := by
                have e1 : pre ++ (A1 ++ A2) ++ (B1 ++ B2) ++ post = pre ++ A1 ++ (A2 ++ B1) ++ (B2 ++ post) := by simp [List.append_assoc]
                rw [e1, he]; simp [List.append_assoc]
              have HLL := hid hl
              clear l1 l2 l3 l4 hen d1 d2 d3 d4 d5 he hl
              go_wp2_with fail
              go_meet
              exact ⟨by rw [← HLL.out]; exact HW2.out.1, HW2.out.2⟩
          case rest =>
            have HW3 := hcut
            clear hcut HW2
            obtain ⟨wp, rfl⟩ : ∃ wp, wp = wc := ⟨_, rfl⟩
            go_upto_region 41 with (fail)
            go_cut [199] from 192 to 199 (fun s wx => s = .bool (decide (a < i ∧ i < mid)) ∧ wx = wp)
            case first =>
              by_cases q1 : a < i
              · have q1z : (a : Int) < (i : Int) := by omega
                by_cases q2 : i < mid
                · have q2z : (i : Int) < (mid : Int) := by omega
                  go_wp2_with fail
                  go_meet
                  exact ⟨by simp [q1, q2], rfl⟩
                · have q2z : ¬ (i : Int) < (mid : Int) := by omega
                  go_wp2_with fail
                  go_meet
                  exact ⟨by simp [q1, q2], rfl⟩
              · have q1z : ¬ (a : Int) < (i : Int) := by omega
                go_wp2_with fail
                go_meet
                exact ⟨by simp [q1], rfl⟩
            case rest =>
              obtain ⟨rfl, hw⟩ := hcut
              rw [← hw] at HW3
              clear hw
              obtain ⟨wq, rfl⟩ : ∃ wq, wq = wc := ⟨_, rfl⟩
              go_upto_if 199 with (fail)
              go_cut [] from 192 to 205 (fun wx => ∃ Z1 : List α, Hid ((Z1.length = mid - a ∧ Srt key Z1 ∧ Eqv key (A1 ++ B1) Z1) ∧ GW enc k wx g o (pre ++ Z1 ++ (A2 ++ B2 ++ post)) ∧ Onl g w0 wx))
              case first =>
                by_cases q : a < i ∧ i < mid
                · have qd : decide (a < i ∧ i < mid) = true := decide_eq_true q
                  obtain ⟨l1, l2, l3, l4⟩ := HF.out.2.2.2.2
                  obtain ⟨hen, d1, d2, d3, d4, d5⟩ := HEN.out
                  have hr := HIH.out a i mid pre A1 B1 (A2 ++ B2 ++ post) (by omega) (by omega) (by omega) d1 (by omega) (by omega) (by simp; omega) (srt_append.1 HF.out.2.2.1).1 (srt_append.1 HF.out.2.2.2.1).1 wq (by simpa [List.append_assoc] using HW3.out.1)
                  have HR := hid hr
                  have HLZ := hid (show A1.length + B1.length = mid - a by omega)
                  clear hr l1 l2 l3 l4 hen d1 d2 d3 d4 d5
                  go_wp2_with fail
                  refine HR.out.mono ?_
                  rintro e w2 ⟨rfl, Z1, hz, hg2, ho2⟩
                  have H2 := hid (And.intro hz (And.intro hg2 (HW3.out.2.trans ho2)))
                  clear hg2 ho2 hz
                  go_wp2_with fail
                  go_meet
                  exact ⟨Z1, ⟨by rw [H2.out.1.1]; exact HLZ.out, H2.out.1.2⟩, H2.out.2⟩
                · have qd : decide (a < i ∧ i < mid) = false := decide_eq_false q
                  obtain ⟨l1, l2, l3, l4⟩ := HF.out.2.2.2.2
                  have hs : Srt key (A1 ++ B1) := by
                    by_cases q1 : a < i
                    · have : B1 = [] := List.eq_nil_of_length_eq_zero (by omega)
                      rw [this, List.append_nil]; exact (srt_append.1 HF.out.2.2.1).1
                    · have : A1 = [] := List.eq_nil_of_length_eq_zero (by omega)
                      rw [this, List.nil_append]; exact (srt_append.1 HF.out.2.2.2.1).1
                  have HS1 := hid (And.intro (show (A1 ++ B1).length = mid - a by simp; omega) hs)
                  clear l1 l2 l3 l4 hs
                  go_wp2_with fail
                  go_meet
                  exact ⟨A1 ++ B1, ⟨HS1.out.1, HS1.out.2, Eqv.refl _⟩, by simpa [List.append_assoc] using HW3.out.1, HW3.out.2⟩
              case rest =>
                obtain ⟨Z1, HW4⟩ := hcut
                clear HW3
                obtain ⟨wt, rfl⟩ : ∃ wt, wt = wc := ⟨_, rfl⟩
                have fin : ∀ (Z2 : List α), Z2.length = b - mid → Srt key Z2 → Eqv key (A2 ++ B2) Z2 → (Z1 ++ Z2).length = X.length + Y.length ∧ Srt key (Z1 ++ Z2) ∧ Eqv key (X ++ Y) (Z1 ++ Z2) := fun Z2 hl hs he => by
                  have hmp := merge_plain (A1 := A1) (A2 := A2) (B1 := B1) (B2 := B2) HF.out.2.2.1 HF.out.2.2.2.1 HF.out.1 HF.out.2.1 HW4.out.1.2.1 hs HW4.out.1.2.2 he
                  have h5 := HW4.out.1.1
                  obtain ⟨hen, d1, d2, d3, d4, d5⟩ := HEN.out
                  refine ⟨by rw [List.length_append]; omega, hmp.1, ?_⟩
                  rw [HXY.out.1, HXY.out.2]; exact hmp.2
                have HFIN := hid fin
                clear fin
                by_cases q1 : mid < en
                · have q1z : (mid : Int) < (en : Int) := by omega
                  by_cases q2 : en < b
                  · have q2z : (en : Int) < (b : Int) := by omega
                    obtain ⟨l1, l2, l3, l4⟩ := HF.out.2.2.2.2
                    obtain ⟨hen, d1, d2, d3, d4, d5⟩ := HEN.out
                    have h5 := HW4.out.1.1
                    have hr := HIH.out mid en b (pre ++ Z1) A2 B2 post (by omega) (by omega) (by omega) (by simp; omega) (by omega) (by omega) (by omega) (srt_append.1 HF.out.2.2.1).2.1 (srt_append.1 HF.out.2.2.2.1).2.1 wt (by simpa [List.append_assoc] using HW4.out.2.1)
                    have HR := hid hr
                    have HLZ := hid (show A2.length + B2.length = b - mid by omega)
                    clear hr l1 l2 l3 l4 hen d1 d2 d3 d4 d5 h5
                    go_wp2_with fail
                    refine HR.out.mono ?_
                    rintro e w2 ⟨rfl, Z2, hz, hg2, ho2⟩
                    have H2 := hid (And.intro hz (And.intro hg2 (HW4.out.2.2.trans ho2)))
                    clear hg2 ho2 hz
                    go_wp2_with fail
                    go_end0
                    exact ⟨rfl, Z1 ++ Z2, HFIN.out Z2 (by rw [H2.out.1.1]; exact HLZ.out) H2.out.1.2.1 H2.out.1.2.2, by simpa [List.append_assoc] using H2.out.2.1, H2.out.2.2⟩
                  · have q2z : ¬ (en : Int) < (b : Int) := by omega
                    obtain ⟨l1, l2, l3, l4⟩ := HF.out.2.2.2.2
                    obtain ⟨hen, d1, d2, d3, d4, d5⟩ := HEN.out
                    have hB2 : B2 = [] := List.eq_nil_of_length_eq_zero (by omega)
                    have HS2 := hid (And.intro (show (A2 ++ B2).length = b - mid by simp; omega) (show Srt key (A2 ++ B2) by rw [hB2, List.append_nil]; exact (srt_append.1 HF.out.2.2.1).2.1))
                    clear l1 l2 l3 l4 hen d1 d2 d3 d4 d5 hB2
                    go_wp2_with fail
                    go_end0
                    exact ⟨rfl, Z1 ++ (A2 ++ B2), HFIN.out _ HS2.out.1 HS2.out.2 (Eqv.refl _), by simpa [List.append_assoc] using HW4.out.2.1, HW4.out.2.2⟩
                · have q1z : ¬ (mid : Int) < (en : Int) := by omega
                  obtain ⟨l1, l2, l3, l4⟩ := HF.out.2.2.2.2
                  obtain ⟨hen, d1, d2, d3, d4, d5⟩ := HEN.out
                  have hA2 : A2 = [] := List.eq_nil_of_length_eq_zero (by omega)
                  have HS2 := hid (And.intro (show (A2 ++ B2).length = b - mid by simp; omega) (show Srt key (A2 ++ B2) by rw [hA2, List.nil_append]; exact (srt_append.1 HF.out.2.2.2.1).2.1))
                  clear l1 l2 l3 l4 hen d1 d2 d3 d4 d5 hA2
                  go_wp2_with fail
                  go_end0
                  exact ⟨rfl, Z1 ++ (A2 ++ B2), HFIN.out _ HS2.out.1 HS2.out.2 (Eqv.refl _), by simpa [List.append_assoc] using HW4.out.2.1, HW4.out.2.2⟩
theorem symMerge_all (S : SortP P k) (SF : SortF P) (hk : ∀ x, (enc x).length = k) (h1 : ∀ x, ∀ v ∈ enc x, v.oneCell' = true)
    {f : FuncId} {cf : α → α → Int} (C : CmpP P enc key f cf) (g o cap n : Nat) (hsz : n ≤ 1000000) : ∀ sz, MergeC P enc k key f g o cap n sz
  | 0 => fun a m b pre X Y post hs hX => absurd hs (by omega)
  | sz + 1 => fun a m b pre X Y post hs hX hY ha hm hb hn sX sY w hW => by
    by_cases hX1 : X.length = 1
    · obtain ⟨x, rfl⟩ := List.length_eq_one_iff.1 hX1
      have := symMerge_one S SF.f79 hk h1 C g o cap n a m b pre Y post x ha hm hb hn hsz sY w hW
      simpa using this
    · by_cases hY1 : Y.length = 1
      · obtain ⟨y, rfl⟩ := List.length_eq_one_iff.1 hY1
        exact symMerge_two S SF.f79 hk h1 C g o cap n a m b pre X post y ha hm (by omega) hb hn hsz sX w hW
      · exact symMerge_big S SF hk h1 C g o cap n a m b sz (symMerge_all S SF hk h1 C g o cap n hsz sz) pre X Y post hs ha hm (by omega) hb (by omega) hn hsz sX sY w hW
end Go.Proofs.YtelglcakekgdeaaGreatDoor
