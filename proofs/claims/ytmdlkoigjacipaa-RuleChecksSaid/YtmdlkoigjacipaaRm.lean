import Derived.Test.YtmdlkoigjacipaaRz
namespace Go.Proofs.Ytmdlkoigjacipaa
set_option linter.unusedVariables false
set_option linter.unusedSimpArgs false
open Go.RowKit Go.Sort Go.Proofs
variable {P : Program} {α : Type} {enc : α → List Value} {k : Nat} {key : α → Int}

theorem ins_front {U V : List α} {x : α} (hZ : Srt key (U ++ V)) (hU : ∀ y ∈ U, key x < key y) (hV : ∀ y ∈ V, key y ≤ key x) : Srt key (U ++ x :: V) ∧ Eqv key (x :: (U ++ V)) (U ++ x :: V) := by
  obtain ⟨s1, s2, s3⟩ := srt_append.1 hZ
  refine ⟨srt_append.2 ⟨s1, List.pairwise_cons.2 ⟨fun y hy => hV y hy, s2⟩, fun y hy z hz => ?_⟩, ?_⟩
  · rcases List.mem_cons.1 hz with rfl | hz
    · have := hU y hy; omega
    · exact s3 y hy z hz
  · have h2 : Eqv key ([x] ++ U) (U ++ [x]) := Eqv.swap fun z hz y hy => by
      have h3 := hU y hy
      have h4 : z = x := by simpa using hz
      subst h4; omega
    have := h2.append (Eqv.refl (key := key) V)
    simpa using this
theorem half_lt {i j : Nat} (h : i < j) : i ≤ (i + j) / 2 ∧ (i + j) / 2 < j := by omega
set_option maxHeartbeats 8000000 in
set_option maxRecDepth 1000000 in
theorem symMerge_one (S : SortP P k) (F : P.funcs[79]? = some Try.f79) (hk : ∀ x, (enc x).length = k) (h1 : ∀ x, ∀ v ∈ enc x, v.oneCell' = true)
    {f : FuncId} {cf : α → α → Int} (C : CmpP P enc key f cf) (g o cap n a m b : Nat) (pre Y post : List α) (x : α) (ha : a = pre.length) (hm : m = a + 1) (hb : b = m + Y.length) (hn : n = b + post.length) (hsz : n ≤ 1000000) (hY : Srt key Y)
    (w : World) (hW : GW enc k w g o (pre ++ [x] ++ Y ++ post)) :
    Calls P 79 #[.slice (some ⟨g, o, none⟩) n cap, .int .i64 a, .int .i64 m, .int .i64 b, .func (.func f) #[] #[]] w fun e w' => e = .returned (.tuple #[]) ∧ ∃ Z : List α, (Z.length = 1 + Y.length ∧ Srt key Z ∧ Eqv key ([x] ++ Y) Z) ∧ GW enc k w' g o (pre ++ Z ++ post) ∧ Onl g w w' := by
  have mixed := S.mixed; have t0 := S.t0; have a0 := S.a0; have z0 := S.z0; have v0 := S.v0; have t3 := S.t3; have a3 := S.a3; have z3 := S.z3; have v3 := S.v3; have t4 := S.t4; have a4 := S.a4; have z4 := S.z4; have v4 := S.v4; have t22 := S.t22; have a22 := S.a22; have z22 := S.z22; have v22 := S.v22; have t25 := S.t25; have a25 := S.a25; have z25 := S.z25; have v25 := S.v25; have aE := S.aE; have zE := S.zE; have tu := S.tu; have au := S.au; have zu := S.zu; have vu := S.vu
  have und := run_underlying S.t22
  have undu := run_underlying S.tu
  have und3 := run_underlying S.t3
  have hma : (((m : Int) - (a : Int)) == 1) = true := by rw [beq_iff_eq]; omega
  have hmb : m ≤ b := by omega
  have hbn : b ≤ n := by omega
  have ham : a < m := by omega
  have eg := C.e
  have HC := hid C
  have H0 : Hid (a = pre.length ∧ m = a + 1 ∧ b = m + Y.length ∧ n = b + post.length) := ⟨ha, hm, hb, hn⟩
  have HK : Hid (∀ x, (enc x).length = k) := hk
  have H1 : Hid (∀ x, ∀ v ∈ enc x, v.oneCell' = true) := h1
  have HW : Hid (GW enc k w g o (pre ++ [x] ++ Y ++ post)) := hW
  have HS : Hid (Srt key Y) := hY
  clear ha hm hb hn hk h1 hW C hY
  go_enter F, Try.ntmps79
  go_wp2_with fail
  go_loopg [10, 11] (b - m) (fun g1 vi vj wr => ∃ (i j : Nat), vi = .int .i64 i ∧ vj = .int .i64 j ∧ m ≤ i ∧ i ≤ j ∧ j ≤ b ∧ j - i ≤ g1 ∧ Hid ((i = m ∨ key x < kat key Y (i - 1 - m)) ∧ (j = b ∨ kat key Y (j - m) ≤ key x) ∧ GW enc k wr g o (pre ++ [x] ++ Y ++ post) ∧ Onl g w wr))
  case atStart => exact ⟨m, b, rfl, rfl, by omega, by omega, by omega, by omega, ⟨Or.inl rfl, Or.inl rfl, HW.out, Onl.refl _ _⟩⟩
  case round =>
    obtain ⟨i, j, rfl, rfl, hmi, hij, hjb, hg1, HI⟩ := hrel
    by_cases hlt : i < j
    · have hltz : (i : Int) < (j : Int) := by omega
      obtain ⟨h, hh, hih, hhj⟩ : ∃ h : Nat, ((i : Int) + (j : Int)) / 2 = (h : Int) ∧ i ≤ h ∧ h < j := ⟨(i + j) / 2, by omega, by omega, by omega⟩
      obtain ⟨d1, d2, d3, d4⟩ := H0.out
      have hYh : h - m < Y.length := by omega
      obtain ⟨y, hyy⟩ : ∃ y, Y[h - m]? = some y := ⟨_, List.getElem?_eq_getElem hYh⟩
      have hky := kat_eq (key := key) hyy
      have ga : (pre ++ [x] ++ Y ++ post)[a]? = some x := by
        rw [List.append_assoc, List.append_assoc, List.getElem?_append_right (by omega), d1, Nat.sub_self]; simp
      have gh : (pre ++ [x] ++ Y ++ post)[h]? = some y := by
        rw [List.append_assoc, List.getElem?_append_right (by simp; omega), List.getElem?_append_left (by simp; omega)]
        rw [← hyy]; congr 1; simp; omega
      have hG := HI.out.2.2.1
      have HWO := hid (And.intro hG HI.out.2.2.2)
      have la : ∀ n' os', Sem.run P (loadCellsFrom ⟨g, o + a * k, none⟩ 0 k #[]) (Sort.grow (wr.drewN n') os') = .ok (enc x).toArray (Sort.grow (wr.drewN n') os') := fun n' os' => (hG.grown n' os').load HK.out ga
      have lh : ∀ n' os', Sem.run P (loadCellsFrom ⟨g, o + h * k, none⟩ 0 k #[]) (Sort.grow (wr.drewN n') os') = .ok (enc y).toArray (Sort.grow (wr.drewN n') os') := fun n' os' => (hG.grown n' os').load HK.out gh
      have hcg : ∀ n' os', Calls P f #[.agg (enc y).toArray, .agg (enc x).toArray] (Sort.grow (wr.drewN n') os') fun e w' => e = .returned (.int .i64 (cf y x)) ∧ ∃ q os'', w' = Sort.grow ((Sort.grow (wr.drewN n') os').drewN q) os'' := fun n' os' => HC.out.c _ y x
      have HKY := hid hky
      have HB := hid (And.intro HI.out.1 HI.out.2.1)
      have qa : (a : Int) < (n : Int) := by omega
      have qh : (h : Int) < (n : Int) := by omega
      clear d1 d2 d3 d4 hYh hyy hky ga gh hG HI
      go_upto_region 5 with (fail)
      clear hh
      by_cases hlv : cf y x < 0
      · have HLT := hid ((HC.out.lt y x).1 hlv)
        go_wp2_with fail
        go_quiet_grown (first | (go_at_fn f; refine Calls.grown_of (hcg _ _)))
        go_wp2_with fail
        go_roundg (j - (h + 1))
        case measure => omega
        case rel =>
          refine ⟨h + 1, j, by go_num, rfl, by omega, by omega, hjb, by omega, ⟨Or.inr ?_, HB.out.2, HWO.out.1.grown _ _, (HWO.out.2.drewN _).grow _⟩⟩
          rw [show h + 1 - 1 - m = h - m by omega, HKY.out]; exact HLT.out
      · have HLT := hid (show key y ≤ key x by
          have := HC.out.lt y x
          by_cases h : key x < key y
          · exact absurd (this.2 h) hlv
          · omega)
        go_wp2_with fail
        go_quiet_grown (first | (go_at_fn f; refine Calls.grown_of (hcg _ _)))
        go_wp2_with fail
        go_roundg (h - i)
        case measure => omega
        case rel =>
          refine ⟨i, h, rfl, rfl, hmi, by omega, by omega, by omega, ⟨HB.out.1, Or.inr ?_, HWO.out.1.grown _ _, (HWO.out.2.drewN _).grow _⟩⟩
          rw [HKY.out]; exact HLT.out
    · obtain rfl : i = j := by omega
      have hltz : ¬ (i : Int) < (i : Int) := by omega
      obtain ⟨t, rfl⟩ : ∃ t, i = m + t := ⟨i - m, by omega⟩
      obtain ⟨d1, d2, d3, d4⟩ := H0.out
      have ht : t ≤ Y.length := by omega
      have hx0 : kat key [x] 0 = key x := rfl
      have f2 := split_lt (key := key) (X := [x]) (Y := Y) (srt_one x) HS.out (s := 0) (e := t) (by simp) ht (by
        rcases HI.out.1 with h | h
        · exact Or.inr (Or.inl (by omega))
        · by_cases h0 : t = 0
          · exact Or.inr (Or.inl h0)
          · exact Or.inr (Or.inr ⟨by simp, by rw [hx0]; rwa [show m + t - 1 - m = t - 1 by omega] at h⟩))
      have f1 := split_ge (key := key) (X := [x]) (Y := Y) (srt_one x) HS.out (s := 1) (e := t) (by simp) ht (by
        rcases HI.out.2.1 with h | h
        · exact Or.inr (Or.inl (by omega))
        · by_cases h0 : t = Y.length
          · exact Or.inr (Or.inl h0)
          · exact Or.inr (Or.inr ⟨by omega, by rw [show 1 - 1 = 0 from rfl, hx0]; rwa [show m + t - m = t by omega] at h⟩))
      have hYs : Y = Y.take t ++ Y.drop t := (List.take_append_drop _ _).symm
      have l1 : (Y.take t).length = t := by simp; omega
      have hZ := ins_front (x := x) (U := Y.take t) (V := Y.drop t) (by rw [← hYs]; exact HS.out) (fun y hy => f2 x (by simp) y hy) (fun y hy => f1 x (by simp) y hy)
      have hG := HI.out.2.2.1
      have hO := HI.out.2.2.2
      rw [hYs] at hG
      rw [← hYs] at hZ
      have HZ := hid hZ
      have HL := hid (show (Y.take t).length + (Y.drop t).length = Y.length by simp; omega)
      generalize Y.take t = U at *
      generalize Y.drop t = V at *
      have HW2 := hid (And.intro hG hO)
      have hmt : m + t ≤ b := by omega
      clear HI f1 f2 hYs hZ hG hO hx0 ht
      have HLU := hid l1
      clear l1 d1 d2 d3 d4
      go_wp2_with fail
      go_loopg [13] t (fun g1 vi wr => ∃ c : Nat, vi = .int .i64 ((a + c : Nat) : Int) ∧ c ≤ t ∧ t - c ≤ g1 ∧ Hid (GW enc k wr g o (pre ++ U.take c ++ x :: (U.drop c ++ V ++ post)) ∧ Onl g w wr))
      case atStart => exact ⟨0, rfl, by omega, by omega, ⟨by simpa [List.append_assoc] using HW2.out.1, HW2.out.2⟩⟩
      case round =>
        obtain ⟨c, rfl, hct, hg2, HI⟩ := hrel
        have hwm : (m : Int) + (t : Int) - 1 = ((a + t : Nat) : Int) := by have := H0.out.2.1; omega
        by_cases hlt2 : c < t
        · obtain ⟨y, hyy⟩ : ∃ y, U[c]'(by have := HLU.out; omega) = y := ⟨_, rfl⟩
          have dU : U.drop c = y :: U.drop (c + 1) := by rw [← hyy]; exact List.drop_eq_getElem_cons _
          have tU : U.take (c + 1) = U.take c ++ [y] := by rw [← hyy]; exact List.take_succ_eq_append_getElem _
          have hG := HI.out.1
          rw [dU] at hG
          have hCl : pre ++ U.take c ++ x :: (y :: U.drop (c + 1) ++ V ++ post) = (pre ++ U.take c) ++ x :: [] ++ y :: (U.drop (c + 1) ++ V ++ post) := by simp
          have hCs : (pre ++ U.take c) ++ y :: [] ++ x :: (U.drop (c + 1) ++ V ++ post) = pre ++ U.take (c + 1) ++ x :: (U.drop (c + 1) ++ V ++ post) := by rw [tU]; simp
          have lp : (pre ++ U.take c).length = a + c := by have := HLU.out; have := H0.out.1; simp; omega
          have lq : (pre ++ U.take c).length + 1 + ([] : List α).length = a + c + 1 := by rw [lp]; rfl
          have hgm := get_mid (pre ++ U.take c) [] (U.drop (c + 1) ++ V ++ post) x y
          have hsm := swap_mid (pre ++ U.take c) [] (U.drop (c + 1) ++ V ++ post) x y
          have hlen : ((pre ++ U.take c) ++ x :: [] ++ y :: (U.drop (c + 1) ++ V ++ post)).length = n := by
            have h3 := HL.out; have h4 := HLU.out
            obtain ⟨d1, d2, d3, d4⟩ := H0.out
            simp; omega
          rw [lq, lp] at hsm
          rw [lq, lp] at hgm
          rw [hCs] at hsm
          rw [hCl] at hG
          generalize (pre ++ U.take c) ++ x :: [] ++ y :: (U.drop (c + 1) ++ V ++ post) = CC at *
          have hGd := hG.drew
          have la1 : Sem.run P (loadCellsFrom ⟨g, o + (a + c) * k, none⟩ 0 k #[]) wr.drew = .ok (enc x).toArray wr.drew := hGd.load HK.out hgm.1
          have lb1 : Sem.run P (loadCellsFrom ⟨g, o + (a + c + 1) * k, none⟩ 0 k #[]) wr.drew = .ok (enc y).toArray wr.drew := hGd.load HK.out hgm.2
          have s1 : Sem.run P (storeCells ⟨g, o + (a + c) * k, none⟩ (enc y) 0) wr.drew = .ok () (wr.drew.setCells g (o + (a + c) * k) (enc y)) := hGd.store HK.out H1.out (by omega) y
          have hG1 := hGd.set_ HK.out (i := a + c) (by omega) y
          have s2 : Sem.run P (storeCells ⟨g, o + (a + c + 1) * k, none⟩ (enc x) 0) (wr.drew.setCells g (o + (a + c) * k) (enc y)) = .ok () ((wr.drew.setCells g (o + (a + c) * k) (enc y)).setCells g (o + (a + c + 1) * k) (enc x)) := hG1.store HK.out H1.out (by rw [List.length_set]; omega) x
          have hG2 := hG1.set_ HK.out (i := a + c + 1) (by rw [List.length_set]; omega) x
          rw [hsm] at hG2
          have HG2 : Hid _ := hG2
          have hsX : (enc x).length = k := HK.out _
          have hsY : (enc y).length = k := HK.out _
          obtain ⟨cx, hcx⟩ : ∃ c, c = enc x := ⟨_, rfl⟩
          obtain ⟨cy, hcy⟩ : ∃ c, c = enc y := ⟨_, rfl⟩
          rw [← hcx] at la1 hsX s2
          rw [← hcy] at lb1 hsY s1 s2
          rw [← hcx, ← hcy] at HG2
          have HON := hid HI.out.2
          generalize hac : a + c = ac at *
          have q1 : (ac : Int) + 1 < (n : Int) := by omega
          have q2 : (ac : Int) < (n : Int) := by omega
          have q3 : (0 : Int) ≤ (ac : Int) + 1 := by omega
          have q5 : ((ac : Int) + 1).toNat = ac + 1 := by omega
          have hltz : (ac : Int) < (m : Int) + (t : Int) - 1 := by omega
          clear hyy dU tU hCl hCs lp lq hgm hsm hlen hGd hG hG1 hG2 hcx hcy HI
          go_wp2_with fail
          go_big_region_o
          all_goals go_wp2
          go_roundg (t - (c + 1))
          case measure => omega
          case rel => exact ⟨c + 1, by first | go_num | (congr 1; omega), by omega, by omega, ⟨HG2.out, ((HON.out.drew).sets _ _).sets _ _⟩⟩
        · obtain rfl : c = t := by omega
          have hltz : ¬ ((a + c : Nat) : Int) < (m : Int) + (c : Int) - 1 := by omega
          have hfin := HI.out.1
          rw [List.take_of_length_le (by have := HLU.out; omega), List.drop_of_length_le (by have := HLU.out; omega)] at hfin
          have HF := hid hfin
          clear hfin
          go_wp2
          go_returns
          exact ⟨rfl, U ++ x :: V, ⟨by have := HL.out; simp; omega, HZ.out.1, by simpa using HZ.out.2⟩, by simpa [List.append_assoc] using HF.out, HI.out.2⟩
end Go.Proofs.Ytmdlkoigjacipaa
