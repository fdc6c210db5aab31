import Derived.Test.YtmdlkoigjacipaaRm
namespace Go.Proofs.Ytmdlkoigjacipaa
set_option linter.unusedVariables false
set_option linter.unusedSimpArgs false
open Go.RowKit Go.Sort Go.Proofs
variable {P : Program} {α : Type} {enc : α → List Value} {k : Nat} {key : α → Int}

set_option maxHeartbeats 8000000 in
set_option maxRecDepth 1000000 in
theorem symMerge_two (S : SortP P k) (F : P.funcs[79]? = some Try.f79) (hk : ∀ x, (enc x).length = k) (h1 : ∀ x, ∀ v ∈ enc x, v.oneCell' = true)
    {f : FuncId} {cf : α → α → Int} (C : CmpP P enc key f cf) (g o cap n a m b : Nat) (pre X post : List α) (y : α) (ha : a = pre.length) (hm : m = a + X.length) (hX2 : 1 < X.length) (hb : b = m + 1) (hn : n = b + post.length) (hsz : n ≤ 1000000) (hX : Srt key X)
    (w : World) (hW : GW enc k w g o (pre ++ X ++ [y] ++ post)) :
    Calls P 79 #[.slice (some ⟨g, o, none⟩) n cap, .int .i64 a, .int .i64 m, .int .i64 b, .func (.func f) #[] #[]] w fun e w' => e = .returned (.tuple #[]) ∧ ∃ Z : List α, (Z.length = X.length + 1 ∧ Srt key Z ∧ Eqv key (X ++ [y]) Z) ∧ GW enc k w' g o (pre ++ Z ++ post) ∧ Onl g w w' := by
  have mixed := S.mixed; have t0 := S.t0; have a0 := S.a0; have z0 := S.z0; have v0 := S.v0; have t3 := S.t3; have a3 := S.a3; have z3 := S.z3; have v3 := S.v3; have t4 := S.t4; have a4 := S.a4; have z4 := S.z4; have v4 := S.v4; have t22 := S.t22; have a22 := S.a22; have z22 := S.z22; have v22 := S.v22; have t25 := S.t25; have a25 := S.a25; have z25 := S.z25; have v25 := S.v25; have aE := S.aE; have zE := S.zE; have tu := S.tu; have au := S.au; have zu := S.zu; have vu := S.vu
  have und := run_underlying S.t22
  have undu := run_underlying S.tu
  have und3 := run_underlying S.t3
  have enot2 : ∀ (x : Bool) (w : World), (Op.unary .not (.bool x)).run P w = .ok (.bool (!x)) w := fun _ _ => rfl
  have hma : (((m : Int) - (a : Int)) == 1) = false := by rw [beq_eq_false_iff_ne]; omega
  have hmb : (((b : Int) - (m : Int)) == 1) = true := by rw [beq_iff_eq]; omega
  have hbn : b ≤ n := by omega
  have hm_b : m < b := by omega
  have ham : a < m := by omega
  have eg := C.e
  have HC := hid C
  have H0 : Hid (a = pre.length ∧ m = a + X.length ∧ b = m + 1 ∧ n = b + post.length) := ⟨ha, hm, hb, hn⟩
  have HK : Hid (∀ x, (enc x).length = k) := hk
  have H1 : Hid (∀ x, ∀ v ∈ enc x, v.oneCell' = true) := h1
  have HW : Hid (GW enc k w g o (pre ++ X ++ [y] ++ post)) := hW
  have HS : Hid (Srt key X) := hX
  clear ha hm hb hn hk h1 hW C hX hX2
  go_enter F, Try.ntmps79
  go_wp2_with fail
  go_loopg [14, 15] (m - a) (fun g1 vi vj wr => ∃ (i j : Nat), vi = .int .i64 i ∧ vj = .int .i64 j ∧ a ≤ i ∧ i ≤ j ∧ j ≤ m ∧ j - i ≤ g1 ∧ Hid ((i = a ∨ key y ≤ kat key X (i - 1 - a)) ∧ (j = m ∨ kat key X (j - a) < key y) ∧ GW enc k wr g o (pre ++ X ++ [y] ++ post) ∧ Onl g w wr))
  case atStart => exact ⟨a, m, rfl, rfl, by omega, by omega, by omega, by omega, ⟨Or.inl rfl, Or.inl rfl, HW.out, Onl.refl _ _⟩⟩
  case round =>
    obtain ⟨i, j, rfl, rfl, hai, hij, hjm, hg1, HI⟩ := hrel
    by_cases hlt : i < j
    · have hltz : (i : Int) < (j : Int) := by omega
      obtain ⟨h, hh, hih, hhj⟩ : ∃ h : Nat, ((i : Int) + (j : Int)) / 2 = (h : Int) ∧ i ≤ h ∧ h < j := ⟨(i + j) / 2, by omega, by omega, by omega⟩
      obtain ⟨d1, d2, d3, d4⟩ := H0.out
      have hXh : h - a < X.length := by omega
      obtain ⟨x, hxx⟩ : ∃ x, X[h - a]? = some x := ⟨_, List.getElem?_eq_getElem hXh⟩
      have hkx := kat_eq (key := key) hxx
      have gm : (pre ++ X ++ [y] ++ post)[m]? = some y := by
        rw [List.append_assoc, List.getElem?_append_right (by simp; omega)]
        rw [show m - (pre ++ X).length = 0 by simp; omega]; simp
      have gh : (pre ++ X ++ [y] ++ post)[h]? = some x := by
        rw [List.append_assoc, List.getElem?_append_left (by simp; omega), List.getElem?_append_right (by omega)]
        rw [← hxx]; congr 1; omega
      have hG := HI.out.2.2.1
      have HWO := hid (And.intro hG HI.out.2.2.2)
      have la : ∀ n' os', Sem.run P (loadCellsFrom ⟨g, o + m * k, none⟩ 0 k #[]) (Sort.grow (wr.drewN n') os') = .ok (enc y).toArray (Sort.grow (wr.drewN n') os') := fun n' os' => (hG.grown n' os').load HK.out gm
      have lh : ∀ n' os', Sem.run P (loadCellsFrom ⟨g, o + h * k, none⟩ 0 k #[]) (Sort.grow (wr.drewN n') os') = .ok (enc x).toArray (Sort.grow (wr.drewN n') os') := fun n' os' => (hG.grown n' os').load HK.out gh
      have hcg : ∀ n' os', Calls P f #[.agg (enc y).toArray, .agg (enc x).toArray] (Sort.grow (wr.drewN n') os') fun e w' => e = .returned (.int .i64 (cf y x)) ∧ ∃ q os'', w' = Sort.grow ((Sort.grow (wr.drewN n') os').drewN q) os'' := fun n' os' => HC.out.c _ y x
      have HKX := hid hkx
      have HB := hid (And.intro HI.out.1 HI.out.2.1)
      have qm : (m : Int) < (n : Int) := by omega
      have qh : (h : Int) < (n : Int) := by omega
      clear d1 d2 d3 d4 hXh hxx hkx gm gh hG HI
      go_upto_region 17 with (fail)
      clear hh
      by_cases hlv : cf y x < 0
      · have HLT := hid ((HC.out.lt y x).1 hlv)
        go_wp2_with fail
        go_quiet_grown (first | (go_at_fn f; refine Calls.grown_of (hcg _ _)))
        go_wp2_with fail
        go_roundg (h - i)
        case measure => omega
        case rel =>
          refine ⟨i, h, rfl, rfl, hai, by omega, by omega, by omega, ⟨HB.out.1, Or.inr ?_, HWO.out.1.grown _ _, (HWO.out.2.drewN _).grow _⟩⟩
          rw [HKX.out]; exact HLT.out
      · have hdv : (!decide (cf y x < 0)) = true := by rw [decide_eq_false hlv]; rfl
        have HLT := hid (show key y ≤ key x by
          have := HC.out.lt y x
          by_cases h : key x < key y
          · exact absurd (this.2 h) hlv
          · omega)
        go_wp2_with fail
        go_quiet_grown (first | (go_at_fn f; refine Calls.grown_of (hcg _ _)))
        go_wp2_with fail
        go_roundg (j - (h + 1))
        case measure => omega
        case rel =>
          refine ⟨h + 1, j, by go_num, rfl, by omega, by omega, hjm, by omega, ⟨Or.inr ?_, HB.out.2, HWO.out.1.grown _ _, (HWO.out.2.drewN _).grow _⟩⟩
          rw [show h + 1 - 1 - a = h - a by omega, HKX.out]; exact HLT.out
    · obtain rfl : i = j := by omega
      have hltz : ¬ (i : Int) < (i : Int) := by omega
      obtain ⟨s, rfl⟩ : ∃ s, i = a + s := ⟨i - a, by omega⟩
      obtain ⟨d1, d2, d3, d4⟩ := H0.out
      have hs : s ≤ X.length := by omega
      have hy0 : kat key [y] 0 = key y := rfl
      have f1 := split_ge (key := key) (X := X) (Y := [y]) HS.out (srt_one y) (s := s) (e := 0) hs (by simp) (by
        rcases HI.out.1 with h | h
        · exact Or.inl (by omega)
        · by_cases h0 : s = 0
          · exact Or.inl h0
          · exact Or.inr (Or.inr ⟨by simp, by rw [hy0]; rwa [show a + s - 1 - a = s - 1 by omega] at h⟩))
      have f2 := split_lt (key := key) (X := X) (Y := [y]) HS.out (srt_one y) (s := s) (e := 1) hs (by simp) (by
        rcases HI.out.2.1 with h | h
        · exact Or.inl (by omega)
        · by_cases h0 : s = X.length
          · exact Or.inl h0
          · exact Or.inr (Or.inr ⟨by omega, by rw [show 1 - 1 = 0 from rfl, hy0]; rwa [show a + s - a = s by omega] at h⟩))
      have hXs : X = X.take s ++ X.drop s := (List.take_append_drop _ _).symm
      have l1 : (X.take s).length = s := by simp; omega
      have hZ := ins_plain (x := y) (U := X.take s) (V := X.drop s) (by rw [← hXs]; exact HS.out) (fun z hz => f2 z hz y (by simp)) (fun z hz => f1 z hz y (by simp)) (T := X) (by rw [← hXs]; exact Eqv.refl _)
      have hG := HI.out.2.2.1
      have hO := HI.out.2.2.2
      rw [hXs] at hG
      have HZ := hid hZ
      have HL := hid (show (X.take s).length + (X.drop s).length = X.length by simp; omega)
      generalize X.take s = U at *
      generalize X.drop s = V at *
      have HW2 := hid (And.intro hG hO)
      have hst : a + s ≤ m := by omega
      clear HI f1 f2 hXs hZ hG hO hy0 hs
      have HLU := hid l1
      clear l1 d1 d2 d3 d4
      go_wp2_with fail
      go_loopg [17] (m - (a + s)) (fun g1 vi wr => ∃ c : Nat, vi = .int .i64 ((a + s + c : Nat) : Int) ∧ a + s + c ≤ m ∧ c ≤ g1 ∧ Hid (GW enc k wr g o (pre ++ U ++ V.take c ++ y :: (V.drop c ++ post)) ∧ Onl g w wr))
      case atStart =>
        refine ⟨m - (a + s), by congr 1; omega, by omega, by omega, ⟨?_, HW2.out.2⟩⟩
        have := HW2.out.1
        rw [List.take_of_length_le (by have := HL.out; have := HLU.out; have := H0.out.2.1; omega), List.drop_of_length_le (by have := HL.out; have := HLU.out; have := H0.out.2.1; omega)]
        simpa [List.append_assoc] using this
      case round =>
        obtain ⟨c, rfl, hct, hg2, HI⟩ := hrel
        by_cases hlt2 : 0 < c
        · obtain ⟨c, rfl⟩ : ∃ d, c = d + 1 := ⟨c - 1, by omega⟩
          have hcV : c < V.length := by have := HL.out; have := HLU.out; have := H0.out.2.1; omega
          obtain ⟨x, hxx⟩ : ∃ x, V[c] = x := ⟨_, rfl⟩
          have dV : V.drop c = x :: V.drop (c + 1) := by rw [← hxx]; exact List.drop_eq_getElem_cons _
          have tV : V.take (c + 1) = V.take c ++ [x] := by rw [← hxx]; exact List.take_succ_eq_append_getElem _
          have hG := HI.out.1
          rw [tV] at hG
          have hCl : pre ++ U ++ (V.take c ++ [x]) ++ y :: (V.drop (c + 1) ++ post) = (pre ++ U ++ V.take c) ++ x :: [] ++ y :: (V.drop (c + 1) ++ post) := by simp
          have hCs : (pre ++ U ++ V.take c) ++ y :: [] ++ x :: (V.drop (c + 1) ++ post) = pre ++ U ++ V.take c ++ y :: (V.drop c ++ post) := by rw [dV]; simp
          have lp : (pre ++ U ++ V.take c).length = a + s + c := by have := HLU.out; have := H0.out.1; simp; omega
          have lq : (pre ++ U ++ V.take c).length + 1 + ([] : List α).length = a + s + c + 1 := by rw [lp]; rfl
          have hgm := get_mid (pre ++ U ++ V.take c) [] (V.drop (c + 1) ++ post) x y
          have hsm := swap_mid' (pre ++ U ++ V.take c) [] (V.drop (c + 1) ++ post) x y
          have hlen : ((pre ++ U ++ V.take c) ++ x :: [] ++ y :: (V.drop (c + 1) ++ post)).length = n := by
            have h3 := HL.out; have h4 := HLU.out
            obtain ⟨d1, d2, d3, d4⟩ := H0.out
            simp; omega
          rw [lq, lp] at hsm
          rw [lq, lp] at hgm
          rw [hCs] at hsm
          rw [hCl] at hG
          generalize (pre ++ U ++ V.take c) ++ x :: [] ++ y :: (V.drop (c + 1) ++ post) = CC at *
          have hGd := hG.drew
          have la1 : Sem.run P (loadCellsFrom ⟨g, o + (a + s + c) * k, none⟩ 0 k #[]) wr.drew = .ok (enc x).toArray wr.drew := hGd.load HK.out hgm.1
          have lb1 : Sem.run P (loadCellsFrom ⟨g, o + (a + s + c + 1) * k, none⟩ 0 k #[]) wr.drew = .ok (enc y).toArray wr.drew := hGd.load HK.out hgm.2
          have s1 : Sem.run P (storeCells ⟨g, o + (a + s + c + 1) * k, none⟩ (enc x) 0) wr.drew = .ok () (wr.drew.setCells g (o + (a + s + c + 1) * k) (enc x)) := hGd.store HK.out H1.out (by omega) x
          have hG1 := hGd.set_ HK.out (i := a + s + c + 1) (by omega) x
          have s2 : Sem.run P (storeCells ⟨g, o + (a + s + c) * k, none⟩ (enc y) 0) (wr.drew.setCells g (o + (a + s + c + 1) * k) (enc x)) = .ok () ((wr.drew.setCells g (o + (a + s + c + 1) * k) (enc x)).setCells g (o + (a + s + c) * k) (enc y)) := hG1.store HK.out H1.out (by rw [List.length_set]; omega) y
          have hG2 := hG1.set_ HK.out (i := a + s + c) (by rw [List.length_set]; omega) y
          rw [hsm] at hG2
          have HG2 : Hid _ := hG2
          have hsX : (enc x).length = k := HK.out _
          have hsY : (enc y).length = k := HK.out _
          obtain ⟨cx, hcx⟩ : ∃ c, c = enc x := ⟨_, rfl⟩
          obtain ⟨cy, hcy⟩ : ∃ c, c = enc y := ⟨_, rfl⟩
          rw [← hcx] at la1 hsX s1 s2
          rw [← hcy] at lb1 hsY s2
          rw [← hcx, ← hcy] at HG2
          have HON := hid HI.out.2
          have eac : a + s + (c + 1) = (a + s + c) + 1 := by omega
          rw [eac]
          have hac : a + s ≤ a + s + c := by omega
          have hacn : a + s + c + 1 ≤ m := by omega
          have q1 : ((a + s + c : Nat) : Int) + 1 < (n : Int) := by omega
          have q2 : ((a + s + c : Nat) : Int) < (n : Int) := by omega
          have hltz : (a : Int) + (s : Int) < ((a + s + c : Nat) : Int) + 1 := by omega
          have HAC := hid (show a + s + c = a + s + c from rfl)
          obtain ⟨ac, hacd⟩ : ∃ ac, a + s + c = ac := ⟨_, rfl⟩
          rw [hacd] at la1 lb1 s1 s2 HG2 q1 q2 hltz hac hacn ⊢
          have q3 : (0 : Int) ≤ (ac : Int) + 1 := by omega
          have q5 : ((ac : Int) + 1).toNat = ac + 1 := by omega
          have hwp : IntKind.i64.wrap (ac : Int) = (ac : Int) := by rw [IntKind.wrap_i64]; omega
          have HACD := hid hacd
          clear hxx dV tV hCl hCs lp lq hgm hsm hlen hGd hG hG1 hG2 hcx hcy HI eac hacd hcV
          go_wp2_with fail
          go_big_region_o
          all_goals go_wp2
          go_roundg c
          case measure => omega
          case rel => exact ⟨c, by have := HACD.out; first | (congr 1; omega) | go_num, by have := HACD.out; omega, by omega, ⟨HG2.out, ((HON.out.drew).sets _ _).sets _ _⟩⟩
        · obtain rfl : c = 0 := by omega
          have hltz : ¬ (a : Int) + (s : Int) < ((a + s + 0 : Nat) : Int) := by omega
          have hfin := HI.out.1
          rw [List.take_zero, List.drop_zero] at hfin
          have HF := hid hfin
          clear hfin
          go_wp2
          go_returns
          exact ⟨rfl, U ++ y :: V, ⟨by have := HL.out; simp; omega, HZ.out.1, HZ.out.2⟩, by simpa [List.append_assoc] using HF.out, HI.out.2⟩
end Go.Proofs.Ytmdlkoigjacipaa
