import Derived.Test.YtmdlkoigjacipaaRx
namespace Go.Proofs.Ytmdlkoigjacipaa
set_option linter.unusedVariables false
set_option linter.unusedSimpArgs false
open Go.RowKit Go.Sort Go.Proofs
variable {P : Program} {α : Type} {enc : α → List Value} {k : Nat} {key : α → Int}

/-- A comparison that is handed on: below zero just if the first one goes ahead of the second one; it may make boxes. -/
structure CmpP (P : Program) (enc : α → List Value) (key : α → Int) (f : FuncId) (cf : α → α → Int) : Prop where
  e : ∀ args w, (callFunc f args).run P w = .ok (.enter f args) w
  c : ∀ (W : World) (x y : α), Calls P f #[.agg (enc x).toArray, .agg (enc y).toArray] W fun e w' => e = .returned (.int .i64 (cf x y)) ∧ ∃ q os, w' = Sort.grow (W.drewN q) os
  lt : ∀ x y, cf x y < 0 ↔ key y < key x
theorem ins_plain {U V : List α} {x : α} (hZ : Srt key (U ++ V)) (hV : ∀ y ∈ V, key y < key x) (hU : ∀ y ∈ U, key x ≤ key y) {T : List α} (hT : Eqv key T (U ++ V)) : Srt key (U ++ x :: V) ∧ Eqv key (T ++ [x]) (U ++ x :: V) := by
  obtain ⟨s1, s2, s3⟩ := srt_append.1 hZ
  refine ⟨srt_append.2 ⟨s1, List.pairwise_cons.2 ⟨fun y hy => by have := hV y hy; omega, s2⟩, fun y hy z hz => ?_⟩, ?_⟩
  · rcases List.mem_cons.1 hz with rfl | hz
    · exact hU y hy
    · exact s3 y hy z hz
  · have h1 : Eqv key (T ++ [x]) ((U ++ V) ++ [x]) := hT.append (Eqv.refl _)
    have h2 : Eqv key (V ++ [x]) ([x] ++ V) := Eqv.swap fun y hy z hz => by
      have h3 := hV y hy
      have h4 : z = x := by simpa using hz
      subst h4; omega
    have h5 := (Eqv.refl (key := key) U).append h2
    rw [← List.append_assoc] at h5
    exact h1.trans h5
set_option maxHeartbeats 8000000 in
set_option maxRecDepth 1000000 in
theorem insertion_any (S : SortP P k) (F : P.funcs[78]? = some Try.f78) (hk : ∀ x, (enc x).length = k) (h1 : ∀ x, ∀ v ∈ enc x, v.oneCell' = true)
    {f : FuncId} {cf : α → α → Int} (C : CmpP P enc key f cf) (g o cap n a b : Nat) (pre X post : List α) (ha : a = pre.length) (hb : b = pre.length + X.length) (hn : n = pre.length + X.length + post.length) (hsz : n ≤ 1000000)
    (w : World) (hW : GW enc k w g o (pre ++ X ++ post)) :
    Calls P 78 #[.slice (some ⟨g, o, none⟩) n cap, .int .i64 a, .int .i64 b, .func (.func f) #[] #[]] w fun e w' => e = .returned (.tuple #[]) ∧ ∃ Z : List α, (Z.length = X.length ∧ Srt key Z ∧ Eqv key X Z) ∧ GW enc k w' g o (pre ++ Z ++ post) ∧ Onl g w w' := by
  have mixed := S.mixed; have t0 := S.t0; have a0 := S.a0; have z0 := S.z0; have v0 := S.v0; have t3 := S.t3; have a3 := S.a3; have z3 := S.z3; have v3 := S.v3; have t4 := S.t4; have a4 := S.a4; have z4 := S.z4; have v4 := S.v4; have t22 := S.t22; have a22 := S.a22; have z22 := S.z22; have v22 := S.v22; have t25 := S.t25; have a25 := S.a25; have z25 := S.z25; have v25 := S.v25; have aE := S.aE; have zE := S.zE
  have und := run_underlying S.t22
  have hab : a ≤ b := by omega
  have hbn : b ≤ n := by omega
  have eg := C.e
  have HC := hid C
  have H0 : Hid (a = pre.length ∧ b = pre.length + X.length ∧ n = pre.length + X.length + post.length) := ⟨ha, hb, hn⟩
  have HK : Hid (∀ x, (enc x).length = k) := hk
  have H1 : Hid (∀ x, ∀ v ∈ enc x, v.oneCell' = true) := h1
  have HW : Hid (GW enc k w g o (pre ++ X ++ post)) := hW
  clear ha hb hn hk h1 hW C
  go_enter F, Try.ntmps78
  go_wp2
  go_loopg [8] (b - a) (fun g1 vi wr => ∃ (i : Nat) (Z : List α), vi = .int .i64 i ∧ a < i ∧ i ≤ b + 1 ∧ b + 1 - i ≤ g1 + 1 ∧ Hid (Z.length = (X.take (i - a)).length ∧ Srt key Z ∧ Eqv key (X.take (i - a)) Z ∧ GW enc k wr g o (pre ++ Z ++ (X.drop (i - a) ++ post)) ∧ Onl g w wr))
  case atStart =>
    refine ⟨a + 1, X.take 1, by go_num, by omega, by omega, by omega, ?_⟩
    rw [show a + 1 - a = 1 by omega]
    refine ⟨rfl, ?_, Eqv.refl _, ?_, Onl.refl _ _⟩
    · match X with
      | [] => exact srt_nil
      | [x] => exact srt_one x
      | x :: y :: r => exact srt_one x
    · have := HW.out
      have e : pre ++ X.take 1 ++ (X.drop 1 ++ post) = pre ++ X ++ post := by
        rw [← List.append_assoc, List.append_assoc pre, List.take_append_drop]
      rw [e]; exact this
  case round =>
    obtain ⟨i, Z, rfl, hai, hib, hg1, HO⟩ := hrel
    by_cases hlt : i < b
    · have hltz : (i : Int) < (b : Int) := by omega
      obtain ⟨d1, d2, d3⟩ := H0.out
      have hxi : i - a < X.length := by omega
      obtain ⟨x, hxx⟩ : ∃ x, X[i - a] = x := ⟨_, rfl⟩
      have dX : X.drop (i - a) = x :: X.drop (i + 1 - a) := by rw [← hxx, show i + 1 - a = (i - a) + 1 by omega]; exact List.drop_eq_getElem_cons hxi
      have tX : X.take (i + 1 - a) = X.take (i - a) ++ [x] := by rw [← hxx, show i + 1 - a = (i - a) + 1 by omega]; exact List.take_succ_eq_append_getElem hxi
      have hZl : Z.length = i - a := by have := HO.out.1; rw [List.length_take] at this; omega
      have HX := hid (And.intro dX (And.intro tX hZl))
      have hstart : GW enc k wr g o (pre ++ Z ++ x :: ([] ++ (X.drop (i + 1 - a) ++ post))) := by
        have := HO.out.2.2.2.1
        rw [dX] at this
        simpa [List.append_assoc] using this
      have HST := hid hstart
      have HR := hid (show n = pre.length + Z.length + 1 + (X.drop (i + 1 - a) ++ post).length by simp; omega)
      clear dX tX hxx hxi hstart d1 d2 d3
      generalize hrest : X.drop (i + 1 - a) ++ post = rest at *
      have HREST := hid hrest
      clear hrest
      go_wp2
      go_loopg [9] i (fun g2 vj wr2 => ∃ (j : Nat) (U V : List α), vj = .int .i64 j ∧ a ≤ j ∧ j ≤ i ∧ j ≤ g2 ∧ Hid (Z = U ++ V ∧ j = pre.length + U.length ∧ (∀ y ∈ V, key y < key x) ∧ GW enc k wr2 g o (pre ++ U ++ x :: (V ++ rest)) ∧ Onl g w wr2))
      case atStart =>
        refine ⟨i, Z, [], rfl, by omega, Nat.le_refl _, Nat.le_refl _, ⟨by simp, ?_, by simp, HST.out, HO.out.2.2.2.2⟩⟩
        have := H0.out.1; omega
      case round =>
        obtain ⟨j, U, V, rfl, haj, hji, hg2, HI⟩ := hrel
        by_cases hja : a < j
        · have hjaz : (a : Int) < (j : Int) := by omega
          obtain ⟨jp, rfl⟩ : ∃ jp, j = jp + 1 := ⟨j - 1, by omega⟩
          obtain ⟨f1, f2, f3, f4, f5⟩ := HI.out
          have hUne : U ≠ [] := by
            rintro rfl
            have := H0.out.1
            simp at f2; omega
          obtain ⟨U', u, rfl⟩ : ∃ U' u, U = U' ++ [u] := ⟨U.dropLast, U.getLast hUne, (List.dropLast_concat_getLast hUne).symm⟩
          have hCl : pre ++ (U' ++ [u]) ++ x :: (V ++ rest) = (pre ++ U') ++ u :: [] ++ x :: (V ++ rest) := by simp
          have hCs : (pre ++ U') ++ x :: [] ++ u :: (V ++ rest) = pre ++ U' ++ x :: ((u :: V) ++ rest) := by simp
          have lp : (pre ++ U').length = jp := by simp at f2 ⊢; omega
          have lq : (pre ++ U').length + 1 + ([] : List α).length = jp + 1 := by simp at f2 ⊢; omega
          have hgm := get_mid (pre ++ U') [] (V ++ rest) u x
          have hsm := swap_mid' (pre ++ U') [] (V ++ rest) u x
          have hlen : ((pre ++ U') ++ u :: [] ++ x :: (V ++ rest)).length = n := by
            have h2 := HR.out
            have h3 := congrArg List.length f1
            simp at h3 h2 ⊢; omega
          rw [lq, lp] at hsm
          rw [lq, lp] at hgm
          rw [hCs] at hsm
          rw [hCl] at f4
          generalize hCC : (pre ++ U') ++ u :: [] ++ x :: (V ++ rest) = CC at *
          have hwp : IntKind.i64.wrap (jp : Int) = (jp : Int) := by rw [IntKind.wrap_i64]; omega
          have jz : (jp : Int) + 1 < (n : Int) := by omega
          have jz1 : (jp : Int) < (n : Int) := by omega
          have hjaz' : (a : Int) < (jp : Int) + 1 := by omega
          have p0 : (0 : Int) ≤ (jp : Int) + 1 := by omega
          have e0 : ((jp : Int) + 1).toNat = jp + 1 := by omega
          have lj : ∀ n' os', Sem.run P (loadCellsFrom ⟨g, o + (jp + 1) * k, none⟩ 0 k #[]) (Sort.grow (wr.drewN n') os') = .ok (enc x).toArray (Sort.grow (wr.drewN n') os') := fun n' os' => (f4.grown n' os').load HK.out hgm.2
          have lp1 : ∀ n' os', Sem.run P (loadCellsFrom ⟨g, o + jp * k, none⟩ 0 k #[]) (Sort.grow (wr.drewN n') os') = .ok (enc u).toArray (Sort.grow (wr.drewN n') os') := fun n' os' => (f4.grown n' os').load HK.out hgm.1
          have hcg : ∀ n' os', Calls P f #[.agg (enc x).toArray, .agg (enc u).toArray] (Sort.grow (wr.drewN n') os') fun e w' => e = .returned (.int .i64 (cf x u)) ∧ ∃ q os'', w' = Sort.grow ((Sort.grow (wr.drewN n') os').drewN q) os'' := fun n' os' => HC.out.c _ x u
          have HF := hid (And.intro f1 (And.intro f2 (And.intro f3 (And.intro f4 f5))))
          have HG := hid (And.intro hgm (And.intro hsm (And.intro hlen hCC)))
          clear f1 f2 f3 f4 f5 hgm hsm hlen lp lq hCl hCs hUne HI hCC
          by_cases hlv : cf x u < 0
          · have HLT := hid ((HC.out.lt x u).1 hlv)
            go_wp2_with fail
            go_quiet_grown (first | (go_at_fn f; refine Calls.grown_of (hcg _ _)))
            go_wp2_with fail
            have hGd : GW enc k (Sort.grow (wr.drewN nq) osq).drew g o CC := (HF.out.2.2.2.1.grown nq osq).drew
            have hOn : Onl g w (Sort.grow (wr.drewN nq) osq).drew := ((HF.out.2.2.2.2.drewN nq).grow osq).drew
            clear lj lp1 hcg
            generalize (Sort.grow (wr.drewN nq) osq) = wq2 at hGd hOn ⊢
            have hgm := HG.out.1
            have lj2 : Sem.run P (loadCellsFrom ⟨g, o + (jp + 1) * k, none⟩ 0 k #[]) wq2.drew = .ok (enc x).toArray wq2.drew := hGd.load HK.out hgm.2
            have lp2 : Sem.run P (loadCellsFrom ⟨g, o + jp * k, none⟩ 0 k #[]) wq2.drew = .ok (enc u).toArray wq2.drew := hGd.load HK.out hgm.1
            have s1 : Sem.run P (storeCells ⟨g, o + (jp + 1) * k, none⟩ (enc u) 0) wq2.drew = .ok () (wq2.drew.setCells g (o + (jp + 1) * k) (enc u)) := hGd.store HK.out H1.out (by have := HG.out.2.2.1; omega) u
            have hG1 := hGd.set_ HK.out (i := jp + 1) (by have := HG.out.2.2.1; omega) u
            have s2 : Sem.run P (storeCells ⟨g, o + jp * k, none⟩ (enc x) 0) (wq2.drew.setCells g (o + (jp + 1) * k) (enc u)) = .ok () ((wq2.drew.setCells g (o + (jp + 1) * k) (enc u)).setCells g (o + jp * k) (enc x)) := hG1.store HK.out H1.out (by have := HG.out.2.2.1; rw [List.length_set]; omega) x
            have hG2 := hG1.set_ HK.out (i := jp) (by have := HG.out.2.2.1; rw [List.length_set]; omega) x
            rw [HG.out.2.1] at hG2
            have HG2 : Hid _ := hG2
            have HON := hid hOn
            have hsX : (enc x).length = k := HK.out _
            have hsY : (enc u).length = k := HK.out _
            obtain ⟨cx, hcx⟩ : ∃ c, c = enc x := ⟨_, rfl⟩
            obtain ⟨cy, hcy⟩ : ∃ c, c = enc u := ⟨_, rfl⟩
            rw [← hcx] at lj2 hsX s2
            rw [← hcy] at lp2 hsY s1 s2
            rw [← hcx, ← hcy] at HG2
            clear hgm hGd hG1 hG2 hcx hcy hOn
            go_big_region_o
            all_goals go_wp2
            go_roundg jp
            case measure => omega
            case rel =>
              obtain ⟨f1, f2, f3, f4, f5⟩ := HF.out
              refine ⟨jp, U', u :: V, by first | rfl | go_num | (congr 1; omega), by omega, by omega, Nat.le_refl _, ⟨by rw [f1]; simp, by simp at f2; omega, fun y hy => ?_, HG2.out, (HON.out.sets _ _).sets _ _⟩⟩
              rcases List.mem_cons.1 hy with rfl | hy
              · exact HLT.out
              · exact f3 y hy
          · have HLT := hid (show key x ≤ key u by
              have := HC.out.lt x u
              by_cases h : key u < key x
              · exact absurd (this.2 h) hlv
              · omega)
            go_wp2_with fail
            go_quiet_grown (first | (go_at_fn f; refine Calls.grown_of (hcg _ _)))
            go_wp2
            go_roundg (b - (i + 1))
            case measure => omega
            case rel =>
              obtain ⟨f1, f2, f3, f4, f5⟩ := HF.out
              obtain ⟨o1, o2, o3, o4, o5⟩ := HO.out
              obtain ⟨x1, x2, x3⟩ := HX.out
              have hp := ins_plain (x := x) (f1 ▸ o2) f3 (fun y hy => by
                have hs := f1 ▸ o2
                have hsu := (srt_append.1 hs).1
                rcases List.mem_append.1 hy with hy | hy
                · have := (srt_append.1 hsu).2.2 y hy u (by simp)
                  have := HLT.out; omega
                · have : y = u := by simpa using hy
                  rw [this]; exact HLT.out) (f1 ▸ o3)
              refine ⟨i + 1, (U' ++ [u]) ++ x :: V, by go_num, by omega, by omega, by omega, ⟨?_, hp.1, by rw [x2]; exact hp.2, ?_, (f5.drewN _).grow _⟩⟩
              · have h3 := congrArg List.length f1
                rw [x2]
                simp at h3 o1 ⊢; omega
              · have hgg := f4.grown nq osq
                rw [← HG.out.2.2.2] at hgg
                rw [HREST.out]
                simpa [List.append_assoc] using hgg
        · have hjaz : decide ((j : Int) > (a : Int)) = false := decide_eq_false (by omega)
          have hjaz' : ¬ (a : Int) < (j : Int) := by omega
          have HW2 := hid (And.intro HI.out.2.2.2.1.drew HI.out.2.2.2.2.drew)
          have HII := hid (And.intro HI.out.1 (And.intro HI.out.2.1 HI.out.2.2.1))
          clear HI
          go_wp2_with fail
          go_big_region_o
          all_goals go_wp2
          go_roundg (b - (i + 1))
          case measure => omega
          case rel =>
            obtain ⟨f1, f2, f3⟩ := HII.out
            obtain ⟨o1, o2, o3, o4, o5⟩ := HO.out
            obtain ⟨x1, x2, x3⟩ := HX.out
            have hU0 : U = [] := List.eq_nil_of_length_eq_zero (by have := H0.out.1; omega)
            subst hU0
            have hp := ins_plain (x := x) (U := []) (f1 ▸ o2) f3 (by simp) (f1 ▸ o3)
            refine ⟨i + 1, x :: V, by go_num, by omega, by omega, by omega, ⟨?_, hp.1, by rw [x2]; exact hp.2, ?_, HW2.out.2⟩⟩
            · have h3 := congrArg List.length f1
              rw [x2]
              simp at h3 o1 ⊢; omega
            · have hgg := HW2.out.1
              rw [HREST.out]
              simpa [List.append_assoc] using hgg
    · have hltz : ¬ (i : Int) < (b : Int) := by omega
      go_wp2
      go_end0
      obtain ⟨o1, o2, o3, o4, o5⟩ := HO.out
      obtain ⟨d1, d2, d3⟩ := H0.out
      rw [List.take_of_length_le (by omega)] at o1 o3
      rw [List.drop_of_length_le (by omega), List.nil_append] at o4
      exact ⟨rfl, Z, ⟨o1, o2, o3⟩, by simpa [List.append_assoc] using o4, o5⟩
end Go.Proofs.Ytmdlkoigjacipaa
