import Derived.Test.YtmdlkoigjacipaaEi
import Derived.Deep.CutRange
namespace Go.Proofs.Ytmdlkoigjacipaa
set_option linter.unusedVariables false
set_option linter.unusedSimpArgs false
open Go.RowKit Go.Joins

theorem keepQ {v w' : World} {g2 : Nat} {m h p b : List UInt8} {x : Value} (h2 : BQ v g2 m h p x b) (hz : Below v.heap.size v w') :
    w'.cell? ⟨g2, 0, none⟩ = some (.string (bs m)) ∧ w'.cell? ⟨g2, 1, none⟩ = some (.string (bs h)) ∧ w'.cell? ⟨g2, 2, none⟩ = some (.string (bs p)) ∧ w'.cell? ⟨g2, 3, none⟩ = some x ∧ w'.cell? ⟨g2, 4, none⟩ = some (.string (bs b)) ∧ Below v.heap.size v w' := by
  obtain ⟨q0, q1, q2, q3, q4⟩ := (h2.up hz).cells
  exact ⟨q0, q1, q2, q3, q4, hz⟩
theorem GB.pv {w : World} {base : Nat} {y : Value} {L : List Pd} (h : GB encP 3 23 w base y L) : ∃ A c, y = .slice A L.length c ∧ PX w (· < w.heap.size) A L := by
  obtain ⟨A, c, e, h1, _⟩ := GB.reads encP_len h
  exact ⟨A, c, e, (h1.imp fun b hb => hb.2).px⟩
set_option maxRecDepth 100000 in
set_option maxHeartbeats 16000000 in
theorem predMore_walk (A : Option Addr) (c : Nat) (l : List Pd) (hln : l.length ≤ 9223372036854775807) (hA : A = none → c = 0) (hsm : smallP l) (k : Int) (n v : List UInt8) (hn : n.length ≤ 140737488351232) (hv : v.length ≤ 140737488351232)
    (m h p b : List UInt8) (x : Value) (L : List Hd) (hL : L.length ≤ 9223372036854775807) (hs : ∀ h ∈ L, h.1.length ≤ 140737488351232 ∧ h.2.length ≤ 140737488351232) (hm : m.length ≤ 140737488351232) (hh : h.length ≤ 140737488351232) (hp : p.length ≤ 140737488351232) (hb : b.length ≤ 140737488351232)
    (i : Int) (hi : -9223372036854775808 ≤ i ∧ i ≤ 9223372036854775807) (w : World) (hl : PX w (· < w.heap.size) A l) (hx : HV w x L) :
    Calls Try.prog 5 #[.slice A l.length c, .agg #[.int .i64 k, .string (bs n), .string (bs v)], .agg #[.string (bs m), .string (bs h), .string (bs p), x, .string (bs b)], .int .i64 i] w fun e w' => e = .returned (.bool true) ∧ Below w.heap.size w w' := by
  have hnot := enot
  have hb0 := estep (enew w (.cells #[.int .i64 k, .string (bs n), .string (bs v)] 23)) (enew _ (.cells #[.string (bs m), .string (bs h), .string (bs p), x, .string (bs b)] 31))
  have hp0 := (BP.new w k n v).up (enew _ (.cells #[.string (bs m), .string (bs h), .string (bs p), x, .string (bs b)] 31))
  have hq0 := BQ.new (w.alloc (.cells #[.int .i64 k, .string (bs n), .string (bs v)] 23)) m h p x b
  rw [World.size_alloc] at hq0
  have hx0 := hx.up hb0
  have hl0 := hl.up hb0
  clear hl hx
  have a1 : IntKind.i64.wrap ((n.length : Int) + (v.length : Int)) = (n.length : Int) + (v.length : Int) := IntWalk.i64_in _ (by omega)
  have HF1 := hid (fun w2 (h2 : PX w2 (· < w2.heap.size) A l) (z : Bool) (hz : Hid (fewP l = z)) => pfew_any A c l w2 h2 hln hsm hz)
  have HF2 := hid (fun w2 (h2 : HV w2 x L) (z : Bool) (hz : Hid (fewR m h p L b = z)) => rfew_any m h p b x L w2 h2 hL hs hm hh hp hb hz)
  have HA := hid hA
  clear hA
  go_enter Try.func5, Try.ntmps5
  go_upto_region 1 with (fail)
  generalize (w.alloc (.cells #[.int .i64 k, .string (bs n), .string (bs v)] 23)).alloc (.cells #[.string (bs m), .string (bs h), .string (bs p), x, .string (bs b)] 31) = v0 at *
  obtain ⟨k0, k1, k2⟩ := hp0.cells
  by_cases hle : n.length + v.length ≤ 400
  · have hd : decide ((400 : Int) < (n.length : Int) + (v.length : Int)) = false := decide_eq_false (by omega)
    cases hf1 : fewP l
    · go_wp2_with fail
      refine (HF1.out _ hl0 _ hf1).mono ?_
      rintro r v1 ⟨rfl, hb1⟩
      have hb2 := estep hb0 hb1
      clear k0 k1 k2 hb0 hb1
      go_wp2_with fail
      refine (known11_any _).mono ?_
      rintro r v2 ⟨rfl, hb3⟩
      go_wp2_with fail
      go_returns
      exact ⟨rfl, estep hb2 hb3⟩
    have hl20 := fewP_len hf1
    go_wp2_with fail
    refine (HF1.out _ hl0 _ hf1).mono ?_
    rintro r v1 ⟨rfl, hb1⟩
    have hb2 := estep hb0 hb1
    have hp2 := hp0.up hb1
    have hq2 := hq0.up hb1
    have hx2 := hx0.up hb1
    have hl2 := hl0.up hb1
    clear k0 k1 k2 hb0 hb1 hp0 hq0 hx0 hl0
    obtain ⟨q0, q1, q2, q3, q4⟩ := hq2.cells
    cases hf2 : fewR m h p L b
    · go_wp2_with fail
      refine (HF2.out _ hx2 _ hf2).mono ?_
      rintro r v2 ⟨rfl, hb3⟩
      have hb4 := estep hb2 hb3
      clear q0 q1 q2 q3 q4 hb2 hb3
      go_wp2_with fail
      refine (known11_any _).mono ?_
      rintro r v3 ⟨rfl, hb5⟩
      go_wp2_with fail
      go_returns
      exact ⟨rfl, estep hb4 hb5⟩
    have hLs := fewR_len hf2
    have HL20 := hid hl20
    clear hl20
    go_wp2_with fail
    refine (HF2.out _ hx2 _ hf2).mono ?_
    rintro r v2 ⟨rfl, hb3⟩
    have H4 := hid (And.intro (estep hb2 hb3) (And.intro (hp2.up hb3) (And.intro (hq2.up hb3) (And.intro (hx2.up hb3) (hl2.up hb3)))))
    clear q0 q1 q2 q3 q4 hb2 hb3 hp2 hq2 hx2 hl2 HF1 HF2
    go_wp2_with (at_builtin; refine wpList_append_gx rowP rfl _ _ rfl v2.heap.size (.slice none 0 0) [] l A c (· < v2.heap.size) rfl (GB.nil _ _) rfl H4.out.2.2.2.2.gx HA.out (by have := HL20.out; simp; omega) (Below.refl _ _) (Nat.le_refl _) ?_)
    intro y1 v3 hown1 hbel1 hg1
    have hp5 := H4.out.2.1.up hbel1
    have HO1 := hid (And.intro hown1 hbel1)
    clear hown1 hbel1 hg1
    obtain ⟨k0, k1, k2⟩ := hp5.cells
    have hbE := enew v3 (.cells #[.int .i64 k, .string (bs n), .string (bs v)] 23)
    have HE := hid (And.intro (HO1.out.2.trans (hbE.mono HO1.out.2.size)) (And.intro (HO1.out.1.below hbE) (GX.one (x := (⟨k, n, v⟩ : Pd)) (enc := encP) (k := 3) (Bk.new v3 23 #[.int .i64 k, .string (bs n), .string (bs v)]) rfl)))
    clear hbE
    go_wp2_with (at_builtin; refine wpList_append_gx rowP rfl _ _ rfl v2.heap.size y1 ([] ++ l) [⟨k, n, v⟩] (some ⟨v3.heap.size, 0, none⟩) 1 _ rfl HE.out.2.1 rfl HE.out.2.2 (fun h => by cases h) (by have := HL20.out; simp; omega) HE.out.1 (Nat.le_refl _) ?_)
    intro y2 v4 hown2 hbel2 hg2
    clear k0 k1 k2 hg2 hp5
    obtain ⟨A2, c2, rfl, hpx2⟩ := GB.pv hown2
    have hlm : (l ++ [(⟨k, n, v⟩ : Pd)]).length ≤ 9223372036854775807 := by have := HL20.out; simp; omega
    have H5 := hid (And.intro (estep H4.out.1 hbel2) (And.intro (H4.out.2.1.up hbel2) (And.intro (H4.out.2.2.1.up hbel2) (And.intro (H4.out.2.2.2.1.up hbel2) (And.intro (H4.out.2.2.2.2.up hbel2) hpx2)))))
    clear hown2 hbel2 hpx2 HO1 HE
    obtain ⟨z1, hz1⟩ : ∃ z, mE k n v m h p L = z := ⟨_, rfl⟩
    obtain ⟨z2, hz2⟩ : ∃ z, allE l m h p L = z := ⟨_, rfl⟩
    have hz3 : allE (l ++ [(⟨k, n, v⟩ : Pd)]) m h p L = (z2 && z1) := by rw [allE_snoc, hz1, hz2]
    have HM1 := hid (fun w2 (h2 : HV w2 x L) => match_any m h p b x L k n v w2 h2 (by omega) (hid hz1))
    have HA1 := hid (fun w2 (h1 : PX w2 (· < w2.heap.size) A l) (h2 : HV w2 x L) => all_any m h p b x L A c l w2 h1 hln h2 (by omega) (hid hz2))
    have HA3 := hid (fun w2 (h1 : PX w2 (· < w2.heap.size) A2 (l ++ [(⟨k, n, v⟩ : Pd)])) (h2 : HV w2 x L) => all_any m h p b x L A2 c2 (l ++ [(⟨k, n, v⟩ : Pd)]) w2 h1 hlm h2 (by omega) (hid hz3))
    have HZZ := hid (And.intro hz1 hz2)
    clear hz1 hz2 hz3
    generalize l ++ [(⟨k, n, v⟩ : Pd)] = lm at *
    go_upto_region 6 with (fail)
    go_cut [47] from 36 to 47 (fun s wx => s = .bool false ∧ Hid (Below v4.heap.size v4 wx))
    case first =>
      cases z2
      · cases z1
        all_goals
          simp only [Bool.and_true, Bool.and_false, Bool.true_and, Bool.false_and] at HA3
          have hz : Below v4.heap.size v4 v4.drew := (Below.refl _ _).drew
          obtain ⟨q0, q1, q2, q3, q4⟩ := (H5.out.2.2.1.up hz).cells
          go_region_with (first
            | (go_at_call_of 16 (Value.slice A l.length c)
               refine (HA1.out _ (H5.out.2.2.2.2.1.up hz) (H5.out.2.2.2.1.up hz)).mono ?_
               rintro e w5 ⟨rfl, hy⟩
               have hz := hz.trans (hy.mono hz.size)
               obtain ⟨q0, q1, q2, q3, q4⟩ := (H5.out.2.2.1.up hz).cells)
            | (go_at_call_of 16 (Value.slice A2 lm.length c2)
               refine (HA3.out _ (H5.out.2.2.2.2.2.up hz) (H5.out.2.2.2.1.up hz)).mono ?_
               rintro e w5 ⟨rfl, hy⟩
               have hz := hz.trans (hy.mono hz.size)
               obtain ⟨q0, q1, q2, q3, q4⟩ := (H5.out.2.2.1.up hz).cells))
          all_goals
            go_wp2_with fail
            go_meet
            exact ⟨rfl, hid hz⟩
      · cases z1
        all_goals
          simp only [Bool.and_true, Bool.and_false, Bool.true_and, Bool.false_and] at HA3
          have hz : Below v4.heap.size v4 v4.drew := (Below.refl _ _).drew
          go_region_held3 (fun w' => w'.cell? ⟨w.heap.size, 0, none⟩ = some (.int .i64 k) ∧ w'.cell? ⟨w.heap.size, 1, none⟩ = some (.string (bs n)) ∧ w'.cell? ⟨w.heap.size, 2, none⟩ = some (.string (bs v)) ∧ w'.cell? ⟨w.heap.size + 1, 0, none⟩ = some (.string (bs m)) ∧ w'.cell? ⟨w.heap.size + 1, 1, none⟩ = some (.string (bs h)) ∧ w'.cell? ⟨w.heap.size + 1, 2, none⟩ = some (.string (bs p)) ∧ w'.cell? ⟨w.heap.size + 1, 3, none⟩ = some x ∧ w'.cell? ⟨w.heap.size + 1, 4, none⟩ = some (.string (bs b)) ∧ Below v4.heap.size v4 w') (first | (with_reducible exact keepPQ H5.out.2.1 H5.out.2.2.1 hz)) (first
            | (go_at_call 14
               ((with_reducible refine (HM1.out _ (H5.out.2.2.2.1.up hz)).mono ?_); rintro e w5 ⟨rfl, hy⟩)
               have hz := hz.trans (hy.mono hz.size))
            | (go_at_call_of 16 (Value.slice A l.length c)
               ((with_reducible refine (HA1.out _ (H5.out.2.2.2.2.1.up hz) (H5.out.2.2.2.1.up hz)).mono ?_); rintro e w5 ⟨rfl, hy⟩)
               have hz := hz.trans (hy.mono hz.size))
            | (go_at_call_of 16 (Value.slice A2 lm.length c2)
               ((with_reducible refine (HA3.out _ (H5.out.2.2.2.2.2.up hz) (H5.out.2.2.2.1.up hz)).mono ?_); rintro e w5 ⟨rfl, hy⟩)
               have hz := hz.trans (hy.mono hz.size)))
          all_goals
            go_wp2_with fail
            go_meet
            exact ⟨rfl, hid hz⟩
    case rest =>
      obtain ⟨rfl, HZ⟩ := hcut
      have hz := HZ.out
      obtain ⟨q0, q1, q2, q3, q4⟩ := (H5.out.2.2.1.up hz).cells
      by_cases hi0 : i < 0
      · clear q0 q1 q3 q4
        go_wp2_with fail
        refine (known11_any _).mono ?_
        rintro r v8 ⟨rfl, hb8⟩
        go_wp2_with fail
        go_returns
        exact ⟨rfl, estep H5.out.1 (estep hz hb8)⟩
      obtain ⟨j, rfl⟩ := Int.eq_ofNat_of_zero_le (show 0 ≤ i by omega)
      have hi1 : decide ((j : Int) < 0) = false := decide_eq_false (by omega)
      by_cases hip : j ≤ p.length
      · have hi2 : decide ((p.length : Int) < (j : Int)) = false := decide_eq_false (by omega)
        go_upto_region 10 with (fail)
        have hex : (bs p).extract 0 j = bs (p.take j) := by rw [bs_extract, List.drop_zero, Nat.sub_zero]
        have hj0 : (0 : Int) ≤ (j : Int) := by omega
        have hj1 : (j : Int) ≤ (p.length : Int) := by omega
        have HX4 := hid (fun w2 (h2 : HV w2 x L) => (show Calls Try.prog 14 #[.agg #[.int .i64 4, .string (ByteArray.mk #[]), .string ((bs p).extract 0 j)], .agg #[.string (bs m), .string (bs h), .string (bs p), x, .string (bs b)]] w2 fun e w' => e = .returned (.bool true) ∧ Below w2.heap.size w2 w' by rw [hex]; exact match_any m h p b x L 4 [] (p.take j) w2 h2 (by omega) (hid (prefix_of_take p j))))
        have HX3 := hid (fun w2 (h2 : HV w2 x L) => (show Calls Try.prog 14 #[.agg #[.int .i64 3, .string (ByteArray.mk #[]), .string (bs p)], .agg #[.string (bs m), .string (bs h), .string (bs p), x, .string (bs b)]] w2 fun e w' => e = .returned (.bool true) ∧ Below w2.heap.size w2 w' by exact match_any m h p b x L 3 [] p w2 h2 (by omega) (hid (by simp [mE]))))
        clear hex
        have H6 := hid (And.intro (estep H5.out.1 hz) (And.intro (H5.out.2.2.1.up hz) (H5.out.2.2.2.1.up hz)))
        clear hz q0 q1 q2 q3 q4 HZ H5 HA1 HA3 HM1 HZZ
        have hz : Below wc.heap.size wc wc.drew := (Below.refl _ _).drew
        go_region_held3 (fun w' => w'.cell? ⟨w.heap.size + 1, 0, none⟩ = some (.string (bs m)) ∧ w'.cell? ⟨w.heap.size + 1, 1, none⟩ = some (.string (bs h)) ∧ w'.cell? ⟨w.heap.size + 1, 2, none⟩ = some (.string (bs p)) ∧ w'.cell? ⟨w.heap.size + 1, 3, none⟩ = some x ∧ w'.cell? ⟨w.heap.size + 1, 4, none⟩ = some (.string (bs b)) ∧ Below wc.heap.size wc w') (first | (with_reducible exact keepQ H6.out.2.1 hz)) (first
          | (go_at_call 14
             ((with_reducible refine (HX4.out _ (H6.out.2.2.up hz)).mono ?_); rintro e w5 ⟨rfl, hy⟩)
             have hz := hz.trans (hy.mono hz.size))
          | (go_at_call 14
             ((with_reducible refine (HX3.out _ (H6.out.2.2.up hz)).mono ?_); rintro e w5 ⟨rfl, hy⟩)
             have hz := hz.trans (hy.mono hz.size))
          | (go_at_call 9
             ((with_reducible refine (known11_any _).mono ?_); rintro e w5 ⟨rfl, hy⟩)
             have hz := hz.trans (hy.mono hz.size)))
        all_goals
          go_wp2_with fail
          go_returns
          exact ⟨rfl, estep H6.out.1 hz⟩
      · have hi2 : decide ((p.length : Int) < (j : Int)) = true := decide_eq_true (by omega)
        go_wp2_with fail
        refine (known11_any _).mono ?_
        rintro r v8 ⟨rfl, hb8⟩
        go_wp2_with fail
        go_returns
        exact ⟨rfl, estep H5.out.1 (estep hz hb8)⟩
  · have hd : decide ((400 : Int) < (n.length : Int) + (v.length : Int)) = true := decide_eq_true (by omega)
    go_wp2_with fail
    refine (known11_any _).mono ?_
    rintro r v1 ⟨rfl, hb1⟩
    go_wp2_with fail
    go_returns
    exact ⟨rfl, estep hb0 hb1⟩
end Go.Proofs.Ytmdlkoigjacipaa
