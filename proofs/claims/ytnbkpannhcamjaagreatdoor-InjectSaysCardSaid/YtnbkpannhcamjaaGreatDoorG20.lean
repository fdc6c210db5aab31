/- Texts put together: Ti Tj. -/
import Derived.Test.YtnbkpannhcamjaaGreatDoorG19
import Derived.BigRegion
import Derived.Test.YtnbkpannhcamjaaGreatDoorG18
namespace Go.Proofs.YtnbkpannhcamjaaGreatDoor
set_option linter.unusedVariables false
set_option linter.unusedSimpArgs false
open Go.RowKit Go.Joins

set_option maxRecDepth 100000 in
set_option maxHeartbeats 4000000 in
theorem rtread_any (s : List UInt8) (hs : s.length ≤ 90000) (w : World) :
    Calls Tryz.prog 19 #[.string (bs s)] w fun e w' => (∃ r, e = .returned (.tuple #[r, .int .i64 (readM s).2]) ∧ MB w' w.heap.size r (readM s).1) ∧ Below w.heap.size w w' := by
  have HC0 := hid (rsplit_any s w (by omega))
  have c2 : (ByteArray.mk #[61]) = bs [61] := rfl
  go_enter Tryz.func19, Tryz.ntmps19
  go_wp2_with fail
  refine HC0.out.mono ?_
  rintro e w1 ⟨v, rfl, hv, hb1⟩
  obtain ⟨Ap, cp, rfl, hSp⟩ := hv.reads
  have HSP := hid (hSp.imp (M := (· < w1.heap.size)) fun b hb => hb.2)
  have HB1 := hid hb1
  have hpl := splitS_len s
  have HPS := hid (splitS_small s)
  have HRM := hid (show readM s = rdP [] ((splitS s).drop 0) from rfl)
  have HB1z : w.heap.size ≤ w1.heap.size := hb1.size
  clear hv hSp hb1
  generalize splitS s = P at *
  go_wp2_with fail
  go_loopw [4, 6] (fun v i wr => ∃ (j : Nat) (acc : List Hd) (A1 : Option Addr) (N c : Nat), j ≤ P.length ∧ i = .int .i64 j ∧ v = .slice A1 N c ∧ N ≤ 32 ∧ Hid (readM s = rdP acc (P.drop j) ∧ MB wr w1.heap.size (.slice A1 N c) acc ∧ okM acc ∧ Below w1.heap.size w1 wr)) (fun _ i _ => P.length - (intOf i).toNat)
  case atStart => exact ⟨0, [], none, 0, 0, by omega, rfl, rfl, by omega, hid ⟨HRM.out, MB.nil _ _, ⟨by simp, by simp⟩, Below.refl _ _⟩⟩
  case round =>
    obtain ⟨j, acc, A1, N, c, hj, rfl, rfl, hN, HK⟩ := hrel
    by_cases hlt : j < P.length
    · obtain ⟨ad, hA, hB, hc0⟩ := (HSP.out.below HK.out.2.2.2) j hlt
      have hp := HPS.out _ (List.getElem_mem hlt)
      have hrd := rdP_drop acc P j hlt
      have HRD := hid (HK.out.1.trans hrd)
      have htl := trim_len P[j]
      have HC2 := hid (fun w => rtrim_any P[j] w (by omega))
      clear hrd
      subst hA
      have hi0 : (0 : Int) ≤ (j : Int) := by omega
      have hi1 : (j : Int) < (P.length : Int) := by omega
      generalize P[j] = p at *
      generalize trimB' p = t at *
      by_cases ht : t = []
      · subst ht
        have HR2 := hid (show readM s = rdP acc (P.drop (j + 1)) by rw [HRD.out, if_pos rfl])
        clear HRD
        go_wp2_with fail
        refine (HC2.out _).mono ?_
        rintro e w2 ⟨rfl, rfl⟩
        go_wp2_with fail
        go_roundw
        case rel => exact ⟨j + 1, acc, _, _, _, by omega, by go_num, rfl, by omega, hid ⟨HR2.out, HK.out.2⟩⟩
        case measure => simp [intOf]; omega
      · have hqb : (t == []) = false := by simpa using ht
        have HRD2 := hid (show readM s = if oneM acc ((cutS [61] t).1, (cutS [61] t).2.1) = 0 then rdP (acc ++ [((cutS [61] t).1, (cutS [61] t).2.1)]) (P.drop (j + 1)) else ([], oneM acc ((cutS [61] t).1, (cutS [61] t).2.1)) by rw [HRD.out, if_neg ht])
        clear HRD ht
        go_wp2_with fail
        refine (HC2.out _).mono ?_
        rintro e w2 ⟨rfl, rfl⟩
        go_wp2_with fail
        go_loop [8] (fun a => ∃ k : Nat, k ≤ t.length ∧ a = .int .i64 k ∧ Hid (∀ i (h : i < t.length), i < k → t[i] ≠ 61)) (fun a => t.length - (intOf a).toNat)
        case atStart => exact ⟨0, by omega, rfl, hid (fun i h h' => absurd h' (by omega))⟩
        case round =>
          obtain ⟨k, hk, rfl, HN61⟩ := hrel
          by_cases hkl : k < t.length
          · by_cases h61 : t[k].toNat = 61
            · have hcut := cut_at t k hkl ((u8_61 _).2 h61) HN61.out
              rw [hcut] at HRD2
              simp only at HRD2
              have hb61 : ((t[k].toNat : Int) != 61) = false := by simp; omega
              have hne : ((k : Int) == (t.length : Int)) = false := by simp; omega
              have x1 : (bs t).extract 0 k = bs (t.take k) := by rw [bs_extract]; simp
              have x2 : (bs t).extract (k + 1) t.length = bs (t.drop (k + 1)) := by rw [bs_extract, List.take_of_length_le (by simp)]
              have j1 : (k : Int) + 1 ≤ (t.length : Int) := by omega
              have j0 : (0 : Int) ≤ (k : Int) := by omega
              have j2 : (k : Int) ≤ (t.length : Int) := by omega
              have j3 : (0 : Int) ≤ (k : Int) + 1 := by omega
              have j4 : IntKind.i64.wrap ((k : Int) + 1) = (k : Int) + 1 := IntWalk.i64_in _ (by omega)
              have HO := hid (fun (w : World) (base : Nat) (h : MB w base (.slice A1 N c) acc) => rone_own h HK.out.2.2.1 (t.take k) (t.drop (k + 1)) (by rw [List.length_take]; omega) (by rw [List.length_drop]; omega))
              have HOK := hid (fun (h : oneM acc (t.take k, t.drop (k + 1)) = 0) => okM_snoc HK.out.2.2.1 h)
              have hsz : w1.heap.size ≤ wr.heap.size := HK.out.2.2.2.size
              clear hcut h61
              generalize oneM acc (t.take k, t.drop (k + 1)) = x at *
              go_wp2_with fail
              go_region
              have H4 := hid (show MB (wr.alloc (.cells #[Value.string (bs (t.take k)), Value.string (bs (t.drop (k + 1)))] 71)).drew w1.heap.size (.slice A1 N c) acc ∧ Below w1.heap.size w1 (wr.alloc (.cells #[Value.string (bs (t.take k)), Value.string (bs (t.drop (k + 1)))] 71)).drew from
                ⟨(HK.out.2.1.alloc _).below (Below.refl _ _).drew, (HK.out.2.2.2.alloc hsz _).drew⟩)
              have d01 : (wr.alloc (.cells #[Value.string (bs (t.take k)), Value.string (bs (t.drop (k + 1)))] 71)).drew.cell? ⟨wr.heap.size, 0, none⟩ = some (.string (bs (t.take k))) ∧ (wr.alloc (.cells #[Value.string (bs (t.take k)), Value.string (bs (t.drop (k + 1)))] 71)).drew.cell? ⟨wr.heap.size, 1, none⟩ = some (.string (bs (t.drop (k + 1)))) := ttwo_new wr _ _ _
              obtain ⟨d0, d1⟩ := d01
              have hgs : wr.heap.size < (wr.alloc (.cells #[Value.string (bs (t.take k)), Value.string (bs (t.drop (k + 1)))] 71)).drew.heap.size := by simp
              generalize (wr.alloc (.cells #[Value.string (bs (t.take k)), Value.string (bs (t.drop (k + 1)))] 71)).drew = w4 at *
              go_wp2_with fail
              refine (HO.out _ _ H4.out.1).mono ?_
              rintro e w5 ⟨rfl, hb5⟩
              have H5 := hid (And.intro (H4.out.1.below hb5) (H4.out.2.trans (hb5.mono H4.out.2.size)))
              obtain ⟨g0, g1, _⟩ := tkeep2 d0 d1 hb5
              have hsz5 : w1.heap.size ≤ w5.heap.size := H5.out.2.size
              clear d0 d1 hb5
              by_cases hx : x = 0
              · subst hx
                have HR4 := hid (show readM s = rdP (acc ++ [(t.take k, t.drop (k + 1))]) (P.drop (j + 1)) by rw [HRD2.out, if_pos rfl])
                have HOK2 := hid (HOK.out rfl)
                have HNL := hid (H5.out.1.at_).1
                go_wp2_with (at_builtin; refine wpList_append_mb rfl _ _ rfl w1.heap.size _ acc (t.take k, t.drop (k + 1)) _ rfl (H5.out.1.alloc _) rfl ⟨by simp, by simp⟩ (by have := HNL.out; omega) (H5.out.2.alloc hsz5 _) (Nat.le_refl _) ?_)
                intro v' w6 hown hbel
                obtain ⟨A2, c2, e2, hle, _⟩ := hown.form
                have e3 : v' = .slice A2 (N + 1) c2 := by have := HNL.out; rw [e2]; simp; omega
                have hN2 : N + 1 ≤ 32 := by have := HOK2.out.1; have := HNL.out; simp at *; omega
                subst e3
                have HN := hid (And.intro hown hbel)
                clear hown hbel hle e2
                go_wp2_with fail
                go_roundw
                case rel => exact ⟨j + 1, acc ++ [(t.take k, t.drop (k + 1))], _, _, _, by omega, by go_num, rfl, by omega, hid ⟨HR4.out, HN.out.1, HOK2.out, HN.out.2⟩⟩
                case measure => simp [intOf]; omega
              · have HR4 := hid (show readM s = ([], x) by rw [HRD2.out, if_neg hx])
                have hne2 : (x != 0) = true := by simpa using hx
                clear hx HRD2
                go_wp2_with fail
                go_ret2
                exact readM_ret HR4.out (MB.nil _ _) (HB1.out.trans (H5.out.2.mono HB1z))
            · have H61 := hid h61
              have hb61 : ((t[k].toNat : Int) != 61) = true := by simp; omega
              clear h61
              go_wp2_with fail
              go_round
              case rel => exact ⟨k + 1, by omega, by go_num, hid (fun i h h' => by
                by_cases e : i = k
                · subst e; exact fun e => H61.out ((u8_61 _).1 e)
                · exact HN61.out i h (by omega))⟩
              case measure => simp [intOf]; omega
          · obtain rfl : k = t.length := by omega
            have hcut := cut_plain t (fun x hx => by
              obtain ⟨i, hi, rfl⟩ := List.getElem_of_mem hx
              exact HN61.out i hi hi)
            rw [hcut] at HRD2
            have HR4 := hid (show readM s = ([], 3) by
              have := HRD2.out
              simp only [oneM_noval] at this
              rw [this, if_neg (by omega)])
            clear HRD2 hcut
            go_wp2_with fail
            go_ret2
            exact readM_ret HR4.out (MB.nil _ _) (HB1.out.trans (HK.out.2.2.2.mono HB1z))
    · obtain rfl : j = P.length := by omega
      have HR4 := hid (show readM s = (acc, 0) by rw [HK.out.1, List.drop_length]; rfl)
      go_wp2_with fail
      go_ret2
      exact readM_ret HR4.out (HK.out.2.1.more HB1z) (HB1.out.trans (HK.out.2.2.2.mono HB1z))
end Go.Proofs.YtnbkpannhcamjaaGreatDoor
namespace Go.Proofs.YtnbkpannhcamjaaGreatDoor
set_option linter.unusedVariables false
set_option linter.unusedSimpArgs false
open Go.RowKit Go.Joins

/-- A slice of members, as a value that can be read. -/
def RD (w : World) (v : Value) (L : List Hd) : Prop :=
  ∃ A c, v = .slice A L.length c ∧ L.length ≤ c ∧ L.length ≤ 9223372036854775807 ∧ HReads w (· < w.heap.size) A L ∧ ∀ h ∈ L, h.1.length ≤ 140737488351232 ∧ h.2.length ≤ 140737488351232
theorem RD.up {w w' : World} {v : Value} {L : List Hd} (h : RD w v L) (hb : Below w.heap.size w w') : RD w' v L := by
  obtain ⟨A, c, e, h1, h2, h3, h4⟩ := h
  exact ⟨A, c, e, h1, h2, h3.up hb, h4⟩
theorem MB.rd {w : World} {base : Nat} {v : Value} {L : List Hd} (h : MB w base v L) (hl : L.length ≤ 1000000) (hs : ∀ h ∈ L, h.1.length ≤ 140737488351232 ∧ h.2.length ≤ 140737488351232) : RD w v L := by
  obtain ⟨A, c, e, h1, h2⟩ := h.form
  exact ⟨A, c, e, h1, by omega, h2, hs⟩
theorem HX.rd {w : World} {v : Value} {L : List Hd} (h : HX w (· < w.heap.size) v L) : RD w v L := by
  obtain ⟨A, c, e, h1, _, h2, h3, h4⟩ := h
  exact ⟨A, c, e, h2, by unfold maxLen at h3; omega, h1, h4⟩
theorem okM.rd {w : World} {base : Nat} {v : Value} {L : List Hd} (h : MB w base v L) (ho : okM L) : RD w v L :=
  h.rd (by have := ho.1; omega) fun m hm => by have := ho.2 m hm; omega
section
variable {v u : Value} {L K : List Hd}
theorem d_check (w : World) (h : RD w v L) {x : Int} (H : Hid (chkM [] L = x)) : Calls Tryz.prog 58 #[v] w fun e w' => e = .returned (.int .i64 x) ∧ Below w.heap.size w w' := by
  obtain ⟨A, c, rfl, h1, h2, h3, h4⟩ := h
  rw [← H.out]
  exact tcheck_any A c L w h3 h1 h2 h4
theorem d_rcheck (w : World) (h : RD w v L) {x : Int} (H : Hid (chkM [] L = x)) : Calls Tryz.prog 47 #[v] w fun e w' => e = .returned (.int .i64 x) ∧ Below w.heap.size w w' := by
  obtain ⟨A, c, rfl, h1, h2, h3, h4⟩ := h
  rw [← H.out]
  exact rtcheck_any A c L w h3 h1 h2 h4
theorem d_write (w : World) (h : RD w v L) {t : List UInt8} {x : Int} (H : Hid (writeM L = (t, x))) : Calls Tryz.prog 31 #[v] w fun e w' => e = .returned (.tuple #[.string (bs t), .int .i64 x]) ∧ Below w.heap.size w w' := by
  obtain ⟨A, c, rfl, h1, h2, h3, h4⟩ := h
  have := twrite_any A c L w h3 h1 h2 h4
  rw [H.out] at this
  exact this
theorem d_rwrite (w : World) (h : RD w v L) {t : List UInt8} {x : Int} (H : Hid (writeM L = (t, x))) : Calls Tryz.prog 22 #[v] w fun e w' => e = .returned (.tuple #[.string (bs t), .int .i64 x]) ∧ Below w.heap.size w w' := by
  obtain ⟨A, c, rfl, h1, h2, h3, h4⟩ := h
  have := rtwrite_any A c L w h3 h1 h2 h4
  rw [H.out] at this
  exact this
theorem d_get (w : World) (h : RD w v L) (k : List UInt8) {t : List UInt8} {x : Bool} (H : Hid (getM L k = (t, x))) : Calls Tryz.prog 84 #[v, .string (bs k)] w fun e w' => e = .returned (.tuple #[.string (bs t), .bool x]) ∧ Below w.heap.size w w' := by
  obtain ⟨A, c, rfl, h1, h2, h3, h4⟩ := h
  have := tget_any A c L k w h3 h2
  rw [H.out] at this
  exact this
theorem putM_small (L : List Hd) (k v : List UInt8) (hs : ∀ h ∈ L, h.1.length ≤ 140737488351232 ∧ h.2.length ≤ 140737488351232) (hk : k.length ≤ 140737488351232) (hv : v.length ≤ 140737488351232) :
    (putM L k v).1.length ≤ 1000000 ∧ ∀ h ∈ (putM L k v).1, h.1.length ≤ 140737488351232 ∧ h.2.length ≤ 140737488351232 := by
  unfold putM
  split
  · simp
  · split
    · simp
    · refine ⟨by have := List.length_take_le 32 ((k, v) :: L.filter fun h => !(h.1 == k)); simp only []; omega, fun m hm => ?_⟩
      rcases List.mem_cons.1 (List.mem_of_mem_take hm) with rfl | hm
      · exact ⟨hk, hv⟩
      · exact hs m (List.mem_filter.1 hm).1
theorem d_put (w : World) (h : RD w v L) (k q : List UInt8) (hk : k.length ≤ 140737488351232) (hq : q.length ≤ 140737488351232) {X : List Hd} {x : Int} (H : Hid (putM L k q = (X, x))) : Calls Tryz.prog 33 #[v, .string (bs k), .string (bs q)] w fun e w' => (∃ r, e = .returned (.tuple #[r, .int .i64 x]) ∧ RD w' r X) ∧ Below w.heap.size w w' := by
  obtain ⟨A, c, rfl, h1, h2, h3, h4⟩ := h
  refine (tput_any A c L k q w h3 h2 hk hq).mono fun e w' ⟨⟨r, a, b⟩, hb⟩ => ?_
  obtain ⟨s1, s2⟩ := putM_small L k q h4 hk hq
  rw [H.out] at a b s1 s2
  exact ⟨⟨r, a, b.rd s1 s2⟩, hb⟩
theorem d_rput (w : World) (h : RD w v L) (k q : List UInt8) (hk : k.length ≤ 140737488351232) (hq : q.length ≤ 140737488351232) {X : List Hd} {x : Int} (H : Hid (putM L k q = (X, x))) : Calls Tryz.prog 20 #[v, .string (bs k), .string (bs q)] w fun e w' => (∃ r, e = .returned (.tuple #[r, .int .i64 x]) ∧ RD w' r X) ∧ Below w.heap.size w w' := by
  obtain ⟨A, c, rfl, h1, h2, h3, h4⟩ := h
  refine (rtput_any A c L k q w h3 h2 hk hq).mono fun e w' ⟨⟨r, a, b⟩, hb⟩ => ?_
  obtain ⟨s1, s2⟩ := putM_small L k q h4 hk hq
  rw [H.out] at a b s1 s2
  exact ⟨⟨r, a, b.rd s1 s2⟩, hb⟩
theorem readM_ok (s : List UInt8) : okM (readM s).1 := rdP_ok _ _ ⟨by simp, by simp⟩
theorem d_read (w : World) (s : List UInt8) (hs : s.length ≤ 90000) (E : EnvT w) {X : List Hd} {x : Int} (H : Hid (readM s = (X, x))) : Calls Tryz.prog 32 #[.string (bs s)] w fun e w' => (∃ r, e = .returned (.tuple #[r, .int .i64 x]) ∧ RD w' r X) ∧ Below w.heap.size w w' := by
  refine (tread_any s (by omega) w E).mono fun e w' ⟨⟨r, a, b⟩, hb⟩ => ?_
  have ho := readM_ok s
  rw [H.out] at a b ho
  exact ⟨⟨r, a, okM.rd b ho⟩, hb⟩
theorem d_rread (w : World) (s : List UInt8) (hs : s.length ≤ 90000) {X : List Hd} {x : Int} (H : Hid (readM s = (X, x))) : Calls Tryz.prog 19 #[.string (bs s)] w fun e w' => (∃ r, e = .returned (.tuple #[r, .int .i64 x]) ∧ RD w' r X) ∧ Below w.heap.size w w' := by
  refine (rtread_any s hs w).mono fun e w' ⟨⟨r, a, b⟩, hb⟩ => ?_
  have ho := readM_ok s
  rw [H.out] at a b ho
  exact ⟨⟨r, a, okM.rd b ho⟩, hb⟩
end
theorem RD.two (w : World) (a b c d : List UInt8) (ha : a.length ≤ 1000) (hb : b.length ≤ 1000) (hc : c.length ≤ 1000) (hd : d.length ≤ 1000) : RD (w.alloc (.cells #[.string (bs a), .string (bs b), .string (bs c), .string (bs d)] 71)) (.slice (some ⟨w.heap.size, 0, none⟩) 2 2) [(a, b), (c, d)] := by
  have h : MB (w.alloc (.cells #[.string (bs a), .string (bs b), .string (bs c), .string (bs d)] 71)) w.heap.size (.slice (some ⟨w.heap.size, 0, none⟩) 2 2) [(a, b), (c, d)] := World.ownsRow_lit w #[.string (bs a), .string (bs b), .string (bs c), .string (bs d)] 2 (Nat.le_refl _) (by decide) rfl
  refine h.rd (by simp) fun m hm => ?_
  simp at hm
  rcases hm with rfl | rfl
  · exact ⟨by simp only []; omega, by simp only []; omega⟩
  · exact ⟨by simp only []; omega, by simp only []; omega⟩
theorem RD.one (w : World) (a b : List UInt8) (ha : a.length ≤ 1000) (hb : b.length ≤ 1000) : RD (w.alloc (.cells #[.string (bs a), .string (bs b)] 71)) (.slice (some ⟨w.heap.size, 0, none⟩) 1 1) [(a, b)] := by
  refine (MB.one w w.heap.size (Nat.le_refl _) a b).rd (by simp) fun m hm => ?_
  simp at hm
  subst hm
  exact ⟨by simp only []; omega, by simp only []; omega⟩
theorem RD.nil (w : World) : RD w (.slice none 0 0) [] := ⟨none, 0, rfl, by simp, by simp, fun k hk => absurd hk (by simp), by simp⟩
end Go.Proofs.YtnbkpannhcamjaaGreatDoor
