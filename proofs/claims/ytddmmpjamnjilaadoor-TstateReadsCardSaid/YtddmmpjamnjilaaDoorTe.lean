import Derived.Test.YtddmmpjamnjilaaDoorTd
namespace Go.Proofs.YtddmmpjamnjilaaDoor
set_option linter.unusedVariables false
set_option linter.unusedSimpArgs false
open Go.RowKit Go.Joins

theorem lib_join (g c : Nat) (M : List (List UInt8)) (sep : List UInt8) (w : World) (hR : STexts w (· < w.heap.size) (some ⟨g, 0, none⟩) M) (hg : g < w.heap.size) (hn : M.length ≤ 100000) (hc : M.length ≤ c) (hlen : (Lib.join M sep).length ≤ 100000000) :
    Calls Tryd.prog 49 #[.slice (some ⟨g, 0, none⟩) M.length c, .string (bs sep)] w fun e w' => e = .returned (.string (bs (Lib.join M sep))) ∧ Below w.heap.size w w' := by
  have hx : (M.map bs).map (·.data.toList) = M := by
    rw [List.map_map]; conv => rhs; rw [← List.map_id M]
    exact List.map_congr_left fun l _ => bs_data l
  have := Tryd.strings_Join g 0 c (M.map bs) (bs sep) w (fun j x hj => by
    rw [List.getElem?_map, Option.map_eq_some_iff] at hj
    obtain ⟨l, hl, rfl⟩ := hj
    obtain ⟨hlt, rfl⟩ := List.getElem?_eq_some_iff.1 hl
    obtain ⟨ad, e, _, h2⟩ := hR j hlt
    injection e with e
    subst e
    rw [Addr.add_lit] at h2
    exact h2) hg (by rw [List.length_map]; omega) (by rw [List.length_map]; omega) (by rw [hx, bs_data]; omega)
  rw [hx, bs_data, List.length_map] at this
  exact this
theorem madeCells_str (n : Nat) : madeCells (Value.cells (.string ByteArray.empty)) (n * 1) = (tvals (List.replicate n [])).toArray := by
  apply Array.ext
  · simp [madeCells, tvals]
  · intro i h1 h2
    simp [madeCells, tvals, Value.cells, Nat.mod_one, bs]
    rfl
theorem make_texts (w : World) (n : Nat) (h : n ≤ 1000) :
    (Instr.makeSlice 69 (.int .i64 (n : Int)) (.int .i64 (n : Int))).run Tryd.prog w = .ok (.slice (some ⟨w.heap.size, 0, none⟩) n n) (w.alloc (.cells (tvals (List.replicate n [])).toArray 9)) := by
  obtain ⟨i, hi, hz, hs, hb⟩ := info_parts infoS
  have := run_make (P := Tryd.prog) w 69 9 i _ Tryd.underlying69 hi hz .i64 .i64 n n (by omega) (by omega) (by rw [hb]; omega) (by omega)
  rw [this, hs, Int.toNat_natCast, madeCells_str]
/-- A row of texts that is filled. -/
def fillT (M : List (List UInt8)) (k : Nat) : List (List UInt8) := M.take k ++ List.replicate (M.length - k) []
theorem fillT_len (M : List (List UInt8)) (k : Nat) (h : k ≤ M.length) : (fillT M k).length = M.length := by simp [fillT]; omega
theorem fillT_set (M : List (List UInt8)) (k : Nat) (h : k < M.length) : (fillT M k).set k M[k] = fillT M (k + 1) := by
  unfold fillT
  rw [List.set_append_right _ _ (by simp; omega), List.take_succ_eq_append_getElem h, show M.length - k = (M.length - (k + 1)) + 1 by omega, List.replicate_succ]
  simp [Nat.min_eq_left (Nat.le_of_lt h)]
  rw [List.take_succ_eq_append_getElem h, List.append_assoc]; rfl
theorem TBM_new (w : World) (n : Nat) (base : Nat) (hb : base ≤ w.heap.size) (hn : n ≤ 1000) : TB (w.alloc (.cells (tvals (List.replicate n [])).toArray 9)) base (.slice (some ⟨w.heap.size, 0, none⟩) n n) (List.replicate n []) := by
  have := World.ownsRow_lit (e := 9) (size := 1) w (tvals (List.replicate n [])).toArray n hb (by unfold maxLen; omega) (by simp [tvals])
  unfold TB
  rw [List.length_replicate]
  simpa using this
theorem TBM_set {w : World} {base g n : Nat} {M : List (List UInt8)} (h : TB w base (.slice (some ⟨g, 0, none⟩) n n) M) (hn : n = M.length) (k : Nat) (l : List UInt8) : TB (w.setCell ⟨g, k, none⟩ (.string (bs l))) base (.slice (some ⟨g, 0, none⟩) n n) (M.set k l) := by
  subst hn
  have := (World.ownsRow.stored h k (.string (bs l))).1
  unfold TB
  rw [List.length_set, show tvals (M.set k l) = (tvals M).set k (.string (bs l)) by simp [tvals, List.map_set]]
  exact this
theorem TBM_cell {w : World} {base g n : Nat} {M : List (List UInt8)} (h : TB w base (.slice (some ⟨g, 0, none⟩) n n) M) (hn : n = M.length) (k : Nat) (hk : k < M.length) : w.cell? ⟨g, k, none⟩ = some (.string (bs M[k])) ∧ w.frozen? ⟨g, k, none⟩ = false := by
  subst hn
  refine ⟨?_, World.ownsRow.frozenAt h k⟩
  rw [World.ownsRow.cellAt h k (by omega)]
  simp [tvals, hk]
theorem joinM_len : ∀ (L : List Hd) (N : Nat), (∀ m ∈ L, (memT m).length ≤ N) → (joinM L).length ≤ (N + 1) * L.length
  | [], N, _ => by simp [joinM, Lib.join]
  | [m], N, h => by
    have := h m (by simp)
    rw [joinM, List.map_singleton, Lib.join_one]; simp; omega
  | m :: x :: r, N, h => by
    have hm := h m (by simp)
    have ih := joinM_len (x :: r) N fun y hy => h y (by simp [hy])
    have : joinM (m :: x :: r) = memT m ++ 44 :: joinM (x :: r) := by
      simp only [joinM, List.map_cons]
      rw [Lib.join_cons, Lib.join_cons]
      simp [Lib.joinTail]
    rw [this, List.length_append, List.length_cons, List.length_cons, Nat.mul_succ]
    omega
theorem joinM_take (L : List Hd) (k : Nat) (h : k < L.length) : joinM (L.take (k + 1)) = if k = 0 then memT L[k] else joinM (L.take k) ++ [44] ++ memT L[k] := by
  cases L with
  | nil => simp at h
  | cons m r =>
    cases k with
    | zero => simp [joinM, Lib.join_one]
    | succ k =>
      have hk : k < r.length := by simpa using h
      rw [if_neg (by omega)]
      simp only [joinM, List.take_succ_cons, List.map_cons, List.getElem_cons_succ]
      rw [Lib.join_cons, Lib.join_cons, List.map_take, List.map_take, Lib.joinTail_take_succ [44] (r.map memT) k (memT r[k]) (by simp [hk])]
      simp
theorem memT_len (m : Hd) : (memT m).length = m.1.length + m.2.length + 1 := by simp [memT]; omega
theorem mayM_small {L : List Hd} (h : chkM [] L = 0) : okM L := by
  have := (chkM_zero L).1 h
  refine ⟨this.2.2, fun m hm => ⟨(key_len (this.1 m hm).1).2, (val_len' (this.1 m hm).2).2⟩⟩
theorem joinM_small {L : List Hd} (h : okM L) (k : Nat) : (joinM (L.take k)).length ≤ 4000 := by
  have := joinM_len (L.take k) 97 fun m hm => by
    have := h.2 m (List.mem_of_mem_take hm)
    rw [memT_len]; omega
  have h2 := h.1
  have h3 := List.length_take_le' k L
  refine Nat.le_trans this ?_
  omega
set_option maxRecDepth 100000 in
set_option maxHeartbeats 4000000 in
theorem twrite_any (A : Option Addr) (cap : Nat) (L : List Hd) (w : World) (hR : HReads w (· < w.heap.size) A L) (hcap : L.length ≤ cap) (hl : L.length ≤ 9223372036854775807) (hs : ∀ h ∈ L, h.1.length ≤ 140737488351232 ∧ h.2.length ≤ 140737488351232) :
    Calls Tryd.prog 23 #[.slice A L.length cap] w fun e w' => e = .returned (.tuple #[.string (bs (writeM L).1), .int .i64 (writeM L).2]) ∧ Below w.heap.size w w' := by
  have HC := hid (tcheck_any A cap L w hR hcap hl hs)
  have HR := hid hR
  clear hR hs
  by_cases hc : chkM [] L = 0
  · have HQ := hid (show writeM L = (joinM L, 0) by rw [writeM, if_pos hc])
    have hok := mayM_small hc
    have HOK := hid hok
    have h32 : L.length ≤ 32 := hok.1
    have HJ := hid (show (Lib.join (L.map memT) [44]).length ≤ 100000000 by have := joinM_small hok L.length; rw [List.take_length] at this; simp only [joinM] at this; omega)
    rw [hc] at HC
    clear hc hok
    have hmk := fun w => make_texts w L.length (by omega)
    go_enter Tryd.func23, Tryd.ntmps23
    go_wp2_with fail
    refine HC.out.mono ?_
    rintro e w1 ⟨rfl, hb1⟩
    have HB1 := hid hb1
    clear hb1
    have HN0 := hid (TBM_new w1 L.length w1.heap.size (Nat.le_refl _) (by omega))
    go_wp2_with fail
    have HB2 := hid (tbelow_step HB1.out (tbelow_new w1 (.cells (tvals (List.replicate L.length [])).toArray 9)))
    have hg0 : w1.heap.size < (w1.alloc (.cells (tvals (List.replicate L.length [])).toArray 9)).heap.size := by simp
    generalize w1.alloc (.cells (tvals (List.replicate L.length [])).toArray 9) = w2 at *
    have hMl : (L.map memT).length = L.length := List.length_map ..
    go_loopw [18] (fun i wr => ∃ k : Nat, k ≤ L.length ∧ i = .int .i64 k ∧ Hid (TB wr w1.heap.size (.slice (some ⟨w1.heap.size, 0, none⟩) L.length L.length) (fillT (L.map memT) k) ∧ Below w.heap.size w wr ∧ w1.heap.size < wr.heap.size)) (fun i _ => L.length - (intOf i).toNat)
    case atStart => exact ⟨0, by omega, rfl, hid ⟨by simpa [fillT] using HN0.out, HB2.out, hg0⟩⟩
    case round =>
      obtain ⟨k, hk, rfl, HK⟩ := hrel
      by_cases hlt : k < L.length
      · have HRk := hid (HR.out.up HK.out.2.1)
        obtain ⟨b, o, hA, hB1, hc0, hc1⟩ := HRk.out k hlt
        have hsz := HK.out.2.2
        have hsz0 : w.heap.size ≤ w1.heap.size := HB1.out.size
        obtain ⟨hs0, hs1⟩ := HOK.out.2 _ (List.getElem_mem hlt)
        have HSET := hid (fillT_set (L.map memT) k (by omega))
        have hm : (L.map memT)[k]'(by omega) = memT L[k] := by simp
        rw [hm] at HSET
        have hfl : L.length = (fillT (L.map memT) k).length := by rw [fillT_len _ _ (by omega), hMl]
        obtain ⟨hq0, hq1⟩ := TBM_cell HK.out.1 hfl k (by omega)
        have HST := hid (TBM_set HK.out.1 hfl k (memT L[k]))
        rw [HSET.out] at HST
        generalize (fillT (L.map memT) k)[k]'(by omega) = old at *
        clear hm HSET hfl
        subst hA
        have HMT := hid (show memT L[k] = L[k].1 ++ 61 :: L[k].2 by simp [memT])
        rw [HMT.out] at HST
        have c1 : (ByteArray.mk #[61]) = bs [61] := rfl
        generalize L[k] = h at *
        obtain ⟨h0, h1⟩ := h
        have hi0 : (0 : Int) ≤ (k : Int) := by omega
        have hi1 : (k : Int) < (L.length : Int) := by omega
        have hz0 : h0.length ≤ 32 := hs0
        have hz1 : h1.length ≤ 64 := hs1
        go_wp2_with fail
        go_roundw
        case rel =>
          refine ⟨k + 1, by omega, by go_num, hid ⟨?_, ?_, ?_⟩⟩
          · exact HST.out.alloc _
          · exact (HK.out.2.1.setCell (p := ⟨w1.heap.size, k, none⟩) hsz0 _).alloc (by simp; omega) _
          · simp; omega
        case measure => simp [intOf]; omega
      · obtain rfl : k = L.length := by omega
        have hfl : fillT (L.map memT) L.length = L.map memT := by rw [fillT, List.take_of_length_le (by simp), List.length_map, Nat.sub_self]; simp
        have hT := HK.out.1
        rw [hfl] at hT
        obtain ⟨A2, c2, e2, hS⟩ := hT.reads
        injection e2 with e2 e3 e4
        subst e2
        have HX := hid (lib_join w1.heap.size L.length (L.map memT) [44] wr (hS.imp fun b hb => hb.2) HK.out.2.2 (by omega) (by omega) HJ.out)
        rw [hMl] at HX
        clear hT hS e3 e4 hfl
        have c1 : (ByteArray.mk #[44]) = bs [44] := rfl
        go_wp2_with fail
        refine HX.out.mono ?_
        rintro e w4 ⟨rfl, hb4⟩
        have HB4 := hid hb4
        clear hb4
        go_wp2_with fail
        go_ret2
        exact ⟨by rw [HQ.out]; rfl, tbelow_step HK.out.2.1 HB4.out⟩
  · have HQ := hid (show writeM L = ([], chkM [] L) by rw [writeM, if_neg hc])
    generalize chkM [] L = c at *
    have hne : (c != 0) = true := by simpa using hc
    clear hc
    go_enter Tryd.func23, Tryd.ntmps23
    go_wp2_with fail
    refine HC.out.mono ?_
    rintro e w1 ⟨rfl, hb1⟩
    have HB1 := hid hb1
    clear hb1
    go_wp2_with fail
    go_ret2
    exact ⟨by rw [HQ.out]; rfl, HB1.out⟩
set_option maxRecDepth 100000 in
set_option maxHeartbeats 4000000 in
theorem rtwrite_any (A : Option Addr) (cap : Nat) (L : List Hd) (w : World) (hR : HReads w (· < w.heap.size) A L) (hcap : L.length ≤ cap) (hl : L.length ≤ 9223372036854775807) (hs : ∀ h ∈ L, h.1.length ≤ 140737488351232 ∧ h.2.length ≤ 140737488351232) :
    Calls Tryd.prog 24 #[.slice A L.length cap] w fun e w' => e = .returned (.tuple #[.string (bs (writeM L).1), .int .i64 (writeM L).2]) ∧ Below w.heap.size w w' := by
  have HR := hid hR
  have HC := hid (fun (w2 : World) (hb : Below w.heap.size w w2) => rtcheck_any A cap L w2 (HR.out.up hb) hcap hl hs)
  clear hR hs
  by_cases hc : chkM [] L = 0
  · have HQ := hid (show writeM L = (joinM L, 0) by rw [writeM, if_pos hc])
    have hok := mayM_small hc
    have HOK := hid hok
    have h32 : L.length ≤ 32 := hok.1
    rw [hc] at HC
    clear hc hok
    go_enter Tryd.func24, Tryd.ntmps24
    go_wp2_with fail
    refine (HC.out _ (Below.refl _ _)).mono ?_
    rintro e w1 ⟨rfl, hb1⟩
    have HB1 := hid hb1
    clear hb1
    go_wp2_with fail
    go_loopw [4, 5] (fun s i wr => ∃ (k : Nat) (t : List UInt8), k ≤ L.length ∧ i = .int .i64 k ∧ s = .string (bs t) ∧ t.length ≤ 4000 ∧ Hid (t = joinM (L.take k) ∧ Below w.heap.size w wr)) (fun _ i _ => L.length - (intOf i).toNat)
    case atStart => exact ⟨0, [], by omega, rfl, rfl, by simp, hid ⟨rfl, HB1.out⟩⟩
    case round =>
      obtain ⟨k, t, hk, rfl, rfl, ht, HK⟩ := hrel
      by_cases hlt : k < L.length
      · have HRk := hid (HR.out.up HK.out.2)
        obtain ⟨b, o, hA, hB1, hc0, hc1⟩ := HRk.out k hlt
        obtain ⟨hs0, hs1⟩ := HOK.out.2 _ (List.getElem_mem hlt)
        have HJT := hid (joinM_take L k hlt)
        have HJS := hid (joinM_small HOK.out (k + 1))
        have HMT := hid (show memT L[k] = L[k].1 ++ 61 :: L[k].2 by simp [memT])
        subst hA
        generalize L[k] = h at *
        obtain ⟨h0, h1⟩ := h
        have hi0 : (0 : Int) ≤ (k : Int) := by omega
        have hi1 : (k : Int) < (L.length : Int) := by omega
        have hz0 : h0.length ≤ 32 := hs0
        have hz1 : h1.length ≤ 64 := hs1
        have c1 : (ByteArray.mk #[61]) = bs [61] := rfl
        have c2 : (ByteArray.mk #[44]) = bs [44] := rfl
        by_cases hk0 : k = 0
        · have H0 := hid hk0
          have hkd : k ≤ 0 := by omega
          have HT0 := hid (show t = [] by rw [HK.out.1, hk0]; rfl)
          clear hk0
          go_wp2_with fail
          go_quiet (fail)
          go_wp2_with fail
          go_roundw
          case rel =>
            have hj : joinM (L.take (k + 1)) = t ++ (h0 ++ 61 :: h1) := by rw [HJT.out, if_pos H0.out, HMT.out, HT0.out]; rfl
            refine ⟨k + 1, joinM (L.take (k + 1)), by omega, by go_num, ?_, HJS.out, hid ⟨rfl, below_drewN HK.out.2 _⟩⟩
            rw [hj]
          case measure => simp [intOf]; omega
        · have H0 := hid hk0
          have hkd : 1 ≤ k := by omega
          clear hk0
          go_wp2_with fail
          go_quiet (fail)
          go_wp2_with fail
          go_roundw
          case rel =>
            have hj : joinM (L.take (k + 1)) = t ++ 44 :: (h0 ++ 61 :: h1) := by rw [HJT.out, if_neg H0.out, HMT.out, ← HK.out.1]; simp
            refine ⟨k + 1, joinM (L.take (k + 1)), by omega, by go_num, ?_, HJS.out, hid ⟨rfl, below_drewN HK.out.2 _⟩⟩
            rw [hj]
          case measure => simp [intOf]; omega
      · obtain rfl : k = L.length := by omega
        go_wp2_with fail
        go_ret2
        exact ⟨by rw [HQ.out, HK.out.1, List.take_length]; rfl, HK.out.2⟩
  · have HQ := hid (show writeM L = ([], chkM [] L) by rw [writeM, if_neg hc])
    generalize chkM [] L = c at *
    have hne : (c != 0) = true := by simpa using hc
    clear hc
    go_enter Tryd.func24, Tryd.ntmps24
    go_wp2_with fail
    refine (HC.out _ (Below.refl _ _)).mono ?_
    rintro e w1 ⟨rfl, hb1⟩
    have HB1 := hid hb1
    clear hb1
    go_wp2_with fail
    refine (HC.out _ HB1.out).mono ?_
    rintro e w2 ⟨rfl, hb2⟩
    have HB2 := hid hb2
    clear hb2
    go_wp2_with fail
    go_ret2
    exact ⟨by rw [HQ.out]; rfl, tbelow_step HB1.out HB2.out⟩
end Go.Proofs.YtddmmpjamnjilaaDoor
