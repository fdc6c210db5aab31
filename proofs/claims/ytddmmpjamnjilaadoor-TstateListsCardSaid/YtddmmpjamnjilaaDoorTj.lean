import Derived.Test.YtddmmpjamnjilaaDoorTh
import Derived.Test.YtddmmpjamnjilaaDoorTi
namespace Go.Proofs.YtddmmpjamnjilaaDoor
set_option linter.unusedVariables false
set_option linter.unusedSimpArgs false
open Go.RowKit Go.Joins

/-- A slice of members, as a value that can be read. -/
def RD (w : World) (v : Value) (L : List Hd) : Prop :=
  ∃ A c, v = .slice A L.length c ∧ L.length ≤ c ∧ L.length ≤ 9223372036854775807 ∧ HReads w (· < w.heap.size) A L ∧ ∀ h ∈ L, h.1.length ≤ 140737488351232 ∧ h.2.length ≤ 140737488351232
theorem RD.up {w w' : World} {v : Value} {L : List Hd} (h : RD w v L) (hb : Below w.heap.size w w') : RD w' v L := by
  obtain ⟨A, c, e, h1, h2, h3, h4⟩ := h
  exact ⟨A, c, e, h1, h2, h3.up hb, h4⟩
theorem MB.rd {w : World} {base : Nat} {v : Value} {L : List Hd} (h : MB w base v L) (hl : L.length ≤ 1000000) (hs : ∀ h ∈ L, h.1.length ≤ 140737488351232 ∧ h.2.length ≤ 140737488351232) : RD w v L := by
  obtain ⟨A, c, e, h1, h2⟩ := h.form
  exact ⟨A, c, e, h1, by omega, h2, hs⟩
theorem HX.rd {w : World} {v : Value} {L : List Hd} (h : HX w (· < w.heap.size) v L) : RD w v L := by
  obtain ⟨A, c, e, h1, _, h2, h3, h4⟩ := h
  exact ⟨A, c, e, h2, by unfold maxLen at h3; omega, h1, h4⟩
theorem okM.rd {w : World} {base : Nat} {v : Value} {L : List Hd} (h : MB w base v L) (ho : okM L) : RD w v L :=
  h.rd (by have := ho.1; omega) fun m hm => by have := ho.2 m hm; omega
section
variable {v u : Value} {L K : List Hd}
theorem d_few (w : World) (h : RD w v L) : Calls Tryd.prog 22 #[v] w fun e w' => e = .returned (.bool (fewOk L)) ∧ Below w.heap.size w w' := by
  obtain ⟨A, c, rfl, h1, h2, h3, h4⟩ := h
  exact tfew_any A c L w h3 h2 h4
theorem d_check (w : World) (h : RD w v L) {x : Int} (H : Hid (chkM [] L = x)) : Calls Tryd.prog 29 #[v] w fun e w' => e = .returned (.int .i64 x) ∧ Below w.heap.size w w' := by
  obtain ⟨A, c, rfl, h1, h2, h3, h4⟩ := h
  rw [← H.out]
  exact tcheck_any A c L w h3 h1 h2 h4
theorem d_rcheck (w : World) (h : RD w v L) {x : Int} (H : Hid (chkM [] L = x)) : Calls Tryd.prog 30 #[v] w fun e w' => e = .returned (.int .i64 x) ∧ Below w.heap.size w w' := by
  obtain ⟨A, c, rfl, h1, h2, h3, h4⟩ := h
  rw [← H.out]
  exact rtcheck_any A c L w h3 h1 h2 h4
theorem d_write (w : World) (h : RD w v L) {t : List UInt8} {x : Int} (H : Hid (writeM L = (t, x))) : Calls Tryd.prog 23 #[v] w fun e w' => e = .returned (.tuple #[.string (bs t), .int .i64 x]) ∧ Below w.heap.size w w' := by
  obtain ⟨A, c, rfl, h1, h2, h3, h4⟩ := h
  have := twrite_any A c L w h3 h1 h2 h4
  rw [H.out] at this
  exact this
theorem d_rwrite (w : World) (h : RD w v L) {t : List UInt8} {x : Int} (H : Hid (writeM L = (t, x))) : Calls Tryd.prog 24 #[v] w fun e w' => e = .returned (.tuple #[.string (bs t), .int .i64 x]) ∧ Below w.heap.size w w' := by
  obtain ⟨A, c, rfl, h1, h2, h3, h4⟩ := h
  have := rtwrite_any A c L w h3 h1 h2 h4
  rw [H.out] at this
  exact this
theorem d_get (w : World) (h : RD w v L) (k : List UInt8) {t : List UInt8} {x : Bool} (H : Hid (getM L k = (t, x))) : Calls Tryd.prog 27 #[v, .string (bs k)] w fun e w' => e = .returned (.tuple #[.string (bs t), .bool x]) ∧ Below w.heap.size w w' := by
  obtain ⟨A, c, rfl, h1, h2, h3, h4⟩ := h
  have := tget_any A c L k w h3 h2
  rw [H.out] at this
  exact this
theorem d_rget (w : World) (h : RD w v L) (k : List UInt8) {t : List UInt8} {x : Bool} (H : Hid (getM L k = (t, x))) : Calls Tryd.prog 28 #[v, .string (bs k)] w fun e w' => e = .returned (.tuple #[.string (bs t), .bool x]) ∧ Below w.heap.size w w' := by
  obtain ⟨A, c, rfl, h1, h2, h3, h4⟩ := h
  have := rtget_any A c L k w h3 h2
  rw [H.out] at this
  exact this.mono fun e w' ⟨a, b⟩ => ⟨a, by rw [← b]; exact Below.refl _ _⟩
theorem putM_small (L : List Hd) (k v : List UInt8) (hs : ∀ h ∈ L, h.1.length ≤ 140737488351232 ∧ h.2.length ≤ 140737488351232) (hk : k.length ≤ 140737488351232) (hv : v.length ≤ 140737488351232) :
    (putM L k v).1.length ≤ 1000000 ∧ ∀ h ∈ (putM L k v).1, h.1.length ≤ 140737488351232 ∧ h.2.length ≤ 140737488351232 := by
  unfold putM
  split
  · simp
  · split
    · simp
    · refine ⟨by have := List.length_take_le 32 ((k, v) :: L.filter fun h => !(h.1 == k)); simp only []; omega, fun m hm => ?_⟩
      rcases List.mem_cons.1 (List.mem_of_mem_take hm) with rfl | hm
      · exact ⟨hk, hv⟩
      · exact hs m (List.mem_filter.1 hm).1
theorem d_put (w : World) (h : RD w v L) (k q : List UInt8) (hk : k.length ≤ 140737488351232) (hq : q.length ≤ 140737488351232) {X : List Hd} {x : Int} (H : Hid (putM L k q = (X, x))) : Calls Tryd.prog 25 #[v, .string (bs k), .string (bs q)] w fun e w' => (∃ r, e = .returned (.tuple #[r, .int .i64 x]) ∧ RD w' r X) ∧ Below w.heap.size w w' := by
  obtain ⟨A, c, rfl, h1, h2, h3, h4⟩ := h
  refine (tput_any A c L k q w h3 h2 hk hq).mono fun e w' ⟨⟨r, a, b⟩, hb⟩ => ?_
  obtain ⟨s1, s2⟩ := putM_small L k q h4 hk hq
  rw [H.out] at a b s1 s2
  exact ⟨⟨r, a, b.rd s1 s2⟩, hb⟩
theorem d_rput (w : World) (h : RD w v L) (k q : List UInt8) (hk : k.length ≤ 140737488351232) (hq : q.length ≤ 140737488351232) {X : List Hd} {x : Int} (H : Hid (putM L k q = (X, x))) : Calls Tryd.prog 26 #[v, .string (bs k), .string (bs q)] w fun e w' => (∃ r, e = .returned (.tuple #[r, .int .i64 x]) ∧ RD w' r X) ∧ Below w.heap.size w w' := by
  obtain ⟨A, c, rfl, h1, h2, h3, h4⟩ := h
  refine (rtput_any A c L k q w h3 h2 hk hq).mono fun e w' ⟨⟨r, a, b⟩, hb⟩ => ?_
  obtain ⟨s1, s2⟩ := putM_small L k q h4 hk hq
  rw [H.out] at a b s1 s2
  exact ⟨⟨r, a, b.rd s1 s2⟩, hb⟩
theorem readM_ok (s : List UInt8) : okM (readM s).1 := rdP_ok _ _ ⟨by simp, by simp⟩
theorem d_read (w : World) (s : List UInt8) (hs : s.length ≤ 90000) (E : EnvT w) {X : List Hd} {x : Int} (H : Hid (readM s = (X, x))) : Calls Tryd.prog 19 #[.string (bs s)] w fun e w' => (∃ r, e = .returned (.tuple #[r, .int .i64 x]) ∧ RD w' r X) ∧ Below w.heap.size w w' := by
  refine (tread_any s (by omega) w E).mono fun e w' ⟨⟨r, a, b⟩, hb⟩ => ?_
  have ho := readM_ok s
  rw [H.out] at a b ho
  exact ⟨⟨r, a, okM.rd b ho⟩, hb⟩
theorem d_rread (w : World) (s : List UInt8) (hs : s.length ≤ 90000) {X : List Hd} {x : Int} (H : Hid (readM s = (X, x))) : Calls Tryd.prog 20 #[.string (bs s)] w fun e w' => (∃ r, e = .returned (.tuple #[r, .int .i64 x]) ∧ RD w' r X) ∧ Below w.heap.size w w' := by
  refine (rtread_any s hs w).mono fun e w' ⟨⟨r, a, b⟩, hb⟩ => ?_
  have ho := readM_ok s
  rw [H.out] at a b ho
  exact ⟨⟨r, a, okM.rd b ho⟩, hb⟩
theorem d_same (w : World) (h : RD w v L) (k : RD w u L) (hl : L.length ≤ 10000000) : Calls Tryd.prog 21 #[v, u] w fun e w' => e = .returned (.bool true) ∧ Below w.heap.size w w' := by
  obtain ⟨A, c, rfl, h1, h2, h3, h4⟩ := h
  obtain ⟨B, d, rfl, k1, k2, k3, k4⟩ := k
  have := tsame_any A B c d L L w h3 k3 hl hl
  rw [decide_eq_true rfl] at this
  exact this
end
theorem RD.two (w : World) (a b c d : List UInt8) (ha : a.length ≤ 1000) (hb : b.length ≤ 1000) (hc : c.length ≤ 1000) (hd : d.length ≤ 1000) : RD (w.alloc (.cells #[.string (bs a), .string (bs b), .string (bs c), .string (bs d)] 50)) (.slice (some ⟨w.heap.size, 0, none⟩) 2 2) [(a, b), (c, d)] := by
  have h : MB (w.alloc (.cells #[.string (bs a), .string (bs b), .string (bs c), .string (bs d)] 50)) w.heap.size (.slice (some ⟨w.heap.size, 0, none⟩) 2 2) [(a, b), (c, d)] := World.ownsRow_lit w #[.string (bs a), .string (bs b), .string (bs c), .string (bs d)] 2 (Nat.le_refl _) (by decide) rfl
  refine h.rd (by simp) fun m hm => ?_
  simp at hm
  rcases hm with rfl | rfl
  · exact ⟨by simp only []; omega, by simp only []; omega⟩
  · exact ⟨by simp only []; omega, by simp only []; omega⟩
theorem RD.one (w : World) (a b : List UInt8) (ha : a.length ≤ 1000) (hb : b.length ≤ 1000) : RD (w.alloc (.cells #[.string (bs a), .string (bs b)] 50)) (.slice (some ⟨w.heap.size, 0, none⟩) 1 1) [(a, b)] := by
  refine (MB.one w w.heap.size (Nat.le_refl _) a b).rd (by simp) fun m hm => ?_
  simp at hm
  subst hm
  exact ⟨by simp only []; omega, by simp only []; omega⟩
theorem RD.nil (w : World) : RD w (.slice none 0 0) [] := ⟨none, 0, rfl, by simp, by simp, fun k hk => absurd hk (by simp), by simp⟩
set_option maxRecDepth 100000 in
set_option maxHeartbeats 4000000 in
theorem known8_any (w : World) (HE : Hid (EnvT w)) :
    Calls Tryd.prog 18 #[] w fun e w' => e = .returned (.bool true) ∧ Below w.heap.size w w' := by
  have c1 : (ByteArray.mk #[97]) = bs [97] := rfl
  have c2 : (ByteArray.mk #[49]) = bs [49] := rfl
  have c3 : (ByteArray.mk #[98]) = bs [98] := rfl
  have c4 : (ByteArray.mk #[50]) = bs [50] := rfl
  have c5 : (ByteArray.mk #[51]) = bs [51] := rfl
  have c6 : (ByteArray.mk #[65]) = bs [65] := rfl
  have c7 : (ByteArray.mk #[32, 97, 61, 49, 32, 44, 44, 32, 98, 61, 50]) = bs [32, 97, 61, 49, 32, 44, 44, 32, 98, 61, 50] := rfl
  have c8 : (ByteArray.mk #[97, 61, 49, 44, 98, 61, 50]) = bs [97, 61, 49, 44, 98, 61, 50] := rfl
  have R1 := hid (show readM [32, 97, 61, 49, 32, 44, 44, 32, 98, 61, 50] = ([([97], [49]), ([98], [50])], 0) by decide +kernel)
  have R2 := hid (show writeM [([97], [49]), ([98], [50])] = ([97, 61, 49, 44, 98, 61, 50], 0) by decide +kernel)
  have R3 := hid (show putM [([97], [49]), ([98], [50])] [98] [51] = ([([98], [51]), ([97], [49])], 0) by decide +kernel)
  have R4 := hid (show getM [([97], [49]), ([98], [50])] [98] = ([50], true) by decide +kernel)
  have R5 := hid (show chkM [] [([65], [49])] = 3 by decide +kernel)
  go_enter Tryd.func18, Tryd.ntmps18
  go_wp2_with fail
  have hn0 := tbelow_new w (.cells #[.string (bs [97]), .string (bs [49]), .string (bs [98]), .string (bs [50])] 50)
  have r0 := RD.two w [97] [49] [98] [50] (by simp) (by simp) (by simp) (by simp)
  generalize (Value.slice (some ⟨w.heap.size, 0, none⟩) 2 2) = lv at *
  generalize w.alloc (.cells #[.string (bs [97]), .string (bs [49]), .string (bs [98]), .string (bs [50])] 50) = v0 at *
  refine (d_read v0 _ (by simp) (HE.out.later hn0) R1).mono ?_
  rintro e w1 ⟨⟨r, rfl, hr⟩, hb1⟩
  have H1 := hid (And.intro (tbelow_step hn0 hb1) (And.intro (r0.up hb1) hr))
  clear hb1 hr r0 hn0
  go_wp2_with fail
  refine (d_write w1 H1.out.2.1 R2).mono ?_
  rintro e w2 ⟨rfl, hb2⟩
  have H2 := hid (And.intro (tbelow_step H1.out.1 hb2) (And.intro (H1.out.2.1.up hb2) (H1.out.2.2.up hb2)))
  clear hb2
  go_wp2_with fail
  refine (d_put w2 H2.out.2.1 [98] [51] (by simp) (by simp) R3).mono ?_
  rintro e w3 ⟨⟨q, rfl, hq⟩, hb3⟩
  have H3 := hid (And.intro (tbelow_step H2.out.1 hb3) (And.intro (H2.out.2.1.up hb3) (And.intro (H2.out.2.2.up hb3) hq)))
  clear hb3 hq
  go_wp2_with fail
  refine (d_get w3 H3.out.2.1 [98] R4).mono ?_
  rintro e w4 ⟨rfl, hb4⟩
  have H4 := hid (And.intro (tbelow_step H3.out.1 hb4) (And.intro (H3.out.2.1.up hb4) (And.intro (H3.out.2.2.1.up hb4) (H3.out.2.2.2.up hb4))))
  clear hb4
  go_wp2_with fail
  refine (d_same w4 H4.out.2.2.1 H4.out.2.1 (by simp)).mono ?_
  rintro e w5 ⟨rfl, hb5⟩
  have H5 := hid (And.intro (tbelow_step H4.out.1 hb5) (H4.out.2.2.2.up hb5))
  clear hb5
  go_wp2_with fail
  have hn1 := tbelow_new w5 (.cells #[.string (bs [98]), .string (bs [51]), .string (bs [97]), .string (bs [49])] 50)
  have r1 := RD.two w5 [98] [51] [97] [49] (by simp) (by simp) (by simp) (by simp)
  have H6 := hid (And.intro (tbelow_step H5.out.1 hn1) (And.intro (H5.out.2.up hn1) r1))
  clear hn1 r1
  refine (d_same _ H6.out.2.1 H6.out.2.2 (by simp)).mono ?_
  rintro e w6 ⟨rfl, hb6⟩
  have H7 := hid (tbelow_step H6.out.1 hb6)
  clear hb6
  go_wp2_with fail
  have hn2 := tbelow_new w6 (.cells #[.string (bs [65]), .string (bs [49])] 50)
  have r2 := RD.one w6 [65] [49] (by simp) (by simp)
  have H8 := hid (And.intro (tbelow_step H7.out hn2) r2)
  clear hn2 r2
  refine (d_check _ H8.out.2 R5).mono ?_
  rintro e w7 ⟨rfl, hb7⟩
  have H9 := hid (tbelow_step H8.out.1 hb7)
  clear hb7
  go_wp2_with fail
  go_ret
  exact ⟨rfl, H9.out⟩
set_option maxRecDepth 100000 in
set_option maxHeartbeats 4000000 in
theorem tstateReads_walk (s : List UInt8) (hs : s.length ≤ 140737488351232) (w : World) (E : EnvT w) :
    Calls Tryd.prog 6 #[.string (bs s)] w fun e w' => e = .returned (.bool true) ∧ Below w.heap.size w w' := by
  have HE := hid E
  clear E
  by_cases hl : (s.length : Int) > 3000
  · go_enter Tryd.func6, Tryd.ntmps6
    go_wp2_with fail
    refine (known8_any _ HE).mono ?_
    rintro e w1 ⟨rfl, hb1⟩
    have HBx := hid hb1
    clear hb1
    go_wp2_with fail
    go_ret
    exact ⟨rfl, HBx.out⟩
  have hl2 : s.length ≤ 3000 := by omega
  obtain ⟨X, x, hr⟩ : ∃ X x, readM s = (X, x) := ⟨_, _, rfl⟩
  have HR := hid hr
  have hx : X.length ≤ 32 := by have := (readM_ok s).1; rw [hr] at this; exact this
  clear hr hl
  go_enter Tryd.func6, Tryd.ntmps6
  go_wp2_with fail
  refine (d_read w s (by omega) HE.out HR).mono ?_
  rintro e w1 ⟨⟨r, rfl, hr⟩, hb1⟩
  have H1 := hid (And.intro hb1 hr)
  clear hb1 hr
  go_wp2_with fail
  refine (d_rread w1 s (by omega) HR).mono ?_
  rintro e w2 ⟨⟨q, rfl, hq⟩, hb2⟩
  have H2 := hid (And.intro (tbelow_step H1.out.1 hb2) (And.intro (H1.out.2.up hb2) hq))
  clear hb2 hq
  go_wp2_with fail
  refine (d_same w2 H2.out.2.1 H2.out.2.2 (by omega)).mono ?_
  rintro e w3 ⟨rfl, hb3⟩
  have H3 := hid (tbelow_step H2.out.1 hb3)
  clear hb3
  go_wp2_with fail
  refine (known8_any _ (hid (HE.out.later H3.out))).mono ?_
  rintro e w4 ⟨rfl, hb4⟩
  have H4 := hid (tbelow_step H3.out hb4)
  clear hb4
  go_wp2_with fail
  go_ret
  exact ⟨rfl, H4.out⟩
set_option maxRecDepth 100000 in
set_option maxHeartbeats 4000000 in
theorem tstateLists_walk (v : Value) (L : List Hd) (k q : List UInt8) (hk : k.length ≤ 140737488351232) (hq : q.length ≤ 140737488351232) (w : World) (E : EnvT w) (h : HX w (· < w.heap.size) v L) :
    Calls Tryd.prog 7 #[v, .string (bs k), .string (bs q)] w fun e w' => e = .returned (.bool true) ∧ Below w.heap.size w w' := by
  have HE := hid E
  have HV := hid h.rd
  have HFW := hid (d_few w HV.out)
  have hnot := notB'
  clear E h
  by_cases hall : fewOk L = true ∧ k.length ≤ 400 ∧ q.length ≤ 400
  · obtain ⟨hf, hk4, hq4⟩ := hall
    rw [hf] at HFW
    obtain ⟨t, x, hw⟩ : ∃ t x, writeM L = (t, x) := ⟨_, _, rfl⟩
    obtain ⟨X, y, hp⟩ : ∃ X y, putM L k q = (X, y) := ⟨_, _, rfl⟩
    obtain ⟨g, z, hg⟩ : ∃ g z, getM L k = (g, z) := ⟨_, _, rfl⟩
    obtain ⟨c, hc⟩ : ∃ c, chkM [] L = c := ⟨_, rfl⟩
    have HW := hid hw
    have HP := hid hp
    have HG := hid hg
    have HC := hid hc
    have hXl : X.length ≤ 32 := by
      have : (putM L k q).1.length ≤ 32 := by
        unfold putM
        split
        · simp
        · split
          · simp
          · exact List.length_take_le _ _
      rw [hp] at this; exact this
    have hz : ∀ w : World, (binOp .eql 4 (.bool z) (.bool z)).run Tryd.prog w = .ok (.bool true) w := fun w => by cases z <;> rfl
    clear hf hw hp hg hc
    go_enter Tryd.func7, Tryd.ntmps7
    go_wp2_with fail
    refine HFW.out.mono ?_
    rintro e w1 ⟨rfl, hb1⟩
    have H1 := hid (And.intro hb1 (HV.out.up hb1))
    clear hb1
    go_wp2_with fail
    refine (d_write w1 H1.out.2 HW).mono ?_
    rintro e w2 ⟨rfl, hb2⟩
    have H2 := hid (And.intro (tbelow_step H1.out.1 hb2) (H1.out.2.up hb2))
    clear hb2
    go_wp2_with fail
    refine (d_rwrite w2 H2.out.2 HW).mono ?_
    rintro e w3 ⟨rfl, hb3⟩
    have H3 := hid (And.intro (tbelow_step H2.out.1 hb3) (H2.out.2.up hb3))
    clear hb3
    go_wp2_with fail
    refine (d_put w3 H3.out.2 k q hk hq HP).mono ?_
    rintro e w4 ⟨⟨r, rfl, hr⟩, hb4⟩
    have H4 := hid (And.intro (tbelow_step H3.out.1 hb4) (And.intro (H3.out.2.up hb4) hr))
    clear hb4 hr
    go_wp2_with fail
    refine (d_rput w4 H4.out.2.1 k q hk hq HP).mono ?_
    rintro e w5 ⟨⟨r2, rfl, hr⟩, hb5⟩
    have H5 := hid (And.intro (tbelow_step H4.out.1 hb5) (And.intro (H4.out.2.1.up hb5) (And.intro (H4.out.2.2.up hb5) hr)))
    clear hb5 hr
    go_wp2_with fail
    refine (d_get w5 H5.out.2.1 k HG).mono ?_
    rintro e w6 ⟨rfl, hb6⟩
    have H6 := hid (And.intro (tbelow_step H5.out.1 hb6) (And.intro (H5.out.2.1.up hb6) (And.intro (H5.out.2.2.1.up hb6) (H5.out.2.2.2.up hb6))))
    clear hb6
    go_wp2_with fail
    refine (d_rget w6 H6.out.2.1 k HG).mono ?_
    rintro e w7 ⟨rfl, hb7⟩
    have H7 := hid (And.intro (tbelow_step H6.out.1 hb7) (And.intro (H6.out.2.1.up hb7) (And.intro (H6.out.2.2.1.up hb7) (H6.out.2.2.2.up hb7))))
    clear hb7
    go_wp2_with fail
    refine (d_check w7 H7.out.2.1 HC).mono ?_
    rintro e w8 ⟨rfl, hb8⟩
    have H8 := hid (And.intro (tbelow_step H7.out.1 hb8) (And.intro (H7.out.2.1.up hb8) (And.intro (H7.out.2.2.1.up hb8) (H7.out.2.2.2.up hb8))))
    clear hb8
    go_wp2_with fail
    refine (d_rcheck w8 H8.out.2.1 HC).mono ?_
    rintro e w9 ⟨rfl, hb9⟩
    have H9 := hid (And.intro (tbelow_step H8.out.1 hb9) (And.intro (H8.out.2.2.1.up hb9) (H8.out.2.2.2.up hb9)))
    clear hb9
    go_wp2_with fail
    refine (d_same w9 H9.out.2.1 H9.out.2.2 (by omega)).mono ?_
    rintro e w10 ⟨rfl, hb10⟩
    have H10 := hid (tbelow_step H9.out.1 hb10)
    clear hb10
    go_wp2_with fail
    refine (known8_any _ (hid (HE.out.later H10.out))).mono ?_
    rintro e w11 ⟨rfl, hb11⟩
    have H11 := hid (tbelow_step H10.out hb11)
    clear hb11
    go_wp2_with fail
    go_ret
    exact ⟨rfl, H11.out⟩
  · have hcase : fewOk L = false ∨ (fewOk L = true ∧ 400 < k.length) ∨ (fewOk L = true ∧ k.length ≤ 400 ∧ 400 < q.length) := by
      cases hf : fewOk L
      · exact Or.inl rfl
      · simp only [hf, true_and] at hall ⊢; omega
    clear hall
    rcases hcase with hf | ⟨hf, h4⟩ | ⟨hf, h4, h5⟩
    all_goals
      rw [hf] at HFW
      clear hf
      go_enter Tryd.func7, Tryd.ntmps7
      go_wp2_with fail
      refine HFW.out.mono ?_
      rintro e w1 ⟨rfl, hb1⟩
      have H1 := hid hb1
      clear hb1
      go_wp2_with fail
      refine (known8_any _ (hid (HE.out.later H1.out))).mono ?_
      rintro e w2 ⟨rfl, hb2⟩
      have H2 := hid (tbelow_step H1.out hb2)
      clear hb2
      go_wp2_with fail
      go_ret
      exact ⟨rfl, H2.out⟩
end Go.Proofs.YtddmmpjamnjilaaDoor
