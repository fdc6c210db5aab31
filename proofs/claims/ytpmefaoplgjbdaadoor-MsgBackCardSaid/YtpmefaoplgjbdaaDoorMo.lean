import Derived.Test.YtpmefaoplgjbdaaDoorMl
import Derived.Test.YtpmefaoplgjbdaaDoorMm
import Derived.Test.YtpmefaoplgjbdaaDoorMn
namespace Go.Proofs.YtpmefaoplgjbdaaDoor
set_option linter.unusedVariables false
set_option linter.unusedSimpArgs false
open Go.RowKit Go.Joins

def big (L : List Hd) : Prop := ∀ h ∈ L, h.1.length ≤ 140737488351232 ∧ h.2.length ≤ 140737488351232
theorem write_at (m h p : List UInt8) (A : Option Addr) (cap : Nat) (L : List Hd) (b : List UInt8) (w : World) (hR : HReads w (· < w.heap.size) A L) (hl : L.length ≤ 1000000) (hs : big L)
    (hm : m.length ≤ 140737488351232 ∧ h.length ≤ 140737488351232 ∧ p.length ≤ 140737488351232 ∧ b.length ≤ 140737488351232) {T : List UInt8} {c : Int} (H : Hid (wrQ m h p L b = (T, c))) :
    Calls Tryd.prog 9 #[.agg #[.string (bs m), .string (bs h), .string (bs p), .slice A L.length cap, .string (bs b)]] w fun e w' => e = .returned (.tuple #[.string (bs T), .int .i64 c]) ∧ Below w.heap.size w w' :=
  (write_any m h p A cap L b w hR hl hs hm.1 hm.2.1 hm.2.2.1 hm.2.2.2).mono fun e w' ⟨a, b⟩ => ⟨by rw [a, H.out], b⟩
theorem writeback_at (n : Int) (A : Option Addr) (cap : Nat) (L : List Hd) (b : List UInt8) (w : World) (hR : HReads w (· < w.heap.size) A L) (hl : L.length ≤ 1000000) (hs : big L) (hb : b.length ≤ 140737488351232) (E : Env w) {T : List UInt8} {c : Int} (H : Hid (wrP n L b = (T, c))) :
    Calls Tryd.prog 14 #[.agg #[.int .i64 n, .slice A L.length cap, .string (bs b)]] w fun e w' => e = .returned (.tuple #[.string (bs T), .int .i64 c]) ∧ Below w.heap.size w w' :=
  (writeback_any n A cap L b w hR hl hs hb E).mono fun e w' ⟨a, b⟩ => ⟨by rw [a, H.out], b⟩
theorem read_at (s : List UInt8) (hl : s.length ≤ 100000) (w : World) (E : Env w) {m h p b : List UInt8} {L : List Hd} {c : Int} (H : Hid (readQ s = ((m, h, p, L, b), c))) :
    Calls Tryd.prog 18 #[.string (bs s)] w fun e w' => (∃ A k, e = .returned (.tuple #[.agg #[.string (bs m), .string (bs h), .string (bs p), .slice A L.length k, .string (bs b)], .int .i64 c]) ∧ HReads w' (· < w'.heap.size) A L) ∧ Below w.heap.size w w' := by
  have := read_any s hl w E
  rw [H.out] at this
  exact this
theorem rread_at (s : List UInt8) (hl : s.length ≤ 100000) (w : World) {m h p b : List UInt8} {L : List Hd} {c : Int} (H : Hid (readQ s = ((m, h, p, L, b), c))) :
    Calls Tryd.prog 19 #[.string (bs s)] w fun e w' => (∃ A k, e = .returned (.tuple #[.agg #[.string (bs m), .string (bs h), .string (bs p), .slice A L.length k, .string (bs b)], .int .i64 c]) ∧ HReads w' (· < w'.heap.size) A L) ∧ Below w.heap.size w w' := by
  have := rread_any s hl w
  rw [H.out] at this
  exact this
theorem readback_at (s : List UInt8) (hl : s.length ≤ 100000) (w : World) (E : Env w) {n : Int} {b : List UInt8} {L : List Hd} {c : Int} (H : Hid (readP s = ((n, L, b), c))) :
    Calls Tryd.prog 20 #[.string (bs s)] w fun e w' => (∃ A k, e = .returned (.tuple #[.agg #[.int .i64 n, .slice A L.length k, .string (bs b)], .int .i64 c]) ∧ HReads w' (· < w'.heap.size) A L) ∧ Below w.heap.size w w' := by
  have := readback_any s hl w E
  rw [H.out] at this
  exact this
theorem rreadback_at (s : List UInt8) (hl : s.length ≤ 100000) (w : World) {n : Int} {b : List UInt8} {L : List Hd} {c : Int} (H : Hid (readP s = ((n, L, b), c))) :
    Calls Tryd.prog 21 #[.string (bs s)] w fun e w' => (∃ A k, e = .returned (.tuple #[.agg #[.int .i64 n, .slice A L.length k, .string (bs b)], .int .i64 c]) ∧ HReads w' (· < w'.heap.size) A L) ∧ Below w.heap.size w w' := by
  have := rreadback_any s hl w
  rw [H.out] at this
  exact this
def F5 (w : World) (g : Nat) (x0 x1 x2 x3 x4 : Value) : Prop := w.cell? ⟨g, 0, none⟩ = some x0 ∧ w.cell? ⟨g, 1, none⟩ = some x1 ∧ w.cell? ⟨g, 2, none⟩ = some x2 ∧ w.cell? ⟨g, 3, none⟩ = some x3 ∧ w.cell? ⟨g, 4, none⟩ = some x4
def F3 (w : World) (g : Nat) (x0 x1 x2 : Value) : Prop := w.cell? ⟨g, 0, none⟩ = some x0 ∧ w.cell? ⟨g, 1, none⟩ = some x1 ∧ w.cell? ⟨g, 2, none⟩ = some x2
theorem F5.later {w w' : World} {g : Nat} {x0 x1 x2 x3 x4 : Value} (h : F5 w g x0 x1 x2 x3 x4) (hb : Below w.heap.size w w') : F5 w' g x0 x1 x2 x3 x4 := by
  obtain ⟨a, b, c, d, e, _⟩ := keep_five h hb; exact ⟨a, b, c, d, e⟩
theorem F3.later {w w' : World} {g : Nat} {x0 x1 x2 : Value} (h : F3 w g x0 x1 x2) (hb : Below w.heap.size w w') : F3 w' g x0 x1 x2 := by
  obtain ⟨a, b, c, _⟩ := keep_three h hb; exact ⟨a, b, c⟩
def kT : List UInt8 := [71, 69, 84, 32, 97, 32, 47, 120, 10, 107, 58, 32, 118, 10, 10, 104, 105]
theorem kw : wrQ [71, 69, 84] [97] [47, 120] [([107], [118])] [104, 105] = ([71, 69, 84, 32, 97, 32, 47, 120, 10, 107, 58, 32, 118, 10, 10, 104, 105], 0) := by decide +kernel
theorem kr : readQ [71, 69, 84, 32, 97, 32, 47, 120, 10, 107, 58, 32, 118, 10, 10, 104, 105] = (([71, 69, 84], [97], [47, 120], [([107], [118])], [104, 105]), 0) := readQ_text ([71, 69, 84], [97], [47, 120], [([107], [118])], [104, 105]) (by decide +kernel)
theorem kwp : wrP 200 [] [120] = ([50, 48, 48, 10, 10, 120], 0) := by decide +kernel
theorem krp : readP [50, 48, 48, 10, 10, 120] = ((200, [], [120]), 0) := by decide +kernel
set_option maxRecDepth 100000 in
set_option maxHeartbeats 4000000 in
theorem known5_any (w : World) (E : Env w) :
    Calls Tryd.prog 8 #[] w fun e w' => e = .returned (.bool true) ∧ Below w.heap.size w w' := by
  have c1 : (ByteArray.mk #[71, 69, 84]) = bs [71, 69, 84] := rfl
  have c2 : (ByteArray.mk #[97]) = bs [97] := rfl
  have c3 : (ByteArray.mk #[47, 120]) = bs [47, 120] := rfl
  have c4 : (ByteArray.mk #[107]) = bs [107] := rfl
  have c5 : (ByteArray.mk #[118]) = bs [118] := rfl
  have c6 : (ByteArray.mk #[104, 105]) = bs [104, 105] := rfl
  have c7 : (ByteArray.mk #[120]) = bs [120] := rfl
  have c8 : (ByteArray.mk #[71, 69, 84, 32, 97, 32, 47, 120, 10, 107, 58, 32, 118, 10, 10, 104, 105]) = bs [71, 69, 84, 32, 97, 32, 47, 120, 10, 107, 58, 32, 118, 10, 10, 104, 105] := rfl
  have c9 : (ByteArray.mk #[50, 48, 48, 10, 10, 120]) = bs [50, 48, 48, 10, 10, 120] := rfl
  have HE := hid E
  clear E
  have hA := below_new' w (.cells #[.string (bs [107]), .string (bs [118])] 46)
  have hB := below_new' (w.alloc (.cells #[.string (bs [107]), .string (bs [118])] 46)) (.cells #[.string (bs [71, 69, 84]), .string (bs [97]), .string (bs [47, 120]), .slice (some ⟨w.heap.size, 0, none⟩) 1 1, .string (bs [104, 105])] 24)
  have hCC := below_new' ((w.alloc (.cells #[.string (bs [107]), .string (bs [118])] 46)).alloc (.cells #[.string (bs [71, 69, 84]), .string (bs [97]), .string (bs [47, 120]), .slice (some ⟨w.heap.size, 0, none⟩) 1 1, .string (bs [104, 105])] 24)) (.cells #[.int .i64 200, .slice none 0 0, .string (bs [120])] 32)
  have hr0 : HReads (w.alloc (.cells #[.string (bs [107]), .string (bs [118])] 46)) (· < (w.alloc (.cells #[.string (bs [107]), .string (bs [118])] 46)).heap.size) (some ⟨w.heap.size, 0, none⟩) [([107], [118])] := fun k hk => by
    obtain rfl : k = 0 := by simp at hk; omega
    exact ⟨w.heap.size, 0, rfl, by simp, by simp, by simp⟩
  have hf5 := (F5.later (five_new (w.alloc (.cells #[.string (bs [107]), .string (bs [118])] 46)) (.string (bs [71, 69, 84])) (.string (bs [97])) (.string (bs [47, 120])) (.slice (some ⟨w.heap.size, 0, none⟩) 1 1) (.string (bs [104, 105])) 24) hCC)
  have hf3 := (show F3 _ _ _ _ _ from three_new ((w.alloc (.cells #[.string (bs [107]), .string (bs [118])] 46)).alloc (.cells #[.string (bs [71, 69, 84]), .string (bs [97]), .string (bs [47, 120]), .slice (some ⟨w.heap.size, 0, none⟩) 1 1, .string (bs [104, 105])] 24)) (.int .i64 200) (.slice none 0 0) (.string (bs [120])) 32)
  simp only [World.size_alloc] at hf5 hf3
  have H0 := hid (And.intro ((hr0.later' hB).later' hCC) (And.intro hf5 (And.intro hf3 (below_step' (below_step' hA hB) hCC))))
  clear hf5 hf3
  clear hA hB hCC hr0
  go_enter Tryd.func8, Tryd.ntmps8
  go_wp2_with fail
  generalize (((w.alloc (.cells #[.string (bs [107]), .string (bs [118])] 46)).alloc (.cells #[.string (bs [71, 69, 84]), .string (bs [97]), .string (bs [47, 120]), .slice (some ⟨w.heap.size, 0, none⟩) 1 1, .string (bs [104, 105])] 24)).alloc (.cells #[.int .i64 200, .slice none 0 0, .string (bs [120])] 32)) = v0 at *
  have HE0 := hid (HE.out.later H0.out.2.2.2)
  have nilR : ∀ wz : World, HReads wz (· < wz.heap.size) none [] := fun wz k hk => absurd hk (by simp)
  have HNil := hid nilR
  clear nilR
  have hbig1 : big [([107], [118])] := fun h hh => by simp at hh; subst hh; simp
  have HBig := hid hbig1
  clear hbig1
  refine (write_at [71, 69, 84] [97] [47, 120] (some ⟨w.heap.size, 0, none⟩) 1 [([107], [118])] [104, 105] v0 H0.out.1 (by simp) HBig.out (by simp) (hid kw)).mono ?_
  rintro e w1 ⟨rfl, hb1⟩
  have H1 := hid hb1
  clear hb1
  go_wp2_with fail
  refine (read_at _ (by simp) w1 (HE0.out.later H1.out) (hid kr)).mono ?_
  rintro e w2 ⟨⟨A2, k2, rfl, hr2⟩, hb2⟩
  have hb3 := below_new' w2 (.cells #[.string (bs [71, 69, 84]), .string (bs [97]), .string (bs [47, 120]), .slice A2 1 k2, .string (bs [104, 105])] 24)
  have H2 := hid (And.intro (hr2.later' hb3) (And.intro (show F5 _ _ _ _ _ _ _ from five_new w2 (.string (bs [71, 69, 84])) (.string (bs [97])) (.string (bs [47, 120])) (.slice A2 1 k2) (.string (bs [104, 105])) 24) (below_step' (below_step' H1.out hb2) hb3)))
  have t2 := H0.out.2.2.1.later H2.out.2.2
  obtain ⟨t20, t21, t22⟩ := t2
  clear hr2 hb2 hb3
  go_wp2_with fail
  generalize w2.alloc (.cells #[.string (bs [71, 69, 84]), .string (bs [97]), .string (bs [47, 120]), .slice A2 1 k2, .string (bs [104, 105])] 24) = v2 at *
  refine (writeback_at 200 none 0 [] [120] v2 (HNil.out _) (by simp) (fun h hh => by simp at hh) (by simp) (HE0.out.later H2.out.2.2) (hid kwp)).mono ?_
  rintro e w3 ⟨rfl, hb3⟩
  have H3 := hid (below_step' H2.out.2.2 hb3)
  have H3b := hid hb3
  clear hb3 t20 t21 t22
  go_wp2_with fail
  refine (readback_at _ (by simp) w3 (HE0.out.later H3.out) (hid krp)).mono ?_
  rintro e w4 ⟨⟨A4, k4, rfl, hr4⟩, hb4⟩
  have hb5 := below_new' w4 (.cells #[.int .i64 200, .slice A4 0 k4, .string (bs [120])] 32)
  have H4 := hid (And.intro (hr4.later' hb5) (And.intro (show F3 _ _ _ _ _ from three_new w4 (.int .i64 200) (.slice A4 0 k4) (.string (bs [120])) 32) (below_step' (below_step' H3b.out hb4) hb5)))
  obtain ⟨y0, y1, y2, y3, y4⟩ := H2.out.2.1.later H4.out.2.2
  have HB4 := hid (below_step' H2.out.2.2 H4.out.2.2)
  obtain ⟨z0, z1, z2, z3, z4⟩ := H0.out.2.1.later HB4.out
  clear hr4 hb4 hb5
  go_wp2_with fail
  generalize w4.alloc (.cells #[.int .i64 200, .slice A4 0 k4, .string (bs [120])] 32) = v4 at *
  refine (same5_any [71, 69, 84] [97] [47, 120] A2 (some ⟨w.heap.size, 0, none⟩) k2 1 [([107], [118])] [104, 105] v4 (H2.out.1.later' H4.out.2.2) (H0.out.1.later' HB4.out) (by simp)).mono ?_
  rintro e w5 ⟨rfl, hb5⟩
  have H5 := hid (below_step' HB4.out hb5)
  obtain ⟨p0, p1, p2⟩ := H4.out.2.1.later hb5
  obtain ⟨q0, q1, q2⟩ := H0.out.2.2.1.later H5.out
  have HR4 := hid (H4.out.1.later' hb5)
  clear hb5 y0 y1 y2 y3 y4 z0 z1 z2 z3 z4
  go_wp2_with fail
  refine (same3_any 200 A4 none k4 0 [] [120] w5 HR4.out (HNil.out _) (by simp)).mono ?_
  rintro e w6 ⟨rfl, hb6⟩
  go_wp2_with fail
  go_ret
  exact ⟨rfl, below_step' H0.out.2.2.2 (below_step' H5.out hb6)⟩
end Go.Proofs.YtpmefaoplgjbdaaDoor
