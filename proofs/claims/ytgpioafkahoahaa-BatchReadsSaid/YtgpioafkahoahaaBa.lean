import Derived.Test.YtgpioafkahoahaaBp
import Derived.Test.YtgpioafkahoahaaSj
import Derived.Deep.Cut
namespace Go.Proofs.Ytgpioafkahoahaa
set_option linter.unusedVariables false
set_option linter.unusedSimpArgs false
open Go.RowKit Go.Joins

/-- The cells of a slice of spans, in a block that N allows. -/
def SR (w : World) (N : Nat → Prop) (A : Option Addr) (L : List Sp) : Prop :=
  ∀ k (h : k < L.length), ∃ b o, A = some ⟨b, o, none⟩ ∧ N b ∧ w.cell? ⟨b, o + k * 11, none⟩ = some (.int .u64 (L[k].hi : Int)) ∧ w.cell? ⟨b, o + k * 11 + 1, none⟩ = some (.int .u64 (L[k].lo : Int)) ∧ w.cell? ⟨b, o + k * 11 + 2, none⟩ = some (.int .u64 (L[k].id : Int)) ∧ w.cell? ⟨b, o + k * 11 + 3, none⟩ = some (.int .u64 (L[k].up : Int)) ∧ w.cell? ⟨b, o + k * 11 + 4, none⟩ = some (.string (bs L[k].name)) ∧ w.cell? ⟨b, o + k * 11 + 5, none⟩ = some (.int .i64 L[k].status) ∧ w.cell? ⟨b, o + k * 11 + 6, none⟩ = some (.int .i64 L[k].seq) ∧ w.cell? ⟨b, o + k * 11 + 7, none⟩ = some (.int .i64 L[k].kids) ∧ w.cell? ⟨b, o + k * 11 + 8, none⟩ = some (.bool L[k].shade) ∧ w.cell? ⟨b, o + k * 11 + 9, none⟩ = some (.int .i64 L[k].start) ∧ w.cell? ⟨b, o + k * 11 + 10, none⟩ = some (.int .i64 L[k].fin)
theorem SR.imp {w : World} {N M : Nat → Prop} {A : Option Addr} {L : List Sp} (h : SR w N A L) (hn : ∀ b, N b → M b) : SR w M A L := by
  intro k hk
  obtain ⟨b, o, e, h1, h2⟩ := h k hk
  exact ⟨b, o, e, hn _ h1, h2⟩
theorem SR.below {w w' : World} {B : Nat} {A : Option Addr} {L : List Sp} (h : SR w (· < B) A L) (hb : Below B w w') : SR w' (· < B) A L := by
  intro k hk
  obtain ⟨b, o, e, h1, c0, c1, c2, c3, c4, c5, c6, c7, c8, c9, c10⟩ := h k hk
  exact ⟨b, o, e, h1, (hb.cell h1).trans c0, (hb.cell h1).trans c1, (hb.cell h1).trans c2, (hb.cell h1).trans c3, (hb.cell h1).trans c4, (hb.cell h1).trans c5, (hb.cell h1).trans c6, (hb.cell h1).trans c7, (hb.cell h1).trans c8, (hb.cell h1).trans c9, (hb.cell h1).trans c10⟩
theorem SR.up {w w' : World} {A : Option Addr} {L : List Sp} (h : SR w (· < w.heap.size) A L) (hb : Below w.heap.size w w') : SR w' (· < w'.heap.size) A L :=
  (h.below hb).imp fun b hb' => Nat.lt_of_lt_of_le hb' hb.size
theorem SR.nil (w : World) (N : Nat → Prop) : SR w N none [] := fun k hk => absurd hk (by simp)
def smallS (L : List Sp) : Prop := ∀ s ∈ L, s.name.length ≤ 140737488351232
theorem smallS.at_ {L : List Sp} (h : smallS L) {k : Nat} (hk : k < L.length) : L[k].name.length ≤ 140737488351232 := h _ (List.getElem_mem hk)
/-- A variable that holds a batch. -/
def BB (w : World) (g : Nat) (n q : Int) (v : Value) : Prop := Blk w g 39 #[.int .i64 n, .int .i64 q, v]
theorem BB.new (w : World) (n q : Int) (v : Value) : BB (w.alloc (.cells #[.int .i64 n, .int .i64 q, v] 39)) w.heap.size n q v := Blk.new _ _ _
theorem BB.up {w w' : World} {g : Nat} {n q : Int} {v : Value} (h : BB w g n q v) (hb : Below w.heap.size w w') : BB w' g n q v := Blk.below h hb (Blk.lt h)
theorem BB.cells {w : World} {g : Nat} {n q : Int} {v : Value} (h : BB w g n q v) : w.cell? ⟨g, 0, none⟩ = some (.int .i64 n) ∧ w.cell? ⟨g, 1, none⟩ = some (.int .i64 q) ∧ w.cell? ⟨g, 2, none⟩ = some v := ⟨Blk.cell h 0, Blk.cell h 1, Blk.cell h 2⟩
theorem inR_eq (n q : Int) : inR n q = (decide (0 ≤ n) && (decide (n ≤ 7) && (decide (0 ≤ q) && decide (q ≤ 1099511627776)))) := by rw [inR, Bool.eq_iff_iff]; simp
theorem inrange_any (n q : Int) (w : World) {z : Bool} (H : Hid (inR n q = z)) :
    Calls Try.prog 52 #[.int .i64 n, .int .i64 q] w fun e w' => e = .returned (.bool z) ∧ w = w' := by
  have hz := H.out
  rw [inR_eq] at hz
  clear H
  by_cases h1 : 0 ≤ n
  all_goals by_cases h2 : n ≤ 7
  all_goals by_cases h3 : 0 ≤ q
  all_goals by_cases h4 : q ≤ 1099511627776
  all_goals
    simp only [h1, h2, h3, h4, decide_true, decide_false, Bool.true_and, Bool.false_and, Bool.and_true, Bool.and_false] at hz
    subst hz
    go_enter Try.func52, Try.ntmps52
    go_wp2_with fail
    all_goals (go_returns; exact ⟨rfl, rfl⟩)
theorem place_any (n q : Int) (w : World) {z : Bool} (H : Hid (inR n q = z)) :
    Calls Try.prog 53 #[.int .i64 n, .int .i64 q] w fun e w' => e = .returned (.bool z) ∧ w = w' := by
  have hz := H.out
  rw [inR_eq] at hz
  clear H
  by_cases h1 : 0 ≤ n
  all_goals by_cases h2 : n ≤ 7
  all_goals by_cases h3 : 0 ≤ q
  all_goals by_cases h4 : q ≤ 1099511627776
  all_goals
    simp only [h1, h2, h3, h4, decide_true, decide_false, Bool.true_and, Bool.false_and, Bool.and_true, Bool.and_false] at hz
    subst hz
    go_enter Try.func53, Try.ntmps53
    go_wp2_with fail
    all_goals (go_returns; exact ⟨rfl, rfl⟩)
theorem fltB_drop (L : List Sp) (k : Nat) (h : k < L.length) : fltB (L.drop k) = if chkS L[k] ≠ 0 then chkS L[k] else fltB (L.drop (k + 1)) := by
  rw [List.drop_eq_getElem_cons h]; rfl
set_option maxRecDepth 100000 in
set_option maxHeartbeats 4000000 in
theorem bcheck_any (A : Option Addr) (cap : Nat) (L : List Sp) (n q : Int) (w : World) (hR : SR w (· < w.heap.size) A L) (hl : L.length ≤ 9223372036854775807) (hs : smallS L) :
    Calls Try.prog 23 #[.agg #[.int .i64 n, .int .i64 q, .slice A L.length cap]] w fun e w' => e = .returned (.int .i64 (chkB n q L)) ∧ Below w.heap.size w w' := by
  have HC := hid (show chkB n q L = if inR n q = false then 12 else if L.length = 0 then 9 else if 16 < L.length then 8 else fltB L from rfl)
  have hnot := snot
  have hb0 := sbelow_new w (.cells #[.int .i64 n, .int .i64 q, .slice A L.length cap] 39)
  have hs0 := BB.new w n q (.slice A L.length cap)
  have HR := hid hR
  have HS := hid hs
  clear hR hs
  cases hi : inR n q
  · have HI := hid hi
    clear hi
    go_enter Try.func23, Try.ntmps23
    go_upto_region 1 with (fail)
    generalize w.alloc (.cells #[.int .i64 n, .int .i64 q, .slice A L.length cap] 39) = v0 at *
    obtain ⟨k0, k1, k2⟩ := hs0.cells
    go_wp2_with fail
    refine (inrange_any n q _ HI).mono ?_
    rintro e w1 ⟨rfl, rfl⟩
    go_wp2_with fail
    go_returns
    exact ⟨by rw [HC.out, if_pos HI.out]; rfl, hb0⟩
  have HI := hid hi
  clear hi
  by_cases h0 : L.length = 0
  · have hz : (((L.length : Nat) : Int) == 0) = true := by simp [h0]
    have H0 := hid h0
    clear h0
    go_enter Try.func23, Try.ntmps23
    go_upto_region 1 with (fail)
    generalize w.alloc (.cells #[.int .i64 n, .int .i64 q, .slice A L.length cap] 39) = v0 at *
    obtain ⟨k0, k1, k2⟩ := hs0.cells
    go_wp2_with fail
    refine (inrange_any n q _ HI).mono ?_
    rintro e w1 ⟨rfl, rfl⟩
    go_wp2_with fail
    go_returns
    exact ⟨by rw [HC.out, if_neg (by rw [HI.out]; simp), if_pos H0.out]; rfl, hb0⟩
  have hz : (((L.length : Nat) : Int) == 0) = false := by rw [beq_eq_false_iff_ne]; omega
  by_cases h16 : 16 < L.length
  · have hgt : decide ((16 : Int) < ((L.length : Nat) : Int)) = true := by simp; omega
    go_enter Try.func23, Try.ntmps23
    go_upto_region 1 with (fail)
    generalize w.alloc (.cells #[.int .i64 n, .int .i64 q, .slice A L.length cap] 39) = v0 at *
    obtain ⟨k0, k1, k2⟩ := hs0.cells
    go_wp2_with fail
    refine (inrange_any n q _ HI).mono ?_
    rintro e w1 ⟨rfl, rfl⟩
    go_wp2_with fail
    go_returns
    exact ⟨by rw [HC.out, if_neg (by rw [HI.out]; simp), if_neg h0, if_pos h16]; rfl, hb0⟩
  have hgt : decide ((16 : Int) < ((L.length : Nat) : Int)) = false := by simp; omega
  have HF := hid (show chkB n q L = fltB L by rw [HC.out, if_neg (by rw [HI.out]; simp), if_neg h0, if_neg h16])
  clear HC
  go_enter Try.func23, Try.ntmps23
  go_upto_region 1 with (fail)
  generalize w.alloc (.cells #[.int .i64 n, .int .i64 q, .slice A L.length cap] 39) = v0 at *
  obtain ⟨k0, k1, k2⟩ := hs0.cells
  go_wp2_with fail
  refine (inrange_any n q _ HI).mono ?_
  rintro e w1 ⟨rfl, rfl⟩
  go_wp2_with fail
  clear k0 k1 k2
  go_loopw [26] (fun i wr => ∃ k : Nat, k ≤ L.length ∧ i = .int .i64 k ∧ Hid (fltB L = fltB (L.drop k) ∧ Below w.heap.size w wr ∧ BB wr w.heap.size n q (.slice A L.length cap))) (fun i _ => L.length - (intOf i).toNat)
  case atStart => exact ⟨0, by omega, rfl, hid ⟨rfl, hb0, hs0⟩⟩
  case round =>
    obtain ⟨k, hk, rfl, HW⟩ := hrel
    obtain ⟨k0, k1, k2⟩ := HW.out.2.2.cells
    by_cases hlt : k < L.length
    · obtain ⟨bk, ok, rfl, hB, c0, c1, c2, c3, c4, c5, c6, c7, c8, c9, c10⟩ := (HR.out.below HW.out.2.1) k hlt
      have HD := hid (fltB_drop L k hlt)
      have hnm := HS.out.at_ hlt
      generalize L[k] = s at *
      obtain ⟨a, b, c, d, nm, st, sq, kd, sh, x, y⟩ := s
      simp only at hnm c0 c1 c2 c3 c4 c5 c6 c7 c8 c9 c10
      have hki : decide ((k : Int) < ((L.length : Nat) : Int)) = true := by simp; omega
      have hbz : bk < wr.heap.size := Nat.lt_of_lt_of_le hB HW.out.2.1.size
      obtain ⟨r, hr⟩ : ∃ r, chkS ⟨a, b, c, d, nm, st, sq, kd, sh, x, y⟩ = r := ⟨_, rfl⟩
      have HRR := hid hr
      have hck := fun w' => spcheck_at a b c d nm st sq kd sh x y w' hnm HRR
      have hb1 := sbelow_step HW.out.2.1 (sbelow_new wr (.cells #[.int .u64 (a : Int), .int .u64 (b : Int), .int .u64 (c : Int), .int .u64 (d : Int), .string (bs nm), .int .i64 st, .int .i64 sq, .int .i64 kd, .bool sh, .int .i64 x, .int .i64 y] 26))
      have hs1 := HW.out.2.2.up (sbelow_new wr (.cells #[.int .u64 (a : Int), .int .u64 (b : Int), .int .u64 (c : Int), .int .u64 (d : Int), .string (bs nm), .int .i64 st, .int .i64 sq, .int .i64 kd, .bool sh, .int .i64 x, .int .i64 y] 26))
      have ss1 := SB.new wr a b c d nm st sq kd sh x y
      by_cases hr0 : r = 0
      · subst hr0
        clear hr
        go_upto_region 10 with (fail)
        clear c0 c1 c2 c3 c4 c5 c6 c7 c8 c9 c10 k0 k1 k2
        generalize wr.alloc (.cells #[.int .u64 (a : Int), .int .u64 (b : Int), .int .u64 (c : Int), .int .u64 (d : Int), .string (bs nm), .int .i64 st, .int .i64 sq, .int .i64 kd, .bool sh, .int .i64 x, .int .i64 y] 26) = v1 at *
        obtain ⟨c0, c1, c2, c3, c4, c5, c6, c7, c8, c9, c10⟩ := ss1.cells
        go_wp2_with fail
        refine (hck _).mono ?_
        rintro e w1 ⟨rfl, hb2⟩
        have H2 := hid (And.intro (sbelow_step hb1 hb2) (hs1.up hb2))
        clear hb1 hb2 hs1 ss1 c0 c1 c2 c3 c4 c5 c6 c7 c8 c9 c10
        go_wp2_with fail
        go_roundw
        case rel => exact ⟨k + 1, by omega, by go_num, hid ⟨by rw [HW.out.1, HD.out, if_neg (by rw [HRR.out]; simp)], H2.out.1, H2.out.2⟩⟩
        case measure => simp [intOf]; omega
      · have hb : (r != 0) = true := by simpa using hr0
        have HE := hid (show fltB L = r by rw [HW.out.1, HD.out, hr, if_pos hr0])
        clear hr hr0
        go_upto_region 10 with (fail)
        clear c0 c1 c2 c3 c4 c5 c6 c7 c8 c9 c10 k0 k1 k2
        generalize wr.alloc (.cells #[.int .u64 (a : Int), .int .u64 (b : Int), .int .u64 (c : Int), .int .u64 (d : Int), .string (bs nm), .int .i64 st, .int .i64 sq, .int .i64 kd, .bool sh, .int .i64 x, .int .i64 y] 26) = v1 at *
        obtain ⟨c0, c1, c2, c3, c4, c5, c6, c7, c8, c9, c10⟩ := ss1.cells
        go_wp2_with fail
        refine (hck _).mono ?_
        rintro e w1 ⟨rfl, hb2⟩
        have H2 := hid (And.intro (sbelow_step hb1 hb2) (hs1.up hb2))
        clear hb1 hb2 hs1 ss1 c0 c1 c2 c3 c4 c5 c6 c7 c8 c9 c10
        go_wp2_with fail
        go_returns
        exact ⟨by rw [HF.out, HE.out]; rfl, H2.out.1⟩
    · obtain rfl : k = L.length := by omega
      go_wp2_with fail
      go_returns
      exact ⟨by rw [HF.out, HW.out.1, List.drop_length]; rfl, HW.out.2.1⟩
set_option maxRecDepth 100000 in
set_option maxHeartbeats 4000000 in
theorem rbcheck_any (A : Option Addr) (cap : Nat) (L : List Sp) (n q : Int) (w : World) (hR : SR w (· < w.heap.size) A L) (hl : L.length ≤ 9223372036854775807) (hs : smallS L) :
    Calls Try.prog 24 #[.agg #[.int .i64 n, .int .i64 q, .slice A L.length cap]] w fun e w' => e = .returned (.int .i64 (chkB n q L)) ∧ Below w.heap.size w w' := by
  have HC := hid (show chkB n q L = if inR n q = false then 12 else if L.length = 0 then 9 else if 16 < L.length then 8 else fltB L from rfl)
  have hnot := snot
  have hb0 := sbelow_new w (.cells #[.int .i64 n, .int .i64 q, .slice A L.length cap] 39)
  have hs0 := BB.new w n q (.slice A L.length cap)
  have HR := hid hR
  have HS := hid hs
  clear hR hs
  cases hi : inR n q
  · have HI := hid hi
    clear hi
    go_enter Try.func24, Try.ntmps24
    go_upto_region 1 with (fail)
    generalize w.alloc (.cells #[.int .i64 n, .int .i64 q, .slice A L.length cap] 39) = v0 at *
    obtain ⟨k0, k1, k2⟩ := hs0.cells
    go_wp2_with fail
    refine (place_any n q _ HI).mono ?_
    rintro e w1 ⟨rfl, rfl⟩
    go_wp2_with fail
    go_returns
    exact ⟨by rw [HC.out, if_pos HI.out]; rfl, hb0⟩
  have HI := hid hi
  clear hi
  by_cases h0 : L.length = 0
  · have hz : (((L.length : Nat) : Int) == 0) = true := by simp [h0]
    have H0 := hid h0
    clear h0
    go_enter Try.func24, Try.ntmps24
    go_upto_region 1 with (fail)
    generalize w.alloc (.cells #[.int .i64 n, .int .i64 q, .slice A L.length cap] 39) = v0 at *
    obtain ⟨k0, k1, k2⟩ := hs0.cells
    go_wp2_with fail
    refine (place_any n q _ HI).mono ?_
    rintro e w1 ⟨rfl, rfl⟩
    go_wp2_with fail
    go_returns
    exact ⟨by rw [HC.out, if_neg (by rw [HI.out]; simp), if_pos H0.out]; rfl, hb0⟩
  have hz : (((L.length : Nat) : Int) == 0) = false := by rw [beq_eq_false_iff_ne]; omega
  by_cases h16 : 16 < L.length
  · have hgt : decide ((16 : Int) < ((L.length : Nat) : Int)) = true := by simp; omega
    go_enter Try.func24, Try.ntmps24
    go_upto_region 1 with (fail)
    generalize w.alloc (.cells #[.int .i64 n, .int .i64 q, .slice A L.length cap] 39) = v0 at *
    obtain ⟨k0, k1, k2⟩ := hs0.cells
    go_wp2_with fail
    refine (place_any n q _ HI).mono ?_
    rintro e w1 ⟨rfl, rfl⟩
    go_wp2_with fail
    go_returns
    exact ⟨by rw [HC.out, if_neg (by rw [HI.out]; simp), if_neg h0, if_pos h16]; rfl, hb0⟩
  have hgt : decide ((16 : Int) < ((L.length : Nat) : Int)) = false := by simp; omega
  have HF := hid (show chkB n q L = fltB L by rw [HC.out, if_neg (by rw [HI.out]; simp), if_neg h0, if_neg h16])
  clear HC
  go_enter Try.func24, Try.ntmps24
  go_upto_region 1 with (fail)
  generalize w.alloc (.cells #[.int .i64 n, .int .i64 q, .slice A L.length cap] 39) = v0 at *
  obtain ⟨k0, k1, k2⟩ := hs0.cells
  go_wp2_with fail
  refine (place_any n q _ HI).mono ?_
  rintro e w1 ⟨rfl, rfl⟩
  go_wp2_with fail
  clear k0 k1 k2
  go_loopw [3] (fun i wr => ∃ k : Nat, k ≤ L.length ∧ i = .int .i64 k ∧ Hid (fltB L = fltB (L.drop k) ∧ Below w.heap.size w wr ∧ BB wr w.heap.size n q (.slice A L.length cap))) (fun i _ => L.length - (intOf i).toNat)
  case atStart => exact ⟨0, by omega, rfl, hid ⟨rfl, hb0, hs0⟩⟩
  case round =>
    obtain ⟨k, hk, rfl, HW⟩ := hrel
    obtain ⟨k0, k1, k2⟩ := HW.out.2.2.cells
    by_cases hlt : k < L.length
    · obtain ⟨bk, ok, rfl, hB, c0, c1, c2, c3, c4, c5, c6, c7, c8, c9, c10⟩ := (HR.out.below HW.out.2.1) k hlt
      have HD := hid (fltB_drop L k hlt)
      have hnm := HS.out.at_ hlt
      generalize L[k] = s at *
      obtain ⟨a, b, c, d, nm, st, sq, kd, sh, x, y⟩ := s
      simp only at hnm c0 c1 c2 c3 c4 c5 c6 c7 c8 c9 c10
      have hki : decide ((k : Int) < ((L.length : Nat) : Int)) = true := by simp; omega
      have hbz : bk < wr.heap.size := Nat.lt_of_lt_of_le hB HW.out.2.1.size
      obtain ⟨r, hr⟩ : ∃ r, chkS ⟨a, b, c, d, nm, st, sq, kd, sh, x, y⟩ = r := ⟨_, rfl⟩
      have HRR := hid hr
      have hck := fun w' => rspcheck_at a b c d nm st sq kd sh x y w' hnm HRR
      by_cases hr0 : r = 0
      · subst hr0
        clear hr
        go_wp2_with fail
        refine (hck _).mono ?_
        rintro e w1 ⟨rfl, hb2⟩
        have H2 := hid (And.intro (sbelow_step HW.out.2.1 hb2) (HW.out.2.2.up hb2))
        clear hb2 c0 c1 c2 c3 c4 c5 c6 c7 c8 c9 c10 k0 k1 k2
        go_wp2_with fail
        go_roundw
        case rel => exact ⟨k + 1, by omega, by go_num, hid ⟨by rw [HW.out.1, HD.out, if_neg (by rw [HRR.out]; simp)], H2.out.1, H2.out.2⟩⟩
        case measure => simp [intOf]; omega
      · have hb : (r != 0) = true := by simpa using hr0
        have HE := hid (show fltB L = r by rw [HW.out.1, HD.out, hr, if_pos hr0])
        clear hr hr0
        go_wp2_with fail
        refine (hck _).mono ?_
        rintro e w1 ⟨rfl, hb2⟩
        have H2 := hid (And.intro (sbelow_step HW.out.2.1 hb2) (HW.out.2.2.up hb2))
        clear hb2 c0 c1 c2 c3 c4 c5 c6 c7 c8 c9 c10 k0 k1 k2
        go_wp2_with fail
        go_returns
        exact ⟨by rw [HF.out, HE.out]; rfl, H2.out.1⟩
    · obtain rfl : k = L.length := by omega
      go_wp2_with fail
      go_returns
      exact ⟨by rw [HF.out, HW.out.1, List.drop_length]; rfl, HW.out.2.1⟩
def fewB (L : List Sp) : Bool := decide (L.length ≤ 40) && L.all fun s => decide (s.name.length ≤ 200)
theorem fewB_ok {L : List Sp} (h : fewB L = true) : L.length ≤ 40 ∧ ∀ s ∈ L, s.name.length ≤ 200 := by
  simp only [fewB, Bool.and_eq_true, decide_eq_true_eq, List.all_eq_true] at h
  exact h
set_option maxRecDepth 100000 in
set_option maxHeartbeats 4000000 in
theorem bfew_any (A : Option Addr) (cap : Nat) (L : List Sp) (n q : Int) (w : World) (hR : SR w (· < w.heap.size) A L) (hl : L.length ≤ 9223372036854775807) (hs : smallS L) :
    Calls Try.prog 17 #[.agg #[.int .i64 n, .int .i64 q, .slice A L.length cap]] w fun e w' => e = .returned (.bool (fewB L)) ∧ Below w.heap.size w w' := by
  have hb0 := sbelow_new w (.cells #[.int .i64 n, .int .i64 q, .slice A L.length cap] 39)
  have hs0 := BB.new w n q (.slice A L.length cap)
  have HR := hid hR
  have HS := hid hs
  clear hR hs
  by_cases h40 : 40 < L.length
  · have HN := hid (show fewB L = false by rw [fewB, decide_eq_false (by omega)]; rfl)
    have hgt : decide ((40 : Int) < ((L.length : Nat) : Int)) = true := by simp; omega
    go_enter Try.func17, Try.ntmps17
    go_upto_region 1 with (fail)
    generalize w.alloc (.cells #[.int .i64 n, .int .i64 q, .slice A L.length cap] 39) = v0 at *
    obtain ⟨k0, k1, k2⟩ := hs0.cells
    go_wp2_with fail
    go_returns
    exact ⟨by rw [HN.out]; rfl, hb0⟩
  have HN := hid (show fewB L = L.all fun s => decide (s.name.length ≤ 200) by rw [fewB, decide_eq_true (by omega)]; rfl)
  have hgt : decide ((40 : Int) < ((L.length : Nat) : Int)) = false := by simp; omega
  go_enter Try.func17, Try.ntmps17
  go_upto_region 1 with (fail)
  generalize w.alloc (.cells #[.int .i64 n, .int .i64 q, .slice A L.length cap] 39) = v0 at *
  obtain ⟨k0, k1, k2⟩ := hs0.cells
  go_wp2_with fail
  go_loop [3] (fun i => ∃ k : Nat, k ≤ L.length ∧ i = .int .i64 k ∧ Hid (((L.take k).all fun s => decide (s.name.length ≤ 200)) = true)) (fun i => L.length - (intOf i).toNat)
  case atStart => exact ⟨0, by omega, rfl, hid rfl⟩
  case round =>
    obtain ⟨k, hk, rfl, HW⟩ := hrel
    by_cases hlt : k < L.length
    · obtain ⟨bk, ok, rfl, hB, c0, c1, c2, c3, c4, c5, c6, c7, c8, c9, c10⟩ := (HR.out.below hb0) k hlt
      clear c0 c1 c2 c3 c5 c6 c7 c8 c9 c10
      have hki : decide ((k : Int) < ((L.length : Nat) : Int)) = true := by simp; omega
      have HT := hid (show ((L.take (k + 1)).all fun s => decide (s.name.length ≤ 200)) = (((L.take k).all fun s => decide (s.name.length ≤ 200)) && decide (L[k].name.length ≤ 200)) by rw [List.take_succ_eq_append_getElem hlt, List.all_append]; simp)
      by_cases hbig : 200 < L[k].name.length
      · have HF := hid (show (L.all fun s => decide (s.name.length ≤ 200)) = false by
          rw [List.all_eq_false]; exact ⟨L[k], List.getElem_mem hlt, by simp; omega⟩)
        have hg2 : decide ((200 : Int) < ((L[k].name.length : Nat) : Int)) = true := by simp; omega
        go_wp2_with fail
        go_returns
        exact ⟨by rw [HN.out, HF.out]; rfl, hb0⟩
      · have hg2 : decide ((200 : Int) < ((L[k].name.length : Nat) : Int)) = false := by simp; omega
        have HG := hid (show decide (L[k].name.length ≤ 200) = true by simp; omega)
        go_wp2_with fail
        go_round
        case rel => exact ⟨k + 1, by omega, by go_num, hid (by rw [HT.out, HW.out, HG.out]; rfl)⟩
        case measure => simp [intOf]; omega
    · obtain rfl : k = L.length := by omega
      have h1 := HW.out
      rw [List.take_length] at h1
      go_wp2_with fail
      go_returns
      exact ⟨by rw [HN.out, h1]; rfl, hb0⟩
end Go.Proofs.Ytgpioafkahoahaa
