import Derived.Test.YtgpioafkahoahaaBb
import Derived.Deep.QuietTactic
import Derived.BigQuiet
namespace Go.Proofs.Ytgpioafkahoahaa
set_option linter.unusedVariables false
set_option linter.unusedSimpArgs false
open Go.RowKit Go.Joins

theorem hasP_len {p s : List UInt8} (h : p.length ≤ s.length) : hasP p s = (s.take p.length == p) := by rw [hasP, decide_eq_true h]; rfl
theorem hasP_short {p s : List UInt8} (h : ¬ p.length ≤ s.length) : hasP p s = false := by rw [hasP, decide_eq_false h]; rfl
set_option maxHeartbeats 800000 in
theorem slhas_any (s p : List UInt8) (w : World) (hs : s.length ≤ 140737488351232) (hp : p.length ≤ 1000) {z : Bool} (H : Hid (hasP p s = z)) :
    Calls Try.prog 83 #[.string (bs s), .string (bs p)] w fun e w' => e = .returned (.bool z) ∧ w = w' := by
  by_cases h : p.length ≤ s.length
  · have hd : decide (((p.length : Nat) : Int) ≤ ((s.length : Nat) : Int)) = true := by simp; omega
    have hext : (bs s).extract 0 p.length = bs (s.take p.length) := by rw [bs_extract]; simp
    have hz := H.out
    rw [hasP_len h] at hz
    have HZ := hid hz
    clear hz H
    go_enter Try.func83, Try.ntmps83
    go_wp2_with fail
    all_goals
      go_returns
      exact ⟨by rw [← HZ.out]; first | rfl | simp_all, rfl⟩
  · have hd : decide (((p.length : Nat) : Int) ≤ ((s.length : Nat) : Int)) = false := by simp; omega
    have hz := H.out
    rw [hasP_short h] at hz
    subst hz
    go_enter Try.func83, Try.ntmps83
    go_wp2_with fail
    go_returns
    exact ⟨rfl, rfl⟩
theorem shas_any (s p : List UInt8) (w : World) (hs : s.length ≤ 140737488351232) (hp : p.length ≤ 1000) {z : Bool} (H : Hid (hasP p s = z)) :
    Calls Try.prog 60 #[.string (bs s), .string (bs p)] w fun e w' => e = .returned (.bool z) ∧ w = w' := by
  go_enter Try.func60, Try.ntmps60
  go_wp2_with fail
  refine (slhas_any s p _ hs hp H).mono ?_
  rintro e w' ⟨rfl, rfl⟩
  go_wp2_with fail
  go_returns
  exact ⟨rfl, rfl⟩
set_option maxHeartbeats 800000 in
theorem slcut_any (s p : List UInt8) (w : World) (hs : s.length ≤ 140737488351232) (hp : p.length ≤ 1000) {z : Bool} (H : Hid (hasP p s = z)) :
    Calls Try.prog 91 #[.string (bs s), .string (bs p)] w fun e w' => e = .returned (.tuple #[.string (bs (if z = true then s.drop p.length else s)), .bool z]) ∧ w = w' := by
  have hnot := snot
  have hc := fun w' => slhas_any s p w' hs hp H
  cases z
  · go_enter Try.func91, Try.ntmps91
    go_wp2_with fail
    refine (hc _).mono ?_
    rintro e w' ⟨rfl, rfl⟩
    go_wp2_with fail
    go_returns
    exact ⟨rfl, rfl⟩
  · have hle : p.length ≤ s.length := by
      by_cases h : p.length ≤ s.length
      · exact h
      · have := H.out; rw [hasP_short h] at this; cases this
    have hext : (bs s).extract p.length s.length = bs (s.drop p.length) := by rw [bs_extract, List.take_of_length_le (by simp)]
    go_enter Try.func91, Try.ntmps91
    go_wp2_with fail
    refine (hc _).mono ?_
    rintro e w' ⟨rfl, rfl⟩
    go_wp2_with fail
    go_returns
    exact ⟨rfl, rfl⟩
theorem scut_any (s p : List UInt8) (w : World) (hs : s.length ≤ 140737488351232) (hp : p.length ≤ 1000) {z : Bool} (H : Hid (hasP p s = z)) :
    Calls Try.prog 78 #[.string (bs s), .string (bs p)] w fun e w' => e = .returned (.tuple #[.string (bs (if z = true then s.drop p.length else s)), .bool z]) ∧ w = w' := by
  have hc := fun w' => slcut_any s p w' hs hp H
  cases z
  all_goals
    go_enter Try.func78, Try.ntmps78
    go_wp2_with fail
    refine (hc _).mono ?_
    rintro e w' ⟨rfl, rfl⟩
    go_wp2_with fail
    go_returns
    exact ⟨rfl, rfl⟩
set_option maxHeartbeats 800000 in
theorem begins_any (s p : List UInt8) (w : World) (hs : s.length ≤ 140737488351232) (hp : p.length ≤ 1000) {z : Bool} (H : Hid (hasP p s = z)) :
    Calls Try.prog 61 #[.string (bs s), .string (bs p)] w fun e w' => e = .returned (.bool z) ∧ w = w' := by
  by_cases h : p.length ≤ s.length
  · have hd : decide (((p.length : Nat) : Int) ≤ ((s.length : Nat) : Int)) = true := by simp; omega
    have hext : (bs s).extract 0 p.length = bs (s.take p.length) := by rw [bs_extract]; simp
    have hz := H.out
    rw [hasP_len h] at hz
    have HZ := hid hz
    clear hz H
    go_enter Try.func61, Try.ntmps61
    go_wp2_with fail
    all_goals
      go_returns
      exact ⟨by rw [← HZ.out]; first | rfl | simp_all, rfl⟩
  · have hd : decide (((p.length : Nat) : Int) ≤ ((s.length : Nat) : Int)) = false := by simp; omega
    have hz := H.out
    rw [hasP_short h] at hz
    subst hz
    go_enter Try.func61, Try.ntmps61
    go_wp2_with fail
    go_returns
    exact ⟨rfl, rfl⟩
theorem lit_mkB : (ByteArray.mk #[80, 66, 1]) = bs mkB := rfl
theorem lit_mkA : (ByteArray.mk #[80, 65, 1]) = bs mkA := rfl
theorem mkB_len : mkB.length = 3 := rfl
theorem mkA_len : mkA.length = 3 := rfl
set_option maxHeartbeats 800000 in
theorem kind_any (s : List UInt8) (w : World) (hs : s.length ≤ 140737488351232) {k : Int} (H : Hid (kindB s = k)) :
    Calls Try.prog 30 #[.string (bs s)] w fun e w' => e = .returned (.int .i64 k) ∧ w = w' := by
  have c1 := lit_mkB
  have c2 := lit_mkA
  have hB := fun w' z (h : Hid (hasP mkB s = z)) => shas_any s mkB w' hs (by rw [mkB_len]; omega) h
  have hA := fun w' z (h : Hid (hasP mkA s = z)) => shas_any s mkA w' hs (by rw [mkA_len]; omega) h
  have H0 := H.out
  unfold kindB at H0
  generalize mkB = m1 at *
  generalize mkA = m2 at *
  clear H
  cases h1 : hasP m1 s
  · rw [h1] at H0
    cases h2 : hasP m2 s
    · rw [h2] at H0
      simp at H0
      subst H0
      have h1 := hid h1
      have h2 := hid h2
      go_enter Try.func30, Try.ntmps30
      go_wp2_with fail
      refine (hB _ _ h1).mono ?_
      rintro e w' ⟨rfl, rfl⟩
      go_wp2_with fail
      refine (hA _ _ h2).mono ?_
      rintro e w' ⟨rfl, rfl⟩
      go_wp2_with fail
      go_returns
      exact ⟨rfl, rfl⟩
    · rw [h2] at H0
      simp at H0
      subst H0
      have h1 := hid h1
      have h2 := hid h2
      go_enter Try.func30, Try.ntmps30
      go_wp2_with fail
      refine (hB _ _ h1).mono ?_
      rintro e w' ⟨rfl, rfl⟩
      go_wp2_with fail
      refine (hA _ _ h2).mono ?_
      rintro e w' ⟨rfl, rfl⟩
      go_wp2_with fail
      go_returns
      exact ⟨rfl, rfl⟩
  · rw [h1] at H0
    simp at H0
    subst H0
    have h1 := hid h1
    go_enter Try.func30, Try.ntmps30
    go_wp2_with fail
    refine (hB _ _ h1).mono ?_
    rintro e w' ⟨rfl, rfl⟩
    go_wp2_with fail
    go_returns
    exact ⟨rfl, rfl⟩
set_option maxHeartbeats 800000 in
theorem rkind_any (s : List UInt8) (w : World) (hs : s.length ≤ 140737488351232) {k : Int} (H : Hid (kindB s = k)) :
    Calls Try.prog 31 #[.string (bs s)] w fun e w' => e = .returned (.int .i64 k) ∧ w = w' := by
  have c1 := lit_mkB
  have c2 := lit_mkA
  have hB := fun w' z (h : Hid (hasP mkB s = z)) => begins_any s mkB w' hs (by rw [mkB_len]; omega) h
  have hA := fun w' z (h : Hid (hasP mkA s = z)) => begins_any s mkA w' hs (by rw [mkA_len]; omega) h
  have H0 := H.out
  unfold kindB at H0
  generalize mkB = m1 at *
  generalize mkA = m2 at *
  clear H
  cases h1 : hasP m1 s
  · rw [h1] at H0
    cases h2 : hasP m2 s
    · rw [h2] at H0
      simp at H0
      subst H0
      have h1 := hid h1
      have h2 := hid h2
      go_enter Try.func31, Try.ntmps31
      go_wp2_with fail
      refine (hB _ _ h1).mono ?_
      rintro e w' ⟨rfl, rfl⟩
      go_wp2_with fail
      refine (hA _ _ h2).mono ?_
      rintro e w' ⟨rfl, rfl⟩
      go_wp2_with fail
      go_returns
      exact ⟨rfl, rfl⟩
    · rw [h2] at H0
      simp at H0
      subst H0
      have h1 := hid h1
      have h2 := hid h2
      go_enter Try.func31, Try.ntmps31
      go_wp2_with fail
      refine (hB _ _ h1).mono ?_
      rintro e w' ⟨rfl, rfl⟩
      go_wp2_with fail
      refine (hA _ _ h2).mono ?_
      rintro e w' ⟨rfl, rfl⟩
      go_wp2_with fail
      go_returns
      exact ⟨rfl, rfl⟩
  · rw [h1] at H0
    simp at H0
    subst H0
    have h1 := hid h1
    go_enter Try.func31, Try.ntmps31
    go_wp2_with fail
    refine (hB _ _ h1).mono ?_
    rintro e w' ⟨rfl, rfl⟩
    go_wp2_with fail
    go_returns
    exact ⟨rfl, rfl⟩
theorem scopen_at (l : List UInt8) (w : World) (hs : l.length ≤ 140737488351232) {t : List UInt8} {e : Int} (H : Hid (openS l = (t, e))) :
    Calls Try.prog 77 #[.string (bs l)] w fun r w' => r = .returned (.tuple #[.string (bs t), .int .i64 e]) ∧ w = w' :=
  (copen_any l w hs).mono fun r w' ⟨h1, h2⟩ => ⟨by rw [H.out] at h1; exact h1, h2⟩
theorem sropen_at (l : List UInt8) (w : World) (hs : l.length ≤ 140737488351232) {t : List UInt8} {e : Int} (H : Hid (openS l = (t, e))) :
    Calls Try.prog 82 #[.string (bs l)] w fun r w' => r = .returned (.tuple #[.string (bs t), .int .i64 e]) ∧ Below w.heap.size w w' :=
  (ropen_any l w hs).mono fun r w' ⟨h1, h2⟩ => ⟨by rw [H.out] at h1; exact h1, h2⟩
theorem openS_len (l : List UInt8) : (openS l).1.length ≤ l.length := by
  by_cases h : l.length < 4
  · rw [openS_short h]; simp
  · by_cases h2 : val (l.drop (l.length - 4)) = crcS (l.take (l.length - 4))
    · rw [openS_ok h h2]; simp
    · rw [openS_bad h h2]; simp
set_option maxHeartbeats 800000 in
theorem bopen_any (s m : List UInt8) (w : World) (hs : s.length ≤ 140737488351232) (hm : m.length ≤ 1000) {t : List UInt8} {e : Int} (H : Hid (opM m s = (t, e))) :
    Calls Try.prog 54 #[.string (bs s), .string (bs m)] w fun r w' => r = .returned (.tuple #[.string (bs t), .int .i64 e]) ∧ w = w' := by
  have hnot := snot
  obtain ⟨u, x, ho⟩ : ∃ u x, openS s = (u, x) := ⟨_, _, rfl⟩
  have hul : u.length ≤ s.length := by have := openS_len s; rw [ho] at this; exact this
  have H0 := H.out
  rw [opM, ho] at H0
  simp only at H0
  have HO := hid ho
  clear ho H
  by_cases hx : x = 0
  · subst hx
    rw [if_neg (by simp)] at H0
    cases hz : hasP m u
    · rw [hz, if_neg (by simp)] at H0
      simp only [Prod.mk.injEq] at H0
      obtain ⟨rfl, rfl⟩ := H0
      have hc := fun w' => scut_any u m w' (by omega) hm (hid hz)
      clear hz
      go_enter Try.func54, Try.ntmps54
      go_wp2_with fail
      refine (scopen_at s _ hs HO).mono ?_
      rintro r w1 ⟨rfl, rfl⟩
      go_wp2_with fail
      refine (hc _).mono ?_
      rintro r w1 ⟨rfl, rfl⟩
      go_wp2_with fail
      go_returns
      exact ⟨rfl, rfl⟩
    · rw [hz, if_pos rfl] at H0
      simp only [Prod.mk.injEq] at H0
      obtain ⟨rfl, rfl⟩ := H0
      have hc := fun w' => scut_any u m w' (by omega) hm (hid hz)
      clear hz
      go_enter Try.func54, Try.ntmps54
      go_wp2_with fail
      refine (scopen_at s _ hs HO).mono ?_
      rintro r w1 ⟨rfl, rfl⟩
      go_wp2_with fail
      refine (hc _).mono ?_
      rintro r w1 ⟨rfl, rfl⟩
      go_wp2_with fail
      go_returns
      exact ⟨rfl, rfl⟩
  · rw [if_pos hx] at H0
    simp only [Prod.mk.injEq] at H0
    obtain ⟨rfl, rfl⟩ := H0
    have hb : (x != 0) = true := by simpa using hx
    clear hx
    go_enter Try.func54, Try.ntmps54
    go_wp2_with fail
    refine (scopen_at s _ hs HO).mono ?_
    rintro r w1 ⟨rfl, rfl⟩
    go_wp2_with fail
    go_returns
    exact ⟨rfl, rfl⟩
theorem opM_len {m s t : List UInt8} {e : Int} (h : opM m s = (t, e)) : t.length ≤ s.length := by
  have hl := openS_len s
  unfold opM at h
  split at h
  · simp only [Prod.mk.injEq] at h; rw [← h.1]; simp
  · split at h
    · simp only [Prod.mk.injEq] at h; rw [← h.1, List.length_drop]; omega
    · simp only [Prod.mk.injEq] at h; rw [← h.1]; simp
/-- What numbers' functions share. -/
def NC (w : World) (g : Nat) (l : List UInt8) (a e : Int) : Prop :=
  w.cell? ⟨g, 0, none⟩ = some (.string (bs l)) ∧ w.cell? ⟨g + 1, 0, none⟩ = some (.int .i64 a) ∧ w.cell? ⟨g + 2, 0, none⟩ = some (.int .i64 e) ∧ w.frozen? ⟨g + 1, 0, none⟩ = false ∧ w.frozen? ⟨g + 2, 0, none⟩ = false
theorem NC.lt {w : World} {g : Nat} {l : List UInt8} {a e : Int} (h : NC w g l a e) : g + 2 < w.heap.size := lt_of_cell h.2.2.1
theorem NC.up {w w' : World} {g : Nat} {l : List UInt8} {a e : Int} (h : NC w g l a e) (hb : Below w.heap.size w w') : NC w' g l a e := by
  have hl := h.lt
  obtain ⟨h0, h1, h2, f1, f2⟩ := h
  exact ⟨(hb.cell (p := ⟨g, 0, none⟩) (by omega : g < _)).trans h0, (hb.cell (p := ⟨g + 1, 0, none⟩) (by omega : g + 1 < _)).trans h1, (hb.cell (p := ⟨g + 2, 0, none⟩) (by omega : g + 2 < _)).trans h2, (hb.frozen (p := ⟨g + 1, 0, none⟩) (by omega : g + 1 < _)).trans f1, (hb.frozen (p := ⟨g + 2, 0, none⟩) (by omega : g + 2 < _)).trans f2⟩
theorem NC.set {w : World} {g : Nat} {l : List UInt8} {a e : Int} (h : NC w g l a e) (a' e' : Int) : NC ((w.setCell ⟨g + 1, 0, none⟩ (.int .i64 a')).setCell ⟨g + 2, 0, none⟩ (.int .i64 e')) g l a' e' := by
  obtain ⟨h0, h1, h2, f1, f2⟩ := h
  refine ⟨?_, ?_, ?_, ?_, ?_⟩ <;> go_simp
theorem NC.set2 {w : World} {g : Nat} {l : List UInt8} {a e : Int} (h : NC w g l a e) (e' : Int) : NC (w.setCell ⟨g + 2, 0, none⟩ (.int .i64 e')) g l a e' := by
  obtain ⟨h0, h1, h2, f1, f2⟩ := h
  refine ⟨?_, ?_, ?_, ?_, ?_⟩ <;> go_simp
theorem setb {B g i : Nat} {w0 w : World} (h : Below B w0 w) (hg : B ≤ g) (u : Value) : Below B w0 (w.setCell ⟨g, i, none⟩ u) := Below.setCell h hg u
theorem NC.new (w : World) (l : List UInt8) (t0 t1 t2 : TypeId) : NC (((w.alloc (.cells #[.string (bs l)] t0)).alloc (.cells #[.int .i64 0] t1)).alloc (.cells #[.int .i64 0] t2)) w.heap.size l 0 0 := by
  have b0 := ((Blk.new w t0 #[.string (bs l)]).alloc (.cells #[.int .i64 0] t1)).alloc (.cells #[.int .i64 0] t2)
  have b1 := (Blk.new (w.alloc (.cells #[.string (bs l)] t0)) t1 #[.int .i64 0]).alloc (.cells #[.int .i64 0] t2)
  have b2 := Blk.new ((w.alloc (.cells #[.string (bs l)] t0)).alloc (.cells #[.int .i64 0] t1)) t2 #[.int .i64 0]
  rw [show (w.alloc (.cells #[.string (bs l)] t0)).heap.size = w.heap.size + 1 by simp] at b1
  rw [show ((w.alloc (.cells #[.string (bs l)] t0)).alloc (.cells #[.int .i64 0] t1)).heap.size = w.heap.size + 2 by simp] at b2
  exact ⟨Blk.cell b0 0, Blk.cell b1 0, Blk.cell b2 0, Blk.frozen b1 0, Blk.frozen b2 0⟩
theorem vgetS_num0 {l : List UInt8} {a b e : Int} {n : Nat} (h : vgetS l a = (n, b, e)) (he : e ≠ 0) : n = 0 := vget_err0 h he
set_option maxHeartbeats 1600000 in
theorem number_any (g : Nat) (l : List UInt8) (a e : Int) (m : Nat) (w w0 : World) (B : Nat) (h : NC w g l a e) (hb0 : Below B w0 w) (hB : B ≤ g) (hs : l.length ≤ 140737488351232) {n : Nat} {a' e' : Int} (H : Hid (nmP l m a e = (n, a', e'))) (hm : m ≤ 1099511627776) :
    Calls Try.prog 79 #[.int .u64 m, .pointer (some ⟨g + 2, 0, none⟩), .pointer (some ⟨g, 0, none⟩), .pointer (some ⟨g + 1, 0, none⟩)] w fun r w' => (∃ v : Int, r = .returned (.int .i64 v) ∧ (e' = 0 → v = n)) ∧ NC w' g l a' e' ∧ Below B w0 w' := by
  obtain ⟨k0, k1, k2, f1, f2⟩ := id h
  have HN := hid h
  have HB0 := hid hb0
  clear h hb0
  by_cases he : e = 0
  rotate_left
  · have hb : (e != 0) = true := by simpa using he
    have H0 := H.out
    rw [nmP_err he] at H0
    simp only [Prod.mk.injEq] at H0
    obtain ⟨rfl, rfl, rfl⟩ := H0
    have HE := hid he
    clear he H
    go_enter Try.func79, Try.ntmps79
    go_wp2_with fail
    go_returns
    exact ⟨⟨0, rfl, fun h => absurd h HE.out⟩, HN.out, HB0.out⟩
  subst he
  obtain ⟨N, b, x, hg⟩ : ∃ N b x, vgetS l a = (N, b, x) := ⟨_, _, _, rfl⟩
  have HG := hid hg
  have H0 := H.out
  rw [nmP, if_neg (by simp), hg] at H0
  simp only at H0
  have hst := HN.out.set b x
  have hbt : Below B w0 ((w.setCell ⟨g + 1, 0, none⟩ (.int .i64 b)).setCell ⟨g + 2, 0, none⟩ (.int .i64 x)) := setb (setb HB0.out (by omega) _) (by omega) _
  have HST := hid (And.intro hst hbt)
  clear hst hbt H
  by_cases hgt : m < N
  · rw [if_pos hgt] at H0
    simp only [Prod.mk.injEq] at H0
    obtain ⟨rfl, rfl, rfl⟩ := H0
    have hd : decide ((m : Int) < (N : Int)) = true := by simp; omega
    have hst2 := HST.out.1.set2 12
    have hbt2 := setb (g := g + 2) (i := 0) HST.out.2 (by omega) (.int .i64 12)
    have HST2 := hid (And.intro hst2 hbt2)
    clear hst2 hbt2 hg
    go_enter Try.func79, Try.ntmps79
    go_wp2_with fail
    refine (svget_at l a _ hs HG).mono ?_
    rintro r w1 ⟨rfl, rfl⟩
    go_wp2_with fail
    go_returns
    exact ⟨⟨_, rfl, fun h => absurd h (by omega)⟩, HST2.out.1, HST2.out.2⟩
  · rw [if_neg hgt] at H0
    simp only [Prod.mk.injEq] at H0
    obtain ⟨rfl, rfl, rfl⟩ := H0
    have hd : decide ((m : Int) < (N : Int)) = false := by simp; omega
    have hwr : IntKind.i64.wrap (N : Int) = N := IntWalk.i64_in _ (by omega)
    clear hg
    go_enter Try.func79, Try.ntmps79
    go_wp2_with fail
    refine (svget_at l a _ hs HG).mono ?_
    rintro r w1 ⟨rfl, rfl⟩
    go_wp2_with fail
    go_returns
    exact ⟨⟨_, rfl, fun _ => rfl⟩, HST.out.1, HST.out.2⟩
set_option maxHeartbeats 1600000 in
theorem end_any (g : Nat) (l : List UInt8) (a : Nat) (e : Int) (w : World) (h : NC w g l a e) (ha : a ≤ l.length) (hs : l.length ≤ 140737488351232) :
    Calls Try.prog 81 #[.pointer (some ⟨g, 0, none⟩), .pointer (some ⟨g + 1, 0, none⟩), .pointer (some ⟨g + 2, 0, none⟩)] w fun r w' => r = .returned (.tuple #[.string (bs (l.drop a)), .int .i64 e]) ∧ Below w.heap.size w w' := by
  obtain ⟨k0, k1, k2, f1, f2⟩ := h
  have hext : (bs l).extract a l.length = bs (l.drop a) := by rw [bs_extract, List.take_of_length_le (by simp)]
  go_enter Try.func81, Try.ntmps81
  go_wp2_with fail
  go_quiet (fail)
  go_wp2_with fail
  go_returns
  exact ⟨rfl, below_drewN (Below.refl _ _) _⟩
set_option maxHeartbeats 800000 in
theorem numbers_any (l : List UInt8) (w : World) :
    Calls Try.prog 55 #[.string (bs l)] w fun r w' => r = .returned (.tuple #[.func (.func 79) #[] #[.pointer (some ⟨w.heap.size + 2, 0, none⟩), .pointer (some ⟨w.heap.size, 0, none⟩), .pointer (some ⟨w.heap.size + 1, 0, none⟩)], .func (.func 81) #[] #[.pointer (some ⟨w.heap.size, 0, none⟩), .pointer (some ⟨w.heap.size + 1, 0, none⟩), .pointer (some ⟨w.heap.size + 2, 0, none⟩)]]) ∧ NC w' w.heap.size l 0 0 ∧ Below w.heap.size w w' := by
  have hmf : ∀ (fn : Fn) (first cap : Array Value) (w : World), (Instr.makeFunc fn first cap).run Try.prog w = .ok (.func fn first cap) w := fun _ _ _ _ => rfl
  go_enter Try.func55, Try.ntmps55
  go_wp2_with fail
  go_returns
  exact ⟨rfl, NC.new _ _ _ _ _, by go_grown⟩
end Go.Proofs.Ytgpioafkahoahaa
