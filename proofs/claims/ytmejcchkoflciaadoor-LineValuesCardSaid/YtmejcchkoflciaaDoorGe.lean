/- line: what lies between two times; the value of a part, the program's and the definition's. -/
import Derived.Test.YtmejcchkoflciaaDoorGd
namespace Go.Proofs.YtmejcchkoflciaaDoor
set_option linter.unusedVariables false
set_option linter.unusedSimpArgs false
open Go.RowKit Go.Joins

/-- A variable that holds a record. -/
def BRc (w : World) (g : Nat) (r : Rec) (x : Value) : Prop := Bk w g 44 #[.string (bs r.m), .string (bs r.h), .string (bs r.p), x, .string (bs r.b), .string (bs r.tg), .int .i64 r.st, .int .i64 r.ve, .string (bs r.tr), .int .i64 r.sa, .int .i64 r.en]
theorem BRc.cells {w : World} {g : Nat} {r : Rec} {x : Value} (k : BRc w g r x) : w.cell? ⟨g, 0, none⟩ = some (.string (bs r.m)) ∧ w.cell? ⟨g, 1, none⟩ = some (.string (bs r.h)) ∧ w.cell? ⟨g, 2, none⟩ = some (.string (bs r.p)) ∧ w.cell? ⟨g, 3, none⟩ = some x ∧ w.cell? ⟨g, 4, none⟩ = some (.string (bs r.b)) ∧ w.cell? ⟨g, 5, none⟩ = some (.string (bs r.tg)) ∧ w.cell? ⟨g, 6, none⟩ = some (.int .i64 r.st) ∧ w.cell? ⟨g, 7, none⟩ = some (.int .i64 r.ve) ∧ w.cell? ⟨g, 8, none⟩ = some (.string (bs r.tr)) ∧ w.cell? ⟨g, 9, none⟩ = some (.int .i64 r.sa) ∧ w.cell? ⟨g, 10, none⟩ = some (.int .i64 r.en) := ⟨Bk.cell k 0, Bk.cell k 1, Bk.cell k 2, Bk.cell k 3, Bk.cell k 4, Bk.cell k 5, Bk.cell k 6, Bk.cell k 7, Bk.cell k 8, Bk.cell k 9, Bk.cell k 10⟩
theorem BRc.up {w w' : World} {g : Nat} {r : Rec} {x : Value} (k : BRc w g r x) (hb : Below w.heap.size w w') : BRc w' g r x := Bk.up k hb
/-- A variable that holds a part. -/
def BPt (w : World) (g : Nat) (p : Prt) : Prop := Bk w g 35 #[.int .i64 p.1, .string (bs p.2)]
theorem BPt.cells {w : World} {g : Nat} {p : Prt} (k : BPt w g p) : w.cell? ⟨g, 0, none⟩ = some (.int .i64 p.1) ∧ w.cell? ⟨g, 1, none⟩ = some (.string (bs p.2)) := ⟨Bk.cell k 0, Bk.cell k 1⟩
theorem BPt.up {w w' : World} {g : Nat} {p : Prt} (k : BPt w g p) (hb : Below w.heap.size w w') : BPt w' g p := Bk.up k hb
theorem max_le_64 {a : Int} (h : in64 a) : 0 ≤ max a 0 ∧ max a 0 ≤ 9223372036854775807 := by unfold in64 at h; omega
set_option maxRecDepth 100000 in
set_option maxHeartbeats 1000000 in
theorem took_any (r : Rec) (x : Value) (hx : ∃ A n c, x = .slice A n c) (w : World) (h1 : in64 r.en) (h2 : in64 r.sa) :
    Calls Tryd.prog 42 #[.agg #[.string (bs r.m), .string (bs r.h), .string (bs r.p), x, .string (bs r.b), .string (bs r.tg), .int .i64 r.st, .int .i64 r.ve, .string (bs r.tr), .int .i64 r.sa, .int .i64 r.en]] w fun e w' => e = .returned (.int .i64 (tookL r)) ∧ Below w.heap.size w w' := by
  obtain ⟨A, n, c, rfl⟩ := hx
  have k0 := Bk.new w 44 #[.string (bs r.m), .string (bs r.h), .string (bs r.p), .slice A n c, .string (bs r.b), .string (bs r.tg), .int .i64 r.st, .int .i64 r.ve, .string (bs r.tr), .int .i64 r.sa, .int .i64 r.en]
  have hb := enew w (.cells #[.string (bs r.m), .string (bs r.h), .string (bs r.p), .slice A n c, .string (bs r.b), .string (bs r.tg), .int .i64 r.st, .int .i64 r.ve, .string (bs r.tr), .int .i64 r.sa, .int .i64 r.en] 44)
  have q9 := Bk.cell k0 9
  have q10 := Bk.cell k0 10
  obtain ⟨a0, a1⟩ := max_le_64 h1
  obtain ⟨b0, b1⟩ := max_le_64 h2
  obtain ⟨a, ha⟩ : ∃ a, max r.en 0 = a := ⟨_, rfl⟩
  obtain ⟨b, hb'⟩ : ∃ b, max r.sa 0 = b := ⟨_, rfl⟩
  obtain ⟨t, ht⟩ : ∃ t, max (a - b) 0 = t := ⟨_, rfl⟩
  have HT := hid (show tookL r = t by unfold tookL; rw [ha, hb', ht])
  have hw : IntKind.i64.wrap (a - b) = a - b := IntWalk.i64_in _ (by omega)
  have HB := hid hb
  rw [ha] at a0 a1
  rw [hb'] at b0 b1
  clear h1 h2 k0 hb
  go_enter Tryd.func42, Tryd.ntmps42
  go_wp2_with fail
  go_returns
  exact ⟨by rw [HT.out]; first | rfl | simp_all, HB.out⟩

set_option maxRecDepth 100000 in
set_option maxHeartbeats 4000000 in
theorem val20_any (p : Prt) (r : Rec) (x : Value) (w : World) (hr : okRec r) (hp : p.2.length ≤ 100000) (hx : HV w x r.L) (E : EnvL w) :
    Calls Tryd.prog 23 #[.agg #[.int .i64 p.1, .string (bs p.2)], .agg #[.string (bs r.m), .string (bs r.h), .string (bs r.p), x, .string (bs r.b), .string (bs r.tg), .int .i64 r.st, .int .i64 r.ve, .string (bs r.tr), .int .i64 r.sa, .int .i64 r.en]] w fun e w' => e = .returned (.string (bs (valL r p))) ∧ Below w.heap.size w w' := by
  obtain ⟨pk, pt⟩ := p
  simp only at hp ⊢
  have HT := hid (tookL_in hr)
  obtain ⟨⟨l0, l1, l2, l3, l4⟩, hH, ⟨i0, i1, i2, i3⟩, hL⟩ := hr
  have HG := hid (getH_len hH pt)
  have HI := hid (And.intro i0 (And.intro i1 (And.intro i2 i3)))
  have HLN := hid (And.intro l0 (And.intro l1 (And.intro l2 (And.intro l3 l4))))
  have kp : BPt (w.alloc (.cells #[.int .i64 pk, .string (bs pt)] 35)) w.heap.size (pk, pt) := Bk.new _ _ _
  have hbA := enew w (.cells #[.int .i64 pk, .string (bs pt)] 35)
  have kr : BRc ((w.alloc (.cells #[.int .i64 pk, .string (bs pt)] 35)).alloc (.cells #[.string (bs r.m), .string (bs r.h), .string (bs r.p), x, .string (bs r.b), .string (bs r.tg), .int .i64 r.st, .int .i64 r.ve, .string (bs r.tr), .int .i64 r.sa, .int .i64 r.en] 44)) (w.alloc (.cells #[.int .i64 pk, .string (bs pt)] 35)).heap.size r x := Bk.new _ _ _
  rw [World.size_alloc] at kr
  have hbB := enew (w.alloc (.cells #[.int .i64 pk, .string (bs pt)] 35)) (.cells #[.string (bs r.m), .string (bs r.h), .string (bs r.p), x, .string (bs r.b), .string (bs r.tg), .int .i64 r.st, .int .i64 r.ve, .string (bs r.tr), .int .i64 r.sa, .int .i64 r.en] 44)
  have kp2 := kp.up hbB
  have hbC := estep hbA hbB
  have HB := hid hbC
  have HX := hid (hx.up hbC)
  have HE := hid (E.up hbC)
  have HXX := hid hx
  clear hbA hbB kp E hx hbC i0 i1 i2 i3 l0 l1 l2 l3 l4 hH
  obtain ⟨A, cx, rfl, hxr⟩ := HX.out
  have HXR := hid hxr
  clear hxr
  have c45 : (ByteArray.mk #[45]) = bs [45] := rfl
  have ct0 := kp2.cells.1
  have ct1 := kp2.cells.2
  obtain ⟨r0, r1, r2, r3, r4, r5, r6, r7, r8, r9, r10⟩ := kr.cells
  simp only at ct0 ct1
  clear kp2 kr HXX
  have hen : ∀ v0 : World, v0 = (w.alloc (.cells #[.int .i64 pk, .string (bs pt)] 35)).alloc (.cells #[.string (bs r.m), .string (bs r.h), .string (bs r.p), .slice A r.L.length cx, .string (bs r.b), .string (bs r.tg), .int .i64 r.st, .int .i64 r.ve, .string (bs r.tr), .int .i64 r.sa, .int .i64 r.en] 44) → True := fun _ _ => trivial
  clear hen
  by_cases h0 : pk = 0
  · subst h0
    have HV := hid (show valL r (0, pt) = pt from rfl)
    go_enter Tryd.func23, Tryd.ntmps23
    go_upto_region 1 with (fail)
    generalize ((w.alloc (.cells #[.int .i64 0, .string (bs pt)] 35)).alloc (.cells #[.string (bs r.m), .string (bs r.h), .string (bs r.p), .slice A r.L.length cx, .string (bs r.b), .string (bs r.tg), .int .i64 r.st, .int .i64 r.ve, .string (bs r.tr), .int .i64 r.sa, .int .i64 r.en] 44)) = v0 at *
    go_wp2_with fail
    go_returns
    exact ⟨by rw [HV.out]; rfl, HB.out⟩
  by_cases h1 : pk = 1
  · subst h1
    have HV := hid (show valL r (1, pt) = escS r.m from rfl)
    clear ct1
    go_enter Tryd.func23, Tryd.ntmps23
    go_upto_region 1 with (fail)
    generalize ((w.alloc (.cells #[.int .i64 1, .string (bs pt)] 35)).alloc (.cells #[.string (bs r.m), .string (bs r.h), .string (bs r.p), .slice A r.L.length cx, .string (bs r.b), .string (bs r.tg), .int .i64 r.st, .int .i64 r.ve, .string (bs r.tr), .int .i64 r.sa, .int .i64 r.en] 44)) = v0 at *
    go_wp2_with fail
    refine (escape_any r.m (by have := HLN.out; omega) _).mono ?_
    rintro e w1 ⟨rfl, hb1⟩
    have H1 := hid hb1
    clear hb1
    go_wp2_with fail
    go_returns
    exact ⟨by rw [HV.out]; rfl, estep HB.out H1.out⟩
  by_cases h2 : pk = 2
  · subst h2
    have HV := hid (show valL r (2, pt) = escS r.h from rfl)
    clear ct1
    go_enter Tryd.func23, Tryd.ntmps23
    go_upto_region 1 with (fail)
    generalize ((w.alloc (.cells #[.int .i64 2, .string (bs pt)] 35)).alloc (.cells #[.string (bs r.m), .string (bs r.h), .string (bs r.p), .slice A r.L.length cx, .string (bs r.b), .string (bs r.tg), .int .i64 r.st, .int .i64 r.ve, .string (bs r.tr), .int .i64 r.sa, .int .i64 r.en] 44)) = v0 at *
    go_wp2_with fail
    refine (escape_any r.h (by have := HLN.out; omega) _).mono ?_
    rintro e w1 ⟨rfl, hb1⟩
    have H1 := hid hb1
    clear hb1
    go_wp2_with fail
    go_returns
    exact ⟨by rw [HV.out]; rfl, estep HB.out H1.out⟩
  by_cases h3 : pk = 3
  · subst h3
    have HV := hid (show valL r (3, pt) = escS r.p from rfl)
    clear ct1
    go_enter Tryd.func23, Tryd.ntmps23
    go_upto_region 1 with (fail)
    generalize ((w.alloc (.cells #[.int .i64 3, .string (bs pt)] 35)).alloc (.cells #[.string (bs r.m), .string (bs r.h), .string (bs r.p), .slice A r.L.length cx, .string (bs r.b), .string (bs r.tg), .int .i64 r.st, .int .i64 r.ve, .string (bs r.tr), .int .i64 r.sa, .int .i64 r.en] 44)) = v0 at *
    go_wp2_with fail
    refine (escape_any r.p (by have := HLN.out; omega) _).mono ?_
    rintro e w1 ⟨rfl, hb1⟩
    have H1 := hid hb1
    clear hb1
    go_wp2_with fail
    go_returns
    exact ⟨by rw [HV.out]; rfl, estep HB.out H1.out⟩
  by_cases h4 : pk = 4
  · subst h4
    have HV := hid (show valL r (4, pt) = escS r.tg from rfl)
    clear ct1
    go_enter Tryd.func23, Tryd.ntmps23
    go_upto_region 1 with (fail)
    generalize ((w.alloc (.cells #[.int .i64 4, .string (bs pt)] 35)).alloc (.cells #[.string (bs r.m), .string (bs r.h), .string (bs r.p), .slice A r.L.length cx, .string (bs r.b), .string (bs r.tg), .int .i64 r.st, .int .i64 r.ve, .string (bs r.tr), .int .i64 r.sa, .int .i64 r.en] 44)) = v0 at *
    go_wp2_with fail
    refine (escape_any r.tg (by have := HLN.out; omega) _).mono ?_
    rintro e w1 ⟨rfl, hb1⟩
    have H1 := hid hb1
    clear hb1
    go_wp2_with fail
    go_returns
    exact ⟨by rw [HV.out]; rfl, estep HB.out H1.out⟩
  by_cases h5 : pk = 5
  · subst h5
    have HV := hid (show valL r (5, pt) = Lib.itoa r.st from rfl)
    clear ct1
    go_enter Tryd.func23, Tryd.ntmps23
    go_upto_region 1 with (fail)
    generalize ((w.alloc (.cells #[.int .i64 5, .string (bs pt)] 35)).alloc (.cells #[.string (bs r.m), .string (bs r.h), .string (bs r.p), .slice A r.L.length cx, .string (bs r.b), .string (bs r.tg), .int .i64 r.st, .int .i64 r.ve, .string (bs r.tr), .int .i64 r.sa, .int .i64 r.en] 44)) = v0 at *
    go_wp2_with fail
    refine (glib_itoa r.st HI.out.1 _ HE.out).mono ?_
    rintro e w1 ⟨rfl, hb1⟩
    have H1 := hid hb1
    clear hb1
    go_wp2_with fail
    go_returns
    exact ⟨by rw [HV.out]; rfl, estep HB.out H1.out⟩
  by_cases h6 : pk = 6
  · subst h6
    have HV := hid (show valL r (6, pt) = Lib.itoa r.ve from rfl)
    clear ct1
    go_enter Tryd.func23, Tryd.ntmps23
    go_upto_region 1 with (fail)
    generalize ((w.alloc (.cells #[.int .i64 6, .string (bs pt)] 35)).alloc (.cells #[.string (bs r.m), .string (bs r.h), .string (bs r.p), .slice A r.L.length cx, .string (bs r.b), .string (bs r.tg), .int .i64 r.st, .int .i64 r.ve, .string (bs r.tr), .int .i64 r.sa, .int .i64 r.en] 44)) = v0 at *
    go_wp2_with fail
    refine (glib_itoa r.ve HI.out.2.1 _ HE.out).mono ?_
    rintro e w1 ⟨rfl, hb1⟩
    have H1 := hid hb1
    clear hb1
    go_wp2_with fail
    go_returns
    exact ⟨by rw [HV.out]; rfl, estep HB.out H1.out⟩
  by_cases h7 : pk = 7
  · subst h7
    have HV := hid (show valL r (7, pt) = escS r.tr from rfl)
    clear ct1
    go_enter Tryd.func23, Tryd.ntmps23
    go_upto_region 1 with (fail)
    generalize ((w.alloc (.cells #[.int .i64 7, .string (bs pt)] 35)).alloc (.cells #[.string (bs r.m), .string (bs r.h), .string (bs r.p), .slice A r.L.length cx, .string (bs r.b), .string (bs r.tg), .int .i64 r.st, .int .i64 r.ve, .string (bs r.tr), .int .i64 r.sa, .int .i64 r.en] 44)) = v0 at *
    go_wp2_with fail
    refine (escape_any r.tr (by have := HLN.out; omega) _).mono ?_
    rintro e w1 ⟨rfl, hb1⟩
    have H1 := hid hb1
    clear hb1
    go_wp2_with fail
    go_returns
    exact ⟨by rw [HV.out]; rfl, estep HB.out H1.out⟩
  by_cases h8 : pk = 8
  · subst h8
    have HV := hid (show valL r (8, pt) = Lib.itoa (tookL r) from rfl)
    clear ct1
    go_enter Tryd.func23, Tryd.ntmps23
    go_upto_region 1 with (fail)
    generalize ((w.alloc (.cells #[.int .i64 8, .string (bs pt)] 35)).alloc (.cells #[.string (bs r.m), .string (bs r.h), .string (bs r.p), .slice A r.L.length cx, .string (bs r.b), .string (bs r.tg), .int .i64 r.st, .int .i64 r.ve, .string (bs r.tr), .int .i64 r.sa, .int .i64 r.en] 44)) = v0 at *
    go_wp2_with fail
    refine (took_any r _ ⟨A, _, cx, rfl⟩ _ HI.out.2.2.2 HI.out.2.2.1).mono ?_
    rintro e w1 ⟨rfl, hb1⟩
    have H1 := hid (And.intro hb1 (HE.out.up hb1))
    clear hb1
    go_wp2_with fail
    refine (glib_itoa _ HT.out.2 _ H1.out.2).mono ?_
    rintro e w2 ⟨rfl, hb2⟩
    have H2 := hid hb2
    clear hb2
    go_wp2_with fail
    go_returns
    exact ⟨by rw [HV.out]; rfl, estep HB.out (estep H1.out.1 H2.out)⟩
  by_cases h9 : pk = 9
  · subst h9
    have HV := hid (show valL r (9, pt) = escS (getH r.L pt).1 from rfl)
    skip
    go_enter Tryd.func23, Tryd.ntmps23
    go_upto_region 1 with (fail)
    generalize ((w.alloc (.cells #[.int .i64 9, .string (bs pt)] 35)).alloc (.cells #[.string (bs r.m), .string (bs r.h), .string (bs r.p), .slice A r.L.length cx, .string (bs r.b), .string (bs r.tg), .int .i64 r.st, .int .i64 r.ve, .string (bs r.tr), .int .i64 r.sa, .int .i64 r.en] 44)) = v0 at *
    go_wp2_with fail
    refine (hget_any A cx r.L pt _ HXR.out (by omega)).mono ?_
    rintro e w1 ⟨rfl, hb1⟩
    have H1 := hid hb1
    clear hb1
    go_wp2_with fail
    refine (escape_any _ (by have := HG.out; omega) _).mono ?_
    rintro e w2 ⟨rfl, hb2⟩
    have H2 := hid hb2
    clear hb2
    go_wp2_with fail
    go_returns
    exact ⟨by rw [HV.out]; rfl, estep HB.out (estep H1.out H2.out)⟩
  have HV := hid (show valL r (pk, pt) = [] by simp only [valL]; rw [if_neg h0, if_neg h1, if_neg h2, if_neg h3, if_neg h4, if_neg h5, if_neg h6, if_neg h7, if_neg h8, if_neg h9])
  have d0 : decide (pk = 0) = false := decide_eq_false h0
  have e0 : (pk == 0) = false := beq_eq_false_iff_ne.2 h0
  have d1 : decide (pk = 1) = false := decide_eq_false h1
  have e1 : (pk == 1) = false := beq_eq_false_iff_ne.2 h1
  have d2 : decide (pk = 2) = false := decide_eq_false h2
  have e2 : (pk == 2) = false := beq_eq_false_iff_ne.2 h2
  have d3 : decide (pk = 3) = false := decide_eq_false h3
  have e3 : (pk == 3) = false := beq_eq_false_iff_ne.2 h3
  have d4 : decide (pk = 4) = false := decide_eq_false h4
  have e4 : (pk == 4) = false := beq_eq_false_iff_ne.2 h4
  have d5 : decide (pk = 5) = false := decide_eq_false h5
  have e5 : (pk == 5) = false := beq_eq_false_iff_ne.2 h5
  have d6 : decide (pk = 6) = false := decide_eq_false h6
  have e6 : (pk == 6) = false := beq_eq_false_iff_ne.2 h6
  have d7 : decide (pk = 7) = false := decide_eq_false h7
  have e7 : (pk == 7) = false := beq_eq_false_iff_ne.2 h7
  have d8 : decide (pk = 8) = false := decide_eq_false h8
  have e8 : (pk == 8) = false := beq_eq_false_iff_ne.2 h8
  have d9 : decide (pk = 9) = false := decide_eq_false h9
  have e9 : (pk == 9) = false := beq_eq_false_iff_ne.2 h9
  clear ct1 h0 h1 h2 h3 h4 h5 h6 h7 h8 h9
  go_enter Tryd.func23, Tryd.ntmps23
  go_upto_region 1 with (fail)
  generalize ((w.alloc (.cells #[.int .i64 pk, .string (bs pt)] 35)).alloc (.cells #[.string (bs r.m), .string (bs r.h), .string (bs r.p), .slice A r.L.length cx, .string (bs r.b), .string (bs r.tg), .int .i64 r.st, .int .i64 r.ve, .string (bs r.tr), .int .i64 r.sa, .int .i64 r.en] 44)) = v0 at *
  go_wp2_with fail
  go_returns
  exact ⟨by rw [HV.out]; rfl, HB.out⟩
set_option maxRecDepth 100000 in
set_option maxHeartbeats 4000000 in
theorem rval20_any (p : Prt) (r : Rec) (x : Value) (w : World) (hr : okRec r) (hp : p.2.length ≤ 100000) (hx : HV w x r.L) (E : EnvL w) :
    Calls Tryd.prog 24 #[.agg #[.int .i64 p.1, .string (bs p.2)], .agg #[.string (bs r.m), .string (bs r.h), .string (bs r.p), x, .string (bs r.b), .string (bs r.tg), .int .i64 r.st, .int .i64 r.ve, .string (bs r.tr), .int .i64 r.sa, .int .i64 r.en]] w fun e w' => e = .returned (.string (bs (valL r p))) ∧ Below w.heap.size w w' := by
  obtain ⟨pk, pt⟩ := p
  simp only at hp ⊢
  have HT := hid (tookL_in hr)
  obtain ⟨⟨l0, l1, l2, l3, l4⟩, hH, ⟨i0, i1, i2, i3⟩, hL⟩ := hr
  have HG := hid (getH_len hH pt)
  have HI := hid (And.intro i0 (And.intro i1 (And.intro i2 i3)))
  have HLN := hid (And.intro l0 (And.intro l1 (And.intro l2 (And.intro l3 l4))))
  have kp : BPt (w.alloc (.cells #[.int .i64 pk, .string (bs pt)] 35)) w.heap.size (pk, pt) := Bk.new _ _ _
  have hbA := enew w (.cells #[.int .i64 pk, .string (bs pt)] 35)
  have kr : BRc ((w.alloc (.cells #[.int .i64 pk, .string (bs pt)] 35)).alloc (.cells #[.string (bs r.m), .string (bs r.h), .string (bs r.p), x, .string (bs r.b), .string (bs r.tg), .int .i64 r.st, .int .i64 r.ve, .string (bs r.tr), .int .i64 r.sa, .int .i64 r.en] 44)) (w.alloc (.cells #[.int .i64 pk, .string (bs pt)] 35)).heap.size r x := Bk.new _ _ _
  rw [World.size_alloc] at kr
  have hbB := enew (w.alloc (.cells #[.int .i64 pk, .string (bs pt)] 35)) (.cells #[.string (bs r.m), .string (bs r.h), .string (bs r.p), x, .string (bs r.b), .string (bs r.tg), .int .i64 r.st, .int .i64 r.ve, .string (bs r.tr), .int .i64 r.sa, .int .i64 r.en] 44)
  have kp2 := kp.up hbB
  have hbC := estep hbA hbB
  have HB := hid hbC
  have HX := hid (hx.up hbC)
  have HE := hid (E.up hbC)
  have HXX := hid hx
  clear hbA hbB kp E hx hbC i0 i1 i2 i3 l0 l1 l2 l3 l4 hH
  obtain ⟨A, cx, rfl, hxr⟩ := HX.out
  have HXR := hid hxr
  clear hxr
  have c45 : (ByteArray.mk #[45]) = bs [45] := rfl
  have ct0 := kp2.cells.1
  have ct1 := kp2.cells.2
  obtain ⟨r0, r1, r2, r3, r4, r5, r6, r7, r8, r9, r10⟩ := kr.cells
  simp only at ct0 ct1
  clear kp2 kr HXX
  have hen : ∀ v0 : World, v0 = (w.alloc (.cells #[.int .i64 pk, .string (bs pt)] 35)).alloc (.cells #[.string (bs r.m), .string (bs r.h), .string (bs r.p), .slice A r.L.length cx, .string (bs r.b), .string (bs r.tg), .int .i64 r.st, .int .i64 r.ve, .string (bs r.tr), .int .i64 r.sa, .int .i64 r.en] 44) → True := fun _ _ => trivial
  clear hen
  by_cases h0 : pk = 0
  · subst h0
    have HV := hid (show valL r (0, pt) = pt from rfl)
    go_enter Tryd.func24, Tryd.ntmps24
    go_upto_region 1 with (fail)
    generalize ((w.alloc (.cells #[.int .i64 0, .string (bs pt)] 35)).alloc (.cells #[.string (bs r.m), .string (bs r.h), .string (bs r.p), .slice A r.L.length cx, .string (bs r.b), .string (bs r.tg), .int .i64 r.st, .int .i64 r.ve, .string (bs r.tr), .int .i64 r.sa, .int .i64 r.en] 44)) = v0 at *
    go_wp2_with fail
    go_returns
    exact ⟨by rw [HV.out]; rfl, HB.out⟩
  by_cases h1 : pk = 1
  · subst h1
    have HV := hid (show valL r (1, pt) = escS r.m from rfl)
    clear ct1
    go_enter Tryd.func24, Tryd.ntmps24
    go_upto_region 1 with (fail)
    generalize ((w.alloc (.cells #[.int .i64 1, .string (bs pt)] 35)).alloc (.cells #[.string (bs r.m), .string (bs r.h), .string (bs r.p), .slice A r.L.length cx, .string (bs r.b), .string (bs r.tg), .int .i64 r.st, .int .i64 r.ve, .string (bs r.tr), .int .i64 r.sa, .int .i64 r.en] 44)) = v0 at *
    go_wp2_with fail
    refine (rescape_any r.m (by have := HLN.out; omega) _).mono ?_
    rintro e w1 ⟨rfl, hb1⟩
    have H1 := hid hb1
    clear hb1
    go_wp2_with fail
    go_returns
    exact ⟨by rw [HV.out]; rfl, estep HB.out H1.out⟩
  by_cases h2 : pk = 2
  · subst h2
    have HV := hid (show valL r (2, pt) = escS r.h from rfl)
    clear ct1
    go_enter Tryd.func24, Tryd.ntmps24
    go_upto_region 1 with (fail)
    generalize ((w.alloc (.cells #[.int .i64 2, .string (bs pt)] 35)).alloc (.cells #[.string (bs r.m), .string (bs r.h), .string (bs r.p), .slice A r.L.length cx, .string (bs r.b), .string (bs r.tg), .int .i64 r.st, .int .i64 r.ve, .string (bs r.tr), .int .i64 r.sa, .int .i64 r.en] 44)) = v0 at *
    go_wp2_with fail
    refine (rescape_any r.h (by have := HLN.out; omega) _).mono ?_
    rintro e w1 ⟨rfl, hb1⟩
    have H1 := hid hb1
    clear hb1
    go_wp2_with fail
    go_returns
    exact ⟨by rw [HV.out]; rfl, estep HB.out H1.out⟩
  by_cases h3 : pk = 3
  · subst h3
    have HV := hid (show valL r (3, pt) = escS r.p from rfl)
    clear ct1
    go_enter Tryd.func24, Tryd.ntmps24
    go_upto_region 1 with (fail)
    generalize ((w.alloc (.cells #[.int .i64 3, .string (bs pt)] 35)).alloc (.cells #[.string (bs r.m), .string (bs r.h), .string (bs r.p), .slice A r.L.length cx, .string (bs r.b), .string (bs r.tg), .int .i64 r.st, .int .i64 r.ve, .string (bs r.tr), .int .i64 r.sa, .int .i64 r.en] 44)) = v0 at *
    go_wp2_with fail
    refine (rescape_any r.p (by have := HLN.out; omega) _).mono ?_
    rintro e w1 ⟨rfl, hb1⟩
    have H1 := hid hb1
    clear hb1
    go_wp2_with fail
    go_returns
    exact ⟨by rw [HV.out]; rfl, estep HB.out H1.out⟩
  by_cases h4 : pk = 4
  · subst h4
    have HV := hid (show valL r (4, pt) = escS r.tg from rfl)
    clear ct1
    go_enter Tryd.func24, Tryd.ntmps24
    go_upto_region 1 with (fail)
    generalize ((w.alloc (.cells #[.int .i64 4, .string (bs pt)] 35)).alloc (.cells #[.string (bs r.m), .string (bs r.h), .string (bs r.p), .slice A r.L.length cx, .string (bs r.b), .string (bs r.tg), .int .i64 r.st, .int .i64 r.ve, .string (bs r.tr), .int .i64 r.sa, .int .i64 r.en] 44)) = v0 at *
    go_wp2_with fail
    refine (rescape_any r.tg (by have := HLN.out; omega) _).mono ?_
    rintro e w1 ⟨rfl, hb1⟩
    have H1 := hid hb1
    clear hb1
    go_wp2_with fail
    go_returns
    exact ⟨by rw [HV.out]; rfl, estep HB.out H1.out⟩
  by_cases h5 : pk = 5
  · subst h5
    have HV := hid (show valL r (5, pt) = Lib.itoa r.st from rfl)
    clear ct1
    go_enter Tryd.func24, Tryd.ntmps24
    go_upto_region 1 with (fail)
    generalize ((w.alloc (.cells #[.int .i64 5, .string (bs pt)] 35)).alloc (.cells #[.string (bs r.m), .string (bs r.h), .string (bs r.p), .slice A r.L.length cx, .string (bs r.b), .string (bs r.tg), .int .i64 r.st, .int .i64 r.ve, .string (bs r.tr), .int .i64 r.sa, .int .i64 r.en] 44)) = v0 at *
    go_wp2_with fail
    refine (gdig_any r.st HI.out.1 _).mono ?_
    rintro e w1 ⟨rfl, hb1⟩
    have H1 := hid hb1
    clear hb1
    go_wp2_with fail
    go_returns
    exact ⟨by rw [HV.out]; rfl, estep HB.out H1.out⟩
  by_cases h6 : pk = 6
  · subst h6
    have HV := hid (show valL r (6, pt) = Lib.itoa r.ve from rfl)
    clear ct1
    go_enter Tryd.func24, Tryd.ntmps24
    go_upto_region 1 with (fail)
    generalize ((w.alloc (.cells #[.int .i64 6, .string (bs pt)] 35)).alloc (.cells #[.string (bs r.m), .string (bs r.h), .string (bs r.p), .slice A r.L.length cx, .string (bs r.b), .string (bs r.tg), .int .i64 r.st, .int .i64 r.ve, .string (bs r.tr), .int .i64 r.sa, .int .i64 r.en] 44)) = v0 at *
    go_wp2_with fail
    refine (gdig_any r.ve HI.out.2.1 _).mono ?_
    rintro e w1 ⟨rfl, hb1⟩
    have H1 := hid hb1
    clear hb1
    go_wp2_with fail
    go_returns
    exact ⟨by rw [HV.out]; rfl, estep HB.out H1.out⟩
  by_cases h7 : pk = 7
  · subst h7
    have HV := hid (show valL r (7, pt) = escS r.tr from rfl)
    clear ct1
    go_enter Tryd.func24, Tryd.ntmps24
    go_upto_region 1 with (fail)
    generalize ((w.alloc (.cells #[.int .i64 7, .string (bs pt)] 35)).alloc (.cells #[.string (bs r.m), .string (bs r.h), .string (bs r.p), .slice A r.L.length cx, .string (bs r.b), .string (bs r.tg), .int .i64 r.st, .int .i64 r.ve, .string (bs r.tr), .int .i64 r.sa, .int .i64 r.en] 44)) = v0 at *
    go_wp2_with fail
    refine (rescape_any r.tr (by have := HLN.out; omega) _).mono ?_
    rintro e w1 ⟨rfl, hb1⟩
    have H1 := hid hb1
    clear hb1
    go_wp2_with fail
    go_returns
    exact ⟨by rw [HV.out]; rfl, estep HB.out H1.out⟩
  by_cases h8 : pk = 8
  · subst h8
    have HV := hid (show valL r (8, pt) = Lib.itoa (tookL r) from rfl)
    clear ct1
    go_enter Tryd.func24, Tryd.ntmps24
    go_upto_region 1 with (fail)
    generalize ((w.alloc (.cells #[.int .i64 8, .string (bs pt)] 35)).alloc (.cells #[.string (bs r.m), .string (bs r.h), .string (bs r.p), .slice A r.L.length cx, .string (bs r.b), .string (bs r.tg), .int .i64 r.st, .int .i64 r.ve, .string (bs r.tr), .int .i64 r.sa, .int .i64 r.en] 44)) = v0 at *
    obtain ⟨a0, a1⟩ := max_le_64 HI.out.2.2.2
    obtain ⟨b0, b1⟩ := max_le_64 HI.out.2.2.1
    obtain ⟨a, ha⟩ : ∃ a, max r.en 0 = a := ⟨_, rfl⟩
    obtain ⟨b, hb'⟩ : ∃ b, max r.sa 0 = b := ⟨_, rfl⟩
    obtain ⟨t, ht⟩ : ∃ t, max 0 (a - b) = t := ⟨_, rfl⟩
    have HTT := hid (show tookL r = t by unfold tookL; rw [ha, hb', Int.max_comm, ht])
    have hw : IntKind.i64.wrap (a - b) = a - b := IntWalk.i64_in _ (by omega)
    rw [ha] at a0 a1
    rw [hb'] at b0 b1
    go_wp2_with fail
    ((with_reducible refine (gdig_any t (HTT.out ▸ HT.out.2) _).mono ?_))
    rintro e w1 ⟨rfl, hb1⟩
    have H1 := hid hb1
    clear hb1
    go_wp2_with fail
    go_returns
    exact ⟨by rw [HV.out, HTT.out]; rfl, estep HB.out H1.out⟩
  by_cases h9 : pk = 9
  · subst h9
    have HV := hid (show valL r (9, pt) = escS (getH r.L pt).1 from rfl)
    skip
    go_enter Tryd.func24, Tryd.ntmps24
    go_upto_region 1 with (fail)
    generalize ((w.alloc (.cells #[.int .i64 9, .string (bs pt)] 35)).alloc (.cells #[.string (bs r.m), .string (bs r.h), .string (bs r.p), .slice A r.L.length cx, .string (bs r.b), .string (bs r.tg), .int .i64 r.st, .int .i64 r.ve, .string (bs r.tr), .int .i64 r.sa, .int .i64 r.en] 44)) = v0 at *
    go_wp2_with fail
    refine (rget_any4 A cx r.L pt _ HXR.out (by omega)).mono ?_
    rintro e w1 ⟨rfl, hb1⟩
    have H1 := hid hb1
    clear hb1
    have HNN := hid (show (getH r.L pt).2 = false → (getH r.L pt).1 = [] by
      unfold getH
      split
      · intro _; rfl
      · intro h; cases h)
    generalize getH r.L pt = gh at *
    obtain ⟨gv, gb⟩ := gh
    cases gb
    · have HZ := hid (HNN.out rfl)
      go_wp2_with fail
      go_returns
      refine ⟨?_, estep HB.out H1.out⟩
      rw [HV.out]
      have : gv = [] := HZ.out
      subst this
      rfl
    · go_wp2_with fail
      refine (rescape_any gv (by have := HG.out; omega) _).mono ?_
      rintro e w2 ⟨rfl, hb2⟩
      have H2 := hid hb2
      clear hb2
      go_wp2_with fail
      go_returns
      exact ⟨by rw [HV.out]; rfl, estep HB.out (estep H1.out H2.out)⟩
  have HV := hid (show valL r (pk, pt) = [] by simp only [valL]; rw [if_neg h0, if_neg h1, if_neg h2, if_neg h3, if_neg h4, if_neg h5, if_neg h6, if_neg h7, if_neg h8, if_neg h9])
  have d0 : decide (pk = 0) = false := decide_eq_false h0
  have e0 : (pk == 0) = false := beq_eq_false_iff_ne.2 h0
  have d1 : decide (pk = 1) = false := decide_eq_false h1
  have e1 : (pk == 1) = false := beq_eq_false_iff_ne.2 h1
  have d2 : decide (pk = 2) = false := decide_eq_false h2
  have e2 : (pk == 2) = false := beq_eq_false_iff_ne.2 h2
  have d3 : decide (pk = 3) = false := decide_eq_false h3
  have e3 : (pk == 3) = false := beq_eq_false_iff_ne.2 h3
  have d4 : decide (pk = 4) = false := decide_eq_false h4
  have e4 : (pk == 4) = false := beq_eq_false_iff_ne.2 h4
  have d5 : decide (pk = 5) = false := decide_eq_false h5
  have e5 : (pk == 5) = false := beq_eq_false_iff_ne.2 h5
  have d6 : decide (pk = 6) = false := decide_eq_false h6
  have e6 : (pk == 6) = false := beq_eq_false_iff_ne.2 h6
  have d7 : decide (pk = 7) = false := decide_eq_false h7
  have e7 : (pk == 7) = false := beq_eq_false_iff_ne.2 h7
  have d8 : decide (pk = 8) = false := decide_eq_false h8
  have e8 : (pk == 8) = false := beq_eq_false_iff_ne.2 h8
  have d9 : decide (pk = 9) = false := decide_eq_false h9
  have e9 : (pk == 9) = false := beq_eq_false_iff_ne.2 h9
  clear ct1 h0 h1 h2 h3 h4 h5 h6 h7 h8 h9
  go_enter Tryd.func24, Tryd.ntmps24
  go_upto_region 1 with (fail)
  generalize ((w.alloc (.cells #[.int .i64 pk, .string (bs pt)] 35)).alloc (.cells #[.string (bs r.m), .string (bs r.h), .string (bs r.p), .slice A r.L.length cx, .string (bs r.b), .string (bs r.tg), .int .i64 r.st, .int .i64 r.ve, .string (bs r.tr), .int .i64 r.sa, .int .i64 r.en] 44)) = v0 at *
  go_wp2_with fail
  go_returns
  exact ⟨by rw [HV.out]; rfl, HB.out⟩
end Go.Proofs.YtmejcchkoflciaaDoor
