/- decide: the walk of DecideOnce. -/
import Derived.Test.YtgkegpdmidcmoaaG23
import Derived.Deep.RegionHeld3
namespace Go.Proofs.Ytgkegpdmidcmoaa
set_option linter.unusedVariables false
set_option linter.unusedSimpArgs false
open Go.RowKit Go.Joins

theorem and_swap3 {a b c : Prop} (h : a ∧ b ∧ c) : b ∧ a ∧ c := ⟨h.2.1, h.1, h.2.2⟩
theorem fin_new2 {w3 w5 : World} (hz : Below w3.heap.size w3 w5) (ak ar : Int) (atg : List UInt8) (ast adl : Int) (ami : List UInt8) (sk sr : Int) (stg : List UInt8) (sst sdl : Int) (smi : List UInt8) :
    BY ((w5.alloc (.cells #[.int .i64 ak, .int .i64 ar, .string (bs atg), .int .i64 ast, .int .i64 adl, .string (bs ami)] 40)).alloc (.cells #[.int .i64 sk, .int .i64 sr, .string (bs stg), .int .i64 sst, .int .i64 sdl, .string (bs smi)] 40)) w5.heap.size ak ar atg ast adl ami ∧ BY ((w5.alloc (.cells #[.int .i64 ak, .int .i64 ar, .string (bs atg), .int .i64 ast, .int .i64 adl, .string (bs ami)] 40)).alloc (.cells #[.int .i64 sk, .int .i64 sr, .string (bs stg), .int .i64 sst, .int .i64 sdl, .string (bs smi)] 40)) (w5.heap.size + 1) sk sr stg sst sdl smi ∧ Below w3.heap.size w3 ((w5.alloc (.cells #[.int .i64 ak, .int .i64 ar, .string (bs atg), .int .i64 ast, .int .i64 adl, .string (bs ami)] 40)).alloc (.cells #[.int .i64 sk, .int .i64 sr, .string (bs stg), .int .i64 sst, .int .i64 sdl, .string (bs smi)] 40)) := by
  have h2 := BY.new (w5.alloc (.cells #[.int .i64 ak, .int .i64 ar, .string (bs atg), .int .i64 ast, .int .i64 adl, .string (bs ami)] 40)) sk sr stg sst sdl smi
  rw [World.size_alloc] at h2
  exact ⟨(BY.new w5 ak ar atg ast adl ami).up (enew _ _), h2, estep hz (estep (enew _ _) (enew _ _))⟩
theorem fin_set_new {w3 w5 : World} {g : Nat} (hz : Below w3.heap.size w3 w5) (hk : BY w5 g 0 0 [] 0 0 []) (hg : w3.heap.size ≤ g) (ak ar : Int) (atg : List UInt8) (ast adl : Int) (ami : List UInt8) (sk sr : Int) (stg : List UInt8) (sst sdl : Int) (smi : List UInt8) :
    BY (((((((w5.setCell ⟨g, 0, none⟩ (.int .i64 ak)).setCell ⟨g, 1, none⟩ (.int .i64 ar)).setCell ⟨g, 2, none⟩ (.string (bs atg))).setCell ⟨g, 3, none⟩ (.int .i64 ast)).setCell ⟨g, 4, none⟩ (.int .i64 adl)).setCell ⟨g, 5, none⟩ (.string (bs ami))).alloc (.cells #[.int .i64 sk, .int .i64 sr, .string (bs stg), .int .i64 sst, .int .i64 sdl, .string (bs smi)] 40)) g ak ar atg ast adl ami ∧ BY (((((((w5.setCell ⟨g, 0, none⟩ (.int .i64 ak)).setCell ⟨g, 1, none⟩ (.int .i64 ar)).setCell ⟨g, 2, none⟩ (.string (bs atg))).setCell ⟨g, 3, none⟩ (.int .i64 ast)).setCell ⟨g, 4, none⟩ (.int .i64 adl)).setCell ⟨g, 5, none⟩ (.string (bs ami))).alloc (.cells #[.int .i64 sk, .int .i64 sr, .string (bs stg), .int .i64 sst, .int .i64 sdl, .string (bs smi)] 40)) w5.heap.size sk sr stg sst sdl smi ∧ Below w3.heap.size w3 (((((((w5.setCell ⟨g, 0, none⟩ (.int .i64 ak)).setCell ⟨g, 1, none⟩ (.int .i64 ar)).setCell ⟨g, 2, none⟩ (.string (bs atg))).setCell ⟨g, 3, none⟩ (.int .i64 ast)).setCell ⟨g, 4, none⟩ (.int .i64 adl)).setCell ⟨g, 5, none⟩ (.string (bs ami))).alloc (.cells #[.int .i64 sk, .int .i64 sr, .string (bs stg), .int .i64 sst, .int .i64 sdl, .string (bs smi)] 40)) := by
  have h1 := hk.set6 ak ar atg ast adl ami
  have hb := below_set6 hz g hg (.int .i64 ak) (.int .i64 ar) (.string (bs atg)) (.int .i64 ast) (.int .i64 adl) (.string (bs ami))
  have h2 := BY.new ((((((w5.setCell ⟨g, 0, none⟩ (.int .i64 ak)).setCell ⟨g, 1, none⟩ (.int .i64 ar)).setCell ⟨g, 2, none⟩ (.string (bs atg))).setCell ⟨g, 3, none⟩ (.int .i64 ast)).setCell ⟨g, 4, none⟩ (.int .i64 adl)).setCell ⟨g, 5, none⟩ (.string (bs ami))) sk sr stg sst sdl smi
  rw [show ((((((w5.setCell ⟨g, 0, none⟩ (.int .i64 ak)).setCell ⟨g, 1, none⟩ (.int .i64 ar)).setCell ⟨g, 2, none⟩ (.string (bs atg))).setCell ⟨g, 3, none⟩ (.int .i64 ast)).setCell ⟨g, 4, none⟩ (.int .i64 adl)).setCell ⟨g, 5, none⟩ (.string (bs ami))).heap.size = w5.heap.size by simp] at h2
  exact ⟨h1.up (enew _ _), h2, estep hb (enew _ _)⟩
theorem fin_set_set {w3 w5 : World} {g g' : Nat} (hz : Below w3.heap.size w3 w5) (hk : BY w5 g 0 0 [] 0 0 []) (hk' : BY w5 g' 0 0 [] 0 0 []) (hne : g ≠ g') (hg : w3.heap.size ≤ g) (hg' : w3.heap.size ≤ g') (ak ar : Int) (atg : List UInt8) (ast adl : Int) (ami : List UInt8) (sk sr : Int) (stg : List UInt8) (sst sdl : Int) (smi : List UInt8) :
    BY ((((((((((((w5.setCell ⟨g, 0, none⟩ (.int .i64 ak)).setCell ⟨g, 1, none⟩ (.int .i64 ar)).setCell ⟨g, 2, none⟩ (.string (bs atg))).setCell ⟨g, 3, none⟩ (.int .i64 ast)).setCell ⟨g, 4, none⟩ (.int .i64 adl)).setCell ⟨g, 5, none⟩ (.string (bs ami))).setCell ⟨g', 0, none⟩ (.int .i64 sk)).setCell ⟨g', 1, none⟩ (.int .i64 sr)).setCell ⟨g', 2, none⟩ (.string (bs stg))).setCell ⟨g', 3, none⟩ (.int .i64 sst)).setCell ⟨g', 4, none⟩ (.int .i64 sdl)).setCell ⟨g', 5, none⟩ (.string (bs smi))) g ak ar atg ast adl ami ∧ BY ((((((((((((w5.setCell ⟨g, 0, none⟩ (.int .i64 ak)).setCell ⟨g, 1, none⟩ (.int .i64 ar)).setCell ⟨g, 2, none⟩ (.string (bs atg))).setCell ⟨g, 3, none⟩ (.int .i64 ast)).setCell ⟨g, 4, none⟩ (.int .i64 adl)).setCell ⟨g, 5, none⟩ (.string (bs ami))).setCell ⟨g', 0, none⟩ (.int .i64 sk)).setCell ⟨g', 1, none⟩ (.int .i64 sr)).setCell ⟨g', 2, none⟩ (.string (bs stg))).setCell ⟨g', 3, none⟩ (.int .i64 sst)).setCell ⟨g', 4, none⟩ (.int .i64 sdl)).setCell ⟨g', 5, none⟩ (.string (bs smi))) g' sk sr stg sst sdl smi ∧ Below w3.heap.size w3 ((((((((((((w5.setCell ⟨g, 0, none⟩ (.int .i64 ak)).setCell ⟨g, 1, none⟩ (.int .i64 ar)).setCell ⟨g, 2, none⟩ (.string (bs atg))).setCell ⟨g, 3, none⟩ (.int .i64 ast)).setCell ⟨g, 4, none⟩ (.int .i64 adl)).setCell ⟨g, 5, none⟩ (.string (bs ami))).setCell ⟨g', 0, none⟩ (.int .i64 sk)).setCell ⟨g', 1, none⟩ (.int .i64 sr)).setCell ⟨g', 2, none⟩ (.string (bs stg))).setCell ⟨g', 3, none⟩ (.int .i64 sst)).setCell ⟨g', 4, none⟩ (.int .i64 sdl)).setCell ⟨g', 5, none⟩ (.string (bs smi))) := by
  have h1 := hk.set6 ak ar atg ast adl ami
  have hk2 : BY ((((((w5.setCell ⟨g, 0, none⟩ (.int .i64 ak)).setCell ⟨g, 1, none⟩ (.int .i64 ar)).setCell ⟨g, 2, none⟩ (.string (bs atg))).setCell ⟨g, 3, none⟩ (.int .i64 ast)).setCell ⟨g, 4, none⟩ (.int .i64 adl)).setCell ⟨g, 5, none⟩ (.string (bs ami))) g' 0 0 [] 0 0 [] := Bk.set_other (Bk.set_other (Bk.set_other (Bk.set_other (Bk.set_other (Bk.set_other (hk') (fun e => hne e.symm) 0 _) (fun e => hne e.symm) 1 _) (fun e => hne e.symm) 2 _) (fun e => hne e.symm) 3 _) (fun e => hne e.symm) 4 _) (fun e => hne e.symm) 5 _
  have hb := below_set6 hz g hg (.int .i64 ak) (.int .i64 ar) (.string (bs atg)) (.int .i64 ast) (.int .i64 adl) (.string (bs ami))
  exact ⟨Bk.set_other (Bk.set_other (Bk.set_other (Bk.set_other (Bk.set_other (Bk.set_other (h1) hne 0 _) hne 1 _) hne 2 _) hne 3 _) hne 4 _) hne 5 _, hk2.set6 sk sr stg sst sdl smi, below_set6 hb g' hg' _ _ _ _ _ _⟩
theorem BY.drew {w : World} {g : Nat} {k r : Int} {tg : List UInt8} {st dl : Int} {mi : List UInt8} (h : BY w g k r tg st dl mi) : BY w.drew g k r tg st dl mi := Bk.drew h
theorem keepT {v0 w' : World} {w : World} {v : Int} {y x : Value} {f m h p b : List UInt8} {d0 d1 d2 : Int} (ht : BT v0 w.heap.size v y f) (hq : BQ v0 (w.heap.size + 1) m h p x b) (hd : BA v0 (w.heap.size + 1 + 1) d0 d1 d2) (hz : Below v0.heap.size v0 w') :
    w'.cell? ⟨w.heap.size, 0, none⟩ = some (.int .i64 v) ∧ w'.cell? ⟨w.heap.size, 1, none⟩ = some (y) ∧ w'.cell? ⟨w.heap.size, 2, none⟩ = some (.string (bs f)) ∧ w'.cell? ⟨w.heap.size + 1, 0, none⟩ = some (.string (bs m)) ∧ w'.cell? ⟨w.heap.size + 1, 1, none⟩ = some (.string (bs h)) ∧ w'.cell? ⟨w.heap.size + 1, 2, none⟩ = some (.string (bs p)) ∧ w'.cell? ⟨w.heap.size + 1, 3, none⟩ = some (x) ∧ w'.cell? ⟨w.heap.size + 1, 4, none⟩ = some (.string (bs b)) ∧ w'.cell? ⟨w.heap.size + 1 + 1, 0, none⟩ = some (.int .i64 d0) ∧ w'.cell? ⟨w.heap.size + 1 + 1, 1, none⟩ = some (.int .i64 d1) ∧ w'.cell? ⟨w.heap.size + 1 + 1, 2, none⟩ = some (.int .i64 d2) ∧ Below v0.heap.size v0 w' :=
  have t := (ht.up hz).cells
  have q := (hq.up hz).cells
  have d := (hd.up hz).cells
  ⟨t.1, t.2.1, t.2.2, q.1, q.2.1, q.2.2.1, q.2.2.2.1, q.2.2.2.2, d.1, d.2.1, d.2.2, hz⟩
set_option maxRecDepth 100000 in
set_option maxHeartbeats 40000000 in
theorem decideOnce_walk (v : Int) (y : Value) (f : List UInt8) (U : List Ru) (mU : ∀ u ∈ U, okRs u.sem) (hf : f.length ≤ 140737488351232) (m h p b : List UInt8) (x : Value) (L : List Hd) (hL : L.length ≤ 9223372036854775807) (hs : ∀ h ∈ L, h.1.length ≤ 140737488351232 ∧ h.2.length ≤ 140737488351232) (s0 : m.length ≤ 140737488351232) (s1 : h.length ≤ 140737488351232) (s2 : p.length ≤ 140737488351232) (s3 : b.length ≤ 140737488351232) (d0 d1 d2 : Int) (h0 : Hid (-9223372036854775808 ≤ d0 ∧ d0 ≤ 9223372036854775807)) (h1 : Hid (-9223372036854775808 ≤ d1 ∧ d1 ≤ 9223372036854775807)) (h2' : Hid (-9223372036854775808 ≤ d2 ∧ d2 ≤ 9223372036854775807)) (w : World) (hy : RV w y U) (hx : HV w x L) :
    Calls Try.prog 7 #[.agg #[.int .i64 v, y, .string (bs f)], .agg #[.string (bs m), .string (bs h), .string (bs p), x, .string (bs b)], .agg #[.int .i64 d0, .int .i64 d1, .int .i64 d2]] w fun e w' => e = .returned (.bool true) ∧ Below w.heap.size w w' := by
  obtain ⟨⟨ak, ar, atg, ast, adl, ami⟩, ha⟩ : ∃ a, ofA (fun u => allE u.ps m h p L) U d0 d1 d2 false = a := ⟨_, rfl⟩
  obtain ⟨⟨sk, sr, stg, sst, sdl, smi⟩, hs'⟩ : ∃ a, ofA (fun u => allE u.ps m h p L) U d0 d1 d2 true = a := ⟨_, rfl⟩
  have HA := hid ha
  have HS := hid hs'
  clear ha hs'
  have c4 : (ByteArray.mk #[]) = bs [] := rfl
  have hnot := enot
  have hg := ac_guard
  have hb1 := enew w (.cells #[.int .i64 v, y, .string (bs f)] 33)
  have hb2 := enew (w.alloc (.cells #[.int .i64 v, y, .string (bs f)] 33)) (.cells #[.string (bs m), .string (bs h), .string (bs p), x, .string (bs b)] 36)
  have hb3 := enew ((w.alloc (.cells #[.int .i64 v, y, .string (bs f)] 33)).alloc (.cells #[.string (bs m), .string (bs h), .string (bs p), x, .string (bs b)] 36)) (.cells #[.int .i64 d0, .int .i64 d1, .int .i64 d2] 25)
  have ht := (BT.new w v y f).up (estep hb2 hb3)
  have hq := (BQ.new (w.alloc (.cells #[.int .i64 v, y, .string (bs f)] 33)) m h p x b).up hb3
  have hd := BA.new ((w.alloc (.cells #[.int .i64 v, y, .string (bs f)] 33)).alloc (.cells #[.string (bs m), .string (bs h), .string (bs p), x, .string (bs b)] 36)) d0 d1 d2
  simp only [World.size_alloc] at hq hd
  have hb0 := estep hb1 (estep hb2 hb3)
  have H0 := hid (And.intro (hy.up hb0) (And.intro (hx.up hb0) hb0))
  obtain ⟨zf, hzf⟩ : ∃ z, fewC f (U.map Ru.sem) = z := ⟨_, rfl⟩
  obtain ⟨zq, hzq⟩ : ∃ z, fewR m h p L b = z := ⟨_, rfl⟩
  have HZ := hid hzq
  have HFT := hid (fun w2 (h1 : RV w2 y U) => tfew_any v y f U w2 h1 mU hf (hid hzf))
  have HFQ := hid (fun w2 (h1 : HV w2 x L) => rfew_any m h p b x L w2 h1 hL hs s0 s1 s2 s3 (hid hzq))
  have HSM := hid (fun u (hu : u ∈ U) => (mU u hu).1)
  have HPL := hid s2
  clear hzf hzq mU hf hL hs s0 s1 s2 s3 hb1 hb2 hb3 hb0 hy hx
  go_enter Try.func7, Try.ntmps7
  go_upto_region 1 with (fail)
  generalize ((w.alloc (.cells #[.int .i64 v, y, .string (bs f)] 33)).alloc (.cells #[.string (bs m), .string (bs h), .string (bs p), x, .string (bs b)] 36)).alloc (.cells #[.int .i64 d0, .int .i64 d1, .int .i64 d2] 25) = v0 at *
  obtain ⟨t0, t1, t2⟩ := ht.cells
  go_wp2_with fail
  refine (HFT.out _ H0.out.1).mono ?_
  rintro e w1 ⟨rfl, hb1⟩
  clear t0 t1 t2
  have H1 := hid (And.intro (H0.out.1.up hb1) (And.intro (H0.out.2.1.up hb1) hb1))
  clear hb1
  cases zf
  · go_wp2_with fail
    refine (known16_any _).mono ?_
    rintro e w2 ⟨rfl, hb2⟩
    go_wp2_with fail
    go_returns
    exact ⟨rfl, estep H0.out.2.2 (estep H1.out.2.2 hb2)⟩
  obtain ⟨q0, q1, q2, q3, q4⟩ := (hq.up H1.out.2.2).cells
  go_wp2_with fail
  refine (HFQ.out _ H1.out.2.1).mono ?_
  rintro e w3 ⟨rfl, hb3⟩
  clear q0 q1 q2 q3 q4
  have H3 := hid (And.intro (H1.out.1.up hb3) (And.intro (H1.out.2.1.up hb3) (estep H1.out.2.2 hb3)))
  clear hb3
  cases zq
  · go_wp2_with fail
    refine (known16_any _).mono ?_
    rintro e w4 ⟨rfl, hb4⟩
    go_wp2_with fail
    go_returns
    exact ⟨rfl, estep H0.out.2.2 (estep H3.out.2.2 hb4)⟩
  have HLH := hid (show L.length ≤ 1000000 by have := fewR_len HZ.out; omega)
  clear HZ HFT HFQ
  have ha := HA.out
  have HO : Hid (∀ (w2 : World), Below w3.heap.size w3 w2 → Calls Try.prog 19 #[.agg #[.int .i64 v, y, .string (bs f)], .agg #[.string (bs m), .string (bs h), .string (bs p), x, .string (bs b)], .agg #[.int .i64 d0, .int .i64 d1, .int .i64 d2], .bool false] w2 fun e w' => e = .returned (.agg #[.int .i64 ak, .int .i64 ar, .string (bs atg), .int .i64 ast, .int .i64 adl, .string (bs ami)]) ∧ Below w2.heap.size w2 w') := hid fun w2 h2 => of_any v y f U m h p b x L d0 d1 d2 false w2 (H3.out.1.up h2) (H3.out.2.1.up h2) HLH.out h0.out h1.out h2'.out (a := ⟨ak, ar, atg, ast, adl, ami⟩) (hid ha)
  clear ha
  have ha := HS.out
  have HOS : Hid (∀ (w2 : World), Below w3.heap.size w3 w2 → Calls Try.prog 19 #[.agg #[.int .i64 v, y, .string (bs f)], .agg #[.string (bs m), .string (bs h), .string (bs p), x, .string (bs b)], .agg #[.int .i64 d0, .int .i64 d1, .int .i64 d2], .bool true] w2 fun e w' => e = .returned (.agg #[.int .i64 sk, .int .i64 sr, .string (bs stg), .int .i64 sst, .int .i64 sdl, .string (bs smi)]) ∧ Below w2.heap.size w2 w') := hid fun w2 h2 => of_any v y f U m h p b x L d0 d1 d2 true w2 (H3.out.1.up h2) (H3.out.2.1.up h2) HLH.out h0.out h1.out h2'.out (a := ⟨sk, sr, stg, sst, sdl, smi⟩) (hid ha)
  clear ha
  have ht := ht.up H3.out.2.2
  have hq := hq.up H3.out.2.2
  have hd := hd.up H3.out.2.2
  have HB := hid (And.intro ht (And.intro hq hd))
  go_upto_region 3 with (fail)
  go_cut [7, 8] from 20 to 28 (fun s7 s8 wx => ∃ g7 g8 : Nat, s7 = .pointer (some ⟨g7, 0, none⟩) ∧ s8 = .pointer (some ⟨g8, 0, none⟩) ∧ Hid (BY wx g7 ak ar atg ast adl ami ∧ BY wx g8 sk sr stg sst sdl smi ∧ Below w3.heap.size w3 wx))
  case first =>
    have hz : Below w3.heap.size w3 w3.drew := (Below.refl _ _).drew
    go_region_held3 (fun w' => w'.cell? ⟨w.heap.size, 0, none⟩ = some (.int .i64 v) ∧ w'.cell? ⟨w.heap.size, 1, none⟩ = some (y) ∧ w'.cell? ⟨w.heap.size, 2, none⟩ = some (.string (bs f)) ∧ w'.cell? ⟨w.heap.size + 1, 0, none⟩ = some (.string (bs m)) ∧ w'.cell? ⟨w.heap.size + 1, 1, none⟩ = some (.string (bs h)) ∧ w'.cell? ⟨w.heap.size + 1, 2, none⟩ = some (.string (bs p)) ∧ w'.cell? ⟨w.heap.size + 1, 3, none⟩ = some (x) ∧ w'.cell? ⟨w.heap.size + 1, 4, none⟩ = some (.string (bs b)) ∧ w'.cell? ⟨w.heap.size + 1 + 1, 0, none⟩ = some (.int .i64 d0) ∧ w'.cell? ⟨w.heap.size + 1 + 1, 1, none⟩ = some (.int .i64 d1) ∧ w'.cell? ⟨w.heap.size + 1 + 1, 2, none⟩ = some (.int .i64 d2) ∧ Below w3.heap.size w3 w') (first | (with_reducible exact keepT ht hq hd hz) | (with_reducible exact keepT ht hq hd (hz.alloc hz.size _)) | (with_reducible exact keepT ht hq hd ((hz.alloc hz.size _).alloc (hz.alloc hz.size _).size _)) | exact keepT ht hq hd (by have hsc := hz.size; go_grown; all_goals first | omega | (simp; omega))) (first
        | (go_at_call 19
           first
             | (first
           | ((with_reducible refine (HO.out _ hz).mono ?_); rintro e w5 ⟨rfl, hy⟩; have hsa := hz.size; have hsb := hy.size; (try simp only [World.size_alloc, World.size_drew] at hsb); have hz := hz.trans (hy.mono hz.size); try (replace hk1 := BY.up hk1 hy); try (have hl1 := Bk.lt hk1; obtain ⟨k0, k1, k2, k3, k4, k5⟩ := BY.cells hk1; obtain ⟨f0, f1, f2, f3, f4, f5⟩ := BY.froz hk1); try (replace hk2 := BY.up hk2 hy); try (have hl2 := Bk.lt hk2; obtain ⟨l0, l1, l2, l3, l4, l5⟩ := BY.cells hk2; obtain ⟨p0, p1, p2, p3, p4, p5⟩ := BY.froz hk2))
           | ((with_reducible refine (HO.out _ (hz.alloc hz.size _)).mono ?_); rintro e w5 ⟨rfl, hy⟩; have hsa := hz.size; have hsb := hy.size; (try simp only [World.size_alloc, World.size_drew] at hsb); have hz := (hz.alloc hz.size _).trans (hy.mono (hz.alloc hz.size _).size); first | (have hk2 := BY.up (BY.new _ 0 0 [] 0 0 []) hy; replace hk1 := BY.up (BY.up hk1 (enew _ _)) hy; (try rw [World.size_alloc] at hk2); have hl1 := Bk.lt hk1; obtain ⟨k0, k1, k2, k3, k4, k5⟩ := BY.cells hk1; obtain ⟨f0, f1, f2, f3, f4, f5⟩ := BY.froz hk1; have hl2 := Bk.lt hk2; obtain ⟨l0, l1, l2, l3, l4, l5⟩ := BY.cells hk2; obtain ⟨p0, p1, p2, p3, p4, p5⟩ := BY.froz hk2) | (have hk1 := BY.up (BY.new _ 0 0 [] 0 0 []) hy; have hl1 := Bk.lt hk1; obtain ⟨k0, k1, k2, k3, k4, k5⟩ := BY.cells hk1; obtain ⟨f0, f1, f2, f3, f4, f5⟩ := BY.froz hk1))
           | ((with_reducible refine (HO.out _ ((hz.alloc hz.size _).alloc (hz.alloc hz.size _).size _)).mono ?_); rintro e w5 ⟨rfl, hy⟩; have hsa := hz.size; have hsb := hy.size; (try simp only [World.size_alloc, World.size_drew] at hsb); have hz := ((hz.alloc hz.size _).alloc (hz.alloc hz.size _).size _).trans (hy.mono ((hz.alloc hz.size _).alloc (hz.alloc hz.size _).size _).size); have hk1 := BY.up (BY.up (BY.new _ 0 0 [] 0 0 []) (enew _ _)) hy; have hk2 := BY.up (BY.new (World.alloc _ _) 0 0 [] 0 0 []) hy; (try rw [World.size_alloc] at hk2); have hl1 := Bk.lt hk1; obtain ⟨k0, k1, k2, k3, k4, k5⟩ := BY.cells hk1; obtain ⟨f0, f1, f2, f3, f4, f5⟩ := BY.froz hk1; have hl2 := Bk.lt hk2; obtain ⟨l0, l1, l2, l3, l4, l5⟩ := BY.cells hk2; obtain ⟨p0, p1, p2, p3, p4, p5⟩ := BY.froz hk2)
           | ((with_reducible refine (HO.out _ ((enew w3 _).drew)).mono ?_); rintro e w5 ⟨rfl, hy⟩; have hsa := hz.size; have hsb := hy.size; (try simp only [World.size_alloc, World.size_drew] at hsb); have hz := ((enew w3 _).drew).trans (hy.mono ((enew w3 _).drew).size); have hk1 := BY.up (BY.drew (BY.new w3 0 0 [] 0 0 [])) hy; have hl1 := Bk.lt hk1; obtain ⟨k0, k1, k2, k3, k4, k5⟩ := BY.cells hk1; obtain ⟨f0, f1, f2, f3, f4, f5⟩ := BY.froz hk1)
           | ((with_reducible refine (HO.out _ ((estep (enew w3 _) (enew _ _)).drew)).mono ?_); rintro e w5 ⟨rfl, hy⟩; have hsa := hz.size; have hsb := hy.size; (try simp only [World.size_alloc, World.size_drew] at hsb); have hz := ((estep (enew w3 _) (enew _ _)).drew).trans (hy.mono ((estep (enew w3 _) (enew _ _)).drew).size); have hk1 := BY.up (BY.drew (BY.up (BY.new w3 0 0 [] 0 0 []) (enew _ _))) hy; have hk2 := BY.up (BY.drew (BY.new (World.alloc w3 _) 0 0 [] 0 0 [])) hy; (try rw [World.size_alloc] at hk2); have hl1 := Bk.lt hk1; obtain ⟨k0, k1, k2, k3, k4, k5⟩ := BY.cells hk1; obtain ⟨f0, f1, f2, f3, f4, f5⟩ := BY.froz hk1; have hl2 := Bk.lt hk2; obtain ⟨l0, l1, l2, l3, l4, l5⟩ := BY.cells hk2; obtain ⟨p0, p1, p2, p3, p4, p5⟩ := BY.froz hk2))
             | (first
           | ((with_reducible refine (HOS.out _ hz).mono ?_); rintro e w5 ⟨rfl, hy⟩; have hsa := hz.size; have hsb := hy.size; (try simp only [World.size_alloc, World.size_drew] at hsb); have hz := hz.trans (hy.mono hz.size); try (replace hk1 := BY.up hk1 hy); try (have hl1 := Bk.lt hk1; obtain ⟨k0, k1, k2, k3, k4, k5⟩ := BY.cells hk1; obtain ⟨f0, f1, f2, f3, f4, f5⟩ := BY.froz hk1); try (replace hk2 := BY.up hk2 hy); try (have hl2 := Bk.lt hk2; obtain ⟨l0, l1, l2, l3, l4, l5⟩ := BY.cells hk2; obtain ⟨p0, p1, p2, p3, p4, p5⟩ := BY.froz hk2))
           | ((with_reducible refine (HOS.out _ (hz.alloc hz.size _)).mono ?_); rintro e w5 ⟨rfl, hy⟩; have hsa := hz.size; have hsb := hy.size; (try simp only [World.size_alloc, World.size_drew] at hsb); have hz := (hz.alloc hz.size _).trans (hy.mono (hz.alloc hz.size _).size); first | (have hk2 := BY.up (BY.new _ 0 0 [] 0 0 []) hy; replace hk1 := BY.up (BY.up hk1 (enew _ _)) hy; (try rw [World.size_alloc] at hk2); have hl1 := Bk.lt hk1; obtain ⟨k0, k1, k2, k3, k4, k5⟩ := BY.cells hk1; obtain ⟨f0, f1, f2, f3, f4, f5⟩ := BY.froz hk1; have hl2 := Bk.lt hk2; obtain ⟨l0, l1, l2, l3, l4, l5⟩ := BY.cells hk2; obtain ⟨p0, p1, p2, p3, p4, p5⟩ := BY.froz hk2) | (have hk1 := BY.up (BY.new _ 0 0 [] 0 0 []) hy; have hl1 := Bk.lt hk1; obtain ⟨k0, k1, k2, k3, k4, k5⟩ := BY.cells hk1; obtain ⟨f0, f1, f2, f3, f4, f5⟩ := BY.froz hk1))
           | ((with_reducible refine (HOS.out _ ((hz.alloc hz.size _).alloc (hz.alloc hz.size _).size _)).mono ?_); rintro e w5 ⟨rfl, hy⟩; have hsa := hz.size; have hsb := hy.size; (try simp only [World.size_alloc, World.size_drew] at hsb); have hz := ((hz.alloc hz.size _).alloc (hz.alloc hz.size _).size _).trans (hy.mono ((hz.alloc hz.size _).alloc (hz.alloc hz.size _).size _).size); have hk1 := BY.up (BY.up (BY.new _ 0 0 [] 0 0 []) (enew _ _)) hy; have hk2 := BY.up (BY.new (World.alloc _ _) 0 0 [] 0 0 []) hy; (try rw [World.size_alloc] at hk2); have hl1 := Bk.lt hk1; obtain ⟨k0, k1, k2, k3, k4, k5⟩ := BY.cells hk1; obtain ⟨f0, f1, f2, f3, f4, f5⟩ := BY.froz hk1; have hl2 := Bk.lt hk2; obtain ⟨l0, l1, l2, l3, l4, l5⟩ := BY.cells hk2; obtain ⟨p0, p1, p2, p3, p4, p5⟩ := BY.froz hk2)
           | ((with_reducible refine (HOS.out _ ((enew w3 _).drew)).mono ?_); rintro e w5 ⟨rfl, hy⟩; have hsa := hz.size; have hsb := hy.size; (try simp only [World.size_alloc, World.size_drew] at hsb); have hz := ((enew w3 _).drew).trans (hy.mono ((enew w3 _).drew).size); have hk1 := BY.up (BY.drew (BY.new w3 0 0 [] 0 0 [])) hy; have hl1 := Bk.lt hk1; obtain ⟨k0, k1, k2, k3, k4, k5⟩ := BY.cells hk1; obtain ⟨f0, f1, f2, f3, f4, f5⟩ := BY.froz hk1)
           | ((with_reducible refine (HOS.out _ ((estep (enew w3 _) (enew _ _)).drew)).mono ?_); rintro e w5 ⟨rfl, hy⟩; have hsa := hz.size; have hsb := hy.size; (try simp only [World.size_alloc, World.size_drew] at hsb); have hz := ((estep (enew w3 _) (enew _ _)).drew).trans (hy.mono ((estep (enew w3 _) (enew _ _)).drew).size); have hk1 := BY.up (BY.drew (BY.up (BY.new w3 0 0 [] 0 0 []) (enew _ _))) hy; have hk2 := BY.up (BY.drew (BY.new (World.alloc w3 _) 0 0 [] 0 0 [])) hy; (try rw [World.size_alloc] at hk2); have hl1 := Bk.lt hk1; obtain ⟨k0, k1, k2, k3, k4, k5⟩ := BY.cells hk1; obtain ⟨f0, f1, f2, f3, f4, f5⟩ := BY.froz hk1; have hl2 := Bk.lt hk2; obtain ⟨l0, l1, l2, l3, l4, l5⟩ := BY.cells hk2; obtain ⟨p0, p1, p2, p3, p4, p5⟩ := BY.froz hk2))))
    all_goals
      go_wp2_with fail
      go_meet
      first
        | with_reducible exact ⟨_, _, rfl, rfl, hid (fin_new2 hz ak ar atg ast adl ami sk sr stg sst sdl smi)⟩
        | with_reducible exact ⟨_, _, rfl, rfl, hid (and_swap3 (fin_new2 hz sk sr stg sst sdl smi ak ar atg ast adl ami))⟩
        | with_reducible exact ⟨_, _, rfl, rfl, hid (fin_set_new hz hk1 (by omega) ak ar atg ast adl ami sk sr stg sst sdl smi)⟩
        | with_reducible exact ⟨_, _, rfl, rfl, hid (and_swap3 (fin_set_new hz hk1 (by omega) sk sr stg sst sdl smi ak ar atg ast adl ami))⟩
        | with_reducible exact ⟨_, _, rfl, rfl, hid (fin_set_set hz hk1 hk2 (by omega) (by omega) (by omega) ak ar atg ast adl ami sk sr stg sst sdl smi)⟩
        | with_reducible exact ⟨_, _, rfl, rfl, hid (and_swap3 (fin_set_set hz hk1 hk2 (by omega) (by omega) (by omega) sk sr stg sst sdl smi ak ar atg ast adl ami))⟩
        | with_reducible exact ⟨_, _, rfl, rfl, hid (fin_set_set hz hk2 hk1 (by omega) (by omega) (by omega) ak ar atg ast adl ami sk sr stg sst sdl smi)⟩
        | with_reducible exact ⟨_, _, rfl, rfl, hid (and_swap3 (fin_set_set hz hk2 hk1 (by omega) (by omega) (by omega) sk sr stg sst sdl smi ak ar atg ast adl ami))⟩
  case rest =>
    obtain ⟨g7, g8, rfl, rfl, HC⟩ := hcut
    obtain ⟨v5, rfl⟩ : ∃ v5, v5 = wc := ⟨_, rfl⟩
    clear HO HOS ht hq hd
    have HB5 := hid (estep H0.out.2.2 (estep H3.out.2.2 HC.out.2.2))
    obtain ⟨t0, t1, t2⟩ := (HB.out.1.up HC.out.2.2).cells
    obtain ⟨q0, q1, q2, q3, q4⟩ := (HB.out.2.1.up HC.out.2.2).cells
    rcases lkI_cases (fun u => allE u.ps m h p L) U with hz | ⟨k, u, hz, hu⟩
    · have HL := hid (rlookup_any v y f U m h p b x L v5 (H3.out.1.up HC.out.2.2) HSM.out HPL.out (H3.out.2.1.up HC.out.2.2) HLH.out (hid hz))
      have e1 := ac_eqs (HA.out.symm.trans (ofA_no hz d0 d1 d2 false))
      have e2 := ac_eqs (HS.out.symm.trans (ofA_no hz d0 d1 d2 true))
      simp only at e1 e2
      clear HA HS hz
      obtain ⟨rfl, rfl, rfl, rfl, rfl, rfl⟩ := e1
      obtain ⟨rfl, rfl, rfl, rfl, rfl, rfl⟩ := e2
      have he : ∀ w : World, (binOp .eql 40 (.agg #[.int .i64 0, .int .i64 (-1), .string (bs []), .int .i64 404, .int .i64 0, .string (bs [])]) (.agg #[.int .i64 0, .int .i64 (-1), .string (bs []), .int .i64 404, .int .i64 0, .string (bs [])])).run Try.prog w = .ok (.bool true) w := fun w => ac_eql w _ _ _ _ _ _
      go_wp2_with fail
      refine HL.out.mono ?_
      rintro e w6 ⟨rfl, hb6⟩
      clear t0 t1 t2 q0 q1 q2 q3 q4
      obtain ⟨a0, a1, a2, a3, a4, a5⟩ := (HC.out.1.up hb6).cells
      obtain ⟨c0, c1, c2, c3, c4', c5⟩ := (HC.out.2.1.up hb6).cells
      have HB6 := hid (estep HB5.out hb6)
      clear hb6
      go_wp2_with fail
      refine (known16_any _).mono ?_
      rintro e w7 ⟨rfl, hb7⟩
      go_wp2_with fail
      go_returns
      exact ⟨rfl, estep HB6.out hb7⟩
    · have HL := hid (rlookup_any v y f U m h p b x L v5 (H3.out.1.up HC.out.2.2) HSM.out HPL.out (H3.out.2.1.up HC.out.2.2) HLH.out (hid hz))
      have E1 := hid (HA.out.symm.trans (ofA_yes hz hu d0 d1 d2 false))
      have e2 := ac_eqs (HS.out.symm.trans ((ofA_yes hz hu d0 d1 d2 true).trans (by rw [ofU, if_pos rfl])))
      simp only at e2
      have HU := hid hu
      clear HA HS hz hu
      obtain ⟨rfl, rfl, rfl, rfl, rfl, rfl⟩ := e2
      go_wp2_with fail
      refine HL.out.mono ?_
      rintro e w6 ⟨rfl, hb6⟩
      clear t0 t1 t2 q0 q1 q2 q3 q4
      have hk := (List.getElem?_eq_some_iff.1 HU.out).1
      obtain ⟨A, c, rfl, hgx, -, -, -, hl9⟩ := id ((H3.out.1.up HC.out.2.2).up hb6)
      obtain ⟨bb, oo, rfl, -⟩ := hgx.some_of hk
      obtain ⟨r0, r1, r2, r3, r4, r5, r6, r7, r8, r9⟩ := rank_cell hgx HU.out
      have hk0 : ¬ (k : Int) < 0 := by omega
      have hk1 : (k : Int) < (U.length : Int) := by omega
      obtain ⟨t0, t1, t2⟩ := ((HB.out.1.up HC.out.2.2).up hb6).cells
      have hbr := enew w6 (.cells #[.int .i64 u.rank, .slice u.xa u.xn u.xc, .string (bs u.tg), .int .i64 u.ap, .int .i64 u.st, .int .i64 u.dp, .int .i64 u.dt, .int .i64 u.mp, .string (bs u.mi), .int .i64 u.sm] 47)
      have hbb := estep hb6 hbr
      have HH := hid (And.intro (HC.out.1.up hbb) (And.intro (HC.out.2.1.up hbb) (And.intro (BR.new w6 u) (estep HB5.out hbb))))
      clear hgx hb6 hbr hbb HC HB HL HU H3 HB5 H0
      generalize U.length = n at *
      go_upto_region 8 with (fail)
      clear t0 t1 t2 r0 r1 r2 r3 r4 r5 r6 r7 r8 r9
      generalize w6.alloc (.cells #[.int .i64 u.rank, .slice u.xa u.xn u.xc, .string (bs u.tg), .int .i64 u.ap, .int .i64 u.st, .int .i64 u.dp, .int .i64 u.dt, .int .i64 u.mp, .string (bs u.mi), .int .i64 u.sm] 47) = v7 at *
      generalize w6.heap.size = g10 at *
      obtain ⟨a0, a1, a2, a3, a4, a5⟩ := HH.out.1.cells
      obtain ⟨s0, s1, s2, s3, s4, s5⟩ := HH.out.2.1.cells
      obtain ⟨r0, r1, r2, r3, r4, r5, r6, r7, r8, r9⟩ := HH.out.2.2.1.cells
      have HB8 := hid HH.out.2.2.2
      clear HH
      obtain ⟨rk, xa, xn, xc, ps, tg, ap, st, dp, dt, mp, mi, sm⟩ := u
      simp only at r0 r1 r2 r3 r4 r5 r6 r7 r8 r9 s0 s1 s2 s3 s4 s5
      generalize (k : Int) = z at *
      by_cases hf : fireB d0 ap = true
      · have e1 := ac_eqs (E1.out.trans (by rw [ofU, if_neg (by decide), if_pos hf]))
        simp only at e1
        have hap : decide (ap ≤ 0) = false := decide_eq_false (by have := of_decide_eq_true hf; omega)
        clear E1 hf
        obtain ⟨rfl, rfl, rfl, rfl, rfl, rfl⟩ := e1
        go_wp2_with fail
        refine (known16_any _).mono ?_
        rintro e w7 ⟨rfl, hb7⟩
        go_wp2_with fail
        go_returns
        exact ⟨rfl, estep HB8.out hb7⟩
      · have e1 := ac_eqs (E1.out.trans (show _ = (⟨2, z, tg, 0, if fireB d1 dp = true then dt else 0, if fireB d2 mp = true then mi else []⟩ : Ac) by rw [ofU, if_neg (by decide), if_neg hf]; rfl))
        simp only at e1
        have hap : decide (100 ≤ ap) = false := decide_eq_false (by have : ¬ (d0 % 100 < ap) := fun h => hf (decide_eq_true h); omega)
        clear E1 hf
        obtain ⟨rfl, rfl, rfl, rfl, e5, e6⟩ := e1
        by_cases f1 : fireB d1 dp = true
        · rw [if_pos f1] at e5
          have hdp : decide (dp ≤ 0) = false := decide_eq_false (by have := of_decide_eq_true f1; omega)
          clear f1
          subst e5
          by_cases hdt : adl = 0
          · subst hdt
            by_cases f2 : fireB d2 mp = true
            · rw [if_pos f2] at e6
              have hmp : decide (mp ≤ 0) = false := decide_eq_false (by have := of_decide_eq_true f2; omega)
              clear f2
              subst e6
              cases ami with
              | nil =>
                go_wp2_with fail
                all_goals
                  refine (known16_any _).mono ?_
                  rintro e w7 ⟨rfl, hb7⟩
                  go_wp2_with fail
                  go_returns
                  exact ⟨rfl, estep HB8.out hb7⟩
              | cons c1 cr =>
                have hmi : (!(c1 :: cr).isEmpty) = true := rfl
                have hmi2 : (c1 :: cr).isEmpty = false := rfl
                generalize c1 :: cr = mi at *
                go_wp2_with fail
                all_goals
                  refine (known16_any _).mono ?_
                  rintro e w7 ⟨rfl, hb7⟩
                  go_wp2_with fail
                  go_returns
                  exact ⟨rfl, estep HB8.out hb7⟩
            · rw [if_neg f2] at e6
              have hmp : decide (100 ≤ mp) = false := decide_eq_false (by have : ¬ (d2 % 100 < mp) := fun h => f2 (decide_eq_true h); omega)
              clear f2
              subst e6
              go_wp2_with fail
              all_goals
                refine (known16_any _).mono ?_
                rintro e w7 ⟨rfl, hb7⟩
                go_wp2_with fail
                go_returns
                exact ⟨rfl, estep HB8.out hb7⟩
          · have hdt2 : (adl != 0) = true := by simpa using hdt
            clear hdt
            by_cases f2 : fireB d2 mp = true
            · rw [if_pos f2] at e6
              have hmp : decide (mp ≤ 0) = false := decide_eq_false (by have := of_decide_eq_true f2; omega)
              clear f2
              subst e6
              cases ami with
              | nil =>
                go_wp2_with fail
                all_goals
                  refine (known16_any _).mono ?_
                  rintro e w7 ⟨rfl, hb7⟩
                  go_wp2_with fail
                  go_returns
                  exact ⟨rfl, estep HB8.out hb7⟩
              | cons c1 cr =>
                have hmi : (!(c1 :: cr).isEmpty) = true := rfl
                have hmi2 : (c1 :: cr).isEmpty = false := rfl
                generalize c1 :: cr = mi at *
                go_wp2_with fail
                all_goals
                  refine (known16_any _).mono ?_
                  rintro e w7 ⟨rfl, hb7⟩
                  go_wp2_with fail
                  go_returns
                  exact ⟨rfl, estep HB8.out hb7⟩
            · rw [if_neg f2] at e6
              have hmp : decide (100 ≤ mp) = false := decide_eq_false (by have : ¬ (d2 % 100 < mp) := fun h => f2 (decide_eq_true h); omega)
              clear f2
              subst e6
              go_wp2_with fail
              all_goals
                refine (known16_any _).mono ?_
                rintro e w7 ⟨rfl, hb7⟩
                go_wp2_with fail
                go_returns
                exact ⟨rfl, estep HB8.out hb7⟩
        · rw [if_neg f1] at e5
          have hdp : decide (100 ≤ dp) = false := decide_eq_false (by have : ¬ (d1 % 100 < dp) := fun h => f1 (decide_eq_true h); omega)
          clear f1
          subst e5
          by_cases f2 : fireB d2 mp = true
          · rw [if_pos f2] at e6
            have hmp : decide (mp ≤ 0) = false := decide_eq_false (by have := of_decide_eq_true f2; omega)
            clear f2
            subst e6
            cases ami with
            | nil =>
              go_wp2_with fail
              all_goals
                refine (known16_any _).mono ?_
                rintro e w7 ⟨rfl, hb7⟩
                go_wp2_with fail
                go_returns
                exact ⟨rfl, estep HB8.out hb7⟩
            | cons c1 cr =>
              have hmi : (!(c1 :: cr).isEmpty) = true := rfl
              have hmi2 : (c1 :: cr).isEmpty = false := rfl
              generalize c1 :: cr = mi at *
              go_wp2_with fail
              all_goals
                refine (known16_any _).mono ?_
                rintro e w7 ⟨rfl, hb7⟩
                go_wp2_with fail
                go_returns
                exact ⟨rfl, estep HB8.out hb7⟩
          · rw [if_neg f2] at e6
            have hmp : decide (100 ≤ mp) = false := decide_eq_false (by have : ¬ (d2 % 100 < mp) := fun h => f2 (decide_eq_true h); omega)
            clear f2
            subst e6
            go_wp2_with fail
            all_goals
              refine (known16_any _).mono ?_
              rintro e w7 ⟨rfl, hb7⟩
              go_wp2_with fail
              go_returns
              exact ⟨rfl, estep HB8.out hb7⟩
end Go.Proofs.Ytgkegpdmidcmoaa
