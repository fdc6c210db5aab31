/- Texts put together: Ei. -/
import Derived.Test.YtmdlkoigjacipaaO14
import Derived.Test.YtmdlkoigjacipaaO15
import Derived.Deep.RegionHeld3
namespace Go.Proofs.Ytmdlkoigjacipaa
set_option linter.unusedVariables false
set_option linter.unusedSimpArgs false
open Go.RowKit Go.Joins

def encP (e : Pd) : List Value := [.int .i64 e.k, .string (bs e.n), .string (bs e.v)]
theorem encP_len (e : Pd) : (encP e).length = 3 := rfl
theorem rowP : RowT Try.prog encP 3 28 23 (.agg #[.int .i64 0, .string ByteArray.empty, .string ByteArray.empty]) 40 where
  ht := Try.underlying28
  inf := by kernel_rfl
  hzs := rfl
  k0 := by decide
  hk := encP_len
  h1 := fun x u hu => by
    simp [encP] at hu
    rcases hu with rfl | rfl | rfl <;> rfl
  hb := by decide
theorem PX.gx {w : World} {N : Nat → Prop} {A : Option Addr} {L : List Pd} (h : PX w N A L) : GX encP 3 w N A L := by
  intro i hi
  obtain ⟨b, o, e, h1, c0, c1, c2⟩ := h i hi
  refine ⟨b, o, e, h1, fun j hj => ?_⟩
  match j, hj with
  | 0, _ => exact c0
  | 1, _ => rw [← Nat.add_assoc]; exact c1
  | 2, _ => rw [← Nat.add_assoc]; exact c2
theorem GX.px {w : World} {N : Nat → Prop} {A : Option Addr} {L : List Pd} (h : GX encP 3 w N A L) : PX w N A L := by
  intro i hi
  obtain ⟨b, o, e, h1, h2⟩ := h i hi
  refine ⟨b, o, e, h1, ?_, ?_, ?_⟩
  · exact h2 0 (by omega)
  · rw [Nat.add_assoc]; exact h2 1 (by omega)
  · rw [Nat.add_assoc]; exact h2 2 (by omega)
theorem keepBP {w v w' : World} {g : Nat} {k : Int} {n s : List UInt8} (h : BP v g k n s) (hz : Below v.heap.size v w') : w'.cell? ⟨g, 0, none⟩ = some (.int .i64 k) ∧ w'.cell? ⟨g, 1, none⟩ = some (.string (bs n)) ∧ w'.cell? ⟨g, 2, none⟩ = some (.string (bs s)) ∧ Below v.heap.size v w' := by
  obtain ⟨a, b, c⟩ := (h.up hz).cells
  exact ⟨a, b, c, hz⟩
theorem keepPQ {v w' : World} {g g2 : Nat} {k : Int} {n s m h p b : List UInt8} {x : Value} (h1 : BP v g k n s) (h2 : BQ v g2 m h p x b) (hz : Below v.heap.size v w') :
    w'.cell? ⟨g, 0, none⟩ = some (.int .i64 k) ∧ w'.cell? ⟨g, 1, none⟩ = some (.string (bs n)) ∧ w'.cell? ⟨g, 2, none⟩ = some (.string (bs s)) ∧ w'.cell? ⟨g2, 0, none⟩ = some (.string (bs m)) ∧ w'.cell? ⟨g2, 1, none⟩ = some (.string (bs h)) ∧ w'.cell? ⟨g2, 2, none⟩ = some (.string (bs p)) ∧ w'.cell? ⟨g2, 3, none⟩ = some x ∧ w'.cell? ⟨g2, 4, none⟩ = some (.string (bs b)) ∧ Below v.heap.size v w' := by
  obtain ⟨a, b, c⟩ := (h1.up hz).cells
  obtain ⟨q0, q1, q2, q3, q4⟩ := (h2.up hz).cells
  exact ⟨a, b, c, q0, q1, q2, q3, q4, hz⟩
set_option maxRecDepth 100000 in
set_option maxHeartbeats 8000000 in
theorem predChecks_walk (k : Int) (n v : List UInt8) (hn : n.length ≤ 140737488351232) (hv : v.length ≤ 140737488351232) (w : World) :
    Calls Try.prog 3 #[.agg #[.int .i64 k, .string (bs n), .string (bs v)]] w fun e w' => e = .returned (.bool true) ∧ Below w.heap.size w w' := by
  have hnot := enot
  have hb0 := enew w (.cells #[.int .i64 k, .string (bs n), .string (bs v)] 23)
  have hp0 := BP.new w k n v
  have a1 : IntKind.i64.wrap ((n.length : Int) + (v.length : Int)) = (n.length : Int) + (v.length : Int) := IntWalk.i64_in _ (by omega)
  obtain ⟨c, hc⟩ : ∃ c, cE k n v = c := ⟨_, rfl⟩
  have HC1 := hid (fun w2 => pcheck_any k n v w2 hn hv (hid hc))
  have HC2 := hid (fun w2 => rpcheck_any k n v w2 hn hv (hid hc))
  clear hc
  go_enter Try.func3, Try.ntmps3
  go_upto_region 1 with (fail)
  generalize w.alloc (.cells #[.int .i64 k, .string (bs n), .string (bs v)] 23) = v0 at *
  obtain ⟨k0, k1, k2⟩ := hp0.cells
  by_cases hle : n.length + v.length ≤ 400
  · have hd : decide ((400 : Int) < (n.length : Int) + (v.length : Int)) = false := decide_eq_false (by omega)
    go_upto_region 3 with (fail)
    have hz : Below v0.heap.size v0 v0.drew := (Below.refl _ _).drew
    go_region_held3 (fun w' => w'.cell? ⟨w.heap.size, 0, none⟩ = some (.int .i64 k) ∧ w'.cell? ⟨w.heap.size, 1, none⟩ = some (.string (bs n)) ∧ w'.cell? ⟨w.heap.size, 2, none⟩ = some (.string (bs v)) ∧ Below v0.heap.size v0 w') (first | (with_reducible exact keepBP (w := w) hp0 hz)) (first
      | (go_at_call 10
         ((with_reducible refine (HC1.out _).mono ?_); rintro e w5 ⟨rfl, hy⟩)
         have hz := hz.trans (hy.mono hz.size))
      | (go_at_call 11
         ((with_reducible refine (HC2.out _).mono ?_); rintro e w5 ⟨rfl, hy⟩)
         have hz := hz.trans (hy.mono hz.size))
      | (go_at_call 9
         ((with_reducible refine (known11_any _).mono ?_); rintro e w5 ⟨rfl, hy⟩)
         have hz := hz.trans (hy.mono hz.size)))
    all_goals
      go_wp2_with fail
      go_returns
      exact ⟨rfl, estep hb0 hz⟩
  · have hd : decide ((400 : Int) < (n.length : Int) + (v.length : Int)) = true := decide_eq_true (by omega)
    go_wp2_with fail
    refine (known11_any _).mono ?_
    rintro r v1 ⟨rfl, hb1⟩
    go_wp2_with fail
    go_returns
    exact ⟨rfl, estep hb0 hb1⟩
set_option maxRecDepth 100000 in
set_option maxHeartbeats 16000000 in
theorem predMatches_walk (k : Int) (n v : List UInt8) (hn : n.length ≤ 140737488351232) (hv : v.length ≤ 140737488351232) (A : Option Addr) (c : Nat) (l : List Pd) (hln : l.length ≤ 9223372036854775807) (hsm : smallP l)
    (m h p b : List UInt8) (x : Value) (L : List Hd) (hL : L.length ≤ 9223372036854775807) (hs : ∀ h ∈ L, h.1.length ≤ 140737488351232 ∧ h.2.length ≤ 140737488351232) (hm : m.length ≤ 140737488351232) (hh : h.length ≤ 140737488351232) (hp : p.length ≤ 140737488351232) (hb : b.length ≤ 140737488351232)
    (w : World) (hl : PX w (· < w.heap.size) A l) (hx : HV w x L) :
    Calls Try.prog 4 #[.agg #[.int .i64 k, .string (bs n), .string (bs v)], .slice A l.length c, .agg #[.string (bs m), .string (bs h), .string (bs p), x, .string (bs b)]] w fun e w' => e = .returned (.bool true) ∧ Below w.heap.size w w' := by
  have hnot := enot
  have hb0 := estep (enew w (.cells #[.int .i64 k, .string (bs n), .string (bs v)] 23)) (enew _ (.cells #[.string (bs m), .string (bs h), .string (bs p), x, .string (bs b)] 31))
  have hp0 := (BP.new w k n v).up (enew _ (.cells #[.string (bs m), .string (bs h), .string (bs p), x, .string (bs b)] 31))
  have hq0 := BQ.new (w.alloc (.cells #[.int .i64 k, .string (bs n), .string (bs v)] 23)) m h p x b
  rw [World.size_alloc] at hq0
  have hx0 := hx.up hb0
  have hl0 := hl.up hb0
  clear hl hx
  have a1 : IntKind.i64.wrap ((n.length : Int) + (v.length : Int)) = (n.length : Int) + (v.length : Int) := IntWalk.i64_in _ (by omega)
  have HF1 := hid (fun w2 (h2 : PX w2 (· < w2.heap.size) A l) (z : Bool) (hz : Hid (fewP l = z)) => pfew_any A c l w2 h2 hln hsm hz)
  have HF2 := hid (fun w2 (h2 : HV w2 x L) (z : Bool) (hz : Hid (fewR m h p L b = z)) => rfew_any m h p b x L w2 h2 hL hs hm hh hp hb hz)
  go_enter Try.func4, Try.ntmps4
  go_upto_region 1 with (fail)
  generalize (w.alloc (.cells #[.int .i64 k, .string (bs n), .string (bs v)] 23)).alloc (.cells #[.string (bs m), .string (bs h), .string (bs p), x, .string (bs b)] 31) = v0 at *
  obtain ⟨k0, k1, k2⟩ := hp0.cells
  by_cases hle : n.length + v.length ≤ 400
  · have hd : decide ((400 : Int) < (n.length : Int) + (v.length : Int)) = false := decide_eq_false (by omega)
    cases hf1 : fewP l
    · go_wp2_with fail
      refine (HF1.out _ hl0 _ hf1).mono ?_
      rintro r v1 ⟨rfl, hb1⟩
      have hb2 := estep hb0 hb1
      clear k0 k1 k2 hb0 hb1
      go_wp2_with fail
      refine (known11_any _).mono ?_
      rintro r v2 ⟨rfl, hb3⟩
      go_wp2_with fail
      go_returns
      exact ⟨rfl, estep hb2 hb3⟩
    go_wp2_with fail
    refine (HF1.out _ hl0 _ hf1).mono ?_
    rintro r v1 ⟨rfl, hb1⟩
    have hb2 := estep hb0 hb1
    have hp2 := hp0.up hb1
    have hq2 := hq0.up hb1
    have hx2 := hx0.up hb1
    have hl2 := hl0.up hb1
    clear k0 k1 k2 hb0 hb1 hp0 hq0 hx0 hl0
    obtain ⟨q0, q1, q2, q3, q4⟩ := hq2.cells
    cases hf2 : fewR m h p L b
    · go_wp2_with fail
      refine (HF2.out _ hx2 _ hf2).mono ?_
      rintro r v2 ⟨rfl, hb3⟩
      have hb4 := estep hb2 hb3
      clear q0 q1 q2 q3 q4 hb2 hb3
      go_wp2_with fail
      refine (known11_any _).mono ?_
      rintro r v3 ⟨rfl, hb5⟩
      go_wp2_with fail
      go_returns
      exact ⟨rfl, estep hb4 hb5⟩
    have hLs := fewR_len hf2
    obtain ⟨z1, hz1⟩ : ∃ z, mE k n v m h p L = z := ⟨_, rfl⟩
    obtain ⟨z2, hz2⟩ : ∃ z, allE l m h p L = z := ⟨_, rfl⟩
    have HM1 := hid (fun w2 (h2 : HV w2 x L) => match_any m h p b x L k n v w2 h2 (by omega) (hid hz1))
    have HM2 := hid (fun w2 (h2 : HV w2 x L) => rmatch_any m h p b x L k n v w2 h2 (by omega) hp hv (hid hz1))
    have HA1 := hid (fun w2 (h1 : PX w2 (· < w2.heap.size) A l) (h2 : HV w2 x L) => all_any m h p b x L A c l w2 h1 hln h2 (by omega) (hid hz2))
    have HA2 := hid (fun w2 (h1 : PX w2 (· < w2.heap.size) A l) (h2 : HV w2 x L) => rallp_any m h p b x L A c l w2 h1 hln hsm h2 (by omega) hp (hid hz2))
    clear hz1 hz2
    go_wp2_with fail
    refine (HF2.out _ hx2 _ hf2).mono ?_
    rintro r v2 ⟨rfl, hb3⟩
    have hb4 := estep hb2 hb3
    have hp4 := hp2.up hb3
    have hq4 := hq2.up hb3
    have hx4 := hx2.up hb3
    have hl4 := hl2.up hb3
    clear q0 q1 q2 q3 q4 hb2 hb3 hp2 hq2 hx2 hl2
    go_upto_region 3 with (fail)
    have hz : Below v2.heap.size v2 v2.drew := (Below.refl _ _).drew
    go_region_held3 (fun w' => w'.cell? ⟨w.heap.size, 0, none⟩ = some (.int .i64 k) ∧ w'.cell? ⟨w.heap.size, 1, none⟩ = some (.string (bs n)) ∧ w'.cell? ⟨w.heap.size, 2, none⟩ = some (.string (bs v)) ∧ w'.cell? ⟨w.heap.size + 1, 0, none⟩ = some (.string (bs m)) ∧ w'.cell? ⟨w.heap.size + 1, 1, none⟩ = some (.string (bs h)) ∧ w'.cell? ⟨w.heap.size + 1, 2, none⟩ = some (.string (bs p)) ∧ w'.cell? ⟨w.heap.size + 1, 3, none⟩ = some x ∧ w'.cell? ⟨w.heap.size + 1, 4, none⟩ = some (.string (bs b)) ∧ Below v2.heap.size v2 w') (first | (with_reducible exact keepPQ hp4 hq4 hz)) (first
      | (go_at_call 14
         ((with_reducible refine (HM1.out _ (hx4.up hz)).mono ?_); rintro e w5 ⟨rfl, hy⟩)
         have hz := hz.trans (hy.mono hz.size))
      | (go_at_call 15
         ((with_reducible refine (HM2.out _ (hx4.up hz)).mono ?_); rintro e w5 ⟨rfl, hy⟩)
         have hz := hz.trans (hy.mono hz.size))
      | (go_at_call 16
         ((with_reducible refine (HA1.out _ (hl4.up hz) (hx4.up hz)).mono ?_); rintro e w5 ⟨rfl, hy⟩)
         have hz := hz.trans (hy.mono hz.size))
      | (go_at_call 17
         ((with_reducible refine (HA2.out _ (hl4.up hz) (hx4.up hz)).mono ?_); rintro e w5 ⟨rfl, hy⟩)
         have hz := hz.trans (hy.mono hz.size))
      | (go_at_call 9
         ((with_reducible refine (known11_any _).mono ?_); rintro e w5 ⟨rfl, hy⟩)
         have hz := hz.trans (hy.mono hz.size)))
    all_goals
      go_wp2_with fail
      go_returns
      exact ⟨rfl, estep hb4 hz⟩
  · have hd : decide ((400 : Int) < (n.length : Int) + (v.length : Int)) = true := decide_eq_true (by omega)
    go_wp2_with fail
    refine (known11_any _).mono ?_
    rintro r v1 ⟨rfl, hb1⟩
    go_wp2_with fail
    go_returns
    exact ⟨rfl, estep hb0 hb1⟩
end Go.Proofs.Ytmdlkoigjacipaa
