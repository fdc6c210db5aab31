/- Texts put together: Kh. -/
import Derived.Test.YtingjembjpckcaaG19
namespace Go.Proofs.Ytingjembjpckcaa
set_option linter.unusedVariables false
set_option linter.unusedSimpArgs false
open Go.RowKit Go.Joins

/-- The place of the first rule that hits. -/
def lkI (hit : Ru → Bool) (U : List Ru) : Int := if U.findIdx hit < U.length then (U.findIdx hit : Int) else -1
theorem lkI_hit {hit : Ru → Bool} {U : List Ru} {k : Nat} {u : Ru} (hu : U[k]? = some u) (hn : ∀ (j : Nat) (x : Ru), j < k → U[j]? = some x → hit x = false) (hp : hit u = true) : lkI hit U = (k : Int) := by
  obtain ⟨hk, rfl⟩ := List.getElem?_eq_some_iff.1 hu
  have := findIdx_hit hit U k hk (fun j hj hlt => hn j _ hlt (List.getElem?_eq_getElem hj)) hp
  rw [lkI, this, if_pos hk]
theorem lkI_miss {hit : Ru → Bool} {U : List Ru} (hn : ∀ (j : Nat) (x : Ru), j < U.length → U[j]? = some x → hit x = false) : lkI hit U = -1 := by
  have := findIdx_miss hit U (fun j hj => hn j _ hj (List.getElem?_eq_getElem hj))
  rw [lkI, this, if_neg (by omega)]
theorem none_up {hit : Ru → Bool} {U : List Ru} {i : Nat} {u : Ru} (h : ∀ (j : Nat) (x : Ru), j < i → U[j]? = some x → hit x = false) (hu : U[i]? = some u) (hh : hit u = false) : ∀ (j : Nat) (x : Ru), j < i + 1 → U[j]? = some x → hit x = false := fun j x hj hx => by
  by_cases e : j = i
  · subst e; rw [hu] at hx; cases hx; exact hh
  · exact h j x (by omega) hx
/-- What a function value says of rules: a bool; it may make memory. -/
def FB (w0 : World) (fv : Value) (U : List Ru) (p : Ru → Bool) : Prop :=
  ∃ (F : Nat) (c : Value), fv = .func (.func F) #[] #[c] ∧ (∀ args w, (callFunc F args).run Try.prog w = .ok (.enter F args) w) ∧
    ∀ u ∈ U, ∀ w, Below w0.heap.size w0 w → Calls Try.prog F #[.agg #[.int .i64 u.rank, .slice u.xa u.xn u.xc, .string (bs u.tg), .int .i64 u.ap, .int .i64 u.st, .int .i64 u.dp, .int .i64 u.dt, .int .i64 u.mp, .string (bs u.mi), .int .i64 u.sm], c] w fun e w' => e = .returned (.bool (p u)) ∧ Below w.heap.size w w'
set_option maxRecDepth 100000 in
set_option maxHeartbeats 4000000 in
theorem rindexFunc_any (A : Option Addr) (c : Nat) (fv : Value) (U : List Ru) (p : Ru → Bool) (w : World) (hU : GX encR 10 w (· < w.heap.size) A U) (hF : FB w fv U p) (hl : U.length ≤ 9223372036854775807) {z : Int} (H : Hid (lkI p U = z)) :
    Calls Try.prog 33 #[.slice A U.length c, fv] w fun e w' => e = .returned (.int .i64 z) ∧ Below w.heap.size w w' := by
  obtain ⟨F, cv, rfl, eg, hF⟩ := hF
  have H0 := hid hU
  have HF := hid hF
  clear hU hF
  generalize hnU : U.length = n at *
  have HNU := hid hnU
  clear hnU
  go_enter Try.func33, Try.ntmps33
  go_wp2_with fail
  go_loopg [8] n (fun g1 vi wr => ∃ i : Nat, vi = .int .i64 i ∧ i ≤ n ∧ n - i ≤ g1 ∧ Hid ((∀ (j : Nat) (x : Ru), j < i → U[j]? = some x → p x = false) ∧ Below w.heap.size w wr))
  case atStart => exact ⟨0, rfl, by omega, by omega, hid ⟨fun j x hj => by omega, Below.refl _ _⟩⟩
  case round =>
    obtain ⟨i, rfl, hin, hgk, HB⟩ := hrel
    by_cases hlt : i < n
    · have hltz : (i : Int) < (n : Int) := by omega
      have hltd : decide ((i : Int) < (n : Int)) = true := decide_eq_true hltz
      have hi0 : (0 : Int) ≤ (i : Int) := by omega
      have hiU : i < U.length := by have := HNU.out; omega
      obtain ⟨u, hu⟩ : ∃ u, U[i]? = some u := ⟨_, List.getElem?_eq_getElem hiU⟩
      obtain ⟨bb, oo, rfl, -⟩ := H0.out.some_of hiU
      have HU := hid hu
      obtain ⟨r0, r1, r2, r3, r4, r5, r6, r7, r8, r9⟩ := rank_cell (H0.out.up HB.out.2) hu
      obtain ⟨z1, hz1⟩ : ∃ z1, p u = z1 := ⟨_, rfl⟩
      have HZ := hid hz1
      have HC := hid (HF.out u (List.mem_of_getElem? hu) wr HB.out.2)
      rw [hz1] at HC
      clear hz1 hu hiU
      go_wp2_with fail
      refine HC.out.mono ?_
      rintro e w1 ⟨rfl, hb1⟩
      have HB1 := hid (estep HB.out.2 hb1)
      clear hb1 r0 r1 r2 r3 r4 r5 r6 r7 r8 r9
      cases z1
      · go_wp2_with fail
        go_roundg (n - (i + 1))
        case measure => omega
        case rel => exact ⟨i + 1, by go_num, by omega, by omega, hid ⟨none_up HB.out.1 HU.out HZ.out, HB1.out⟩⟩
      · have HE := hid (show z = (i : Int) by rw [← H.out]; exact lkI_hit HU.out HB.out.1 HZ.out)
        go_wp2_with fail
        go_returns
        exact ⟨by rw [HE.out]; rfl, HB1.out⟩
    · obtain rfl : i = n := by omega
      have hltd : decide ((i : Int) < (i : Int)) = false := by simp
      have HE := hid (show z = -1 by rw [← H.out]; exact lkI_miss fun j x hj hx => HB.out.1 j x (by have := HNU.out; omega) hx)
      go_wp2_with fail
      go_returns
      exact ⟨by rw [HE.out]; rfl, HB.out.2⟩
set_option maxRecDepth 100000 in
set_option maxHeartbeats 4000000 in
theorem lookup1_any (g : Nat) (u : Ru) (m h p b : List UInt8) (x : Value) (L : List Hd) (w : World) (hq : BQ w g m h p x b) (hx : HV w x L) (hL : L.length ≤ 1000000) (hu : UV w u) :
    Calls Try.prog 34 #[.agg #[.int .i64 u.rank, .slice u.xa u.xn u.xc, .string (bs u.tg), .int .i64 u.ap, .int .i64 u.st, .int .i64 u.dp, .int .i64 u.dt, .int .i64 u.mp, .string (bs u.mi), .int .i64 u.sm], .pointer (some ⟨g, 0, none⟩)] w fun e w' => e = .returned (.bool (allE u.ps m h p L)) ∧ Below w.heap.size w w' := by
  have hb1 := enew w (.cells #[.int .i64 u.rank, .slice u.xa u.xn u.xc, .string (bs u.tg), .int .i64 u.ap, .int .i64 u.st, .int .i64 u.dp, .int .i64 u.dt, .int .i64 u.mp, .string (bs u.mi), .int .i64 u.sm] 49)
  have hr0 := BR.new w u
  have hq0 := hq.up hb1
  have HC := hid (fun w2 (h1 : UV w2 u) (h2 : HV w2 x L) => hits_any u m h p b x L w2 h1 h2 hL (hid rfl))
  have HU := hid (hu.up hb1)
  have HX := hid (hx.up hb1)
  have HB := hid hb1
  clear hq hx hu hb1
  go_enter Try.func34, Try.ntmps34
  go_upto_region 1 with (fail)
  generalize w.alloc (.cells #[.int .i64 u.rank, .slice u.xa u.xn u.xc, .string (bs u.tg), .int .i64 u.ap, .int .i64 u.st, .int .i64 u.dp, .int .i64 u.dt, .int .i64 u.mp, .string (bs u.mi), .int .i64 u.sm] 49) = v0 at *
  obtain ⟨r0, r1, r2, r3, r4, r5, r6, r7, r8, r9⟩ := hr0.cells
  obtain ⟨q0, q1, q2, q3, q4⟩ := hq0.cells
  go_wp2_with fail
  refine (HC.out _ HU.out HX.out).mono ?_
  rintro e w1 ⟨rfl, hb2⟩
  go_wp2_with fail
  go_returns
  exact ⟨rfl, estep HB.out hb2⟩
set_option maxRecDepth 100000 in
set_option maxHeartbeats 4000000 in
theorem lookup_any (v : Int) (y : Value) (f : List UInt8) (U : List Ru) (m h p b : List UInt8) (x : Value) (L : List Hd) (w : World) (hy : RV w y U) (hx : HV w x L) (hL : L.length ≤ 1000000) {z : Int} (H : Hid (lkI (fun u => allE u.ps m h p L) U = z)) :
    Calls Try.prog 18 #[.agg #[.int .i64 v, y, .string (bs f)], .agg #[.string (bs m), .string (bs h), .string (bs p), x, .string (bs b)]] w fun e w' => e = .returned (.int .i64 z) ∧ Below w.heap.size w w' := by
  have hmf : ∀ (fn : Fn) (first cap : Array Value) (w : World), (Instr.makeFunc fn first cap).run Try.prog w = .ok (.func fn first cap) w := fun _ _ _ _ => rfl
  have hb1 := enew w (.cells #[.int .i64 v, y, .string (bs f)] 30)
  have hb2 := enew (w.alloc (.cells #[.int .i64 v, y, .string (bs f)] 30)) (.cells #[.string (bs m), .string (bs h), .string (bs p), x, .string (bs b)] 39)
  have hr0 := (BT.new w v y f).up hb2
  have hq0 := BQ.new (w.alloc (.cells #[.int .i64 v, y, .string (bs f)] 30)) m h p x b
  rw [World.size_alloc] at hq0
  have hb0 := estep hb1 hb2
  have HY := hid (hy.up hb0)
  have HX := hid (hx.up hb0)
  have HB := hid hb0
  clear hy hx hb0 hb1 hb2
  go_enter Try.func18, Try.ntmps18
  go_upto_region 1 with (fail)
  generalize (w.alloc (.cells #[.int .i64 v, y, .string (bs f)] 30)).alloc (.cells #[.string (bs m), .string (bs h), .string (bs p), x, .string (bs b)] 39) = v0 at *
  obtain ⟨k0, k1, k2⟩ := hr0.cells
  obtain ⟨A, c, rfl, hgx, hrp, -, -, hl9⟩ := id HY.out
  have HFB : Hid (FB v0 (.func (.func 34) #[] #[.pointer (some ⟨w.heap.size + 1, 0, none⟩)]) U (fun u => allE u.ps m h p L)) := hid ⟨_, _, rfl, fun _ _ => by kernel_rfl, fun u hu w2 h2 => lookup1_any (w.heap.size + 1) u m h p b x L w2 (hq0.up h2) (HX.out.up h2) hL (UV.up (hrp u hu) h2)⟩
  have HI := hid (rindexFunc_any A c _ U _ v0 hgx HFB.out hl9 H)
  clear hgx hrp
  go_wp2_with fail
  refine HI.out.mono ?_
  rintro e w1 ⟨rfl, hb2⟩
  go_wp2_with fail
  go_returns
  exact ⟨rfl, estep HB.out hb2⟩
set_option maxRecDepth 100000 in
set_option maxHeartbeats 8000000 in
theorem rlookup_any (v : Int) (y : Value) (f : List UInt8) (U : List Ru) (m h p b : List UInt8) (x : Value) (L : List Hd) (w : World) (hy : RV w y U) (hS : ∀ u ∈ U, smallP u.ps) (hpl : p.length ≤ 140737488351232) (hx : HV w x L) (hL : L.length ≤ 1000000) {z : Int} (H : Hid (lkI (fun u => allE u.ps m h p L) U = z)) :
    Calls Try.prog 19 #[.agg #[.int .i64 v, y, .string (bs f)], .agg #[.string (bs m), .string (bs h), .string (bs p), x, .string (bs b)]] w fun e w' => e = .returned (.int .i64 z) ∧ Below w.heap.size w w' := by
  have hb1 := enew w (.cells #[.int .i64 v, y, .string (bs f)] 30)
  have hb2 := enew (w.alloc (.cells #[.int .i64 v, y, .string (bs f)] 30)) (.cells #[.string (bs m), .string (bs h), .string (bs p), x, .string (bs b)] 39)
  have hr0 := (BT.new w v y f).up hb2
  have hq0 := BQ.new (w.alloc (.cells #[.int .i64 v, y, .string (bs f)] 30)) m h p x b
  rw [World.size_alloc] at hq0
  have hb0 := estep hb1 hb2
  have HY := hid (hy.up hb0)
  have HX := hid (hx.up hb0)
  have HB := hid hb0
  have HC := hid (fun (u : Ru) (hu : u ∈ U) (w2 : World) (h1 : UV w2 u) (h2 : HV w2 x L) => rhits_any u m h p b x L w2 h1 (hS u hu) h2 hL hpl (hid rfl))
  obtain ⟨A, c, rfl, -, -, -, -, hl9⟩ := id hy
  clear hy hx hb0 hb1 hb2 hS hpl hL
  generalize hnU : U.length = n at *
  have HNU := hid hnU
  clear hnU
  go_enter Try.func19, Try.ntmps19
  go_upto_region 1 with (fail)
  generalize (w.alloc (.cells #[.int .i64 v, .slice A n c, .string (bs f)] 30)).alloc (.cells #[.string (bs m), .string (bs h), .string (bs p), x, .string (bs b)] 39) = v0 at *
  obtain ⟨A9, c9, e9, hgx, hrp, -⟩ := id HY.out
  injection e9 with e1 e2 e3
  subst e1 e3
  have H1 := hid (And.intro hgx hrp)
  clear e2 hgx hrp
  go_wp2_with fail
  go_loopg [5] n (fun g1 vi wr => ∃ i : Nat, vi = .int .i64 i ∧ i ≤ n ∧ n - i ≤ g1 ∧ Hid ((∀ (j : Nat) (u : Ru), j < i → U[j]? = some u → allE u.ps m h p L = false) ∧ Below v0.heap.size v0 wr))
  case atStart => exact ⟨0, rfl, by omega, by omega, hid ⟨fun j x hj => by omega, Below.refl _ _⟩⟩
  case round =>
    obtain ⟨i, rfl, hin, hgk, HW⟩ := hrel
    obtain ⟨k0, k1, k2⟩ := (hr0.up HW.out.2).cells
    by_cases hlt : i < n
    · have hltz : (i : Int) < (n : Int) := by omega
      have hltd : decide ((i : Int) < (n : Int)) = true := decide_eq_true hltz
      have hi0 : (0 : Int) ≤ (i : Int) := by omega
      have hiU : i < U.length := by have := HNU.out; omega
      obtain ⟨u, hu⟩ : ∃ u, U[i]? = some u := ⟨_, List.getElem?_eq_getElem hiU⟩
      have hum := List.mem_of_getElem? hu
      obtain ⟨bb, oo, rfl, -⟩ := H1.out.1.some_of hiU
      have HU := hid hu
      obtain ⟨r0, r1, r2, r3, r4, r5, r6, r7, r8, r9⟩ := rank_cell (H1.out.1.up HW.out.2) hu
      obtain ⟨q0, q1, q2, q3, q4⟩ := (hq0.up HW.out.2).cells
      obtain ⟨z1, hz1⟩ : ∃ z1, allE u.ps m h p L = z1 := ⟨_, rfl⟩
      have HZ := hid hz1
      have HCU := hid (fun (w2 : World) (hb : Below wr.heap.size wr w2) => HC.out u hum w2 (UV.up (H1.out.2 u hum) (estep HW.out.2 hb)) (HX.out.up (estep HW.out.2 hb)))
      rw [hz1] at HCU
      have K1 := BW.cell k1
      have R0 := BW.cell r0
      have R1 := BW.cell r1
      have R2 := BW.cell r2
      have R3 := BW.cell r3
      have R4 := BW.cell r4
      have R5 := BW.cell r5
      have R6 := BW.cell r6
      have R7 := BW.cell r7
      have R8 := BW.cell r8
      have R9 := BW.cell r9
      have Q0 := BW.cell q0
      have Q1 := BW.cell q1
      have Q2 := BW.cell q2
      have Q3 := BW.cell q3
      have Q4 := BW.cell q4
      clear r0 r1 r2 r3 r4 r5 r6 r7 r8 r9 q0 q1 q2 q3 q4 hz1 hu hum hiU
      go_upto_region 4 with (fail)
      clear k0 k1 k2
      refine wp_region_bw (by kernel_rfl) (by kernel_rfl) ?_
      repeat (go_big_quiet_step ((go_at_call 36; exact calls_bw (HCU.out _ (BW.h _)))))
      refine wpQuiet_nil ?_
      rintro _ ⟨pq, rfl⟩
      clear R0 R1 R2 R3 R4 R5 R6 R7 R8 R9 Q0 Q1 Q2 Q3 Q4 K1
      have HB1 := hid (estep HW.out.2 pq.h)
      cases z1
      · go_wp2_with fail
        go_roundg (n - (i + 1))
        case measure => omega
        case rel => exact ⟨i + 1, by go_num, by omega, by omega, hid ⟨none_up (hit := fun u => allE u.ps m h p L) HW.out.1 HU.out HZ.out, HB1.out⟩⟩
      · have HE := hid (show z = (i : Int) by rw [← H.out]; exact lkI_hit (hit := fun u => allE u.ps m h p L) HU.out HW.out.1 HZ.out)
        go_wp2_with fail
        go_returns
        exact ⟨by rw [HE.out]; rfl, estep HB.out HB1.out⟩
    · obtain rfl : i = n := by omega
      have hltd : decide ((i : Int) < (i : Int)) = false := by simp
      have HE := hid (show z = -1 by rw [← H.out]; exact lkI_miss (hit := fun u => allE u.ps m h p L) fun j x hj hx => HW.out.1 j x (by have := HNU.out; omega) hx)
      go_wp2_with fail
      go_returns
      exact ⟨by rw [HE.out]; rfl, estep HB.out HW.out.2⟩
end Go.Proofs.Ytingjembjpckcaa
