/- opens: where a number stands, both; Find, both. -/
import Derived.Test.YtnbkpannhcamjaaAc
import Derived.BigQuiet
namespace Go.Proofs.Ytnbkpannhcamjaa
set_option linter.unusedVariables false
set_option linter.unusedSimpArgs false
open Go.RowKit Go.Joins

def opI (l : List Opn) (no : Int) : Int := if opAt l no < l.length then (opAt l no : Int) else -1
theorem opI_hit {l : List Opn} {no : Int} {k : Nat} {o : Opn} (hu : l[k]? = some o) (hn : ∀ (j : Nat) (x : Opn), j < k → l[j]? = some x → x.1 ≠ no) (hp : o.1 = no) : opI l no = (k : Int) := by
  obtain ⟨hk, rfl⟩ := List.getElem?_eq_some_iff.1 hu
  have := opAt_eq hk hp (fun j hj => hn j _ hj (List.getElem?_eq_getElem (by omega)))
  rw [opI, this, if_pos hk]
theorem opI_miss {l : List Opn} {no : Int} (hn : ∀ (j : Nat) (x : Opn), j < l.length → l[j]? = some x → x.1 ≠ no) : opI l no = -1 := by
  have := opAt_miss (l := l) (no := no) (fun o ho => by
    obtain ⟨j, hj, rfl⟩ := List.getElem_of_mem ho
    exact hn j _ hj (List.getElem?_eq_getElem hj))
  rw [opI, this, if_neg (by omega)]
theorem opI_up {l : List Opn} {no : Int} {i : Nat} {u : Opn} (h : ∀ (j : Nat) (x : Opn), j < i → l[j]? = some x → x.1 ≠ no) (hu : l[i]? = some u) (hh : u.1 ≠ no) : ∀ (j : Nat) (x : Opn), j < i + 1 → l[j]? = some x → x.1 ≠ no := fun j x hj hx => by
  by_cases e : j = i
  · subst e; rw [hu] at hx; cases hx; exact hh
  · exact h j x (by omega) hx
/-- The cells of one row. -/
theorem op_cells {w : World} {N : Nat → Prop} {A : Option Addr} {L : List Opn} (h : GX encO 12 w N A L) {i : Nat} {o : Opn} (hu : L[i]? = some o) : ∃ b p, A = some ⟨b, p, none⟩ ∧ N b ∧
    w.cell? ⟨b, p + i * 12, none⟩ = some (.int .i64 o.1) ∧ w.cell? ⟨b, p + i * 12 + 1, none⟩ = some (.int .u64 (o.2.hi : Int)) ∧ w.cell? ⟨b, p + i * 12 + 2, none⟩ = some (.int .u64 (o.2.lo : Int)) ∧ w.cell? ⟨b, p + i * 12 + 3, none⟩ = some (.int .u64 (o.2.id : Int)) ∧ w.cell? ⟨b, p + i * 12 + 4, none⟩ = some (.int .u64 (o.2.up : Int)) ∧ w.cell? ⟨b, p + i * 12 + 5, none⟩ = some (.string (bs o.2.name)) ∧
    w.cell? ⟨b, p + i * 12 + 6, none⟩ = some (.int .i64 o.2.status) ∧ w.cell? ⟨b, p + i * 12 + 7, none⟩ = some (.int .i64 o.2.seq) ∧ w.cell? ⟨b, p + i * 12 + 8, none⟩ = some (.int .i64 o.2.kids) ∧ w.cell? ⟨b, p + i * 12 + 9, none⟩ = some (.bool o.2.shade) ∧ w.cell? ⟨b, p + i * 12 + 10, none⟩ = some (.int .i64 o.2.start) ∧ w.cell? ⟨b, p + i * 12 + 11, none⟩ = some (.int .i64 o.2.fin) := by
  obtain ⟨hi, rfl⟩ := List.getElem?_eq_some_iff.1 hu
  obtain ⟨b, p, e, h1, h2⟩ := h i hi
  exact ⟨b, p, e, h1, h2 0 (by omega), h2 1 (by omega), h2 2 (by omega), h2 3 (by omega), h2 4 (by omega), h2 5 (by omega), h2 6 (by omega), h2 7 (by omega), h2 8 (by omega), h2 9 (by omega), h2 10 (by omega), h2 11 (by omega)⟩
/-- What a function value says of an open span. -/
def FO (w0 : World) (fv : Value) (no : Int) : Prop :=
  ∃ (F : Nat) (c : Value), fv = .func (.func F) #[] #[c] ∧ (∀ args w, (callFunc F args).run Try.prog w = .ok (.enter F args) w) ∧
    ∀ (o : Opn) w, Below w0.heap.size w0 w → Calls Try.prog F #[.agg #[.int .i64 o.1, .int .u64 (o.2.hi : Int), .int .u64 (o.2.lo : Int), .int .u64 (o.2.id : Int), .int .u64 (o.2.up : Int), .string (bs o.2.name), .int .i64 o.2.status, .int .i64 o.2.seq, .int .i64 o.2.kids, .bool o.2.shade, .int .i64 o.2.start, .int .i64 o.2.fin], c] w fun e w' => e = .returned (.bool (decide (o.1 = no))) ∧ Below w.heap.size w w'
set_option maxRecDepth 100000 in
set_option maxHeartbeats 4000000 in
theorem opIndex_any (A : Option Addr) (c : Nat) (fv : Value) (U : List Opn) (no : Int) {n : Nat} (hnU : U.length = n) (w : World) (hU : GX encO 12 w (· < w.heap.size) A U) (hF : FO w fv no) (hl : n ≤ 1000000) {z : Int} (H : Hid (opI U no = z)) :
    Calls Try.prog 17 #[.slice A n c, fv] w fun e w' => e = .returned (.int .i64 z) ∧ Below w.heap.size w w' := by
  obtain ⟨F, cv, rfl, eg, hF⟩ := hF
  have H0 := hid hU
  have HF := hid hF
  have HNU := hid hnU
  clear hU hF hnU
  go_enter Try.func17, Try.ntmps17
  go_wp2_with fail
  go_loopg [8] n (fun g1 vi wr => ∃ i : Nat, vi = .int .i64 i ∧ i ≤ n ∧ n - i ≤ g1 ∧ Hid ((∀ (j : Nat) (x : Opn), j < i → U[j]? = some x → x.1 ≠ no) ∧ Below w.heap.size w wr))
  case atStart => exact ⟨0, rfl, by omega, by omega, hid ⟨fun j x hj => by omega, Below.refl _ _⟩⟩
  case round =>
    obtain ⟨i, rfl, hin, hgk, HBl⟩ := hrel
    by_cases hlt : i < n
    · have hltz : (i : Int) < (n : Int) := by omega
      have hltd : decide ((i : Int) < (n : Int)) = true := decide_eq_true hltz
      have hi0 : (0 : Int) ≤ (i : Int) := by omega
      have hiU : i < U.length := by have := HNU.out; omega
      obtain ⟨u, hu⟩ : ∃ u, U[i]? = some u := ⟨_, List.getElem?_eq_getElem hiU⟩
      have HU := hid hu
      obtain ⟨bb, oo, rfl, -, r0, r1, r2, r3, r4, r5, r6, r7, r8, r9, r10, r11⟩ := op_cells (H0.out.up HBl.out.2) hu
      obtain ⟨z1, hz1⟩ : ∃ z1, decide (u.1 = no) = z1 := ⟨_, rfl⟩
      have HZ := hid hz1
      have HC := hid (HF.out u wr HBl.out.2)
      rw [hz1] at HC
      clear hz1 hu hiU
      go_wp2_with fail
      refine HC.out.mono ?_
      rintro e w1 ⟨rfl, hb1⟩
      have HB1 := hid (estep HBl.out.2 hb1)
      clear hb1 r0 r1 r2 r3 r4 r5 r6 r7 r8 r9 r10 r11
      cases z1
      · go_wp2_with fail
        go_roundg (n - (i + 1))
        case measure => omega
        case rel => exact ⟨i + 1, by go_num, by omega, by omega, hid ⟨opI_up HBl.out.1 HU.out (of_decide_eq_false HZ.out), HB1.out⟩⟩
      · have HE := hid (show z = (i : Int) by rw [← H.out]; exact opI_hit HU.out HBl.out.1 (of_decide_eq_true HZ.out))
        go_wp2_with fail
        go_returns
        exact ⟨by rw [HE.out]; rfl, HB1.out⟩
    · obtain rfl : i = n := by omega
      have hltd : decide ((i : Int) < (i : Int)) = false := by simp
      have HE := hid (show z = -1 by rw [← H.out]; exact opI_miss fun j x hj hx => HBl.out.1 j x (by have := HNU.out; omega) hx)
      go_wp2_with fail
      go_returns
      exact ⟨by rw [HE.out]; rfl, HBl.out.2⟩
set_option maxRecDepth 100000 in
set_option maxHeartbeats 4000000 in
theorem place1_any (g : Nat) (no n : Int) (o : Opn) (w : World) (hn : o.1 = n) (hq : Bk w g 3 #[.int .i64 no]) :
    Calls Try.prog 18 #[.agg #[.int .i64 n, .int .u64 (o.2.hi : Int), .int .u64 (o.2.lo : Int), .int .u64 (o.2.id : Int), .int .u64 (o.2.up : Int), .string (bs o.2.name), .int .i64 o.2.status, .int .i64 o.2.seq, .int .i64 o.2.kids, .bool o.2.shade, .int .i64 o.2.start, .int .i64 o.2.fin], .pointer (some ⟨g, 0, none⟩)] w fun e w' => e = .returned (.bool (decide (n = no))) ∧ Below w.heap.size w w' := by
  have hb1 := enew w (.cells #[.int .i64 n, .int .u64 (o.2.hi : Int), .int .u64 (o.2.lo : Int), .int .u64 (o.2.id : Int), .int .u64 (o.2.up : Int), .string (bs o.2.name), .int .i64 o.2.status, .int .i64 o.2.seq, .int .i64 o.2.kids, .bool o.2.shade, .int .i64 o.2.start, .int .i64 o.2.fin] 44)
  have r0 := Bk.cell (Bk.new w 44 #[.int .i64 n, .int .u64 (o.2.hi : Int), .int .u64 (o.2.lo : Int), .int .u64 (o.2.id : Int), .int .u64 (o.2.up : Int), .string (bs o.2.name), .int .i64 o.2.status, .int .i64 o.2.seq, .int .i64 o.2.kids, .bool o.2.shade, .int .i64 o.2.start, .int .i64 o.2.fin]) 0
  have q0 := Bk.cell (Bk.up hq hb1) 0
  have hd : (n == no) = decide (n = no) := rfl
  clear hq hn
  go_enter Try.func18, Try.ntmps18
  go_upto_region 1 with (fail)
  generalize w.alloc (.cells #[.int .i64 n, .int .u64 (o.2.hi : Int), .int .u64 (o.2.lo : Int), .int .u64 (o.2.id : Int), .int .u64 (o.2.up : Int), .string (bs o.2.name), .int .i64 o.2.status, .int .i64 o.2.seq, .int .i64 o.2.kids, .bool o.2.shade, .int .i64 o.2.start, .int .i64 o.2.fin] 44) = v0 at *
  have r0' : v0.cell? ⟨w.heap.size, 0, none⟩ = some (.int .i64 n) := r0
  have q0' : v0.cell? ⟨g, 0, none⟩ = some (.int .i64 no) := q0
  clear r0 q0
  go_wp2_with fail
  go_returns
  exact ⟨rfl, hb1⟩
set_option maxRecDepth 100000 in
set_option maxHeartbeats 4000000 in
theorem place_any (v : Value) (L : List Opn) (no : Int) (w : World) (h : OV w v L) (hl : L.length ≤ 1000000) {z : Int} (H : Hid (opI L no = z)) :
    Calls Try.prog 14 #[v, .int .i64 no] w fun e w' => e = .returned (.int .i64 z) ∧ Below w.heap.size w w' := by
  have hmf : ∀ (fn : Fn) (first cap : Array Value) (w : World), (Instr.makeFunc fn first cap).run Try.prog w = .ok (.func fn first cap) w := fun _ _ _ _ => rfl
  have hb1 := enew w (.cells #[.int .i64 no] 3)
  have hq := Bk.new w 3 #[.int .i64 no]
  obtain ⟨A, c, rfl, hgx, -, -, -⟩ := h.up hb1
  go_enter Try.func14, Try.ntmps14
  go_upto_region 1 with (fail)
  generalize w.alloc (.cells #[.int .i64 no] 3) = v0 at *
  have HFB : Hid (FO v0 (.func (.func 18) #[] #[.pointer (some ⟨w.heap.size, 0, none⟩)]) no) := hid ⟨_, _, rfl, fun _ _ => by kernel_rfl, fun u w2 h2 => place1_any w.heap.size no u.1 u w2 rfl (hq.up h2)⟩
  have HI := hid (opIndex_any A c _ L no rfl v0 hgx HFB.out hl H)
  have HBl := hid hb1
  clear hgx hq hb1
  go_wp2_with fail
  refine HI.out.mono ?_
  rintro e w1 ⟨rfl, hb2⟩
  go_wp2_with fail
  go_returns
  exact ⟨rfl, estep HBl.out hb2⟩
set_option maxRecDepth 100000 in
set_option maxHeartbeats 4000000 in
theorem opat_any (v : Value) (L : List Opn) (no : Int) (w : World) (h : OV w v L) (hl : L.length ≤ 1000000) {z : Int} (H : Hid (opI L no = z)) :
    Calls Try.prog 15 #[v, .int .i64 no] w fun e w' => e = .returned (.int .i64 z) ∧ Below w.heap.size w w' := by
  obtain ⟨A, c, rfl, hgx, -, -, -⟩ := h
  obtain ⟨n, hnU⟩ : ∃ n, L.length = n := ⟨_, rfl⟩
  rw [hnU] at hl ⊢
  have H0 := hid hgx
  have HNU := hid hnU
  clear hgx hnU
  go_enter Try.func15, Try.ntmps15
  go_wp2_with fail
  go_loopw [5] (fun vi wr => ∃ i : Nat, i ≤ n ∧ vi = .int .i64 i ∧ Hid ((∀ (j : Nat) (x : Opn), j < i → L[j]? = some x → x.1 ≠ no) ∧ Below w.heap.size w wr)) (fun i _ => n - (intOf i).toNat)
  case atStart => exact ⟨0, by omega, rfl, hid ⟨fun j x hj => by omega, Below.refl _ _⟩⟩
  case round =>
    obtain ⟨i, hin, rfl, HBl⟩ := hrel
    by_cases hlt : i < n
    · have hltz : (i : Int) < (n : Int) := by omega
      have hltd : decide ((i : Int) < (n : Int)) = true := decide_eq_true hltz
      have hi0 : (0 : Int) ≤ (i : Int) := by omega
      have hiU : i < L.length := by have := HNU.out; omega
      obtain ⟨u, hu⟩ : ∃ u, L[i]? = some u := ⟨_, List.getElem?_eq_getElem hiU⟩
      have HU := hid hu
      obtain ⟨bb, oo, rfl, -, r0, -⟩ := op_cells (H0.out.up HBl.out.2) hu
      obtain ⟨m, hm⟩ : ∃ m, u.1 = m := ⟨_, rfl⟩
      rw [hm] at r0
      have HM := hid hm
      clear hm hu hiU
      by_cases hz : m = no
      · have hzd : (m == no) = true := by rw [hz]; simp
        have HE := hid (show z = (i : Int) by rw [← H.out]; exact opI_hit HU.out HBl.out.1 (HM.out.trans hz))
        go_wp2_with fail
        go_returns
        exact ⟨by rw [HE.out]; rfl, HBl.out.2⟩
      · have hzd : (m == no) = false := by simpa using hz
        have HN := hid (show u.1 ≠ no from fun e => hz (HM.out.symm.trans e))
        clear hz
        go_wp2_with fail
        go_roundw
        case rel => exact ⟨i + 1, by omega, by go_num, hid ⟨opI_up HBl.out.1 HU.out HN.out, HBl.out.2⟩⟩
        case measure => simp [intOf]; omega
    · obtain rfl : i = n := by omega
      have hltd : decide ((i : Int) < (i : Int)) = false := by simp
      have HE := hid (show z = -1 by rw [← H.out]; exact opI_miss fun j x hj hx => HBl.out.1 j x (by have := HNU.out; omega) hx)
      go_wp2_with fail
      go_returns
      exact ⟨by rw [HE.out]; rfl, HBl.out.2⟩
end Go.Proofs.Ytnbkpannhcamjaa
