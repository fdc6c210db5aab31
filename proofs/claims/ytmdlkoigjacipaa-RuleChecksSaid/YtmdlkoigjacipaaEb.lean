import Derived.Test.YtmdlkoigjacipaaEa
import Derived.Laws.EntriesVeiled
namespace Go.Proofs.Ytmdlkoigjacipaa
set_option linter.unusedVariables false
set_option linter.unusedSimpArgs false
open Go.RowKit Go.Joins

def pdv (k : Int) (n v : List UInt8) : Value := .agg #[.int .i64 k, .string (bs n), .string (bs v)]
/-- What a function does that gives a new request what a predicate asks for. -/
def GiveC (G : Nat) (k : Int) (n v : List UInt8) (m' h' p' : List UInt8) (L' : List Hd) : Prop :=
  ∀ (w : World) (g : Nat), BQ w g [65] [97] [47] (.slice none 0 0) [] →
    Calls Try.prog G #[.pointer (some ⟨g, 0, none⟩), .agg #[.int .i64 k, .string (bs n), .string (bs v)]] w fun e w' => e = .returned (.tuple #[]) ∧ ∃ x, BQ w' g m' h' p' x [] ∧ HV w' x L' ∧ Below g w w'
set_option maxHeartbeats 1600000 in
theorem giveMethod_any (k : Int) (n v : List UInt8) : GiveC 50 k n v v [97] [47] [] := by
  intro w g hq
  have hb0 := enew w (.cells #[.int .i64 k, .string (bs n), .string (bs v)] 23)
  have hp0 := BP.new w k n v
  have hq0 := hq.up hb0
  have hgl := Bk.lt hq
  go_enter Try.func50, Try.ntmps50
  go_upto_region 1 with (fail)
  generalize w.alloc (.cells #[.int .i64 k, .string (bs n), .string (bs v)] 23) = v0 at *
  obtain ⟨k0, k1, k2⟩ := hp0.cells
  obtain ⟨q0, q1, q2, q3, q4⟩ := hq0.cells
  have f0 := Bk.frozen hq0 0
  have HQ := hid hq0
  have HB := hid hb0
  clear hq0 hb0 hp0 hq
  go_wp2_with fail
  go_end0
  exact ⟨rfl, _, Bk.set_ HQ.out 0 (.string (bs v)), ⟨none, 0, rfl, fun j hj => absurd hj (by simp)⟩, (HB.out.mono (Nat.le_of_lt hgl)).setCell (Nat.le_refl g) _⟩
set_option maxHeartbeats 1600000 in
theorem giveHost_any (k : Int) (n v : List UInt8) : GiveC 52 k n v [65] v [47] [] := by
  intro w g hq
  have hb0 := enew w (.cells #[.int .i64 k, .string (bs n), .string (bs v)] 23)
  have hp0 := BP.new w k n v
  have hq0 := hq.up hb0
  have hgl := Bk.lt hq
  go_enter Try.func52, Try.ntmps52
  go_upto_region 1 with (fail)
  generalize w.alloc (.cells #[.int .i64 k, .string (bs n), .string (bs v)] 23) = v0 at *
  obtain ⟨k0, k1, k2⟩ := hp0.cells
  obtain ⟨q0, q1, q2, q3, q4⟩ := hq0.cells
  have f1 := Bk.frozen hq0 1
  have HQ := hid hq0
  have HB := hid hb0
  clear hq0 hb0 hp0 hq
  go_wp2_with fail
  go_end0
  exact ⟨rfl, _, Bk.set_ HQ.out 1 (.string (bs v)), ⟨none, 0, rfl, fun j hj => absurd hj (by simp)⟩, (HB.out.mono (Nat.le_of_lt hgl)).setCell (Nat.le_refl g) _⟩
set_option maxHeartbeats 1600000 in
theorem givePath_any (k : Int) (n v : List UInt8) : GiveC 54 k n v [65] [97] v [] := by
  intro w g hq
  have hb0 := enew w (.cells #[.int .i64 k, .string (bs n), .string (bs v)] 23)
  have hp0 := BP.new w k n v
  have hq0 := hq.up hb0
  have hgl := Bk.lt hq
  go_enter Try.func54, Try.ntmps54
  go_upto_region 1 with (fail)
  generalize w.alloc (.cells #[.int .i64 k, .string (bs n), .string (bs v)] 23) = v0 at *
  obtain ⟨k0, k1, k2⟩ := hp0.cells
  obtain ⟨q0, q1, q2, q3, q4⟩ := hq0.cells
  have f2 := Bk.frozen hq0 2
  have HQ := hid hq0
  have HB := hid hb0
  clear hq0 hb0 hp0 hq
  go_wp2_with fail
  go_end0
  exact ⟨rfl, _, Bk.set_ HQ.out 2 (.string (bs v)), ⟨none, 0, rfl, fun j hj => absurd hj (by simp)⟩, (HB.out.mono (Nat.le_of_lt hgl)).setCell (Nat.le_refl g) _⟩
theorem HReads.same {w w' : World} {N : Nat → Prop} {A : Option Addr} {L : List Hd} (h : HReads w N A L) (hs : ∀ b, N b → w'.heap[b]? = w.heap[b]?) : HReads w' N A L := by
  intro k hk
  obtain ⟨b, o, e, h1, c0, c1⟩ := h k hk
  have hx : ∀ i, w'.cell? ⟨b, i, none⟩ = w.cell? ⟨b, i, none⟩ := fun i => World.cell?_of_block (hs b h1)
  exact ⟨b, o, e, h1, (hx _).trans c0, (hx _).trans c1⟩
theorem add_one (n v : List UInt8) (w : World) :
    Calls Try.prog 71 #[.slice none 0 0, .string (bs n), .string (bs v)] w fun e w' => ∃ A c, e = .returned (.slice A 1 c) ∧ HReads w' (fun b => w.heap.size ≤ b ∧ b < w'.heap.size) A [(n, v)] ∧ Below w.heap.size w w' :=
  (hadd_any none 0 [] n v w (fun j hj => absurd hj (by simp)) (fun _ => rfl) (by simp)).mono fun e w' ⟨r, h1, h2, h3⟩ => by
    obtain ⟨A, c, rfl, h4⟩ := HB.reads h2
    exact ⟨A, c, h1, h4, h3⟩
set_option maxRecDepth 100000 in
set_option maxHeartbeats 4000000 in
theorem giveHead_any (k : Int) (n v : List UInt8) : GiveC 57 k n v [65] [97] [47] [(n, v)] := by
  intro w g hq
  have hb0 := enew w (.cells #[.int .i64 k, .string (bs n), .string (bs v)] 23)
  have hp0 := BP.new w k n v
  have hq0 := hq.up hb0
  have hgl := Bk.lt hq
  have HADD := hid (fun w2 => add_one n v w2)
  go_enter Try.func57, Try.ntmps57
  go_upto_region 1 with (fail)
  generalize w.alloc (.cells #[.int .i64 k, .string (bs n), .string (bs v)] 23) = v0 at *
  obtain ⟨k0, k1, k2⟩ := hp0.cells
  obtain ⟨q0, q1, q2, q3, q4⟩ := hq0.cells
  have f3 := Bk.frozen hq0 3
  have hgl2 := Bk.lt hq0
  have HQ := hid hq0
  have HB := hid hb0
  clear hq0 hb0 hp0 hq
  go_region_with (go_at_call 71; refine (HADD.out _).mono ?_; rintro e w9 ⟨A, c, rfl, hr, hb9⟩; have z3 : w9.cell? ⟨g, 3, none⟩ = some (.slice none 0 0) := (hb9.cell (p := ⟨g, 3, none⟩) hgl2).trans q3; have y3 : w9.frozen? ⟨g, 3, none⟩ = false := (hb9.frozen (p := ⟨g, 3, none⟩) hgl2).trans f3)
  all_goals
    have hb9 : Below v0.heap.size v0 w9 := (Below.refl _ v0).drew.trans hb9
    go_wp2_with fail
    go_end0
    refine ⟨rfl, .slice A 1 c, Bk.set_ (Bk.up HQ.out hb9) 3 _, ⟨A, c, rfl, ((hr.same fun b hb => Below.heap_setCell _ _ _ b (by have h1 : v0.heap.size ≤ b := hb.1; show b ≠ g; omega)).imp fun b hb => by show b < _; rw [World.size_setCell]; exact hb.2)⟩, ?_⟩
    exact ((HB.out.mono (Nat.le_of_lt hgl)).trans (hb9.mono (Nat.le_of_lt hgl2))).setCell (Nat.le_refl g) _

/-- Whether one has what is asked for. -/
def HasC (H : Nat) (k : Int) : Prop :=
  (∀ args w, (callFunc H args).run Try.prog w = .ok (.enter H args) w) ∧ ∀ (m h p b : List UInt8) (x : Value) (L : List Hd) (n v : List UInt8) (w : World), HV w x L → L.length ≤ 1000000 →
    Calls Try.prog H #[.agg #[.string (bs m), .string (bs h), .string (bs p), x, .string (bs b)], .agg #[.int .i64 k, .string (bs n), .string (bs v)]] w fun e w' => e = .returned (.bool (mE k n v m h p L)) ∧ Below w.heap.size w w'
def giveS (k : Int) (n v : List UInt8) : List UInt8 × List UInt8 × List UInt8 × List Hd :=
  if k = 1 then (v, [97], [47], []) else if k = 2 then ([65], v, [47], []) else if k = 3 ∨ k = 4 then ([65], [97], v, []) else ([65], [97], [47], [(n, v)])
def ndK (k : Int) : Bool := decide (k = 5 ∨ k = 6)
def vlK (k : Int) : Bool := decide (k ≠ 6)
def GiveD (G : Nat) (k : Int) : Prop :=
  (∀ args w, (callFunc G args).run Try.prog w = .ok (.enter G args) w) ∧ ∀ n v, GiveC G k n v (giveS k n v).1 (giveS k n v).2.1 (giveS k n v).2.2.1 (giveS k n v).2.2.2
theorem kind1_has : HasC 51 1 := ⟨fun _ _ => by kernel_rfl, fun m h p b x L n v w hx hl => hasMethod_any m h p b x 1 n v w⟩
theorem kind1_give : GiveD 50 1 := ⟨fun _ _ => by kernel_rfl, fun n v => giveMethod_any 1 n v⟩
set_option maxHeartbeats 1600000 in
theorem kind1_any (w : World) :
    Calls Try.prog 31 #[.int .i64 1] w fun e w' => e = .returned (.tuple #[.agg #[.bool false, .bool true, .func (.func 50) #[] #[], .func (.func 51) #[] #[]], .bool true]) ∧ Below w.heap.size w w' := by
  have hb0 := enew w (.cells #[.bool false, .bool true, .func (.func 50) #[] #[], .func (.func 51) #[] #[]] 57)
  go_enter Try.func31, Try.ntmps31
  go_wp2_with fail
  go_returns
  exact ⟨rfl, hb0⟩
theorem kind2_has : HasC 53 2 := ⟨fun _ _ => by kernel_rfl, fun m h p b x L n v w hx hl => hasHost_any m h p b x 2 n v w⟩
theorem kind2_give : GiveD 52 2 := ⟨fun _ _ => by kernel_rfl, fun n v => giveHost_any 2 n v⟩
set_option maxHeartbeats 1600000 in
theorem kind2_any (w : World) :
    Calls Try.prog 31 #[.int .i64 2] w fun e w' => e = .returned (.tuple #[.agg #[.bool false, .bool true, .func (.func 52) #[] #[], .func (.func 53) #[] #[]], .bool true]) ∧ Below w.heap.size w w' := by
  have hb0 := enew w (.cells #[.bool false, .bool true, .func (.func 52) #[] #[], .func (.func 53) #[] #[]] 57)
  go_enter Try.func31, Try.ntmps31
  go_wp2_with fail
  go_returns
  exact ⟨rfl, hb0⟩
theorem kind3_has : HasC 55 3 := ⟨fun _ _ => by kernel_rfl, fun m h p b x L n v w hx hl => hasPath_any m h p b x 3 n v w⟩
theorem kind3_give : GiveD 54 3 := ⟨fun _ _ => by kernel_rfl, fun n v => givePath_any 3 n v⟩
set_option maxHeartbeats 1600000 in
theorem kind3_any (w : World) :
    Calls Try.prog 31 #[.int .i64 3] w fun e w' => e = .returned (.tuple #[.agg #[.bool false, .bool true, .func (.func 54) #[] #[], .func (.func 55) #[] #[]], .bool true]) ∧ Below w.heap.size w w' := by
  have hb0 := enew w (.cells #[.bool false, .bool true, .func (.func 54) #[] #[], .func (.func 55) #[] #[]] 57)
  go_enter Try.func31, Try.ntmps31
  go_wp2_with fail
  go_returns
  exact ⟨rfl, hb0⟩
theorem kind4_has : HasC 56 4 := ⟨fun _ _ => by kernel_rfl, fun m h p b x L n v w hx hl => hasPrefix_any m h p b x 4 n v w⟩
theorem kind4_give : GiveD 54 4 := ⟨fun _ _ => by kernel_rfl, fun n v => givePath_any 4 n v⟩
set_option maxHeartbeats 1600000 in
theorem kind4_any (w : World) :
    Calls Try.prog 31 #[.int .i64 4] w fun e w' => e = .returned (.tuple #[.agg #[.bool false, .bool true, .func (.func 54) #[] #[], .func (.func 56) #[] #[]], .bool true]) ∧ Below w.heap.size w w' := by
  have hb0 := enew w (.cells #[.bool false, .bool true, .func (.func 54) #[] #[], .func (.func 56) #[] #[]] 57)
  go_enter Try.func31, Try.ntmps31
  go_wp2_with fail
  go_returns
  exact ⟨rfl, hb0⟩
theorem kind5_has : HasC 58 5 := ⟨fun _ _ => by kernel_rfl, fun m h p b x L n v w hx hl => hasHead_any m h p b x L 5 n v w hx hl⟩
theorem kind5_give : GiveD 57 5 := ⟨fun _ _ => by kernel_rfl, fun n v => giveHead_any 5 n v⟩
set_option maxHeartbeats 1600000 in
theorem kind5_any (w : World) :
    Calls Try.prog 31 #[.int .i64 5] w fun e w' => e = .returned (.tuple #[.agg #[.bool true, .bool true, .func (.func 57) #[] #[], .func (.func 58) #[] #[]], .bool true]) ∧ Below w.heap.size w w' := by
  have hb0 := enew w (.cells #[.bool true, .bool true, .func (.func 57) #[] #[], .func (.func 58) #[] #[]] 57)
  go_enter Try.func31, Try.ntmps31
  go_wp2_with fail
  go_returns
  exact ⟨rfl, hb0⟩
theorem kind6_has : HasC 59 6 := ⟨fun _ _ => by kernel_rfl, fun m h p b x L n v w hx hl => hasName_any m h p b x L 6 n v w hx hl⟩
theorem kind6_give : GiveD 57 6 := ⟨fun _ _ => by kernel_rfl, fun n v => giveHead_any 6 n v⟩
set_option maxHeartbeats 1600000 in
theorem kind6_any (w : World) :
    Calls Try.prog 31 #[.int .i64 6] w fun e w' => e = .returned (.tuple #[.agg #[.bool true, .bool false, .func (.func 57) #[] #[], .func (.func 59) #[] #[]], .bool true]) ∧ Below w.heap.size w w' := by
  have hb0 := enew w (.cells #[.bool true, .bool false, .func (.func 57) #[] #[], .func (.func 59) #[] #[]] 57)
  go_enter Try.func31, Try.ntmps31
  go_wp2_with fail
  go_returns
  exact ⟨rfl, hb0⟩
end Go.Proofs.Ytmdlkoigjacipaa
