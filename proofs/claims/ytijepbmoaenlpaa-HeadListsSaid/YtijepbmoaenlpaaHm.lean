import Derived.Test.YtijepbmoaenlpaaHl
import Derived.Deep.RegionHeld3
namespace Go.Proofs.Ytijepbmoaenlpaa
set_option linter.unusedVariables false
set_option linter.unusedSimpArgs false
open Go.RowKit Go.Joins

def L3 : List Hd := [([97], [49]), ([98], [50]), ([97], [51])]
/-- The list that is fixed lies at block g. -/
def K3 (w1 : World) (g : Nat) : Prop := HReads w1 (· < w1.heap.size) (some ⟨g, 0, none⟩) L3
theorem HReads.small {w : World} {N : Nat → Prop} {A : Option Addr} {L : List Hd} (h : HReads w N A L) : HReads w (· < w.heap.size) A L := by
  intro k hk
  obtain ⟨b, o, e, h1, h2, h3⟩ := h k hk
  exact ⟨b, o, e, lt_of_cell (a := ⟨b, o + k * 2, none⟩) h2, h2, h3⟩
theorem HReads.later {w w' : World} {A : Option Addr} {L : List Hd} (h : HReads w (· < w.heap.size) A L) (hb : Below w.heap.size w w') : HReads w' (· < w'.heap.size) A L := (h.below hb).small
theorem STexts.later {w w' : World} {A : Option Addr} {L : List (List UInt8)} (h : STexts w (· < w.heap.size) A L) (hb : Below w.heap.size w w') : STexts w' (· < w'.heap.size) A L := (h.below hb).small
theorem K3.later {w1 w : World} {g : Nat} (h : K3 w1 g) (hb : Below w1.heap.size w1 w) : K3 w g := HReads.later h hb
section
variable {w1 w : World} {g : Nat}
theorem k_name1 (w : World) : Calls Try.prog 22 #[.string (ByteArray.mk #[120, 45, 49])] w fun e w' => e = .returned (.bool true) ∧ w = w' := by
  have := hname_any [120, 45, 49] w (by simp)
  rwa [show nameB [120, 45, 49] = true from by decide] at this
theorem k_name2 (w : World) : Calls Try.prog 22 #[.string (ByteArray.mk #[88])] w fun e w' => e = .returned (.bool false) ∧ w = w' := by
  have := hname_any [88] w (by simp)
  rwa [show nameB [88] = false from by decide] at this
theorem k_value1 (w : World) : Calls Try.prog 24 #[.string (ByteArray.mk #[97, 32, 98])] w fun e w' => e = .returned (.bool true) ∧ w = w' := by
  have := hvalue_any [97, 32, 98] w (by simp)
  rwa [show valueB [97, 32, 98] = true from by decide] at this
theorem k_value2 (w : World) : Calls Try.prog 24 #[.string (ByteArray.mk #[32, 97])] w fun e w' => e = .returned (.bool false) ∧ w = w' := by
  have := hvalue_any [32, 97] w (by simp)
  rwa [show valueB [32, 97] = false from by decide] at this
theorem k_get (cap : Nat) (hK : K3 w1 g) (hb : Below w1.heap.size w1 w) : Calls Try.prog 28 #[.slice (some ⟨g, 0, none⟩) 3 cap, .string (ByteArray.mk #[97])] w fun e w' => e = .returned (.tuple #[.string (ByteArray.mk #[49]), .bool true]) ∧ Below w1.heap.size w1 w' := by
  have := hget_any (some ⟨g, 0, none⟩) cap L3 [97] w (hK.later hb) (by decide)
  rw [show getH L3 [97] = ([49], true) from by decide] at this
  exact this.mono fun e w' ⟨a, b⟩ => ⟨a, hb.trans (b.mono hb.size)⟩
theorem k_check (cap : Nat) (hK : K3 w1 g) (hb : Below w1.heap.size w1 w) : Calls Try.prog 26 #[.slice (some ⟨g, 0, none⟩) 3 cap] w fun e w' => e = .returned (.int .i64 0) ∧ Below w1.heap.size w1 w' := by
  have := hcheck_any (some ⟨g, 0, none⟩) cap L3 w (hK.later hb) (by decide) (by decide)
  rw [show checkS L3 = 0 from by decide] at this
  exact this.mono fun e w' ⟨a, b⟩ => ⟨a, hb.trans (b.mono hb.size)⟩
theorem k_all (cap : Nat) (hK : K3 w1 g) (hb : Below w1.heap.size w1 w) : Calls Try.prog 31 #[.slice (some ⟨g, 0, none⟩) 3 cap, .string (ByteArray.mk #[97])] w fun e w' => ∃ A c, e = .returned (.slice A 2 c) ∧ STexts w' (· < w'.heap.size) A [[49], [51]] ∧ Below w1.heap.size w1 w' ∧ Below w.heap.size w w' := by
  have := hall_any (some ⟨g, 0, none⟩) cap L3 [97] w (hK.later hb) (by decide)
  rw [show allS L3 [97] = [[49], [51]] from by decide] at this
  refine this.mono fun e w' ⟨v, a, b, c⟩ => ?_
  obtain ⟨A, c2, rfl, h⟩ := b.reads
  exact ⟨A, c2, a, h.imp (fun _ h => h.2), hb.trans (c.mono hb.size), c⟩
theorem k_set (cap : Nat) (hK : K3 w1 g) (hb : Below w1.heap.size w1 w) (hc : 3 ≤ cap ∧ cap ≤ 9223372036854775807) : Calls Try.prog 36 #[.slice (some ⟨g, 0, none⟩) 3 cap, .string (ByteArray.mk #[97]), .string (ByteArray.mk #[52])] w fun e w' => ∃ A c, e = .returned (.slice A 2 c) ∧ HReads w' (· < w'.heap.size) A [([97], [52]), ([98], [50])] ∧ Below w1.heap.size w1 w' ∧ Below w.heap.size w w' := by
  have := hset_any (some ⟨g, 0, none⟩) cap L3 [97] [52] w (hK.later hb) (fun h => by cases h) (by decide) hc.1 hc.2
  rw [show setH L3 [97] [52] = [([97], [52]), ([98], [50])] from by decide] at this
  refine this.mono fun e w' ⟨v, a, b, c⟩ => ?_
  obtain ⟨A, c2, rfl, h⟩ := b.reads
  exact ⟨A, c2, a, h.imp (fun _ h => h.2), hb.trans (c.mono hb.size), c⟩
theorem k_without (cap gn c2 : Nat) (hK : K3 w1 g) (hb : Below w1.heap.size w1 w) (h0 : w.cell? ⟨gn, 0, none⟩ = some (.string (bs [97])) ∧ w.cell? ⟨gn, 1, none⟩ = some (.string (bs [99]))) : Calls Try.prog 38 #[.slice (some ⟨g, 0, none⟩) 3 cap, .slice (some ⟨gn, 0, none⟩) 2 c2] w fun e w' => ∃ A c, e = .returned (.slice A 1 c) ∧ HReads w' (· < w'.heap.size) A [([98], [50])] ∧ Below w1.heap.size w1 w' ∧ Below w.heap.size w w' := by
  have hS : STexts w (fun _ => True) (some ⟨gn, 0, none⟩) [[97], [99]] := by
    intro k hk
    match k, hk with
    | 0, _ => exact ⟨_, rfl, trivial, by simpa [Addr.add] using h0.1⟩
    | 1, _ => exact ⟨_, rfl, trivial, by rw [Addr.add_lit]; exact h0.2⟩
  have := hwithout_any (some ⟨g, 0, none⟩) cap L3 (some ⟨gn, 0, none⟩) c2 [[97], [99]] w (hK.later hb) hS.small (by decide) (by simp)
  rw [show withoutH L3 [[97], [99]] = [([98], [50])] from by decide] at this
  refine this.mono fun e w' ⟨v, a, b, c⟩ => ?_
  obtain ⟨A, c2, rfl, h⟩ := b.reads
  exact ⟨A, c2, a, h.imp (fun _ h => h.2), hb.trans (c.mono hb.size), c⟩
theorem k_add (cap : Nat) (hK : K3 w1 g) (hb : Below w1.heap.size w1 w) : Calls Try.prog 34 #[.slice (some ⟨g, 0, none⟩) 3 cap, .string (ByteArray.mk #[99]), .string (ByteArray.mk #[])] w fun e w' => ∃ A c, e = .returned (.slice A 4 c) ∧ Below w1.heap.size w1 w' ∧ Below w.heap.size w w' := by
  have := hadd_any (some ⟨g, 0, none⟩) cap L3 [99] [] w (hK.later hb) (fun h => by cases h) (by decide)
  refine this.mono fun e w' ⟨v, a, b, c⟩ => ?_
  obtain ⟨A, c2, rfl, h⟩ := b.reads
  exact ⟨A, c2, a, hb.trans (c.mono hb.size), c⟩
theorem k_texts (A : Option Addr) (c gn c2 : Nat) (N : Nat → Prop) (hA : STexts w N A [[49], [51]]) (hb : Below w1.heap.size w1 w) (h0 : w.cell? ⟨gn, 0, none⟩ = some (.string (bs [49])) ∧ w.cell? ⟨gn, 1, none⟩ = some (.string (bs [51]))) : Calls Try.prog 30 #[.slice A 2 c, .slice (some ⟨gn, 0, none⟩) 2 c2] w fun e w' => e = .returned (.bool true) ∧ Below w1.heap.size w1 w' := by
  have hS : STexts w (fun _ => True) (some ⟨gn, 0, none⟩) [[49], [51]] := by
    intro k hk
    match k, hk with
    | 0, _ => exact ⟨_, rfl, trivial, by simpa [Addr.add] using h0.1⟩
    | 1, _ => exact ⟨_, rfl, trivial, by rw [Addr.add_lit]; exact h0.2⟩
  have := texts_any A (some ⟨gn, 0, none⟩) c c2 [[49], [51]] [[49], [51]] w hA.small hS.small (by simp) (by simp)
  rw [show decide ([[49], [51]] = ([[49], [51]] : List (List UInt8))) = true from by decide] at this
  exact this.mono fun e w' ⟨a, b⟩ => ⟨a, hb.trans (b.mono hb.size)⟩
theorem k_same1 (A : Option Addr) (c gn c2 : Nat) (hA : HReads w (· < w.heap.size) A [([97], [52]), ([98], [50])]) (hb : Below w1.heap.size w1 w) (h0 : (w.cell? ⟨gn, 0, none⟩ = some (.string (bs [97])) ∧ w.cell? ⟨gn, 1, none⟩ = some (.string (bs [52]))) ∧ w.cell? ⟨gn, 2, none⟩ = some (.string (bs [98])) ∧ w.cell? ⟨gn, 3, none⟩ = some (.string (bs [50]))) : Calls Try.prog 33 #[.slice A 2 c, .slice (some ⟨gn, 0, none⟩) 2 c2] w fun e w' => e = .returned (.bool true) ∧ Below w1.heap.size w1 w' := by
  have hS : HReads w (fun _ => True) (some ⟨gn, 0, none⟩) [([97], [52]), ([98], [50])] := by
    intro k hk
    match k, hk with
    | 0, _ => exact ⟨gn, 0, rfl, trivial, h0.1.1, h0.1.2⟩
    | 1, _ => exact ⟨gn, 0, rfl, trivial, h0.2.1, h0.2.2⟩
  have := same_any A (some ⟨gn, 0, none⟩) c c2 [([97], [52]), ([98], [50])] [([97], [52]), ([98], [50])] w hA.small hS.small (by simp) (by simp)
  rw [show decide ([([97], [52]), ([98], [50])] = ([([97], [52]), ([98], [50])] : List Hd)) = true from by decide] at this
  exact this.mono fun e w' ⟨a, b⟩ => ⟨a, hb.trans (b.mono hb.size)⟩
theorem k_same2 (A : Option Addr) (c c2 : Nat) (hK : K3 w1 g) (hA : HReads w (· < w.heap.size) A [([98], [50])]) (hb : Below w1.heap.size w1 w) : Calls Try.prog 33 #[.slice A 1 c, .slice (some ⟨g, 2, none⟩) 1 c2] w fun e w' => e = .returned (.bool true) ∧ Below w1.heap.size w1 w' := by
  have hS : HReads w (fun _ => True) (some ⟨g, 2, none⟩) [([98], [50])] := by
    intro k hk
    obtain ⟨b, o, e, _, h1, h2⟩ := (hK.later hb) 1 (by decide)
    injection e with e; injection e with e1 e2; subst e1; subst e2
    obtain rfl : k = 0 := by simpa using hk
    exact ⟨g, 2, rfl, trivial, h1, h2⟩
  have := same_any A (some ⟨g, 2, none⟩) c c2 [([98], [50])] [([98], [50])] w hA.small hS.small (by simp) (by simp)
  rw [show decide ([([98], [50])] = ([([98], [50])] : List Hd)) = true from by decide] at this
  exact this.mono fun e w' ⟨a, b⟩ => ⟨a, hb.trans (b.mono hb.size)⟩
end
set_option maxRecDepth 100000 in
set_option maxHeartbeats 16000000 in
theorem known4_any (w : World) :
    Calls Try.prog 21 #[] w fun e w' => e = .returned (.bool true) ∧ Below w.heap.size w w' := by
  go_enter Try.func21, Try.ntmps21
  go_wp2_with fail
  have hb0 : Below w.heap.size w (w.alloc (.cells #[Value.string (ByteArray.mk #[97]), Value.string (ByteArray.mk #[49]), Value.string (ByteArray.mk #[98]), Value.string (ByteArray.mk #[50]), Value.string (ByteArray.mk #[97]), Value.string (ByteArray.mk #[51])] 82)) := (Below.refl _ _).alloc (Nat.le_refl _) _
  have hK : K3 (w.alloc (.cells #[Value.string (ByteArray.mk #[97]), Value.string (ByteArray.mk #[49]), Value.string (ByteArray.mk #[98]), Value.string (ByteArray.mk #[50]), Value.string (ByteArray.mk #[97]), Value.string (ByteArray.mk #[51])] 82)) w.heap.size := by
    intro k hk
    match k, hk with
    | 0, _ => exact ⟨_, _, rfl, by simp, by simp; rfl, by simp; rfl⟩
    | 1, _ => exact ⟨_, _, rfl, by simp, by simp; rfl, by simp; rfl⟩
    | 2, _ => exact ⟨_, _, rfl, by simp, by simp; rfl, by simp; rfl⟩
  generalize hw1 : w.alloc (.cells #[Value.string (ByteArray.mk #[97]), Value.string (ByteArray.mk #[49]), Value.string (ByteArray.mk #[98]), Value.string (ByteArray.mk #[50]), Value.string (ByteArray.mk #[97]), Value.string (ByteArray.mk #[51])] 82) = w1 at *
  clear hw1
  have HK := hid hK
  have HB0 := hid hb0
  clear hK hb0
  refine (k_get 3 HK.out (Below.refl _ _)).mono ?_
  rintro e w2 ⟨rfl, hz⟩
  have hnot := notB'
  go_wp2_with fail
  have hz := hz.drew
  go_region_held3 (fun w' => Below w1.heap.size w1 w') (first | assumption | exact hz | exact hz.alloc hz.size _ | exact Below.alloc (by assumption) (Below.size (by assumption)) _) (first
    | (go_at_call 22
       first
         | ((with_reducible refine (k_name1 _).mono ?_); rintro e w' ⟨rfl, rfl⟩)
         | ((with_reducible refine (k_name2 _).mono ?_); rintro e w' ⟨rfl, rfl⟩))
    | (go_at_call 24
       first
         | ((with_reducible refine (k_value1 _).mono ?_); rintro e w' ⟨rfl, rfl⟩)
         | ((with_reducible refine (k_value2 _).mono ?_); rintro e w' ⟨rfl, rfl⟩))
    | (go_at_call 26
       refine (k_check 3 HK.out (by first | assumption | exact hz | exact hz.alloc hz.size _)).mono ?_
       rintro e w3 ⟨rfl, hz⟩)
    | (go_at_call 31
       refine (k_all 3 HK.out (by first | assumption | exact hz | exact hz.alloc hz.size _)).mono ?_
       rintro e wA ⟨AA, cA, rfl, hA, hz, hbA⟩)
    | (go_at_call 30
       refine (k_texts _ _ _ _ _ (by first | exact hA | exact hA.below ((Below.refl _ _).alloc (Nat.le_refl _) _)) (by first | assumption | exact hz | exact hz.alloc hz.size _) (by refine ⟨?_, ?_⟩ <;> (first | (simp; done) | (simp; rfl) | (rw [hbA.cell (by simp)]; first | (simp; done) | (simp; rfl))))).mono ?_
       rintro e w3 ⟨rfl, hz⟩)
    | (go_at_call 36
       refine (k_set 3 HK.out (by first | assumption | exact hz | exact hz.alloc hz.size _) (by omega)).mono ?_
       rintro e wA ⟨AA, cA, rfl, hA, hz, hbA⟩)
    | (go_at_call 38
       refine (k_without 3 _ _ HK.out (by first | assumption | exact hz | exact hz.alloc hz.size _) (by refine ⟨?_, ?_⟩ <;> (first | (simp; done) | (simp; rfl)))).mono ?_
       rintro e wA ⟨AA, cA, rfl, hA, hz, hbA⟩)
    | (go_at_call 33
       first
         | ((with_reducible refine (k_same2 (w1 := w1) _ _ _ HK.out ?_ ?_).mono ?_)
            · first | exact hA | exact (hA.below ((Below.refl _ _).alloc (Nat.le_refl _) _)).small
            · first | assumption | exact hz | exact hz.alloc hz.size _
            rintro e w3 ⟨rfl, hz⟩)
         | ((with_reducible refine (k_same1 (w1 := w1) _ _ _ _ ?_ ?_ ?_).mono ?_)
            · first | exact hA | exact (hA.below ((Below.refl _ _).alloc (Nat.le_refl _) _)).small
            · first | assumption | exact hz | exact hz.alloc hz.size _
            · refine ⟨⟨?_, ?_⟩, ?_, ?_⟩ <;> (first | (simp; done) | (simp; rfl) | (rw [hbA.cell (by simp)]; first | (simp; done) | (simp; rfl)))
            rintro e w3 ⟨rfl, hz⟩))
    | (go_at_call 34
       refine (k_add 3 HK.out (by first | assumption | exact hz | exact hz.alloc hz.size _)).mono ?_
       rintro e wA ⟨AA, cA, rfl, hz, hbA⟩))
  all_goals
    go_wp2_with fail
    go_ret
    first
      | exact ⟨rfl, HB0.out.trans (hz.mono HB0.out.size)⟩
      | exact ⟨rfl, HB0.out.trans (Below.mono (B := w1.heap.size) (by assumption) HB0.out.size)⟩
end Go.Proofs.Ytijepbmoaenlpaa
