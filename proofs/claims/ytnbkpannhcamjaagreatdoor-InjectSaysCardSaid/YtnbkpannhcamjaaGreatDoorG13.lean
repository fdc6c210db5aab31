/- Texts put together: Hm Hn. -/
import Derived.Test.YtnbkpannhcamjaaGreatDoorG12
import Derived.Deep.RegionHeld3
namespace Go.Proofs.YtnbkpannhcamjaaGreatDoor
set_option linter.unusedVariables false
set_option linter.unusedSimpArgs false
open Go.RowKit Go.Joins

def L3 : List Hd := [([97], [49]), ([98], [50]), ([97], [51])]
/-- The list that is fixed lies at block g. -/
def K3 (w1 : World) (g : Nat) : Prop := HReads w1 (· < w1.heap.size) (some ⟨g, 0, none⟩) L3
theorem HReads.small {w : World} {N : Nat → Prop} {A : Option Addr} {L : List Hd} (h : HReads w N A L) : HReads w (· < w.heap.size) A L := by
  intro k hk
  obtain ⟨b, o, e, h1, h2, h3⟩ := h k hk
  exact ⟨b, o, e, lt_of_cell (a := ⟨b, o + k * 2, none⟩) h2, h2, h3⟩
theorem HReads.later {w w' : World} {A : Option Addr} {L : List Hd} (h : HReads w (· < w.heap.size) A L) (hb : Below w.heap.size w w') : HReads w' (· < w'.heap.size) A L := (h.below hb).small
theorem STexts.later {w w' : World} {A : Option Addr} {L : List (List UInt8)} (h : STexts w (· < w.heap.size) A L) (hb : Below w.heap.size w w') : STexts w' (· < w'.heap.size) A L := (h.below hb).small
theorem K3.later {w1 w : World} {g : Nat} (h : K3 w1 g) (hb : Below w1.heap.size w1 w) : K3 w g := HReads.later h hb
section
variable {w1 w : World} {g : Nat}
theorem k_get (cap : Nat) (hK : K3 w1 g) (hb : Below w1.heap.size w1 w) : Calls Tryz.prog 24 #[.slice (some ⟨g, 0, none⟩) 3 cap, .string (ByteArray.mk #[97])] w fun e w' => e = .returned (.tuple #[.string (ByteArray.mk #[49]), .bool true]) ∧ Below w1.heap.size w1 w' := by
  have := hget_any (some ⟨g, 0, none⟩) cap L3 [97] w (hK.later hb) (by decide)
  rw [show getH L3 [97] = ([49], true) from by decide] at this
  exact this.mono fun e w' ⟨a, b⟩ => ⟨a, hb.trans (b.mono hb.size)⟩
theorem k_set (cap : Nat) (hK : K3 w1 g) (hb : Below w1.heap.size w1 w) (hc : 3 ≤ cap ∧ cap ≤ 9223372036854775807) : Calls Tryz.prog 16 #[.slice (some ⟨g, 0, none⟩) 3 cap, .string (ByteArray.mk #[97]), .string (ByteArray.mk #[52])] w fun e w' => ∃ A c, e = .returned (.slice A 2 c) ∧ HReads w' (· < w'.heap.size) A [([97], [52]), ([98], [50])] ∧ Below w1.heap.size w1 w' ∧ Below w.heap.size w w' := by
  have := hset_any (some ⟨g, 0, none⟩) cap L3 [97] [52] w (hK.later hb) (fun h => by cases h) (by decide) hc.1 hc.2
  rw [show setH L3 [97] [52] = [([97], [52]), ([98], [50])] from by decide] at this
  refine this.mono fun e w' ⟨v, a, b, c⟩ => ?_
  obtain ⟨A, c2, rfl, h⟩ := b.reads
  exact ⟨A, c2, a, h.imp (fun _ h => h.2), hb.trans (c.mono hb.size), c⟩
theorem k_without (cap gn c2 : Nat) (hK : K3 w1 g) (hb : Below w1.heap.size w1 w) (h0 : w.cell? ⟨gn, 0, none⟩ = some (.string (bs [97])) ∧ w.cell? ⟨gn, 1, none⟩ = some (.string (bs [99]))) : Calls Tryz.prog 27 #[.slice (some ⟨g, 0, none⟩) 3 cap, .slice (some ⟨gn, 0, none⟩) 2 c2] w fun e w' => ∃ A c, e = .returned (.slice A 1 c) ∧ HReads w' (· < w'.heap.size) A [([98], [50])] ∧ Below w1.heap.size w1 w' ∧ Below w.heap.size w w' := by
  have hS : STexts w (fun _ => True) (some ⟨gn, 0, none⟩) [[97], [99]] := by
    intro k hk
    match k, hk with
    | 0, _ => exact ⟨_, rfl, trivial, by simpa [Addr.add] using h0.1⟩
    | 1, _ => exact ⟨_, rfl, trivial, by rw [Addr.add_lit]; exact h0.2⟩
  have := hwithout_any (some ⟨g, 0, none⟩) cap L3 (some ⟨gn, 0, none⟩) c2 [[97], [99]] w (hK.later hb) hS.small (by decide) (by simp)
  rw [show withoutH L3 [[97], [99]] = [([98], [50])] from by decide] at this
  refine this.mono fun e w' ⟨v, a, b, c⟩ => ?_
  obtain ⟨A, c2, rfl, h⟩ := b.reads
  exact ⟨A, c2, a, h.imp (fun _ h => h.2), hb.trans (c.mono hb.size), c⟩
theorem k_add (cap : Nat) (hK : K3 w1 g) (hb : Below w1.heap.size w1 w) : Calls Tryz.prog 37 #[.slice (some ⟨g, 0, none⟩) 3 cap, .string (ByteArray.mk #[99]), .string (ByteArray.mk #[])] w fun e w' => ∃ A c, e = .returned (.slice A 4 c) ∧ Below w1.heap.size w1 w' ∧ Below w.heap.size w w' := by
  have := hadd_any (some ⟨g, 0, none⟩) cap L3 [99] [] w (hK.later hb) (fun h => by cases h) (by decide)
  refine this.mono fun e w' ⟨v, a, b, c⟩ => ?_
  obtain ⟨A, c2, rfl, h⟩ := b.reads
  exact ⟨A, c2, a, hb.trans (c.mono hb.size), c⟩
theorem k_same1 (A : Option Addr) (c gn c2 : Nat) (hA : HReads w (· < w.heap.size) A [([97], [52]), ([98], [50])]) (hb : Below w1.heap.size w1 w) (h0 : (w.cell? ⟨gn, 0, none⟩ = some (.string (bs [97])) ∧ w.cell? ⟨gn, 1, none⟩ = some (.string (bs [52]))) ∧ w.cell? ⟨gn, 2, none⟩ = some (.string (bs [98])) ∧ w.cell? ⟨gn, 3, none⟩ = some (.string (bs [50]))) : Calls Tryz.prog 10 #[.slice A 2 c, .slice (some ⟨gn, 0, none⟩) 2 c2] w fun e w' => e = .returned (.bool true) ∧ Below w1.heap.size w1 w' := by
  have hS : HReads w (fun _ => True) (some ⟨gn, 0, none⟩) [([97], [52]), ([98], [50])] := by
    intro k hk
    match k, hk with
    | 0, _ => exact ⟨gn, 0, rfl, trivial, h0.1.1, h0.1.2⟩
    | 1, _ => exact ⟨gn, 0, rfl, trivial, h0.2.1, h0.2.2⟩
  have := same_any A (some ⟨gn, 0, none⟩) c c2 [([97], [52]), ([98], [50])] [([97], [52]), ([98], [50])] w hA.small hS.small (by simp) (by simp)
  rw [show decide ([([97], [52]), ([98], [50])] = ([([97], [52]), ([98], [50])] : List Hd)) = true from by decide] at this
  exact this.mono fun e w' ⟨a, b⟩ => ⟨a, hb.trans (b.mono hb.size)⟩
theorem k_same2 (A : Option Addr) (c c2 : Nat) (hK : K3 w1 g) (hA : HReads w (· < w.heap.size) A [([98], [50])]) (hb : Below w1.heap.size w1 w) : Calls Tryz.prog 10 #[.slice A 1 c, .slice (some ⟨g, 2, none⟩) 1 c2] w fun e w' => e = .returned (.bool true) ∧ Below w1.heap.size w1 w' := by
  have hS : HReads w (fun _ => True) (some ⟨g, 2, none⟩) [([98], [50])] := by
    intro k hk
    obtain ⟨b, o, e, _, h1, h2⟩ := (hK.later hb) 1 (by decide)
    injection e with e; injection e with e1 e2; subst e1; subst e2
    obtain rfl : k = 0 := by simpa using hk
    exact ⟨g, 2, rfl, trivial, h1, h2⟩
  have := same_any A (some ⟨g, 2, none⟩) c c2 [([98], [50])] [([98], [50])] w hA.small hS.small (by simp) (by simp)
  rw [show decide ([([98], [50])] = ([([98], [50])] : List Hd)) = true from by decide] at this
  exact this.mono fun e w' ⟨a, b⟩ => ⟨a, hb.trans (b.mono hb.size)⟩
end
end Go.Proofs.YtnbkpannhcamjaaGreatDoor
namespace Go.Proofs.YtnbkpannhcamjaaGreatDoor
set_option linter.unusedVariables false
set_option linter.unusedSimpArgs false
open Go.RowKit Go.Joins

/-- A result that is a slice of headers, read. -/
theorem asHeads {F : Nat} {args : Array Value} {w : World} {M : List Hd} (h : Calls Tryz.prog F args w fun e w' => ∃ r, e = .returned r ∧ HB w' w.heap.size r M ∧ Below w.heap.size w w') :
    Calls Tryz.prog F args w fun e w' => ∃ A c, e = .returned (.slice A M.length c) ∧ HReads w' (· < w'.heap.size) A M ∧ Below w.heap.size w w' :=
  h.mono fun e w' ⟨r, a, b, c⟩ => by
    obtain ⟨A, c2, rfl, h⟩ := b.reads
    exact ⟨A, c2, a, h.imp (fun _ h => h.2), c⟩
theorem asTexts {F : Nat} {args : Array Value} {w : World} {M : List (List UInt8)} (h : Calls Tryz.prog F args w fun e w' => ∃ r, e = .returned r ∧ TB w' w.heap.size r M ∧ Below w.heap.size w w') :
    Calls Tryz.prog F args w fun e w' => ∃ A c, e = .returned (.slice A M.length c) ∧ STexts w' (· < w'.heap.size) A M ∧ Below w.heap.size w w' :=
  h.mono fun e w' ⟨r, a, b, c⟩ => by
    obtain ⟨A, c2, rfl, h⟩ := b.reads
    exact ⟨A, c2, a, h.imp (fun _ h => h.2), c⟩
end Go.Proofs.YtnbkpannhcamjaaGreatDoor
