/- Texts put together: Gq. -/
import Derived.Test.YtpfhmpblcmednaaD16
import Derived.Lib.OwnKind
import Derived.OneCell
namespace Go.Proofs.Ytpfhmpblcmednaa
set_option linter.unusedVariables false
set_option linter.unusedSimpArgs false
open Go.RowKit Go.Joins

section
variable {α β : Type} {enc : α → List Value} {enc2 : β → List Value} {k k2 : Nat} {e e2 t : TypeId} {w w' : World} {b b2 g : Nat} {v v2 : Value} {L : List α} {M : List β} {cs : Array Value}
theorem GB.kind (h : GB enc k e w b v L) : ∀ g, v.ownBlock = some g → ∃ c fz, w.heap[g]? = some (.cells c e fz) := Lib.ownsRow_kind h
theorem GB.not_bk (h : GB enc k e w b v L) (hB : Bk w g t cs) (hte : t ≠ e) : some g ≠ v.ownBlock := fun he => by
  obtain ⟨c, fz, hc⟩ := h.kind g he.symm
  unfold Bk at hB
  rw [hB] at hc
  injection hc with hc
  injection hc with _ hc
  exact hte hc
theorem GB.apart (h : GB enc k e w b v L) (h2 : GB enc2 k2 e2 w b2 v2 M) (hte : e ≠ e2) : v.ownBlock = none ∨ v.ownBlock ≠ v2.ownBlock := by
  rcases hv : v.ownBlock with _ | g
  · exact Or.inl rfl
  · refine Or.inr fun he => ?_
    obtain ⟨c, fz, hc⟩ := h.kind g hv
    obtain ⟨c2, fz2, hc2⟩ := h2.kind g he.symm
    rw [hc] at hc2
    injection hc2 with hc2
    injection hc2 with _ hc2
    exact hte hc2
theorem GB.grown (h : GB enc k e w b v L) (h2 : GB enc2 k2 e2 w b2 v2 M) (hte : e ≠ e2) (hg : w.grownBy w' v2.ownBlock) : GB enc k e w' b v L := World.ownsRow.kept h hg (h.apart h2 hte)
theorem Bk.grown (hB : Bk w g t cs) (h : GB enc k e w b v L) (hte : t ≠ e) (hg : w.grownBy w' v.ownBlock) : Bk w' g t cs := by
  have h1 := hg.block g hB.lt (h.not_bk hB hte)
  unfold Bk at hB ⊢
  rw [h1]; exact hB
theorem GB.set (h : GB enc k e w b v L) (hB : Bk w g t cs) (hte : t ≠ e) (i : Nat) (u : Value) : GB enc k e (w.setCell ⟨g, i, none⟩ u) b v L := ownsRow_setCell_other h (fun he => h.not_bk hB hte he.symm) u
end
end Go.Proofs.Ytpfhmpblcmednaa
