import Derived.Test.YtgpioafkahoahaaCo
namespace Go.Proofs.Ytgpioafkahoahaa
set_option linter.unusedVariables false
open Go.RowKit

theorem below_step {a b c : World} (h : Below a.heap.size a b) (k : Below b.heap.size b c) : Below a.heap.size a c := h.trans (k.mono h.size)
/-- Three strings in one new block. -/
theorem stexts_new (w : World) (L : List (List UInt8)) (t : TypeId) : STexts (w.alloc (.cells (tvals L).toArray t)) (· = w.heap.size) (some ⟨w.heap.size, 0, none⟩) L := by
  intro k hk
  refine ⟨_, rfl, rfl, ?_⟩
  have h0 : (⟨w.heap.size, 0, none⟩ : Addr).add k = ⟨w.heap.size, k, none⟩ := by
    unfold Addr.add; split
    · next h => subst h; rfl
    · simp
  rw [h0, Blk.cell (Blk.new w t (tvals L).toArray) k]
  simp [tvals, hk]
end Go.Proofs.Ytgpioafkahoahaa
