/- Texts put together: El. -/
import Derived.Test.YtpfhmpblcmednaaE20
import Derived.Test.YtpfhmpblcmednaaE34
namespace Go.Proofs.Ytpfhmpblcmednaa
set_option linter.unusedVariables false
open Go.RowKit Go.Joins

theorem sr_gx {w : World} {N : Nat → Prop} {A : Option Addr} {L : List Sp} (h : GX encSp 11 w N A L) : SR w N A L := fun k hk => by
  obtain ⟨b, o, e, h1, h2⟩ := h k hk
  exact ⟨b, o, e, h1, h2 0 (by omega), h2 1 (by omega), h2 2 (by omega), h2 3 (by omega), h2 4 (by omega), h2 5 (by omega), h2 6 (by omega), h2 7 (by omega), h2 8 (by omega), h2 9 (by omega), h2 10 (by omega)⟩
theorem gx_sr {w : World} {N : Nat → Prop} {A : Option Addr} {L : List Sp} (h : SR w N A L) : GX encSp 11 w N A L := fun k hk => by
  obtain ⟨b, o, e, h1, c0, c1, c2, c3, c4, c5, c6, c7, c8, c9, c10⟩ := h k hk
  refine ⟨b, o, e, h1, fun j hj => ?_⟩
  match j, hj with
  | 0, _ => exact c0
  | 1, _ => exact c1
  | 2, _ => exact c2
  | 3, _ => exact c3
  | 4, _ => exact c4
  | 5, _ => exact c5
  | 6, _ => exact c6
  | 7, _ => exact c7
  | 8, _ => exact c8
  | 9, _ => exact c9
  | 10, _ => exact c10
end Go.Proofs.Ytpfhmpblcmednaa
