import Derived.Test.YtpmefaoplgjbdaaDoorMb
namespace Go.Proofs.YtpmefaoplgjbdaaDoor
set_option linter.unusedVariables false
set_option linter.unusedSimpArgs false
open Go.RowKit

/-- Few and short enough to be written. -/
def Small (L : List Hd) : Prop := L.length ≤ 16 ∧ ∀ h ∈ L, h.1.length ≤ 32 ∧ h.2.length ≤ 64
theorem small_of {L : List Hd} (h : checkS L = 0) : Small L := by
  obtain ⟨h1, h2⟩ := checkS_ok h
  refine ⟨h1, fun x hx => ?_⟩
  obtain ⟨a, b⟩ := h2 x hx
  simp only [nameB, valueB, Bool.and_eq_true, decide_eq_true_eq] at a b
  exact ⟨a.2.1, b.1⟩
theorem headsT_take (L : List Hd) (k : Nat) (h : k < L.length) : headsT (L.take (k + 1)) = headsT (L.take k) ++ headT L[k] := by
  rw [List.take_succ_eq_append_getElem h, headsT, headsT, List.flatMap_append]; simp
theorem headsT_len (L : List Hd) (hs : ∀ h ∈ L, h.1.length ≤ 32 ∧ h.2.length ≤ 64) : (headsT L).length ≤ 99 * L.length := by
  induction L with
  | nil => simp [headsT]
  | cons x r ih =>
    have := ih (fun h hh => hs h (by simp [hh]))
    obtain ⟨a, b⟩ := hs x (by simp)
    have e : headsT (x :: r) = headT x ++ headsT r := by simp [headsT]
    rw [e, List.length_append, headT]
    simp; omega
set_option maxRecDepth 100000 in
set_option maxHeartbeats 1600000 in
theorem tail_any (A : Option Addr) (cap : Nat) (L : List Hd) (b : List UInt8) (w : World) (hR : HReads w (· < w.heap.size) A L) (hs : Small L) (hb : b.length ≤ 200) :
    Calls Tryd.prog 24 #[.slice A L.length cap, .string (bs b)] w fun e w' => e = .returned (.string (bs (tailT L b))) ∧ Below w.heap.size w w' := by
  have HR := hid hR
  have HS := hid hs.2
  have hl16 := hs.1
  clear hR hs
  have c1 : (ByteArray.mk #[58, 32]) = bs [58, 32] := rfl
  have c2 : (ByteArray.mk #[10]) = bs [10] := rfl
  go_enter Tryd.func24, Tryd.ntmps24
  go_wp2_with fail
  go_loopw [5, 10] (fun s i wr => ∃ k : Nat, k ≤ L.length ∧ i = .int .i64 k ∧ s = .string (bs (headsT (L.take k))) ∧ Hid (Below w.heap.size w wr)) (fun _ i _ => L.length - (intOf i).toNat)
  case atStart => exact ⟨0, by omega, rfl, rfl, hid (Below.refl _ _)⟩
  case round =>
    obtain ⟨k, hk, rfl, rfl, HW⟩ := hrel
    by_cases hlt : k < L.length
    · obtain ⟨bb, o, rfl, hB, hc0, hc1⟩ := (HR.out.below HW.out) k hlt
      have HF := hid (headsT_take L k hlt)
      have hlen := headsT_len (L.take k) (fun h hh => HS.out h (List.mem_of_mem_take hh))
      have htk : (L.take k).length ≤ k := List.length_take_le _ _
      obtain ⟨hs0, hs1⟩ := HS.out _ (List.getElem_mem hlt)
      have HHd := hid (show headT L[k] = L[k].1 ++ [58, 32] ++ L[k].2 ++ [10] from rfl)
      generalize L[k] = h at *
      obtain ⟨h0, h1⟩ := h
      generalize headsT (L.take k) = acc at *
      have hacc : acc.length ≤ 1584 := by omega
      have hz0 : h0.length ≤ 32 := hs0
      have hz1 : h1.length ≤ 64 := hs1
      clear hs0 hs1 hlen htk
      have hsz : w.heap.size ≤ wr.heap.size := HW.out.size
      go_wp2_with fail
      go_roundw
      case rel => exact ⟨k + 1, by omega, by go_num, by rw [HF.out, HHd.out]; simp, hid (HW.out.alloc hsz _)⟩
      case measure => simp [intOf]; omega
    · obtain rfl : k = L.length := by omega
      have hlen := headsT_len L HS.out
      have htk : L.take L.length = L := List.take_length
      rw [htk]
      go_wp2_with fail
      go_ret
      have e : tailT L b = headsT L ++ 10 :: b := by simp [tailT]
      exact ⟨by rw [e]; rfl, HW.out⟩
set_option maxRecDepth 100000 in
set_option maxHeartbeats 1600000 in
theorem rest_any (A : Option Addr) (cap : Nat) (L : List Hd) (b : List UInt8) (w : World) (hR : HReads w (· < w.heap.size) A L) (hs : Small L) (hb : b.length ≤ 200) :
    Calls Tryd.prog 25 #[.slice A L.length cap, .string (bs b)] w fun e w' => e = .returned (.string (bs (tailT L b))) ∧ Below w.heap.size w w' := by
  have HR := hid hR
  have HS := hid hs.2
  have hl16 := hs.1
  clear hR hs
  have c1 : (ByteArray.mk #[58, 32]) = bs [58, 32] := rfl
  have c2 : (ByteArray.mk #[10]) = bs [10] := rfl
  go_enter Tryd.func25, Tryd.ntmps25
  go_wp2_with fail
  go_loopw [5, 6] (fun s i wr => ∃ k : Nat, k ≤ L.length ∧ i = .int .i64 k ∧ s = .string (bs (headsT (L.take k))) ∧ Hid (Below w.heap.size w wr)) (fun _ i _ => L.length - (intOf i).toNat)
  case atStart => exact ⟨0, by omega, rfl, rfl, hid (Below.refl _ _)⟩
  case round =>
    obtain ⟨k, hk, rfl, rfl, HW⟩ := hrel
    by_cases hlt : k < L.length
    · obtain ⟨bb, o, rfl, hB, hc0, hc1⟩ := (HR.out.below HW.out) k hlt
      have HF := hid (headsT_take L k hlt)
      have hlen := headsT_len (L.take k) (fun h hh => HS.out h (List.mem_of_mem_take hh))
      have htk : (L.take k).length ≤ k := List.length_take_le _ _
      obtain ⟨hs0, hs1⟩ := HS.out _ (List.getElem_mem hlt)
      have HHd := hid (show headT L[k] = L[k].1 ++ [58, 32] ++ L[k].2 ++ [10] from rfl)
      generalize L[k] = h at *
      obtain ⟨h0, h1⟩ := h
      generalize headsT (L.take k) = acc at *
      have hacc : acc.length ≤ 1584 := by omega
      have hz0 : h0.length ≤ 32 := hs0
      have hz1 : h1.length ≤ 64 := hs1
      clear hs0 hs1 hlen htk
      have hi0 : (0 : Int) ≤ (k : Int) := by omega
      have hi1 : (k : Int) < (L.length : Int) := by omega
      have s1 : ¬ 9223372036854775807 < acc.length + h0.length := by omega
      have s2 : ¬ 9223372036854775807 < acc.length + h0.length + 2 := by omega
      have s3 : ¬ 9223372036854775807 < acc.length + h0.length + 2 + h1.length := by omega
      have s4 : ¬ 9223372036854775807 < acc.length + h0.length + 2 + h1.length + 1 := by omega
      go_wp2_with fail
      go_quiet (fail)
      go_wp2_with fail
      go_roundw
      case rel => exact ⟨k + 1, by omega, by go_num, by rw [HF.out, HHd.out]; simp, hid (below_drewN HW.out _)⟩
      case measure => simp [intOf]; omega
    · obtain rfl : k = L.length := by omega
      have hlen := headsT_len L HS.out
      have htk : L.take L.length = L := List.take_length
      rw [htk]
      go_wp2_with fail
      go_ret
      have e : tailT L b = headsT L ++ 10 :: b := by simp [tailT]
      exact ⟨by rw [e]; rfl, HW.out⟩
end Go.Proofs.YtpmefaoplgjbdaaDoor
