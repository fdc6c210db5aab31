import Derived.Test.YtmejcchkoflciaaDoorHh
namespace Go.Proofs.YtmejcchkoflciaaDoor
set_option linter.unusedVariables false
set_option linter.unusedSimpArgs false
open Go.RowKit Go.Joins

theorem allS_take (L : List Hd) (n : List UInt8) (k : Nat) (h : k < L.length) : allS (L.take (k + 1)) n = allS (L.take k) n ++ if (L[k].1 == n) = true then [L[k].2] else [] := by
  rw [allS, allS, filter_take _ _ _ h, hasN_one]
  cases hp : (L[k].1 == n) <;> simp
theorem allS_length (L : List Hd) (n : List UInt8) : (allS L n).length ≤ L.length := by rw [allS, List.length_map]; exact List.length_filter_le _ _
set_option maxRecDepth 100000 in
set_option maxHeartbeats 2000000 in
theorem rall_any (A : Option Addr) (cap : Nat) (L : List Hd) (n : List UInt8) (w : World) (hR : HReads w (· < w.heap.size) A L) (hl : L.length ≤ 1000000) :
    Calls Tryd.prog 62 #[.slice A L.length cap, .string (bs n)] w fun e w' => ∃ v, e = .returned v ∧ TB w' w.heap.size v (allS L n) ∧ Below w.heap.size w w' := by
  have HR := hid hR
  clear hR
  go_enter Tryd.func62, Tryd.ntmps62
  go_wp2_with fail
  go_loopw [5, 6] (fun v i wr => ∃ k : Nat, k ≤ L.length ∧ i = .int .i64 k ∧ Hid (TB wr w.heap.size v (allS (L.take k) n) ∧ Below w.heap.size w wr)) (fun _ i _ => L.length - (intOf i).toNat)
  case atStart => exact ⟨0, by omega, rfl, hid ⟨TB.nil _ _, Below.refl _ _⟩⟩
  case round =>
    obtain ⟨k, hk, rfl, HK⟩ := hrel
    by_cases hlt : k < L.length
    · obtain ⟨b, o, rfl, hB, hc0, hc1⟩ := (HR.out.below HK.out.2) k hlt
      have HAT := hid (allS_take L n k hlt)
      have HAL := hid (allS_length (L.take k) n)
      have HTL := hid (List.length_take_le k L)
      have hsz : w.heap.size ≤ wr.heap.size := HK.out.2.size
      generalize L[k] = h at *
      obtain ⟨h0, h1⟩ := h
      cases hp : (h0 == n)
      · have HP := hid hp
        go_wp2_with fail
        go_roundw
        case rel => exact ⟨k + 1, by omega, by go_num, hid ⟨by rw [HAT.out, if_neg (by rw [HP.out]; simp), List.append_nil]; exact HK.out.1, HK.out.2⟩⟩
        case measure => simp [intOf]; omega
      · have HP := hid hp
        go_wp2_with (at_builtin; refine wpList_append_tx rfl _ _ rfl w.heap.size _ (allS (L.take k) n) h1 _ rfl (HK.out.1.alloc _) rfl (by simp) (by have := HAL.out; have := HTL.out; omega) (HK.out.2.alloc hsz _) (Nat.le_refl _) ?_)
        intro v' w3 hown hbel
        have HN := hid (And.intro hown hbel)
        clear hown hbel
        go_wp2_with fail
        go_roundw
        case rel => exact ⟨k + 1, by omega, by go_num, hid ⟨by rw [HAT.out, if_pos HP.out]; exact HN.out.1, HN.out.2⟩⟩
        case measure => simp [intOf]; omega
    · obtain rfl : k = L.length := by omega
      have h1 := HK.out
      rw [List.take_length] at h1
      have H1 := hid h1
      clear h1
      go_wp2_with fail
      go_ret
      exact ⟨_, rfl, H1.out⟩
set_option maxHeartbeats 2000000 in
theorem rget_any4 (A : Option Addr) (cap : Nat) (L : List Hd) (n : List UInt8) (w : World) (hR : HReads w (· < w.heap.size) A L) (hl : L.length ≤ 1000000) :
    Calls Tryd.prog 45 #[.slice A L.length cap, .string (bs n)] w fun e w' => e = .returned (.tuple #[.string (bs (getH L n).1), .bool (getH L n).2]) ∧ Below w.heap.size w w' := by
  have HA := hid (rall_any A cap L n w hR hl)
  have HAL := hid (allS_length L n)
  clear hR
  cases ha : allS L n with
  | nil =>
    have HG := hid (show getH L n = ([], false) by rw [getH, ha])
    have HE := hid ha
    clear ha
    go_enter Tryd.func45, Tryd.ntmps45
    go_wp2_with fail
    refine HA.out.mono ?_
    rintro e w1 ⟨v, rfl, hv, hb⟩
    rw [HE.out] at hv
    obtain ⟨A2, cap2, rfl, hS⟩ := hv.reads
    clear hv hS
    go_wp2_with fail
    go_ret2
    exact ⟨by rw [HG.out]; rfl, hb⟩
  | cons x r =>
    have HG := hid (show getH L n = (x, true) by rw [getH, ha])
    have hr : r.length ≤ 1000000 := by have := HAL.out; rw [ha] at this; simp at this; omega
    have HE := hid ha
    clear ha
    go_enter Tryd.func45, Tryd.ntmps45
    go_wp2_with fail
    refine HA.out.mono ?_
    rintro e w1 ⟨v, rfl, hv, hb⟩
    rw [HE.out] at hv
    obtain ⟨A2, cap2, rfl, hS⟩ := hv.reads
    obtain ⟨ad, rfl, _, hc⟩ := hS 0 (by simp)
    have hc' : w1.cell? ad = some (.string (bs x)) := by simpa [Addr.add] using hc
    have hlen : ((r.length + 1 : Nat) == 0) = false := by simp
    clear hv hS hc
    simp only [List.length_cons]
    go_wp2_with fail
    go_ret2
    exact ⟨by rw [HG.out]; rfl, hb⟩
theorem setR_step (n v : List UInt8) (met : Bool) (L : List Hd) (k : Nat) (h : k < L.length) :
    setR n v met (L.drop k) = if (L[k].1 == n) = false then L[k] :: setR n v met (L.drop (k + 1)) else if met = true then setR n v met (L.drop (k + 1)) else (n, v) :: setR n v true (L.drop (k + 1)) := by
  rw [List.drop_eq_getElem_cons h, setR]
  by_cases e : L[k].1 = n <;> simp [e]
theorem setR_length (n v : List UInt8) (L : List Hd) : ∀ met, (setR n v met L).length ≤ L.length + 1 := by
  induction L with
  | nil => intro met; cases met <;> simp [setR]
  | cons h r ih =>
    intro met
    rw [setR]
    have := ih met
    have := ih true
    split
    · simp only [List.length_cons]; omega
    · split
      · simp only [List.length_cons]; omega
      · simp only [List.length_cons]; omega
end Go.Proofs.YtmejcchkoflciaaDoor
