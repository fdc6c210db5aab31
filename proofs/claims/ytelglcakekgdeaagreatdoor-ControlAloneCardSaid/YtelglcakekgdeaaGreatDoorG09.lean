/- Texts put together: Mb. -/
import Derived.Test.YtelglcakekgdeaaGreatDoorG08
import Derived.Deep.QuietTactic
import Derived.BigQuiet
import Derived.Deep.RegionHeld3
import Derived.Test.YtelglcakekgdeaaGreatDoorG06
namespace Go.Proofs.YtelglcakekgdeaaGreatDoor
set_option linter.unusedVariables false
set_option linter.unusedSimpArgs false
open Go.RowKit

def reqV (m h p : List UInt8) (A : Option Addr) (n c : Nat) (b : List UInt8) : Value := .agg #[.string (bs m), .string (bs h), .string (bs p), .slice A n c, .string (bs b)]
def rspV (s : Int) (A : Option Addr) (n c : Nat) (b : List UInt8) : Value := .agg #[.int .i64 s, .slice A n c, .string (bs b)]
theorem below_new' (w : World) (o : Obj) : Below w.heap.size w (w.alloc o) := (Below.refl _ _).alloc (Nat.le_refl _) _
theorem HReads.later' {w w' : World} {A : Option Addr} {L : List Hd} (h : HReads w (· < w.heap.size) A L) (hb : Below w.heap.size w w') : HReads w' (· < w'.heap.size) A L := (h.below hb).imp fun b hb' => Nat.lt_of_lt_of_le hb' hb.size
set_option maxHeartbeats 1600000 in
theorem checktail_any (A : Option Addr) (cap : Nat) (L : List Hd) (b : List UInt8) (w : World) (hR : HReads w (· < w.heap.size) A L) (hl : L.length ≤ 1000000) (hs : ∀ h ∈ L, h.1.length ≤ 140737488351232 ∧ h.2.length ≤ 140737488351232) (hb : b.length ≤ 140737488351232) :
    Calls Tryz.prog 101 #[.slice A L.length cap, .string (bs b)] w fun e w' => e = .returned (.int .i64 (tailChk L b)) ∧ Below w.heap.size w w' := by
  have HH := hid (hcheck_any A cap L w hR hl hs)
  clear hR hs
  have HT := hid (show tailChk L b = if checkS L = 0 then (if 200 < b.length then 6 else 0) else checkS L from rfl)
  generalize checkS L = c at *
  by_cases hc : c = 0
  · subst hc
    by_cases h2 : 200 < b.length
    · go_enter Tryz.func101, Tryz.ntmps101
      go_wp2_with fail
      refine HH.out.mono ?_
      rintro e w1 ⟨rfl, hb1⟩
      go_wp2_with fail
      go_ret
      exact ⟨by rw [HT.out, if_pos trivial, if_pos h2]; rfl, hb1⟩
    · go_enter Tryz.func101, Tryz.ntmps101
      go_wp2_with fail
      refine HH.out.mono ?_
      rintro e w1 ⟨rfl, hb1⟩
      go_wp2_with fail
      go_ret
      exact ⟨by rw [HT.out, if_pos trivial, if_neg (by omega)]; rfl, hb1⟩
  · have hne : (c != 0) = true := by simpa using hc
    have HC := hid hc
    clear hc
    go_enter Tryz.func101, Tryz.ntmps101
    go_wp2_with fail
    refine HH.out.mono ?_
    rintro e w1 ⟨rfl, hb1⟩
    go_wp2_with fail
    go_ret
    exact ⟨by rw [HT.out, if_neg HC.out]; rfl, hb1⟩
set_option maxRecDepth 100000 in
set_option maxHeartbeats 1600000 in
theorem check_any (m h p : List UInt8) (A : Option Addr) (cap : Nat) (L : List Hd) (b : List UInt8) (w : World) (hR : HReads w (· < w.heap.size) A L) (hl : L.length ≤ 1000000) (hs : ∀ h ∈ L, h.1.length ≤ 140737488351232 ∧ h.2.length ≤ 140737488351232)
    (hm : m.length ≤ 140737488351232) (hh : h.length ≤ 140737488351232) (hp : p.length ≤ 140737488351232) (hb : b.length ≤ 140737488351232) :
    Calls Tryz.prog 81 #[.agg #[.string (bs m), .string (bs h), .string (bs p), .slice A L.length cap, .string (bs b)]] w fun e w' => e = .returned (.int .i64 (chkQ m h p L b)) ∧ Below w.heap.size w w' := by
  have hal := below_new' w (.cells #[.string (bs m), .string (bs h), .string (bs p), .slice A L.length cap, .string (bs b)] 125)
  have HT := hid (checktail_any A cap L b _ (hR.later' hal) hl hs hb)
  have HQ := hid (show chkQ m h p L b = if methodB m = true then (if nameB h = true then (if pathB p = true then tailChk L b else 12) else 7) else 3 from rfl)
  have hnot := notB'
  clear hR hs
  cases h1 : methodB m
  · have H1 := hid h1
    clear h1 HT
    go_enter Tryz.func81, Tryz.ntmps81
    go_wp2_with fail
    refine (ismethod_any m _ hm).mono ?_
    rintro e w1 ⟨rfl, rfl⟩
    rw [H1.out]
    go_wp2_with fail
    go_ret
    exact ⟨by rw [HQ.out, H1.out]; rfl, hal⟩
  · have H1 := hid h1
    clear h1
    cases h2 : nameB h
    · have H2 := hid h2
      clear h2 HT
      go_enter Tryz.func81, Tryz.ntmps81
      go_wp2_with fail
      refine (ismethod_any m _ hm).mono ?_
      rintro e w1 ⟨rfl, rfl⟩
      rw [H1.out]
      go_wp2_with fail
      refine (hname_any h _ hh).mono ?_
      rintro e w1 ⟨rfl, rfl⟩
      rw [H2.out]
      go_wp2_with fail
      go_ret
      exact ⟨by rw [HQ.out, H1.out, H2.out]; rfl, hal⟩
    · have H2 := hid h2
      clear h2
      cases h3 : pathB p
      all_goals
        have H3 := hid h3
        clear h3
        go_enter Tryz.func81, Tryz.ntmps81
        go_wp2_with fail
        refine (ismethod_any m _ hm).mono ?_
        rintro e w1 ⟨rfl, rfl⟩
        rw [H1.out]
        go_wp2_with fail
        refine (hname_any h _ hh).mono ?_
        rintro e w1 ⟨rfl, rfl⟩
        rw [H2.out]
        go_wp2_with fail
        refine (ispath_any p _ hp).mono ?_
        rintro e w1 ⟨rfl, rfl⟩
        rw [H3.out]
        go_wp2_with fail
      · go_ret
        exact ⟨by rw [HQ.out, H1.out, H2.out, H3.out]; rfl, hal⟩
      · refine HT.out.mono ?_
        rintro e w1 ⟨rfl, hb1⟩
        go_wp2_with fail
        go_ret
        exact ⟨by rw [HQ.out, H1.out, H2.out, H3.out]; rfl, below_step' hal hb1⟩
end Go.Proofs.YtelglcakekgdeaaGreatDoor
