import Derived.Test.YtddmmpjamnjilaaDoorTe
import Derived.Shelf.Strings.SlTrimAscii
namespace Go.Proofs.YtddmmpjamnjilaaDoor
set_option linter.unusedVariables false
set_option linter.unusedSimpArgs false
open Go.RowKit Go.Joins Go.Shelf

theorem gMaxT : Tryd.prog.globalNamed "internal/bytealg.MaxLen" = some 1 := by kernel_rfl
/-- What the library's variable holds, as far as a walk asks. -/
def EnvT (w : World) : Prop := ∃ m, w.var? Tryd.prog "internal/bytealg.MaxLen" = some #[.int .i64 m]
theorem EnvT.later {w w' : World} (h : EnvT w) (hb : Below w.heap.size w w') : EnvT w' := by
  obtain ⟨m, h⟩ := h
  exact ⟨m, var_stays gMaxT h hb (Nat.le_refl _)⟩
theorem lib_tcut (s sep : List UInt8) (hs : sep ≠ []) (hl : s.length ≤ 100000) (w : World) (E : EnvT w) :
    Calls Tryd.prog 43 #[.string (bs s), .string (bs sep)] w fun e w' => e = .returned (.tuple #[.string (bs (cutS sep s).1), .string (bs (cutS sep s).2.1), .bool (cutS sep s).2.2]) ∧ Below w.heap.size w w' := by
  obtain ⟨m, hm⟩ := E
  refine (Tryd.strings_Cut (bs s) (bs sep) m w (by rw [bs_size]; omega) (by have h0 := World.var?_cell gMaxT hm 0; simpa using h0)).mono fun e w' ⟨a, n, b⟩ => ⟨?_, by rw [b]; exact below_drewN (Below.refl _ _) _⟩
  rw [a, bs_data, bs_data, cut_eq hs]; rfl
theorem lib_trim (s : List UInt8) (hl : s.length ≤ 100000) (w : World) :
    Calls Tryd.prog 44 #[.string (bs s), .string (bs [32, 9])] w fun e w' => e = .returned (.string (bs (trimB' s))) ∧ Below w.heap.size w w' :=
  (Any.strings_Trim_laid Tryd.lays160 (by kernel_rfl) (bs s) (bs [32, 9]) w (by rw [bs_size]; omega) (by decide) (ascii_of_all (by decide))).mono fun e w' ⟨a, b⟩ => ⟨by rw [a, bs_data, bs_data]; rfl, b⟩
theorem rblank_any (c : UInt8) (w : World) :
    Calls Tryd.prog 69 #[.int .u8 c.toNat] w fun e w' => e = .returned (.bool (isBl c)) ∧ w = w' := by
  have hc := c.toNat_lt
  unfold isBl
  generalize c.toNat = m at *
  go_enter Tryd.func69, Tryd.ntmps69
  go_wp2_with fail
  all_goals
    go_ret
    refine ⟨ret_bool ?_, rfl⟩
    rw [Bool.eq_iff_iff]
    simp
    try omega
def strLen : Value → Nat
  | .string s => s.size
  | _ => 0
theorem strLen_bs (l : List UInt8) : strLen (.string (bs l)) = l.length := bs_size l
theorem head_take {m b : List UInt8} (h : m ≠ []) : (m ++ b).head? = m.head? := by cases m <;> simp_all
set_option maxHeartbeats 3200000 in
theorem rtrim_any (l : List UInt8) (w : World) (hs : l.length ≤ 100000) :
    Calls Tryd.prog 47 #[.string (bs l)] w fun e w' => e = .returned (.string (bs (trimB' l))) ∧ w = w' := by
  go_enter Tryd.func47, Tryd.ntmps47
  go_wp2_with fail
  go_loop [0] (fun s => ∃ l' : List UInt8, s = .string (bs l') ∧ l'.length ≤ 100000 ∧ Hid (∃ a, l = a ++ l' ∧ ∀ x ∈ a, isBl x = true)) (fun s => strLen s)
  case atStart => exact ⟨l, rfl, hs, hid ⟨[], rfl, by simp⟩⟩
  case round =>
    obtain ⟨l', rfl, hl', HU⟩ := hrel
    by_cases hpos : 0 < l'.length
    · cases hb : isBl l'[0]
      · have HBl := hid hb
        clear hb
        have HH := hid (show ∀ x, l'.head? = some x → isBl x = false by
          intro x hx
          rw [List.head?_eq_getElem?, List.getElem?_eq_getElem hpos] at hx
          injection hx with hx
          rw [← hx]; exact HBl.out)
        go_wp2_with fail
        refine (rblank_any _ _).mono ?_
        rintro e w1 ⟨rfl, rfl⟩
        rw [HBl.out]
        go_wp2_with fail
        clear HBl
        go_loop [0] (fun s => ∃ m : List UInt8, s = .string (bs m) ∧ m.length ≤ 100000 ∧ Hid (∃ b, l' = m ++ b ∧ ∀ x ∈ b, isBl x = true)) (fun s => strLen s)
        case atStart => exact ⟨l', rfl, hl', hid ⟨[], by simp, by simp⟩⟩
        case round =>
          obtain ⟨m, rfl, hm, HV⟩ := hrel
          by_cases hp2 : 0 < m.length
          · have hi1 : (0 : Int) ≤ (m.length : Int) - 1 := by omega
            cases hb2 : isBl m[m.length - 1]
            · have HB2 := hid hb2
              clear hb2
              have HF := hid (show trimB' l = m by
                obtain ⟨a, e1, ha⟩ := HU.out
                obtain ⟨b, e2, hb⟩ := HV.out
                rw [e1, e2]
                refine trim_of ha hb (fun x hx => HH.out x ?_) (fun x hx => ?_)
                · rw [e2, head_take (List.ne_nil_of_length_pos hp2)]; exact hx
                · rw [List.getLast?_eq_getElem?, List.getElem?_eq_getElem (by omega)] at hx
                  injection hx with hx
                  rw [← hx]; exact HB2.out)
              go_wp2_with fail
              refine (rblank_any _ _).mono ?_
              rintro e w1 ⟨rfl, rfl⟩
              rw [HB2.out]
              go_wp2_with fail
              go_ret
              exact ⟨by rw [HF.out]; rfl, rfl⟩
            · have HB2 := hid hb2
              clear hb2
              have x2 : (bs m).extract 0 (m.length - 1) = bs (m.take (m.length - 1)) := by rw [bs_extract]; simp
              have HM := hid (show m = m.take (m.length - 1) ++ [m[m.length - 1]] by
                have := List.take_succ_eq_append_getElem (i := m.length - 1) (l := m) (by omega)
                rw [show m.length - 1 + 1 = m.length by omega, List.take_length] at this
                exact this)
              go_wp2_with fail
              refine (rblank_any _ _).mono ?_
              rintro e w1 ⟨rfl, rfl⟩
              rw [HB2.out]
              go_wp2_with fail
              go_round
              case rel =>
                refine ⟨m.take (m.length - 1), ?_, by simp; omega, hid ?_⟩
                · go_simp
                · obtain ⟨b, e2, hb⟩ := HV.out
                  refine ⟨m[m.length - 1] :: b, ?_, fun x hx => ?_⟩
                  · rw [e2]
                    have h3 : m ++ b = (m.take (m.length - 1) ++ [m[m.length - 1]]) ++ b := congrArg (· ++ b) HM.out
                    rw [h3, List.append_assoc]; rfl
                  · rcases List.mem_cons.1 hx with rfl | hx
                    · exact HB2.out
                    · exact hb x hx
              case measure => first | (simp [strLen_bs]; omega) | skip
          · have h0 : m = [] := List.eq_nil_of_length_eq_zero (by omega)
            subst h0
            have HF := hid (show trimB' l = [] by
                obtain ⟨a, e1, ha⟩ := HU.out
                obtain ⟨b, e2, hb⟩ := HV.out
                rw [e1, e2]
                exact trim_of ha hb (by simp) (by simp))
            go_wp2_with fail
            go_ret
            exact ⟨by rw [HF.out]; rfl, rfl⟩
      · have HBl := hid hb
        clear hb
        have x2 : (bs l').extract 1 l'.length = bs (l'.drop 1) := by rw [bs_extract, List.take_of_length_le (by simp)]
        have hi1 : (1 : Int) ≤ (l'.length : Int) := by omega
        have HM := hid (show l' = l'[0] :: l'.drop 1 by
          cases l' with
          | nil => simp at hpos
          | cons c r => simp)
        go_wp2_with fail
        refine (rblank_any _ _).mono ?_
        rintro e w1 ⟨rfl, rfl⟩
        rw [HBl.out]
        go_wp2_with fail
        go_round
        case rel =>
          refine ⟨l'.drop 1, ?_, by simp; omega, hid ?_⟩
          · go_simp
          · obtain ⟨a, e1, ha⟩ := HU.out
            refine ⟨a ++ [l'[0]], ?_, fun x hx => ?_⟩
            · rw [e1]; conv => lhs; rw [HM.out]
              simp
            · rcases List.mem_append.1 hx with hx | hx
              · exact ha x hx
              · simp at hx; subst hx; exact HBl.out
        case measure => first | (simp [strLen_bs]; omega) | skip
    · have h0 : l' = [] := List.eq_nil_of_length_eq_zero (by omega)
      subst h0
      have HF := hid (show trimB' l = [] by
          obtain ⟨a, e1, ha⟩ := HU.out
          have := trim_of (a := a) (m := []) (b := []) ha (by simp) (by simp) (by simp)
          rw [e1]; simpa using this)
      go_wp2_with fail
      go_loop [0] (fun s => s = .string (bs [])) (fun s => strLen s)
      case atStart => rfl
      case round =>
        subst hrel
        go_wp2_with fail
        go_ret
        exact ⟨by rw [HF.out]; rfl, rfl⟩
theorem splitS_hit (s : List UInt8) (a i : Nat) (ha : a ≤ i) (hi : i < s.length) (hc : s[i] = 44) (hn : ∀ j (h : j < s.length), a ≤ j → j < i → s[j] ≠ 44) : splitS (s.drop a) = (s.drop a).take (i - a) :: splitS (s.drop (i + 1)) := by
  have e : s.drop a = (s.drop a).take (i - a) ++ 44 :: s.drop (i + 1) := by
    have h1 : (s.drop a).drop (i - a) = s.drop i := by rw [List.drop_drop, show a + (i - a) = i by omega]
    conv => lhs; rw [← List.take_append_drop (i - a) (s.drop a), h1, List.drop_eq_getElem_cons hi, hc]
  conv => lhs; rw [e]
  refine splitS_one _ _ fun c hcm => ?_
  obtain ⟨j, hj, rfl⟩ := List.getElem_of_mem hcm
  simp at hj
  rw [List.getElem_take, List.getElem_drop]
  exact hn (a + j) (by omega) (by omega) (by omega)
theorem splitS_end (s : List UInt8) (a : Nat) (hn : ∀ j (h : j < s.length), a ≤ j → s[j] ≠ 44) : splitS (s.drop a) = [s.drop a] := by
  refine splitS_plain _ fun c hcm => ?_
  obtain ⟨j, hj, rfl⟩ := List.getElem_of_mem hcm
  simp at hj
  rw [List.getElem_drop]
  exact hn (a + j) (by omega) (by omega)
theorem u8_44 (c : UInt8) : (c = 44) ↔ c.toNat = 44 := by rw [← UInt8.toNat_inj]; rfl
set_option maxRecDepth 100000 in
set_option maxHeartbeats 4000000 in
theorem rsplit_any (s : List UInt8) (w : World) (hs : s.length ≤ 100000) :
    Calls Tryd.prog 46 #[.string (bs s), .int .u8 44] w fun e w' => ∃ v, e = .returned v ∧ TB w' w.heap.size v (splitS s) ∧ Below w.heap.size w w' := by
  go_enter Tryd.func46, Tryd.ntmps46
  go_wp2_with fail
  go_loopw [5, 6, 7] (fun v f i wr => ∃ (a k : Nat) (M : List (List UInt8)), k ≤ s.length ∧ a ≤ k ∧ f = .int .i64 a ∧ i = .int .i64 k ∧ M.length ≤ k ∧ Hid (splitS s = M ++ splitS (s.drop a) ∧ (∀ j (h : j < s.length), a ≤ j → j < k → s[j] ≠ 44) ∧ TB wr w.heap.size v M ∧ Below w.heap.size w wr)) (fun _ _ i _ => s.length - (intOf i).toNat)
  case atStart => exact ⟨0, 0, [], by omega, by omega, rfl, rfl, by simp, hid ⟨rfl, fun j h h1 h2 => absurd h2 (by omega), TB.nil _ _, Below.refl _ _⟩⟩
  case round =>
    obtain ⟨a, k, M, hk, hak, rfl, rfl, hM, HK⟩ := hrel
    have hsz : w.heap.size ≤ wr.heap.size := HK.out.2.2.2.size
    by_cases hlt : k < s.length
    · have hc := UInt8.toNat_lt s[k]
      by_cases h44 : s[k].toNat = 44
      · have HS := hid (splitS_hit s a k hak hlt ((u8_44 _).2 h44) HK.out.2.1)
        have hb : ((s[k].toNat : Int) == 44) = true := by simp; omega
        have x1 : (bs s).extract a k = bs ((s.drop a).take (k - a)) := bs_extract _ _ _
        have hi0 : (0 : Int) ≤ (a : Int) := by omega
        have hi1 : (a : Int) ≤ (k : Int) := by omega
        have hi2 : (k : Int) ≤ (s.length : Int) := by omega
        clear h44
        go_wp2_with (at_builtin; refine wpList_append_tx rfl _ _ rfl w.heap.size _ M ((s.drop a).take (k - a)) _ rfl (HK.out.2.2.1.alloc _) rfl (by simp) (by omega) (HK.out.2.2.2.alloc hsz _) (Nat.le_refl _) ?_)
        intro v' w3 hown hbel
        have HN := hid (And.intro hown hbel)
        clear hown hbel
        go_wp2_with fail
        go_roundw
        case rel => exact ⟨k + 1, k + 1, M ++ [(s.drop a).take (k - a)], by omega, by omega, by go_num, by go_num, by simp; omega, hid ⟨by rw [HK.out.1, HS.out]; simp, fun j h h1 h2 => absurd h2 (by omega), HN.out.1, HN.out.2⟩⟩
        case measure => simp [intOf]; omega
      · have H44 := hid h44
        have hb : ((s[k].toNat : Int) == 44) = false := by simp; omega
        clear h44
        go_wp2_with fail
        go_roundw
        case rel => exact ⟨a, k + 1, M, by omega, by omega, rfl, by go_num, by omega, hid ⟨HK.out.1, fun j h h1 h2 => by
          by_cases e : j = k
          · subst e; exact fun e => H44.out ((u8_44 _).1 e)
          · exact HK.out.2.1 j h h1 (by omega), HK.out.2.2⟩⟩
        case measure => simp [intOf]; omega
    · obtain rfl : k = s.length := by omega
      have HS := hid (splitS_end s a fun j h h1 => HK.out.2.1 j h h1 h)
      have x1 : (bs s).extract a s.length = bs (s.drop a) := by rw [bs_extract, List.take_of_length_le (by simp)]
      have hi0 : (0 : Int) ≤ (a : Int) := by omega
      have hi1 : (a : Int) ≤ (s.length : Int) := by omega
      go_wp2_with (at_builtin; refine wpList_append_tx rfl _ _ rfl w.heap.size _ M (s.drop a) _ rfl (HK.out.2.2.1.alloc _) rfl (by simp) (by omega) (HK.out.2.2.2.alloc hsz _) (Nat.le_refl _) ?_)
      intro v' w3 hown hbel
      have HN := hid (And.intro hown hbel)
      clear hown hbel
      go_wp2_with fail
      go_ret
      exact ⟨_, rfl, by rw [HK.out.1, HS.out]; exact HN.out.1, HN.out.2⟩
end Go.Proofs.YtddmmpjamnjilaaDoor
