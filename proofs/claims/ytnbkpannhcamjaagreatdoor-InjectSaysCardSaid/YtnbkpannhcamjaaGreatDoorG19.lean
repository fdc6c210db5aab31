/- Texts put together: Tf Tg. -/
import Derived.Test.YtnbkpannhcamjaaGreatDoorG18
import Derived.Shelf.Strings.SlTrimAscii
namespace Go.Proofs.YtnbkpannhcamjaaGreatDoor
set_option linter.unusedVariables false
set_option linter.unusedSimpArgs false
open Go.RowKit Go.Joins Go.Shelf

theorem gMaxT : Tryz.prog.globalNamed "internal/bytealg.MaxLen" = some 1 := by kernel_rfl
/-- What the library's variable holds, as far as a walk asks. -/
def EnvT (w : World) : Prop := ∃ m, w.var? Tryz.prog "internal/bytealg.MaxLen" = some #[.int .i64 m]
theorem EnvT.later {w w' : World} (h : EnvT w) (hb : Below w.heap.size w w') : EnvT w' := by
  obtain ⟨m, h⟩ := h
  exact ⟨m, var_stays gMaxT h hb (Nat.le_refl _)⟩
theorem lib_tcut (s sep : List UInt8) (hs : sep ≠ []) (hl : s.length ≤ 100000) (w : World) (E : EnvT w) :
    Calls Tryz.prog 60 #[.string (bs s), .string (bs sep)] w fun e w' => e = .returned (.tuple #[.string (bs (cutS sep s).1), .string (bs (cutS sep s).2.1), .bool (cutS sep s).2.2]) ∧ Below w.heap.size w w' := by
  obtain ⟨m, hm⟩ := E
  refine (Tryz.strings_Cut (bs s) (bs sep) m w (by rw [bs_size]; omega) (by have h0 := World.var?_cell gMaxT hm 0; simpa using h0)).mono fun e w' ⟨a, n, b⟩ => ⟨?_, by rw [b]; exact below_drewN (Below.refl _ _) _⟩
  rw [a, bs_data, bs_data, cut_eq hs]; rfl
theorem lib_trim (s : List UInt8) (hl : s.length ≤ 100000) (w : World) :
    Calls Tryz.prog 61 #[.string (bs s), .string (bs [32, 9])] w fun e w' => e = .returned (.string (bs (trimB' s))) ∧ Below w.heap.size w w' :=
  (Any.strings_Trim_laid Tryz.lays160 (by kernel_rfl) (bs s) (bs [32, 9]) w (by rw [bs_size]; omega) (by decide) (ascii_of_all (by decide))).mono fun e w' ⟨a, b⟩ => ⟨by rw [a, bs_data, bs_data]; rfl, b⟩
theorem rblank_any (c : UInt8) (w : World) :
    Calls Tryz.prog 68 #[.int .u8 c.toNat] w fun e w' => e = .returned (.bool (isBl c)) ∧ w = w' := by
  have hc := c.toNat_lt
  unfold isBl
  generalize c.toNat = m at *
  go_enter Tryz.func68, Tryz.ntmps68
  go_wp2_with fail
  all_goals
    go_ret
    refine ⟨ret_bool ?_, rfl⟩
    rw [Bool.eq_iff_iff]
    simp
    try omega
def strLen : Value → Nat
  | .string s => s.size
  | _ => 0
theorem strLen_bs (l : List UInt8) : strLen (.string (bs l)) = l.length := bs_size l
theorem head_take {m b : List UInt8} (h : m ≠ []) : (m ++ b).head? = m.head? := by cases m <;> simp_all
set_option maxHeartbeats 3200000 in
theorem rtrim_any (l : List UInt8) (w : World) (hs : l.length ≤ 100000) :
    Calls Tryz.prog 43 #[.string (bs l)] w fun e w' => e = .returned (.string (bs (trimB' l))) ∧ w = w' := by
  go_enter Tryz.func43, Tryz.ntmps43
  go_wp2_with fail
  go_loop [0] (fun s => ∃ l' : List UInt8, s = .string (bs l') ∧ l'.length ≤ 100000 ∧ Hid (∃ a, l = a ++ l' ∧ ∀ x ∈ a, isBl x = true)) (fun s => strLen s)
  case atStart => exact ⟨l, rfl, hs, hid ⟨[], rfl, by simp⟩⟩
  case round =>
    obtain ⟨l', rfl, hl', HU⟩ := hrel
    by_cases hpos : 0 < l'.length
    · cases hb : isBl l'[0]
      · have HBl := hid hb
        clear hb
        have HH := hid (show ∀ x, l'.head? = some x → isBl x = false by
          intro x hx
          rw [List.head?_eq_getElem?, List.getElem?_eq_getElem hpos] at hx
          injection hx with hx
          rw [← hx]; exact HBl.out)
        go_wp2_with fail
        refine (rblank_any _ _).mono ?_
        rintro e w1 ⟨rfl, rfl⟩
        rw [HBl.out]
        go_wp2_with fail
        clear HBl
        go_loop [0] (fun s => ∃ m : List UInt8, s = .string (bs m) ∧ m.length ≤ 100000 ∧ Hid (∃ b, l' = m ++ b ∧ ∀ x ∈ b, isBl x = true)) (fun s => strLen s)
        case atStart => exact ⟨l', rfl, hl', hid ⟨[], by simp, by simp⟩⟩
        case round =>
          obtain ⟨m, rfl, hm, HV⟩ := hrel
          by_cases hp2 : 0 < m.length
          · have hi1 : (0 : Int) ≤ (m.length : Int) - 1 := by omega
            cases hb2 : isBl m[m.length - 1]
            · have HB2 := hid hb2
              clear hb2
              have HF := hid (show trimB' l = m by
                obtain ⟨a, e1, ha⟩ := HU.out
                obtain ⟨b, e2, hb⟩ := HV.out
                rw [e1, e2]
                refine trim_of ha hb (fun x hx => HH.out x ?_) (fun x hx => ?_)
                · rw [e2, head_take (List.ne_nil_of_length_pos hp2)]; exact hx
                · rw [List.getLast?_eq_getElem?, List.getElem?_eq_getElem (by omega)] at hx
                  injection hx with hx
                  rw [← hx]; exact HB2.out)
              go_wp2_with fail
              refine (rblank_any _ _).mono ?_
              rintro e w1 ⟨rfl, rfl⟩
              rw [HB2.out]
              go_wp2_with fail
              go_ret
              exact ⟨by rw [HF.out]; rfl, rfl⟩
            · have HB2 := hid hb2
              clear hb2
              have x2 : (bs m).extract 0 (m.length - 1) = bs (m.take (m.length - 1)) := by rw [bs_extract]; simp
              have HM := hid (show m = m.take (m.length - 1) ++ [m[m.length - 1]] by
                have := List.take_succ_eq_append_getElem (i := m.length - 1) (l := m) (by omega)
                rw [show m.length - 1 + 1 = m.length by omega, List.take_length] at this
                exact this)
              go_wp2_with fail
              refine (rblank_any _ _).mono ?_
              rintro e w1 ⟨rfl, rfl⟩
              rw [HB2.out]
              go_wp2_with fail
              go_round
              case rel =>
                refine ⟨m.take (m.length - 1), ?_, by simp; omega, hid ?_⟩
                · go_simp
                · obtain ⟨b, e2, hb⟩ := HV.out
                  refine ⟨m[m.length - 1] :: b, ?_, fun x hx => ?_⟩
                  · rw [e2]
                    have h3 : m ++ b = (m.take (m.length - 1) ++ [m[m.length - 1]]) ++ b := congrArg (· ++ b) HM.out
                    rw [h3, List.append_assoc]; rfl
                  · rcases List.mem_cons.1 hx with rfl | hx
                    · exact HB2.out
                    · exact hb x hx
              case measure => first | (simp [strLen_bs]; omega) | skip
          · have h0 : m = [] := List.eq_nil_of_length_eq_zero (by omega)
            subst h0
            have HF := hid (show trimB' l = [] by
                obtain ⟨a, e1, ha⟩ := HU.out
                obtain ⟨b, e2, hb⟩ := HV.out
                rw [e1, e2]
                exact trim_of ha hb (by simp) (by simp))
            go_wp2_with fail
            go_ret
            exact ⟨by rw [HF.out]; rfl, rfl⟩
      · have HBl := hid hb
        clear hb
        have x2 : (bs l').extract 1 l'.length = bs (l'.drop 1) := by rw [bs_extract, List.take_of_length_le (by simp)]
        have hi1 : (1 : Int) ≤ (l'.length : Int) := by omega
        have HM := hid (show l' = l'[0] :: l'.drop 1 by
          cases l' with
          | nil => simp at hpos
          | cons c r => simp)
        go_wp2_with fail
        refine (rblank_any _ _).mono ?_
        rintro e w1 ⟨rfl, rfl⟩
        rw [HBl.out]
        go_wp2_with fail
        go_round
        case rel =>
          refine ⟨l'.drop 1, ?_, by simp; omega, hid ?_⟩
          · go_simp
          · obtain ⟨a, e1, ha⟩ := HU.out
            refine ⟨a ++ [l'[0]], ?_, fun x hx => ?_⟩
            · rw [e1]; conv => lhs; rw [HM.out]
              simp
            · rcases List.mem_append.1 hx with hx | hx
              · exact ha x hx
              · simp at hx; subst hx; exact HBl.out
        case measure => first | (simp [strLen_bs]; omega) | skip
    · have h0 : l' = [] := List.eq_nil_of_length_eq_zero (by omega)
      subst h0
      have HF := hid (show trimB' l = [] by
          obtain ⟨a, e1, ha⟩ := HU.out
          have := trim_of (a := a) (m := []) (b := []) ha (by simp) (by simp) (by simp)
          rw [e1]; simpa using this)
      go_wp2_with fail
      go_loop [0] (fun s => s = .string (bs [])) (fun s => strLen s)
      case atStart => rfl
      case round =>
        subst hrel
        go_wp2_with fail
        go_ret
        exact ⟨by rw [HF.out]; rfl, rfl⟩
theorem splitS_hit (s : List UInt8) (a i : Nat) (ha : a ≤ i) (hi : i < s.length) (hc : s[i] = 44) (hn : ∀ j (h : j < s.length), a ≤ j → j < i → s[j] ≠ 44) : splitS (s.drop a) = (s.drop a).take (i - a) :: splitS (s.drop (i + 1)) := by
  have e : s.drop a = (s.drop a).take (i - a) ++ 44 :: s.drop (i + 1) := by
    have h1 : (s.drop a).drop (i - a) = s.drop i := by rw [List.drop_drop, show a + (i - a) = i by omega]
    conv => lhs; rw [← List.take_append_drop (i - a) (s.drop a), h1, List.drop_eq_getElem_cons hi, hc]
  conv => lhs; rw [e]
  refine splitS_one _ _ fun c hcm => ?_
  obtain ⟨j, hj, rfl⟩ := List.getElem_of_mem hcm
  simp at hj
  rw [List.getElem_take, List.getElem_drop]
  exact hn (a + j) (by omega) (by omega) (by omega)
theorem splitS_end (s : List UInt8) (a : Nat) (hn : ∀ j (h : j < s.length), a ≤ j → s[j] ≠ 44) : splitS (s.drop a) = [s.drop a] := by
  refine splitS_plain _ fun c hcm => ?_
  obtain ⟨j, hj, rfl⟩ := List.getElem_of_mem hcm
  simp at hj
  rw [List.getElem_drop]
  exact hn (a + j) (by omega) (by omega)
theorem u8_44 (c : UInt8) : (c = 44) ↔ c.toNat = 44 := by rw [← UInt8.toNat_inj]; rfl
set_option maxRecDepth 100000 in
set_option maxHeartbeats 4000000 in
theorem rsplit_any (s : List UInt8) (w : World) (hs : s.length ≤ 100000) :
    Calls Tryz.prog 42 #[.string (bs s), .int .u8 44] w fun e w' => ∃ v, e = .returned v ∧ TB w' w.heap.size v (splitS s) ∧ Below w.heap.size w w' := by
  go_enter Tryz.func42, Tryz.ntmps42
  go_wp2_with fail
  go_loopw [5, 6, 7] (fun v f i wr => ∃ (a k : Nat) (M : List (List UInt8)), k ≤ s.length ∧ a ≤ k ∧ f = .int .i64 a ∧ i = .int .i64 k ∧ M.length ≤ k ∧ Hid (splitS s = M ++ splitS (s.drop a) ∧ (∀ j (h : j < s.length), a ≤ j → j < k → s[j] ≠ 44) ∧ TB wr w.heap.size v M ∧ Below w.heap.size w wr)) (fun _ _ i _ => s.length - (intOf i).toNat)
  case atStart => exact ⟨0, 0, [], by omega, by omega, rfl, rfl, by simp, hid ⟨rfl, fun j h h1 h2 => absurd h2 (by omega), TB.nil _ _, Below.refl _ _⟩⟩
  case round =>
    obtain ⟨a, k, M, hk, hak, rfl, rfl, hM, HK⟩ := hrel
    have hsz : w.heap.size ≤ wr.heap.size := HK.out.2.2.2.size
    by_cases hlt : k < s.length
    · have hc := UInt8.toNat_lt s[k]
      by_cases h44 : s[k].toNat = 44
      · have HS := hid (splitS_hit s a k hak hlt ((u8_44 _).2 h44) HK.out.2.1)
        have hb : ((s[k].toNat : Int) == 44) = true := by simp; omega
        have x1 : (bs s).extract a k = bs ((s.drop a).take (k - a)) := bs_extract _ _ _
        have hi0 : (0 : Int) ≤ (a : Int) := by omega
        have hi1 : (a : Int) ≤ (k : Int) := by omega
        have hi2 : (k : Int) ≤ (s.length : Int) := by omega
        clear h44
        go_wp2_with (at_builtin; refine wpList_append_tx rfl _ _ rfl w.heap.size _ M ((s.drop a).take (k - a)) _ rfl (HK.out.2.2.1.alloc _) rfl (by simp) (by omega) (HK.out.2.2.2.alloc hsz _) (Nat.le_refl _) ?_)
        intro v' w3 hown hbel
        have HN := hid (And.intro hown hbel)
        clear hown hbel
        go_wp2_with fail
        go_roundw
        case rel => exact ⟨k + 1, k + 1, M ++ [(s.drop a).take (k - a)], by omega, by omega, by go_num, by go_num, by simp; omega, hid ⟨by rw [HK.out.1, HS.out]; simp, fun j h h1 h2 => absurd h2 (by omega), HN.out.1, HN.out.2⟩⟩
        case measure => simp [intOf]; omega
      · have H44 := hid h44
        have hb : ((s[k].toNat : Int) == 44) = false := by simp; omega
        clear h44
        go_wp2_with fail
        go_roundw
        case rel => exact ⟨a, k + 1, M, by omega, by omega, rfl, by go_num, by omega, hid ⟨HK.out.1, fun j h h1 h2 => by
          by_cases e : j = k
          · subst e; exact fun e => H44.out ((u8_44 _).1 e)
          · exact HK.out.2.1 j h h1 (by omega), HK.out.2.2⟩⟩
        case measure => simp [intOf]; omega
    · obtain rfl : k = s.length := by omega
      have HS := hid (splitS_end s a fun j h h1 => HK.out.2.1 j h h1 h)
      have x1 : (bs s).extract a s.length = bs (s.drop a) := by rw [bs_extract, List.take_of_length_le (by simp)]
      have hi0 : (0 : Int) ≤ (a : Int) := by omega
      have hi1 : (a : Int) ≤ (s.length : Int) := by omega
      go_wp2_with (at_builtin; refine wpList_append_tx rfl _ _ rfl w.heap.size _ M (s.drop a) _ rfl (HK.out.2.2.1.alloc _) rfl (by simp) (by omega) (HK.out.2.2.2.alloc hsz _) (Nat.le_refl _) ?_)
      intro v' w3 hown hbel
      have HN := hid (And.intro hown hbel)
      clear hown hbel
      go_wp2_with fail
      go_ret
      exact ⟨_, rfl, by rw [HK.out.1, HS.out]; exact HN.out.1, HN.out.2⟩
end Go.Proofs.YtnbkpannhcamjaaGreatDoor
namespace Go.Proofs.YtnbkpannhcamjaaGreatDoor
set_option linter.unusedVariables false
set_option linter.unusedSimpArgs false
open Go.RowKit Go.Joins

theorem tcut_len (sep : List UInt8) : ∀ s : List UInt8, (cutS sep s).1.length ≤ s.length ∧ (cutS sep s).2.1.length ≤ s.length
  | [] => ⟨Nat.le_refl _, Nat.le_refl _⟩
  | b :: l => by
    have ih := tcut_len sep l
    rw [cutS]
    split
    · simp
    · simp; omega
theorem tcut_less (s : List UInt8) (h : (cutS [44] s).2.2 = true) : (cutS [44] s).2.1.length + 1 ≤ s.length := by
  have := congrArg List.length (cutS_found (sep := [44]) (by simp) s h)
  simp at this; omega
theorem cut_plain : ∀ t : List UInt8, (∀ x ∈ t, x ≠ 61) → cutS [61] t = (t, [], false)
  | [], _ => rfl
  | c :: r, h => by
    have hx : ¬ List.isPrefixOf [61] (c :: r) = true := by simp; exact fun e => h c (by simp) e.symm
    rw [cutS, if_neg hx, cut_plain r fun x hx => h x (by simp [hx])]
theorem oneM_noval (acc : List Hd) (k : List UInt8) : oneM acc (k, []) = 3 := by
  unfold oneM
  split
  · rfl
  · rw [if_pos (by rfl)]
theorem cut_at (t : List UInt8) (k : Nat) (hk : k < t.length) (h : t[k] = 61) (hn : ∀ j (hj : j < t.length), j < k → t[j] ≠ 61) : cutS [61] t = (t.take k, t.drop (k + 1), true) := by
  have e : t = t.take k ++ 61 :: t.drop (k + 1) := by
    conv => lhs; rw [← List.take_append_drop k t, List.drop_eq_getElem_cons hk, h]
  conv => lhs; rw [e]
  refine cutS_one _ _ fun c hcm => ?_
  obtain ⟨j, hj, rfl⟩ := List.getElem_of_mem hcm
  simp at hj
  rw [List.getElem_take]
  exact hn j (by omega) (by omega)
theorem u8_61 (c : UInt8) : (c = 61) ↔ c.toNat = 61 := by rw [← UInt8.toNat_inj]; rfl
theorem MB.at_ {w : World} {base N c : Nat} {A : Option Addr} {acc : List Hd} (h : MB w base (.slice A N c) acc) : N = acc.length ∧ acc.length ≤ c ∧ HReads w (· < w.heap.size) A acc := by
  obtain ⟨A2, c2, e, hle, hr⟩ := h.form
  injection e with e1 e2 e3
  subst e1; subst e3
  exact ⟨e2, hle, hr⟩
theorem tfault_own {w : World} {base N c : Nat} {A : Option Addr} {acc : List Hd} (h : MB w base (.slice A N c) acc) (ho : okM acc) (k v : List UInt8) (hk : k.length ≤ 100000) (hv : v.length ≤ 100000) :
    Calls Tryz.prog 62 #[.slice A N c, .agg #[.string (bs k), .string (bs v)]] w fun e w' => e = .returned (.int .i64 (oneM acc (k, v))) ∧ Below w.heap.size w w' := by
  obtain ⟨rfl, _, hr⟩ := h.at_
  exact tfault_any A c acc k v w hr (by have := ho.1; omega) (by omega) (by omega)
theorem rone_own {w : World} {base N c : Nat} {A : Option Addr} {acc : List Hd} (h : MB w base (.slice A N c) acc) (ho : okM acc) (k v : List UInt8) (hk : k.length ≤ 100000) (hv : v.length ≤ 100000) :
    Calls Tryz.prog 44 #[.slice A N c, .agg #[.string (bs k), .string (bs v)]] w fun e w' => e = .returned (.int .i64 (oneM acc (k, v))) ∧ Below w.heap.size w w' := by
  obtain ⟨rfl, _, hr⟩ := h.at_
  exact rone_any A c acc k v w hr (by have := ho.1; omega) (by omega) (by omega)
def boolN : Value → Nat
  | .bool true => 1
  | _ => 0
theorem readM_ret {M : List Hd × Int} {X : List Hd} {c : Int} {w w' : World} {base : Nat} {r : Value} (h : M = (X, c)) (hm : MB w' base r X) (hb : Below base w w') :
    (∃ r', Ending.returned (.tuple #[r, .int .i64 c]) = .returned (.tuple #[r', .int .i64 M.2]) ∧ MB w' base r' M.1) ∧ Below base w w' := put_ret h hm hb
def restM (f : Bool) (s : List UInt8) : List (List UInt8) := if f = true then splitS s else []
set_option maxRecDepth 100000 in
set_option maxHeartbeats 4000000 in
theorem tread_any (s : List UInt8) (hs : s.length ≤ 100000) (w : World) (E : EnvT w) :
    Calls Tryz.prog 32 #[.string (bs s)] w fun e w' => (∃ r, e = .returned (.tuple #[r, .int .i64 (readM s).2]) ∧ MB w' w.heap.size r (readM s).1) ∧ Below w.heap.size w w' := by
  have HE := hid E
  clear E
  have c1 : (ByteArray.mk #[44]) = bs [44] := rfl
  have c2 : (ByteArray.mk #[61]) = bs [61] := rfl
  have c3 : (ByteArray.mk #[32, 9]) = bs [32, 9] := rfl
  go_enter Tryz.func32, Tryz.ntmps32
  go_wp2_with fail
  go_loopw [0, 4, 5] (fun sv v mv wr => ∃ (t : List UInt8) (acc : List Hd) (f : Bool) (A1 : Option Addr) (N c : Nat), sv = .string (bs t) ∧ v = .slice A1 N c ∧ mv = .bool f ∧ t.length ≤ 100000 ∧ N ≤ 32 ∧ Hid (readM s = rdP acc (restM f t) ∧ MB wr w.heap.size (.slice A1 N c) acc ∧ okM acc ∧ Below w.heap.size w wr)) (fun sv _ mv _ => strLen sv + boolN mv)
  case atStart => exact ⟨s, [], true, none, 0, 0, rfl, rfl, rfl, hs, by omega, hid ⟨rfl, MB.nil _ _, ⟨by simp, by simp⟩, Below.refl _ _⟩⟩
  case round =>
    obtain ⟨t, acc, f, A1, N, c, rfl, rfl, rfl, ht, hN, HK⟩ := hrel
    cases f
    · have HF := hid (show readM s = (acc, 0) from HK.out.1)
      go_wp2_with fail
      go_ret2
      exact readM_ret HF.out HK.out.2.1 HK.out.2.2.2
    · have hcl := tcut_len [44] t
      have HLS := hid (fun h => tcut_less t h)
      have HLO := hid (fun h => cutS_lost (sep := [44]) t h)
      have HSP := hid (splitS_cut t)
      have HC1 := hid (lib_tcut t [44] (by simp) ht wr (HK.out.2.2.2 |> fun hb => EnvT.later HE.out hb))
      obtain ⟨p, r, f, hcut⟩ : ∃ p r f, cutS [44] t = (p, r, f) := ⟨_, _, _, rfl⟩
      rw [hcut] at hcl HLS HLO HSP HC1
      obtain ⟨hp, hr⟩ := hcl
      simp only at hp hr
      have HRD := hid (show readM s = rdP acc (p :: restM f r) by rw [HK.out.1, restM, if_pos rfl, HSP.out]; rfl)
      have hme : r.length + boolN (.bool f) < t.length + 1 := by
        cases f
        · have := (HLO.out rfl).2; simp only at this; subst this; simp [boolN]
        · have := HLS.out rfl; simp only at this; simp [boolN]; omega
      clear hcut HLS HLO HSP
      have htl := trim_len p
      have HC2 := hid (fun w => lib_trim p (by omega) w)
      have hrd : rdP acc (p :: restM f r) = if trimB' p = [] then rdP acc (restM f r) else
        if oneM acc ((cutS [61] (trimB' p)).1, (cutS [61] (trimB' p)).2.1) = 0 then rdP (acc ++ [((cutS [61] (trimB' p)).1, (cutS [61] (trimB' p)).2.1)]) (restM f r)
        else ([], oneM acc ((cutS [61] (trimB' p)).1, (cutS [61] (trimB' p)).2.1)) := rfl
      rw [hrd] at HRD
      clear hrd
      generalize trimB' p = q at *
      by_cases hq : q = []
      · subst hq
        have HR2 := hid (show readM s = rdP acc (restM f r) by rw [HRD.out, if_pos rfl])
        clear HRD
        go_wp2_with fail
        refine HC1.out.mono ?_
        rintro e w1 ⟨rfl, hb1⟩
        have H1 := hid (And.intro (HK.out.2.1.below hb1) (tbelow_step HK.out.2.2.2 hb1))
        clear hb1
        go_wp2_with fail
        refine (HC2.out _).mono ?_
        rintro e w2 ⟨rfl, hb2⟩
        have H2 := hid (And.intro (H1.out.1.below hb2) (tbelow_step H1.out.2 hb2))
        clear hb2
        go_wp2_with fail
        go_roundw
        case rel => exact ⟨r, acc, f, _, _, _, rfl, rfl, rfl, by omega, by omega, hid ⟨HR2.out, H2.out.1, HK.out.2.2.1, H2.out.2⟩⟩
        case measure => simpa [strLen_bs, boolN] using hme
      · have hqb : (q == []) = false := by simpa using hq
        have HRD2 := hid (show readM s = if oneM acc ((cutS [61] q).1, (cutS [61] q).2.1) = 0 then rdP (acc ++ [((cutS [61] q).1, (cutS [61] q).2.1)]) (restM f r) else ([], oneM acc ((cutS [61] q).1, (cutS [61] q).2.1)) by rw [HRD.out, if_neg hq])
        have hcl := tcut_len [61] q
        have HC3 := hid (fun (w : World) (E : EnvT w) => lib_tcut q [61] (by simp) (by omega) w E)
        obtain ⟨k, v, g, hcut⟩ : ∃ k v g, cutS [61] q = (k, v, g) := ⟨_, _, _, rfl⟩
        rw [hcut] at hcl HC3 HRD2
        obtain ⟨hk, hv⟩ := hcl
        simp only at hk hv
        have HO := hid (fun (w : World) (base : Nat) (h : MB w base (.slice A1 N c) acc) => tfault_own h HK.out.2.2.1 k v (by omega) (by omega))
        have HOK := hid (fun (h : oneM acc (k, v) = 0) => okM_snoc HK.out.2.2.1 h)
        have HRD3 := hid (show readM s = if oneM acc (k, v) = 0 then rdP (acc ++ [(k, v)]) (restM f r) else ([], oneM acc (k, v)) from HRD2.out)
        clear hcut HRD HRD2 hq
        generalize oneM acc (k, v) = x at *
        go_wp2_with fail
        refine HC1.out.mono ?_
        rintro e w1 ⟨rfl, hb1⟩
        have H1 := hid (And.intro (HK.out.2.1.below hb1) (tbelow_step HK.out.2.2.2 hb1))
        clear hb1
        go_wp2_with fail
        refine (HC2.out _).mono ?_
        rintro e w2 ⟨rfl, hb2⟩
        have H2 := hid (And.intro (H1.out.1.below hb2) (tbelow_step H1.out.2 hb2))
        clear hb2
        go_wp2_with fail
        refine (HC3.out _ (EnvT.later HE.out H2.out.2)).mono ?_
        rintro e w3 ⟨rfl, hb3⟩
        have H3 := hid (And.intro (H2.out.1.below hb3) (tbelow_step H2.out.2 hb3))
        have hsz3 : w.heap.size ≤ w3.heap.size := H3.out.2.size
        clear hb3
        have H4 := hid (And.intro (H3.out.1.alloc (.cells #[Value.string (bs k), Value.string (bs v)] 71)) (H3.out.2.alloc hsz3 (.cells #[Value.string (bs k), Value.string (bs v)] 71)))
        obtain ⟨d0, d1⟩ := ttwo_new w3 (.string (bs k)) (.string (bs v)) 71
        have hgs : w3.heap.size < (w3.alloc (.cells #[Value.string (bs k), Value.string (bs v)] 71)).heap.size := by simp
        go_wp2_with fail
        generalize w3.alloc (.cells #[Value.string (bs k), Value.string (bs v)] 71) = w4 at *
        refine (HO.out _ _ H4.out.1).mono ?_
        rintro e w5 ⟨rfl, hb5⟩
        have H5 := hid (And.intro (H4.out.1.below hb5) (tbelow_step H4.out.2 hb5))
        obtain ⟨g0, g1, _⟩ := tkeep2 d0 d1 hb5
        have hsz5 : w.heap.size ≤ w5.heap.size := H5.out.2.size
        clear d0 d1 hb5
        by_cases hx : x = 0
        · subst hx
          have HR4 := hid (show readM s = rdP (acc ++ [(k, v)]) (restM f r) by rw [HRD3.out, if_pos rfl])
          have HOK2 := hid (HOK.out rfl)
          have HNL := hid (H5.out.1.at_).1
          go_wp2_with (at_builtin; refine wpList_append_mb rfl _ _ rfl w.heap.size _ acc (k, v) _ rfl (H5.out.1.alloc _) rfl ⟨by simp, by simp⟩ (by have := HNL.out; omega) (H5.out.2.alloc hsz5 _) (Nat.le_refl _) ?_)
          intro v' w6 hown hbel
          obtain ⟨A2, c2, e2, hle, _⟩ := hown.form
          have e3 : v' = .slice A2 (N + 1) c2 := by have := HNL.out; rw [e2]; simp; omega
          have hN2 : N + 1 ≤ 32 := by have := HOK2.out.1; have := HNL.out; simp at *; omega
          subst e3
          have HN := hid (And.intro hown hbel)
          clear hown hbel hle e2
          go_wp2_with fail
          go_roundw
          case rel => exact ⟨r, acc ++ [(k, v)], f, _, _, _, rfl, rfl, rfl, by omega, by omega, hid ⟨HR4.out, HN.out.1, HOK2.out, HN.out.2⟩⟩
          case measure => simpa [strLen_bs, boolN] using hme
        · have HR4 := hid (show readM s = ([], x) by rw [HRD3.out, if_neg hx])
          have hne : (x != 0) = true := by simpa using hx
          clear hx HRD3
          go_wp2_with fail
          go_ret2
          exact readM_ret HR4.out (MB.nil _ _) H5.out.2
end Go.Proofs.YtnbkpannhcamjaaGreatDoor
