/- dedup: the walk of DedupOnce. -/
import Derived.Test.YtpfhmpblcmednaaD26
import Derived.Test.YtpfhmpblcmednaaD28
import Derived.Deep.CutRange
import Derived.Deep.CutBlock
import Derived.Test.YtpfhmpblcmednaaD27
import Derived.Deep.RegionHeld3
import Derived.BigQuiet
import Derived.Test.YtpfhmpblcmednaaD25
import Derived.Laws.StructEq
namespace Go.Proofs.Ytpfhmpblcmednaa
set_option linter.unusedVariables false
set_option linter.unusedSimpArgs false
open Go.RowKit Go.Joins

theorem gvalsI_set (L : List Int) (i : Nat) (m : Int) : gvals encWi (L.set i m) = (gvals encWi L).set i (.int .i64 m) := by
  have h : ∀ L : List Int, gvals encWi L = L.map fun n => .int .i64 n := fun L => by
    induction L with
    | nil => rfl
    | cons a r ih => simp [gvals, encWi] at ih ⊢; exact ih
  rw [h, h, List.map_set]
theorem gbI_set {w : World} {base b n cap : Nat} {L : List Int} (h : GB encWi 1 3 w base (.slice (some ⟨b, 0, none⟩) n cap) L) (i : Nat) (m : Int) (hi : i < L.length) : GB encWi 1 3 (w.setCell ⟨b, i, none⟩ (.int .i64 m)) base (.slice (some ⟨b, 0, none⟩) n cap) (L.set i m) := by
  rcases h.2 with ⟨h0, _⟩ | ⟨g, cap', cur, e1, e2, e3, e4, e5, e6, e7⟩
  · cases h0
  · simp only [Value.slice.injEq, Option.some.injEq, Addr.mk.injEq, and_true, true_and] at e1
    obtain ⟨rfl, hn, rfl⟩ := e1
    have k : Bk w b 3 cur := e3
    refine ⟨by rw [gvals_len encWi 1 encWi_len, List.length_set], Or.inr ⟨b, cap, cur.setIfInBounds i (.int .i64 m), by rw [hn, List.length_set], e2, k.set_ i _, by rw [List.length_set]; exact e4, e5, by rw [Array.size_setIfInBounds]; exact e6, ?_⟩⟩
    rw [List.length_set, gvalsI_set, ← e7, Array.toList_setIfInBounds, List.take_set]
theorem gbI_cell {w : World} {base b n cap : Nat} {L : List Int} (h : GB encWi 1 3 w base (.slice (some ⟨b, 0, none⟩) n cap) L) (i : Nat) (hi : i < L.length) : w.cell? ⟨b, i, none⟩ = some (.int .i64 L[i]) ∧ w.frozen? ⟨b, i, none⟩ = false := by
  rcases GB.form encWi_len h with ⟨h1, -⟩ | ⟨g, cap', h1, -, -, -, -, h2⟩
  · cases h1
  · simp only [Value.slice.injEq, Option.some.injEq, Addr.mk.injEq, and_true, true_and] at h1
    obtain ⟨rfl, -, -⟩ := h1
    obtain ⟨h3, h4⟩ := h2 i (by omega)
    refine ⟨?_, h4⟩
    rw [h3]
    have h : ∀ L : List Int, gvals encWi L = L.map fun n => .int .i64 n := fun L => by
      induction L with
      | nil => rfl
      | cons a r ih => simp [gvals, encWi] at ih ⊢; exact ih
    rw [h, List.getElem?_map, List.getElem?_eq_getElem hi]
    rfl
/-- The first ones of a row, as a row. -/
theorem gb_take {α : Type} {enc : α → List Value} {k : Nat} {e : TypeId} {w : World} {base q n c : Nat} {L : List α} (hk : ∀ x, (enc x).length = k) (h : GB enc k e w base (.slice (some ⟨q, 0, none⟩) n c) L) (i : Nat) (hi : i ≤ L.length) : GB enc k e w base (.slice (some ⟨q, 0, none⟩) i c) (L.take i) := by
  rcases h.2 with ⟨h0, _⟩ | ⟨g, cap', cur, e1, e2, e3, e4, e5, e6, e7⟩
  · cases h0
  · simp only [Value.slice.injEq, Option.some.injEq, Addr.mk.injEq, and_true, true_and] at e1
    obtain ⟨rfl, hn, rfl⟩ := e1
    have hl : (L.take i).length = i := by rw [List.length_take]; omega
    refine ⟨by rw [gvals_len enc k hk], Or.inr ⟨q, c, cur, by rw [hl], e2, e3, by rw [hl]; omega, e5, e6, ?_⟩⟩
    rw [hl]
    have e9 : gvals enc L = gvals enc (L.take i) ++ gvals enc (L.drop i) := by rw [gvals_append, List.take_append_drop]
    have e8 : (gvals enc (L.take i)).length = i * k := by rw [gvals_len enc k hk, hl]
    have : List.take (i * k) (List.take (L.length * k) cur.toList) = gvals enc (L.take i) := by
      rw [e7, e9, ← e8, List.take_left']
      rfl
    rw [List.take_take, Nat.min_eq_left (Nat.mul_le_mul_right _ hi)] at this
    exact this
/-- What a function value says of an int, in whatever world that differs in one block alone. -/
def FI (w0 : World) (q : Nat) (fv : Value) (p : Int → Bool) : Prop :=
  ∃ (F : Nat) (c : Value), fv = .func (.func F) #[] #[c] ∧ (∀ args w, (callFunc F args).run Try.prog w = .ok (.enter F args) w) ∧
    ∀ (x : Int) w, OnS (fun b => b = q) w0 w → Calls Try.prog F #[.int .i64 x, c] w fun e w' => e = .returned (.bool (p x)) ∧ Below w.heap.size w w'
/-- What slices.IndexFunc answers. -/
def IfR (w : World) (q : Nat) (L : List Int) (p : Int → Bool) (e : Ending) (w' : World) : Prop := Below w.heap.size w w' ∧ ((∃ (k : Nat) (h : k < L.length), e = .returned (.int .i64 (k : Int)) ∧ p L[k] = true ∧ ∀ j (h : j < L.length), j < k → p L[j] = false) ∨ (e = .returned (.int .i64 (-1)) ∧ ∀ x ∈ L, p x = false))
set_option maxRecDepth 100000 in
set_option maxHeartbeats 4000000 in
theorem iindexf_any (q n c : Nat) (fv : Value) (L : List Int) (p : Int → Bool) (w : World) (hG : GB encWi 1 3 w 0 (.slice (some ⟨q, 0, none⟩) n c) L) (hn : Hid (L.length = n)) (hl : n ≤ 1000) (hF : FI w q fv p) :
    Calls Try.prog 134 #[.slice (some ⟨q, 0, none⟩) n c, fv] w fun e w' => IfR w q L p e w' := by
  obtain ⟨F, cv, rfl, eg, hF⟩ := hF
  have HG := hid hG
  have HF := hid hF
  clear hG hF
  go_enter Try.func134, Try.ntmps134
  go_wp2_with fail
  go_loopg [8] n (fun g1 vi wr => ∃ i : Nat, vi = .int .i64 i ∧ i ≤ n ∧ n - i ≤ g1 ∧ Hid ((∀ j (h : j < L.length), j < i → p L[j] = false) ∧ Below w.heap.size w wr))
  case atStart => exact ⟨0, rfl, by omega, by omega, hid ⟨fun j x hj => by omega, Below.refl _ _⟩⟩
  case round =>
    obtain ⟨i, rfl, hin, hgk, HBl⟩ := hrel
    by_cases hlt : i < n
    · have hltz : (i : Int) < (n : Int) := by omega
      have hltd : decide ((i : Int) < (n : Int)) = true := decide_eq_true hltz
      have hi0 : (0 : Int) ≤ (i : Int) := by omega
      have hiU : i < L.length := by have := hn.out; omega
      have r0 := (gbI_cell (HG.out.below HBl.out.2) i hiU).1
      obtain ⟨x, hx⟩ : ∃ x, L[i] = x := ⟨_, rfl⟩
      have HX := hid hx
      rw [hx] at r0
      clear hx
      obtain ⟨z1, hz1⟩ : ∃ z1, p x = z1 := ⟨_, rfl⟩
      have HZ := hid hz1
      have HC := hid (HF.out x wr (OnS.below HBl.out.2))
      rw [hz1] at HC
      clear hz1
      go_wp2_with fail
      refine HC.out.mono ?_
      rintro e w1 ⟨rfl, hb1⟩
      have HB1 := hid (estep HBl.out.2 hb1)
      clear hb1 r0
      cases z1
      · go_wp2_with fail
        go_roundg (n - (i + 1))
        case measure => omega
        case rel => exact ⟨i + 1, by go_num, by omega, by omega, hid ⟨fun j h hj => by
          rcases Nat.lt_or_eq_of_le (Nat.le_of_lt_succ hj) with h2 | rfl
          · exact HBl.out.1 j h h2
          · rw [HX.out]; exact HZ.out, HB1.out⟩⟩
      · go_wp2_with fail
        go_returns
        exact ⟨HB1.out, Or.inl ⟨i, hiU, rfl, by rw [HX.out]; exact HZ.out, HBl.out.1⟩⟩
    · obtain rfl : i = n := by omega
      have hltd : decide ((i : Int) < (i : Int)) = false := by simp
      go_wp2_with fail
      go_returns
      exact ⟨HBl.out.2, Or.inr ⟨rfl, fun x hx => by
        obtain ⟨j, hj, rfl⟩ := List.mem_iff_getElem.1 hx
        exact HBl.out.1 j hj (by have := hn.out; omega)⟩⟩
/-- What slices.DeleteFunc answers. -/
def DfR (w : World) (q c : Nat) (L : List Int) (p : Int → Bool) (e : Ending) (w' : World) : Prop := ∃ m : Nat, e = .returned (.slice (some ⟨q, 0, none⟩) m c) ∧ GB encWi 1 3 w' 0 (.slice (some ⟨q, 0, none⟩) m c) (L.filter fun x => !p x) ∧ OnS (fun b => b = q) w w'
theorem wz_one : ∀ u ∈ (Value.int .i64 0).cells.toList, u.oneCell' = true := fun u hu => by
  simp [Value.cells] at hu
  subst hu; rfl
set_option maxRecDepth 100000 in
set_option maxHeartbeats 8000000 in
theorem idel_any (q n c : Nat) (fv : Value) (L : List Int) (p : Int → Bool) (w : World) (hG : GB encWi 1 3 w 0 (.slice (some ⟨q, 0, none⟩) n c) L) (hn : Hid (L.length = n)) (hl : n ≤ 1000) (hnc : n ≤ c ∧ c ≤ maxLen) (hF : FI w q fv p) :
    Calls Try.prog 105 #[.slice (some ⟨q, 0, none⟩) n c, fv] w fun e w' => DfR w q c L p e w' := by
  have HI := hid (iindexf_any q n c fv L p w hG hn hl hF)
  obtain ⟨F, cv, rfl, eg, hF⟩ := hF
  have HG := hid hG
  have HF := hid hF
  clear hG hF
  go_enter Try.func105, Try.ntmps105
  go_wp2_with fail
  refine HI.out.mono ?_
  rintro e w1 ⟨ho, ⟨k0, hk0, rfl, hp0, hlo⟩ | ⟨rfl, hno⟩⟩
  · have hk0n : k0 < n := by have := hn.out; omega
    have hne : ((k0 : Int) == -1) = false := by simp
    have hadd0 : IntKind.i64.wrap ((k0 : Int) + 1) = ((k0 + 1 : Nat) : Int) := by rw [IntWalk.i64_in _ (by omega)]; push_cast; rfl
    have hfil : L.take k0 = (L.take (k0 + 1)).filter (fun x => !p x) := by
      rw [List.take_succ_eq_append_getElem hk0, List.filter_append, List.filter_eq_self.2, List.filter_eq_nil_iff.2]
      · simp
      · intro x hx
        rw [List.mem_singleton.1 hx, hp0]
        simp
      · intro x hx
        obtain ⟨j, hj, rfl⟩ := List.mem_iff_getElem.1 hx
        rw [List.length_take] at hj
        rw [List.getElem_take, hlo j (by omega) (by omega)]
        rfl
    have HS := hid (show ∃ M : List Int, GB encWi 1 3 w1 0 (.slice (some ⟨q, 0, none⟩) n c) M ∧ M.length = n ∧ M.take k0 = (L.take (k0 + 1)).filter (fun x => !p x) ∧ M.drop (k0 + 1) = L.drop (k0 + 1) ∧ OnS (fun b => b = q) w w1 from
      ⟨L, HG.out.below ho, hn.out, hfil, rfl, OnS.below ho⟩)
    have hnz : (0 : Int) ≤ (n : Int) := by omega
    clear hfil hp0 hlo ho
    go_wp2_with fail
    go_loopg [5, 6] n (fun g1 vi vj wr => ∃ i j : Nat, vi = .int .i64 (i : Int) ∧ vj = .int .i64 (j : Int) ∧ i < j ∧ j ≤ n ∧ n - j ≤ g1 ∧ Hid (∃ M : List Int, GB encWi 1 3 wr 0 (.slice (some ⟨q, 0, none⟩) n c) M ∧ M.length = n ∧ M.take i = (L.take j).filter (fun x => !p x) ∧ M.drop j = L.drop j ∧ OnS (fun b => b = q) w wr))
    case atStart => exact ⟨k0, k0 + 1, rfl, by first | rfl | go_num, by omega, by omega, by omega, HS⟩
    case round =>
      obtain ⟨i, j, rfl, rfl, hij, hjn, hgk, HM⟩ := hrel
      obtain ⟨wz, hwz⟩ : ∃ wz, wz = wr := ⟨_, rfl⟩
      subst hwz
      obtain ⟨M, hM1, hM2, hM3, hM4, hM5⟩ := HM.out
      by_cases hlt : j < n
      · have hltz : (j : Int) < (n : Int) := by omega
        have hltd : decide ((j : Int) < (n : Int)) = true := decide_eq_true hltz
        have hj0 : (0 : Int) ≤ (j : Int) := by omega
        have hi0 : (0 : Int) ≤ (i : Int) := by omega
        have hin : (i : Int) < (n : Int) := by omega
        have hjM : j < M.length := by omega
        have hjL : j < L.length := by have := hn.out; omega
        have hMj : M[j] = L[j] := by
          have h1 : (M.drop j)[0]'(by rw [List.length_drop]; omega) = (L.drop j)[0]'(by rw [List.length_drop]; omega) := by simp only [hM4]
          simpa using h1
        have r0 := (gbI_cell hM1 j hjM).1
        have f0 := (gbI_cell hM1 i (by omega)).2
        rw [hMj] at r0
        have hfs := List.take_succ_eq_append_getElem hjL
        obtain ⟨x, hx⟩ : ∃ x, L[j] = x := ⟨_, rfl⟩
        rw [hx] at r0 hfs
        have hjadd : IntKind.i64.wrap ((j : Int) + 1) = (j : Int) + 1 := IntWalk.i64_in _ (by omega)
        have hiadd : IntKind.i64.wrap ((i : Int) + 1) = (i : Int) + 1 := IntWalk.i64_in _ (by omega)
        obtain ⟨z1, hz1⟩ : ∃ z1, p x = z1 := ⟨_, rfl⟩
        have hd1 : M.drop (j + 1) = L.drop (j + 1) := by
          have := congrArg (List.drop 1) hM4
          rwa [List.drop_drop, List.drop_drop] at this
        have HC := hid (HF.out x wz hM5)
        rw [hz1] at HC
        have H1 := hid (And.intro hM1 (And.intro hM2 (And.intro hM3 (And.intro hd1 (And.intro hM5 (And.intro hfs hz1))))))
        clear hM1 hM2 hM3 hM4 hM5 hMj hfs hx hd1 hz1 HM
        go_wp2_with fail
        refine HC.out.mono ?_
        rintro e w2 ⟨rfl, hb2⟩
        have hiM : i < M.length := by have := H1.out.2.1; omega
        have hc2 : w2.cell? ⟨q, i, none⟩ = some (.int .i64 M[i]) := (gbI_cell (H1.out.1.below hb2) i hiM).1
        have hf2 : w2.frozen? ⟨q, i, none⟩ = false := (gbI_cell (H1.out.1.below hb2) i (by have := H1.out.2.1; omega)).2
        have HB2 := hid hb2
        clear hb2 r0 f0
        cases z1
        · go_wp2_with fail
          go_roundg (n - (j + 1))
          case measure => omega
          case rel => exact ⟨i + 1, j + 1, by first | rfl | go_num, by first | rfl | go_num, by omega, by omega, by omega, hid ⟨M.set i x, gbI_set (H1.out.1.below HB2.out) i x (by have := H1.out.2.1; omega), by rw [List.length_set]; exact H1.out.2.1, by
            obtain ⟨-, h2, h3, -, -, h6, h7⟩ := H1.out
            rw [h6, List.filter_append, ← h3, List.take_succ_eq_append_getElem (by rw [List.length_set]; omega), List.getElem_set_self, List.take_set_of_le (Nat.le_refl _)]
            simp [h7], by
            rw [List.drop_set_of_lt (by omega)]
            exact H1.out.2.2.2.1, (H1.out.2.2.2.2.1.up HB2.out).cell q i _ rfl⟩⟩
        · go_wp2_with fail
          go_roundg (n - (j + 1))
          case measure => omega
          case rel => exact ⟨i, j + 1, rfl, by first | rfl | go_num, by omega, by omega, by omega, hid ⟨M, H1.out.1.below HB2.out, H1.out.2.1, by
            obtain ⟨-, h2, h3, -, -, h6, h7⟩ := H1.out
            rw [h6, List.filter_append, ← h3]
            simp [h7], H1.out.2.2.2.1, H1.out.2.2.2.2.1.up HB2.out⟩⟩
      · obtain rfl : j = n := by omega
        have hltd : decide ((j : Int) < (j : Int)) = false := by simp
        have hi0 : (0 : Int) ≤ (i : Int) := by omega
        have hi1 : (i : Int) ≤ (j : Int) := by omega
        have hi2 : (i : Int) ≤ (c : Int) := by omega
        have hj2 : (j : Int) ≤ (c : Int) := by omega
        have hci : ¬ c = i := by omega
        have hT : (M.take i).length = i := by rw [List.length_take]; omega
        rw [List.take_of_length_le (Nat.le_of_eq hn.out)] at hM3
        have H1 := hid (And.intro (gb_take encWi_len hM1 i (by omega)) (And.intro hM3 (And.intro hT hM5)))
        clear hM1 hM2 hM3 hM4 hM5 hT HM
        obtain ⟨w8, hr8, hF8, hg8⟩ := run_clear_gb rowWi wz_one 0 H1.out.2.2.1 H1.out.1 (j - i) (c - i) (by omega) (by omega)
        rw [Nat.mul_one] at hr8
        have H8 := hid (And.intro hF8 hg8)
        clear hF8 hg8
        go_wp2_with fail
        go_returns
        exact ⟨i, rfl, by rw [← H1.out.2.1]; exact H8.out.1, H1.out.2.2.2.trans (OnS.grown H8.out.2 fun b hb => by injection hb with hb; exact hb.symm)⟩
  · have hne : ((-1 : Int) == -1) = true := rfl
    have HBl := hid ho
    have HE := hid (show (L.filter fun x => !p x) = L from List.filter_eq_self.2 fun x hx => by rw [hno x hx]; rfl)
    clear ho hno
    go_wp2_with fail
    go_returns
    exact ⟨n, rfl, by rw [HE.out]; exact HG.out.below HBl.out, OnS.below HBl.out⟩
end Go.Proofs.Ytpfhmpblcmednaa
namespace Go.Proofs.Ytpfhmpblcmednaa
set_option linter.unusedVariables false
set_option linter.unusedSimpArgs false
open Go.RowKit Go.Joins

/-- A window, as its cells tell: where its numbers lie, and what they are. -/
structure Ws where
  node : Int
  high : Int
  A : Option Addr
  n : Nat
  c : Nat
  L : List Int
def Ws.win (u : Ws) : Win := ⟨u.node, u.high, u.L⟩
def encWs (u : Ws) : List Value := [.int .i64 u.node, .int .i64 u.high, .slice u.A u.n u.c]
theorem encWs_len (u : Ws) : (encWs u).length = 3 := rfl
theorem rowWs : RowT Try.prog encWs 3 58 66 (.agg #[.int .i64 0, .int .i64 0, .slice none 0 0]) 40 where
  ht := Try.underlying58
  inf := by kernel_rfl
  hzs := rfl
  k0 := by decide
  hk := encWs_len
  h1 := fun u v hv => by
    simp [encWs] at hv
    rcases hv with rfl | rfl | rfl <;> rfl
  hb := by decide
/-- What a window's numbers are, read at blocks that N allows. -/
structure WsO (w : World) (N : Nat → Prop) (u : Ws) : Prop where
  gx : GX encWi 1 w N u.A u.L
  len : u.L.length = u.n
  cap : u.n ≤ u.c
  lim : u.c ≤ maxLen
def WP (w : World) (N : Nat → Prop) (U : List Ws) : Prop := ∀ u ∈ U, WsO w N u
section
variable {w w' : World} {N M : Nat → Prop} {U V : List Ws} {u : Ws}
theorem WsO.same (h : WsO w N u) (hs : ∀ b, N b → w'.heap[b]? = w.heap[b]?) : WsO w' N u := ⟨h.gx.same hs, h.len, h.cap, h.lim⟩
theorem WsO.imp (h : WsO w N u) (hn : ∀ b, N b → M b) : WsO w M u := ⟨h.gx.imp hn, h.len, h.cap, h.lim⟩
theorem WsO.up (h : WsO w (· < w.heap.size) u) (hb : Below w.heap.size w w') : WsO w' (· < w'.heap.size) u := ⟨h.gx.up hb, h.len, h.cap, h.lim⟩
theorem WP.same (h : WP w N U) (hs : ∀ b, N b → w'.heap[b]? = w.heap[b]?) : WP w' N U := fun u hu => (h u hu).same hs
theorem WP.imp (h : WP w N U) (hn : ∀ b, N b → M b) : WP w M U := fun u hu => (h u hu).imp hn
theorem WP.up (h : WP w (· < w.heap.size) U) (hb : Below w.heap.size w w') : WP w' (· < w'.heap.size) U := fun u hu => (h u hu).up hb
end
/-- The cells of one row. -/
theorem ws_cells {w : World} {N : Nat → Prop} {A : Option Addr} {U : List Ws} (h : GX encWs 3 w N A U) {i : Nat} {u : Ws} (hu : U[i]? = some u) : ∃ b p, A = some ⟨b, p, none⟩ ∧ N b ∧
    w.cell? ⟨b, p + i * 3, none⟩ = some (.int .i64 u.node) ∧ w.cell? ⟨b, p + i * 3 + 1, none⟩ = some (.int .i64 u.high) ∧ w.cell? ⟨b, p + i * 3 + 2, none⟩ = some (.slice u.A u.n u.c) := by
  obtain ⟨hi, rfl⟩ := List.getElem?_eq_some_iff.1 hu
  obtain ⟨b, p, e, h1, h2⟩ := h i hi
  exact ⟨b, p, e, h1, h2 0 (by omega), h2 1 (by omega), h2 2 (by omega)⟩
set_option maxRecDepth 100000 in
theorem taken1_any (g : Nat) (x s : Int) (w : World) (hs : 0 ≤ s ∧ s ≤ 1099511627776) (hq : w.cell? ⟨g, 0, none⟩ = some (.int .i64 s)) {z : Bool} (H : Hid (decide (x ≤ s - 128) = z)) :
    Calls Try.prog 106 #[.int .i64 x, .pointer (some ⟨g, 0, none⟩)] w fun e w' => e = .returned (.bool z) ∧ Below w.heap.size w w' := by
  have hz := H.out
  have hw : IntKind.i64.wrap (s - 128) = s - 128 := IntWalk.i64_in _ (by omega)
  clear H
  go_enter Try.func106, Try.ntmps106
  go_wp2_with fail
  go_returns
  exact ⟨by simp [hz], Below.refl _ _⟩
/-- What taken answers: the window is in the block of its numbers, or in a new one. -/
def TkR (w : World) (q : Nat) (x : Win) (s : Int) (e : Ending) (w' : World) : Prop :=
  ∃ (u : Ws) (b : Bool), e = .returned (.tuple #[.agg #[.int .i64 u.node, .int .i64 u.high, .slice u.A u.n u.c], .bool b]) ∧ (u.win, b) = dTake x s ∧ WsO w' (fun k => k = q ∨ w.heap.size ≤ k ∧ k < w'.heap.size) u ∧ OnS (fun k => k = q) w w'
theorem below_onS {w a b : World} {S : Nat → Prop} (h : OnS S w a) (hb : Below a.heap.size a b) : OnS S w b := h.up hb
theorem bk_other {w : World} {g g' i : Nat} {t : TypeId} {cs : Array Value} (k : Bk w g t cs) (hn : g ≠ g') (u : Value) : Bk (w.setCell ⟨g', i, none⟩ u) g t cs := by
  unfold Bk at k ⊢
  rw [Below.heap_setCell w ⟨g', i, none⟩ u g hn]; exact k
theorem bk_set3 {w : World} {g : Nat} {t : TypeId} {c0 c1 c2 : Value} (k : Bk w g t #[c0, c1, c2]) (a b c : Value) : Bk (((w.setCell ⟨g, 0, none⟩ a).setCell ⟨g, 1, none⟩ b).setCell ⟨g, 2, none⟩ c) g t #[a, b, c] := by
  have h0 : Bk (w.setCell ⟨g, 0, none⟩ a) g t #[a, c1, c2] := Bk.set_ k 0 a
  have h1 : Bk ((w.setCell ⟨g, 0, none⟩ a).setCell ⟨g, 1, none⟩ b) g t #[a, b, c2] := Bk.set_ h0 1 b
  exact Bk.set_ h1 2 c
/-- What taken holds: the window, the number, the answer. -/
structure TkB (wr : World) (b : Nat) (nd hi : Int) (v : Value) (s : Int) (r0 r1 r2 : Value) : Prop where
  k0 : Bk wr b 66 #[.int .i64 nd, .int .i64 hi, v]
  k1 : Bk wr (b + 1) 3 #[.int .i64 s]
  k2 : Bk wr (b + 2) 66 #[r0, r1, r2]
section
variable {wr w2 : World} {b : Nat} {nd hi s : Int} {v r0 r1 r2 : Value}
theorem TkB.up (h : TkB wr b nd hi v s r0 r1 r2) (hb : Below wr.heap.size wr w2) : TkB w2 b nd hi v s r0 r1 r2 := ⟨h.k0.up hb, h.k1.up hb, h.k2.up hb⟩
theorem TkB.onS {q : Nat} (h : TkB wr b nd hi v s r0 r1 r2) (ho : OnS (fun k => k = q) wr w2) (hq : q < b) : TkB w2 b nd hi v s r0 r1 r2 := ⟨h.k0.onS ho (by omega), h.k1.onS ho (by omega), h.k2.onS ho (by omega)⟩
theorem TkB.set1 (h : TkB wr b nd hi v s r0 r1 r2) (x : Int) : TkB (wr.setCell ⟨b, 1, none⟩ (.int .i64 x)) b nd x v s r0 r1 r2 := ⟨Bk.set_ h.k0 1 (.int .i64 x), bk_other h.k1 (by omega) _, bk_other h.k2 (by omega) _⟩
theorem TkB.set2 (h : TkB wr b nd hi v s r0 r1 r2) (x : Value) : TkB (wr.setCell ⟨b, 2, none⟩ x) b nd hi x s r0 r1 r2 := ⟨Bk.set_ h.k0 2 x, bk_other h.k1 (by omega) _, bk_other h.k2 (by omega) _⟩
theorem TkB.set3 (h : TkB wr b nd hi v s r0 r1 r2) : TkB (((wr.setCell ⟨b + 2, 0, none⟩ (.int .i64 nd)).setCell ⟨b + 2, 1, none⟩ (.int .i64 hi)).setCell ⟨b + 2, 2, none⟩ v) b nd hi v s (.int .i64 nd) (.int .i64 hi) v :=
  ⟨bk_other (bk_other (bk_other h.k0 (by omega) _) (by omega) _) (by omega) _, bk_other (bk_other (bk_other h.k1 (by omega) _) (by omega) _) (by omega) _, bk_set3 h.k2 _ _ _⟩
end
theorem gx_at {α : Type} {enc : α → List Value} {k : Nat} {w : World} {N : Nat → Prop} {q o : Nat} {L : List α} (h : GX enc k w N (some ⟨q, o, none⟩) L) : GX enc k w (fun b => b = q) (some ⟨q, o, none⟩) L := fun i hi => by
  obtain ⟨b, p, e, _, h2⟩ := h i hi
  simp only [Option.some.injEq, Addr.mk.injEq, and_true] at e
  exact ⟨b, p, by rw [e.1, e.2], e.1.symm, h2⟩
theorem gb_len {α : Type} {enc : α → List Value} {k : Nat} {e : TypeId} {w : World} {base n c : Nat} {A : Option Addr} {L : List α} (hk : ∀ x, (enc x).length = k) (h : GB enc k e w base (.slice A n c) L) : L.length = n ∧ n ≤ c ∧ c ≤ maxLen ∧ GX enc k w (fun b => base ≤ b ∧ b < w.heap.size) A L := by
  obtain ⟨A', c', e, h1, -, h3, h4⟩ := GB.reads hk h
  simp only [Value.slice.injEq] at e
  obtain ⟨rfl, rfl, rfl⟩ := e
  exact ⟨rfl, h3, h4, h1⟩
theorem OnS.new {S : Nat → Prop} {w a : World} {g i : Nat} (h : OnS S w a) (hg : w.heap.size ≤ g) (u : Value) : OnS S w (a.setCell ⟨g, i, none⟩ u) :=
  ⟨h.os, h.tape, h.output, by simp only [World.setCell, Array.size_modify]; exact h.size, fun k hk hn => (Below.heap_setCell a ⟨g, i, none⟩ u k (by show k ≠ g; omega)).trans (h.block k hk hn)⟩
theorem OnS.new3 {S : Nat → Prop} {w a : World} {g : Nat} (h : OnS S w a) (hg : w.heap.size ≤ g) (x y z : Value) : OnS S w (((a.setCell ⟨g, 0, none⟩ x).setCell ⟨g, 1, none⟩ y).setCell ⟨g, 2, none⟩ z) := ((h.new hg x).new hg y).new hg z
theorem bel3 {w a : World} {g : Nat} (h : Below w.heap.size w a) (hg : w.heap.size ≤ g) (x y z : Value) : Below w.heap.size w (((a.setCell ⟨g, 0, none⟩ x).setCell ⟨g, 1, none⟩ y).setCell ⟨g, 2, none⟩ z) := ((h.setCell (p := ⟨g, 0, none⟩) hg x).setCell (p := ⟨g, 1, none⟩) hg y).setCell (p := ⟨g, 2, none⟩) hg z
theorem tk_old {w w' : World} {q n c : Nat} {nd hi : Int} {L : List Int} (h : GB encWi 1 3 w 0 (.slice (some ⟨q, 0, none⟩) n c) L) (hq : q < w.heap.size) (hb : Below w.heap.size w w') : WsO w' (fun k => k = q ∨ w.heap.size ≤ k ∧ k < w'.heap.size) ⟨nd, hi, some ⟨q, 0, none⟩, n, c, L⟩ := by
  obtain ⟨h1, h2, h3, h4⟩ := gb_len encWi_len h
  exact ⟨((gx_at h4).same fun b hb2 => hb.block b (by omega)).imp fun b hb2 => Or.inl hb2, h1, h2, h3⟩
theorem tk_new {w w5 : World} {q bb B m c : Nat} {nd hi : Int} {A : Option Addr} {L : List Int} (h : GB encWi 1 3 w5 B (.slice A m c) L) (hB : bb + 2 < B) (hw : w.heap.size ≤ bb) (v x y z : Value) : WsO ((((w5.setCell ⟨bb, 2, none⟩ v).setCell ⟨bb + 2, 0, none⟩ x).setCell ⟨bb + 2, 1, none⟩ y).setCell ⟨bb + 2, 2, none⟩ z) (fun k => k = q ∨ w.heap.size ≤ k ∧ k < ((((w5.setCell ⟨bb, 2, none⟩ v).setCell ⟨bb + 2, 0, none⟩ x).setCell ⟨bb + 2, 1, none⟩ y).setCell ⟨bb + 2, 2, none⟩ z).heap.size) ⟨nd, hi, A, m, c, L⟩ := by
  obtain ⟨h1, h2, h3, h4⟩ := gb_len encWi_len h
  refine ⟨(h4.same fun b hb => ?_).imp fun b hb => Or.inr ⟨by omega, ?_⟩, h1, h2, h3⟩
  · have n1 : b ≠ bb := by omega
    have n2 : b ≠ bb + 2 := by omega
    rw [Below.heap_setCell _ ⟨bb + 2, 2, none⟩ z b n2, Below.heap_setCell _ ⟨bb + 2, 1, none⟩ y b n2, Below.heap_setCell _ ⟨bb + 2, 0, none⟩ x b n2, Below.heap_setCell _ ⟨bb, 2, none⟩ v b n1]
  · simp [World.setCell]; exact hb.2
set_option maxRecDepth 100000 in
set_option maxHeartbeats 8000000 in
theorem taken_any (nd hi : Int) (q n c : Nat) (L : List Int) (s : Int) (w : World) (hG : GB encWi 1 3 w 0 (.slice (some ⟨q, 0, none⟩) n c) L) (hn : Hid (L.length = n)) (hok : WinOk ⟨nd, hi, L⟩) (hs : 0 ≤ s ∧ s ≤ 1099511627776) :
    Calls Try.prog 66 #[.agg #[.int .i64 nd, .int .i64 hi, .slice (some ⟨q, 0, none⟩) n c], .int .i64 s] w fun e w' => TkR w q ⟨nd, hi, L⟩ s e w' := by
  have hnot := enot
  have hqw : q < w.heap.size := by
    rcases GB.form encWi_len hG with ⟨h1, -⟩ | ⟨g, c', h1, -, h3, -⟩
    · cases h1
    · simp only [Value.slice.injEq, Option.some.injEq, Addr.mk.injEq, and_true] at h1
      omega
  have hlen := hok.len
  have hn9 : n ≤ 128 := by have := hn.out; simp only at hlen; omega
  obtain ⟨bb, hbb⟩ : ∃ b, w.heap.size = b := ⟨_, rfl⟩
  have hmf : ∀ (fn : Fn) (first cap : Array Value) (w : World), (Instr.makeFunc fn first cap).run Try.prog w = .ok (.func fn first cap) w := fun _ _ _ _ => rfl
  have hb1 := enew w (.cells #[.int .i64 nd, .int .i64 hi, .slice (some ⟨q, 0, none⟩) n c] 66)
  have kA := Bk.new w 66 #[.int .i64 nd, .int .i64 hi, .slice (some ⟨q, 0, none⟩) n c]
  have hb2 := enew (w.alloc (.cells #[.int .i64 nd, .int .i64 hi, .slice (some ⟨q, 0, none⟩) n c] 66)) (.cells #[.int .i64 s] 3)
  have kB := Bk.new (w.alloc (.cells #[.int .i64 nd, .int .i64 hi, .slice (some ⟨q, 0, none⟩) n c] 66)) 3 #[.int .i64 s]
  have hb3 := enew ((w.alloc (.cells #[.int .i64 nd, .int .i64 hi, .slice (some ⟨q, 0, none⟩) n c] 66)).alloc (.cells #[.int .i64 s] 3)) (.cells #[.int .i64 0, .int .i64 0, .slice none 0 0] 66)
  have kC := Bk.new ((w.alloc (.cells #[.int .i64 nd, .int .i64 hi, .slice (some ⟨q, 0, none⟩) n c] 66)).alloc (.cells #[.int .i64 s] 3)) 66 #[.int .i64 0, .int .i64 0, .slice none 0 0]
  have e1 : (w.alloc (.cells #[.int .i64 nd, .int .i64 hi, .slice (some ⟨q, 0, none⟩) n c] 66)).heap.size = bb + 1 := by simp [hbb]
  have e2 : ((w.alloc (.cells #[.int .i64 nd, .int .i64 hi, .slice (some ⟨q, 0, none⟩) n c] 66)).alloc (.cells #[.int .i64 s] 3)).heap.size = bb + 2 := by simp [hbb]
  rw [e1] at kB
  rw [e2] at kC
  rw [hbb] at kA
  have HT := hid (show TkB _ bb nd hi (.slice (some ⟨q, 0, none⟩) n c) s (.int .i64 0) (.int .i64 0) (.slice none 0 0) from ⟨(kA.up hb2).up hb3, kB.up hb3, kC⟩)
  have HW := hid (estep (estep hb1 hb2) hb3)
  have HG := hid hG
  have HOK := hid hok
  have hqb : q < bb := by omega
  have HBB := hid hbb
  clear hG hok kA kB kC hb1 hb2 hb3 hlen
  go_enter Try.func66, Try.ntmps66
  go_upto_region 1 with (fail)
  have HW2 : Hid (Below w.heap.size w (((w.alloc (.cells #[.int .i64 nd, .int .i64 hi, .slice (some ⟨q, 0, none⟩) n c] 66)).alloc (.cells #[.int .i64 s] 3)).alloc (.cells #[.int .i64 0, .int .i64 0, .slice none 0 0] 66))) := HW
  generalize ((w.alloc (.cells #[.int .i64 nd, .int .i64 hi, .slice (some ⟨q, 0, none⟩) n c] 66)).alloc (.cells #[.int .i64 s] 3)).alloc (.cells #[.int .i64 0, .int .i64 0, .slice none 0 0] 66) = v0 at *
  have x0 : v0.cell? ⟨bb, 0, none⟩ = some (.int .i64 nd) := Bk.cell HT.out.k0 0
  have x1 : v0.cell? ⟨bb, 1, none⟩ = some (.int .i64 hi) := Bk.cell HT.out.k0 1
  have x2 : v0.cell? ⟨bb, 2, none⟩ = some (.slice (some ⟨q, 0, none⟩) n c) := Bk.cell HT.out.k0 2
  have x3 : v0.cell? ⟨bb + 1, 0, none⟩ = some (.int .i64 s) := Bk.cell HT.out.k1 0
  have x4 : v0.frozen? ⟨bb, 1, none⟩ = false := Bk.frozen HT.out.k0 1
  have x5 : v0.frozen? ⟨bb, 2, none⟩ = false := Bk.frozen HT.out.k0 2
  have hbn : w.heap.size ≤ bb + 2 := by omega
  clear hbb
  by_cases hc : hi < s
  · have hd1 : decide (hi < s) = true := decide_eq_true hc
    have HD := hid (show dTake ⟨nd, hi, L⟩ s = (⟨nd, s, insS (L.filter fun x => !decide (x ≤ s - 128)) s⟩, true) by
      unfold dTake
      rw [if_pos hc]
      have : (fun x : Int => !decide (x ≤ s - 128)) = keepS s := by
        funext x
        unfold keepS
        by_cases h : x ≤ s - 128
        · rw [decide_eq_true h, decide_eq_false (by omega)]; rfl
        · rw [decide_eq_false h, decide_eq_true (by omega)]; rfl
      rw [this])
    have HT1 := hid (HT.out.set1 s)
    have HB1 := hid (HW2.out.setCell (p := ⟨bb, 1, none⟩) (Nat.le_of_eq HBB.out) (.int .i64 s))
    have HFI : Hid (FI (v0.setCell ⟨bb, 1, none⟩ (.int .i64 s)) q (.func (.func 106) #[] #[.pointer (some ⟨bb + 1, 0, none⟩)]) fun x => decide (x ≤ s - 128)) := hid ⟨_, _, rfl, fun _ _ => by kernel_rfl, fun x w9 h9 => taken1_any (bb + 1) x s w9 hs (Bk.cell (HT1.out.onS h9 hqb).k1 0) (hid rfl)⟩
    have HG1 := hid (HG.out.below HB1.out)
    have hcm := gb_len encWi_len HG.out
    have HDL := hid (idel_any q n c _ L _ (v0.setCell ⟨bb, 1, none⟩ (.int .i64 s)) HG1.out hn (by omega) ⟨hcm.2.1, hcm.2.2.1⟩ HFI.out)
    have x6 : (v0.setCell ⟨bb, 1, none⟩ (.int .i64 s)).cell? ⟨bb, 2, none⟩ = some (.slice (some ⟨q, 0, none⟩) n c) := Bk.cell HT1.out.k0 2
    clear hcm
    go_wp2_with fail
    refine HDL.out.mono ?_
    rintro e w3 ⟨m, rfl, hG3, ho3⟩
    have HT3 := hid (HT1.out.onS ho3 hqb)
    have y0 := Bk.cell HT3.out.k0 2
    have y1 := Bk.frozen HT3.out.k0 2
    have HTP := hid (HT3.out.set2 (.slice (some ⟨q, 0, none⟩) m c))
    have HG3 := hid (GB.set hG3 HT3.out.k0 (by decide) 2 (.slice (some ⟨q, 0, none⟩) m c))
    have HO3 := hid (OnS.new (OnS.trans (OnS.below HB1.out) ho3) (g := bb) (i := 2) (by rw [HBB.out]; exact Nat.le_refl _) (.slice (some ⟨q, 0, none⟩) m c))
    have hcm := gb_len encWi_len hG3
    have HPT := hid (dput_any q m c (L.filter fun x => !decide (x ≤ s - 128)) s (w3.setCell ⟨bb, 2, none⟩ (.slice (some ⟨q, 0, none⟩) m c)) ((gb_len encWi_len HG3.out).2.2.2.imp fun b hb => hb.2) (hid hcm.1) (Nat.le_trans (Nat.le_of_eq hcm.1.symm) (Nat.le_trans (List.length_filter_le _ _) (by have := hn.out; omega))) ⟨hcm.2.1, hcm.2.2.1⟩ (HOK.out.up.filter _) (fun hm => by have := HOK.out.low s (List.mem_filter.1 hm).1; simp only at this; omega))
    clear hcm hG3 ho3 HDL x6
    have z2 := Bk.cell HTP.out.k0 2
    have z3 := Bk.cell HTP.out.k1 0
    have z4 := Bk.frozen HTP.out.k0 2
    go_wp2_with fail
    refine HPT.out.mono ?_
    rintro e w5 ⟨v5, rfl, hv5, hb5⟩
    have HTQ := hid (HTP.out.up hb5)
    have HV5 := hid hv5
    have HB5 := hid hb5
    clear hv5 hb5 z2 z3 z4 HPT
    have z5 := Bk.cell HTQ.out.k0 2
    have z6 := Bk.frozen HTQ.out.k0 2
    have HTL := hid (HTQ.out.set2 v5)
    obtain ⟨A5, c5, rfl, -⟩ := GB.reads encWi_len HV5.out
    have z0 := Bk.cell HTL.out.k0 0
    have z1 := Bk.cell HTL.out.k0 1
    have z2 := Bk.cell HTL.out.k0 2
    have g0 := Bk.cell HTL.out.k2 0
    have g1 := Bk.cell HTL.out.k2 1
    have g2 := Bk.cell HTL.out.k2 2
    have f0 := Bk.frozen HTL.out.k2 0
    have f1 := Bk.frozen HTL.out.k2 1
    have f2 := Bk.frozen HTL.out.k2 2
    go_wp2_with fail
    have c0 := Bk.cell HTL.out.set3.k2 0
    have c1 := Bk.cell HTL.out.set3.k2 1
    have c2 := Bk.cell HTL.out.set3.k2 2
    (try simp only [Exit.inBlock, Exit.then])
    refine bodyPost_ret (v := .tuple #[.agg #[.int .i64 nd, .int .i64 s, (.slice A5 (insS (L.filter fun x => !decide (x ≤ s - 128)) s).length c5)], .bool true]) (by simp [results, Try.results66, go_sem, c0, c1, c2]) rfl ?_
    exact ⟨⟨nd, s, A5, (insS (L.filter fun x => !decide (x ≤ s - 128)) s).length, c5, insS (L.filter fun x => !decide (x ≤ s - 128)) s⟩, true, rfl, HD.out.symm, tk_new HV5.out HTP.out.k2.lt (Nat.le_of_eq HBB.out) _ _ _ _, OnS.new3 (OnS.new (HO3.out.up HB5.out) (by rw [HBB.out]; exact Nat.le_refl _) _) (by rw [HBB.out]; omega) _ _ _⟩
  · have hd1 : decide (hi < s) = false := decide_eq_false hc
    have hw1 : IntKind.i64.wrap (hi - 128) = hi - 128 := IntWalk.i64_in _ (by have := HOK.out.high; simp only at this; omega)
    by_cases hc2 : s ≤ hi - 128
    · have hd2 : decide (s ≤ hi - 128) = true := decide_eq_true hc2
      have HD := hid (show dTake ⟨nd, hi, L⟩ s = (⟨nd, hi, L⟩, false) by unfold dTake; rw [if_neg hc, if_pos (Or.inl hc2)])
      have HTL := HT
      have HBL := HW2
      have z0 := Bk.cell HTL.out.k0 0
      have z1 := Bk.cell HTL.out.k0 1
      have z2 := Bk.cell HTL.out.k0 2
      have g0 := Bk.cell HTL.out.k2 0
      have g1 := Bk.cell HTL.out.k2 1
      have g2 := Bk.cell HTL.out.k2 2
      have f0 := Bk.frozen HTL.out.k2 0
      have f1 := Bk.frozen HTL.out.k2 1
      have f2 := Bk.frozen HTL.out.k2 2
      go_wp2_with fail
      have c0 := Bk.cell HTL.out.set3.k2 0
      have c1 := Bk.cell HTL.out.set3.k2 1
      have c2 := Bk.cell HTL.out.set3.k2 2
      (try simp only [Exit.inBlock, Exit.then])
      refine bodyPost_ret (v := .tuple #[.agg #[.int .i64 nd, .int .i64 hi, .slice (some ⟨q, 0, none⟩) n c], .bool false]) (by simp [results, Try.results66, go_sem, c0, c1, c2]) rfl ?_
      exact ⟨⟨nd, hi, some ⟨q, 0, none⟩, n, c, L⟩, false, rfl, HD.out.symm, tk_old HG.out hqw (bel3 HBL.out hbn _ _ _), OnS.below (bel3 HBL.out hbn _ _ _)⟩
    · have hd2 : decide (s ≤ hi - 128) = false := decide_eq_false hc2
      have HDa := hid (show s ∉ L → dTake ⟨nd, hi, L⟩ s = (⟨nd, hi, insS L s⟩, true) from fun hni => by unfold dTake; rw [if_neg hc, if_neg (fun h => h.elim hc2 hni)])
      have HDb := hid (show s ∈ L → dTake ⟨nd, hi, L⟩ s = (⟨nd, hi, L⟩, false) from fun hni => by unfold dTake; rw [if_neg hc, if_pos (Or.inr hni)])
      have HG1 := hid (HG.out.below HW2.out)
      obtain ⟨zc, hzc⟩ : ∃ z, decide (s ∈ L) = z := ⟨_, rfl⟩
      have HCN := hid (icontains_any (some ⟨q, 0, none⟩) c n L s v0 ((gb_len encWi_len HG1.out).2.2.2.imp fun b hb => hb.2) hn (by omega) (hid hzc))
      go_wp2_with fail
      refine HCN.out.mono ?_
      rintro e w3 ⟨rfl, hb3⟩
      have HT3 := hid (HT.out.up hb3)
      have HB3 := hid (estep HW2.out hb3)
      have HG3 := hid (HG1.out.below hb3)
      clear hb3 HCN
      cases zc
      · have hni := of_decide_eq_false hzc
        have HD := hid (HDa.out hni)
        have HTP := HT3
        have hcm := gb_len encWi_len HG3.out
        have HPT := hid (dput_any q n c L s w3 (hcm.2.2.2.imp fun b hb => hb.2) hn (by omega) ⟨hcm.2.1, hcm.2.2.1⟩ HOK.out.up hni)
        clear hcm
        have z2 := Bk.cell HTP.out.k0 2
        have z3 := Bk.cell HTP.out.k1 0
        have z4 := Bk.frozen HTP.out.k0 2
        go_wp2_with fail
        refine HPT.out.mono ?_
        rintro e w5 ⟨v5, rfl, hv5, hb5⟩
        have HTQ := hid (HTP.out.up hb5)
        have HV5 := hid hv5
        have HB5 := hid hb5
        clear hv5 hb5 z2 z3 z4 HPT
        have z5 := Bk.cell HTQ.out.k0 2
        have z6 := Bk.frozen HTQ.out.k0 2
        have HTL := hid (HTQ.out.set2 v5)
        obtain ⟨A5, c5, rfl, -⟩ := GB.reads encWi_len HV5.out
        have z0 := Bk.cell HTL.out.k0 0
        have z1 := Bk.cell HTL.out.k0 1
        have z2 := Bk.cell HTL.out.k0 2
        have g0 := Bk.cell HTL.out.k2 0
        have g1 := Bk.cell HTL.out.k2 1
        have g2 := Bk.cell HTL.out.k2 2
        have f0 := Bk.frozen HTL.out.k2 0
        have f1 := Bk.frozen HTL.out.k2 1
        have f2 := Bk.frozen HTL.out.k2 2
        go_wp2_with fail
        have c0 := Bk.cell HTL.out.set3.k2 0
        have c1 := Bk.cell HTL.out.set3.k2 1
        have c2 := Bk.cell HTL.out.set3.k2 2
        (try simp only [Exit.inBlock, Exit.then])
        refine bodyPost_ret (v := .tuple #[.agg #[.int .i64 nd, .int .i64 hi, (.slice A5 (insS L s).length c5)], .bool true]) (by simp [results, Try.results66, go_sem, c0, c1, c2]) rfl ?_
        exact ⟨⟨nd, hi, A5, (insS L s).length, c5, insS L s⟩, true, rfl, HD.out.symm, tk_new HV5.out HTP.out.k2.lt (Nat.le_of_eq HBB.out) _ _ _ _, OnS.below (bel3 ((estep HB3.out HB5.out).setCell (p := ⟨bb, 2, none⟩) (Nat.le_of_eq HBB.out) _) hbn _ _ _)⟩
      · have HD := hid (HDb.out (of_decide_eq_true hzc))
        have HTL := HT3
        have HBL := HB3
        have z0 := Bk.cell HTL.out.k0 0
        have z1 := Bk.cell HTL.out.k0 1
        have z2 := Bk.cell HTL.out.k0 2
        have g0 := Bk.cell HTL.out.k2 0
        have g1 := Bk.cell HTL.out.k2 1
        have g2 := Bk.cell HTL.out.k2 2
        have f0 := Bk.frozen HTL.out.k2 0
        have f1 := Bk.frozen HTL.out.k2 1
        have f2 := Bk.frozen HTL.out.k2 2
        go_wp2_with fail
        have c0 := Bk.cell HTL.out.set3.k2 0
        have c1 := Bk.cell HTL.out.set3.k2 1
        have c2 := Bk.cell HTL.out.set3.k2 2
        (try simp only [Exit.inBlock, Exit.then])
        refine bodyPost_ret (v := .tuple #[.agg #[.int .i64 nd, .int .i64 hi, .slice (some ⟨q, 0, none⟩) n c], .bool false]) (by simp [results, Try.results66, go_sem, c0, c1, c2]) rfl ?_
        exact ⟨⟨nd, hi, some ⟨q, 0, none⟩, n, c, L⟩, false, rfl, HD.out.symm, tk_old HG.out hqw (bel3 HBL.out hbn _ _ _), OnS.below (bel3 HBL.out hbn _ _ _)⟩
end Go.Proofs.Ytpfhmpblcmednaa
namespace Go.Proofs.Ytpfhmpblcmednaa
set_option linter.unusedVariables false
set_option linter.unusedSimpArgs false
open Go.RowKit Go.Joins

section
variable {α : Type} {enc : α → List Value} {k : Nat} {e : TypeId}
theorem gvals_set1 (hk : ∀ x, (enc x).length = k) (L : List α) (i j : Nat) (hi : i < L.length) (hj : j < k) (x : α) (u : Value) (hx : enc x = (enc L[i]).set j u) : gvals enc (L.set i x) = (gvals enc L).set (i * k + j) u := by
  have hlen : (gvals enc (L.set i x)).length = L.length * k := by rw [gvals_len enc k hk, List.length_set]
  have hlen2 : (gvals enc L).length = L.length * k := gvals_len enc k hk L
  apply List.ext_getElem?
  intro t
  by_cases ht : t < L.length * k
  · rw [gvals_set enc k hk L i hi x t ht, List.getElem?_set]
    by_cases hin : i * k ≤ t ∧ t < i * k + k
    · rw [if_pos hin, hx, List.getElem?_set]
      by_cases e : t = i * k + j
      · subst e
        rw [if_pos (by omega), if_pos rfl, hk, if_pos (by omega), hlen2, if_pos ht]
      · rw [if_neg (by omega), if_neg (fun h => e h.symm)]
        have := gvals_at enc k hk L i hi (t - i * k) (by omega)
        rw [show i * k + (t - i * k) = t by omega] at this
        exact this.symm
    · rw [if_neg hin, if_neg (by omega)]
  · rw [List.getElem?_eq_none (by omega), List.getElem?_eq_none (by rw [List.length_set]; omega)]
/-- One cell of a row of the call's own is another one. -/
theorem gb_set1 (hk : ∀ x, (enc x).length = k) {w : World} {base b n cap : Nat} {L : List α} (h : GB enc k e w base (.slice (some ⟨b, 0, none⟩) n cap) L) (i j : Nat) (hi : i < L.length) (hj : j < k) (x : α) (u : Value) (hx : enc x = (enc L[i]).set j u) : GB enc k e (w.setCell ⟨b, i * k + j, none⟩ u) base (.slice (some ⟨b, 0, none⟩) n cap) (L.set i x) := by
  rcases h.2 with ⟨h0, _⟩ | ⟨g, cap', cur, e1, e2, e3, e4, e5, e6, e7⟩
  · cases h0
  · simp only [Value.slice.injEq, Option.some.injEq, Addr.mk.injEq, and_true, true_and] at e1
    obtain ⟨rfl, hn, rfl⟩ := e1
    have kb : Bk w b e cur := e3
    refine ⟨by rw [gvals_len enc k hk, List.length_set], Or.inr ⟨b, cap, cur.setIfInBounds (i * k + j) u, by rw [hn, List.length_set], e2, kb.set_ (i * k + j) _, by rw [List.length_set]; exact e4, e5, by rw [Array.size_setIfInBounds]; exact e6, ?_⟩⟩
    rw [List.length_set, gvals_set1 hk L i j hi hj x u hx, ← e7, Array.toList_setIfInBounds, List.take_set]
theorem gb_at (hk : ∀ x, (enc x).length = k) {w : World} {base b n cap : Nat} {L : List α} (h : GB enc k e w base (.slice (some ⟨b, 0, none⟩) n cap) L) (i j : Nat) (hi : i < L.length) (hj : j < k) : w.cell? ⟨b, i * k + j, none⟩ = (enc L[i])[j]? ∧ w.frozen? ⟨b, i * k + j, none⟩ = false := by
  rcases GB.form hk h with ⟨h1, -⟩ | ⟨g, cap', h1, -, -, -, -, h2⟩
  · cases h1
  · simp only [Value.slice.injEq, Option.some.injEq, Addr.mk.injEq, and_true, true_and] at h1
    obtain ⟨rfl, -, -⟩ := h1
    have hlt : i * k + j < L.length * k := by
      have := Nat.mul_le_mul_right k (show i + 1 ≤ L.length from hi)
      rw [Nat.add_mul, Nat.one_mul] at this
      omega
    obtain ⟨h3, h4⟩ := h2 _ hlt
    exact ⟨h3.trans (gvals_at enc k hk L i hi j hj), h4⟩
end
/-- A slice of windows, told by its parts, in blocks that N allows. -/
structure WnN (w : World) (N : Nat → Prop) (A : Option Addr) (n c : Nat) (U : List Ws) : Prop where
  gx : GX encWs 3 w N A U
  wp : WP w N U
  len : U.length = n
  nil : A = none → c = 0
  cap : n ≤ c
  lim : c ≤ maxLen
abbrev WnO (w : World) (A : Option Addr) (n c : Nat) (U : List Ws) : Prop := WnN w (· < w.heap.size) A n c U
theorem WnN.imp {w : World} {N M : Nat → Prop} {A : Option Addr} {n c : Nat} {U : List Ws} (h : WnN w N A n c U) (hn : ∀ b, N b → M b) : WnN w M A n c U := ⟨h.gx.imp hn, h.wp.imp hn, h.len, h.nil, h.cap, h.lim⟩
theorem WnN.same {w w' : World} {N : Nat → Prop} {A : Option Addr} {n c : Nat} {U : List Ws} (h : WnN w N A n c U) (hs : ∀ b, N b → w'.heap[b]? = w.heap[b]?) : WnN w' N A n c U := ⟨h.gx.same hs, h.wp.same hs, h.len, h.nil, h.cap, h.lim⟩
theorem WnO.up {w w' : World} {A : Option Addr} {n c : Nat} {U : List Ws} (h : WnO w A n c U) (hb : Below w.heap.size w w') : WnO w' A n c U := ⟨h.gx.up hb, h.wp.up hb, h.len, h.nil, h.cap, h.lim⟩
/-- A list of windows, as a value that can be read. -/
def WnV (w : World) (v : Value) (l : List Win) : Prop := ∃ A n c U, v = .slice A n c ∧ WnO w A n c U ∧ U.map Ws.win = l
theorem WnV.up {w w' : World} {v : Value} {l : List Win} (h : WnV w v l) (hb : Below w.heap.size w w') : WnV w' v l := by
  obtain ⟨A, n, c, U, e, ho, hl⟩ := h
  exact ⟨A, n, c, U, e, ho.up hb, hl⟩
theorem WnV.nil (w : World) : WnV w (.slice none 0 0) [] := ⟨none, 0, 0, [], rfl, ⟨GX.nil _ _ _, fun u hu => (by cases hu), rfl, fun _ => rfl, Nat.le_refl _, Nat.zero_le _⟩, rfl⟩
/-- The same, in blocks that N allows. -/
def WnM (w : World) (N : Nat → Prop) (v : Value) (l : List Win) : Prop := ∃ A n c U, v = .slice A n c ∧ WnN w N A n c U ∧ U.map Ws.win = l
theorem WnM.same {w w' : World} {N : Nat → Prop} {v : Value} {l : List Win} (h : WnM w N v l) (hs : ∀ b, N b → w'.heap[b]? = w.heap[b]?) : WnM w' N v l := by
  obtain ⟨A, n, c, U, e, ho, hl⟩ := h
  exact ⟨A, n, c, U, e, ho.same hs, hl⟩
theorem WnM.wnv {w : World} {N : Nat → Prop} {v : Value} {l : List Win} (h : WnM w N v l) (hn : ∀ b, N b → b < w.heap.size) : WnV w v l := by
  obtain ⟨A, n, c, U, e, ho, hl⟩ := h
  exact ⟨A, n, c, U, e, ho.imp hn, hl⟩
/-- The place of a node's window, as the program tells it. -/
def dI (l : List Win) (nd : Int) : Int := if dAt l nd < l.length then (dAt l nd : Int) else -1
theorem dI_hit {l : List Win} {nd : Int} {k : Nat} (hk : k < l.length) (hn : ∀ (j : Nat) (h : j < l.length), j < k → l[j].node ≠ nd) (hp : l[k].node = nd) : dI l nd = (k : Int) := by
  have : dAt l nd = k := by
    unfold dAt
    rw [List.findIdx_eq hk]
    exact ⟨decide_eq_true hp, fun j hj => decide_eq_false (hn j (by omega) hj)⟩
  unfold dI
  rw [this, if_pos hk]
theorem dI_miss {l : List Win} {nd : Int} (hn : ∀ (j : Nat) (h : j < l.length), l[j].node ≠ nd) : dI l nd = -1 := by
  unfold dI
  rw [if_neg]
  intro h
  exact hn _ h (dAt_node h)
/-- What a function value says of a window. -/
def FW (w0 : World) (fv : Value) (nd : Int) : Prop :=
  ∃ (F : Nat) (c : Value), fv = .func (.func F) #[] #[c] ∧ (∀ args w, (callFunc F args).run Try.prog w = .ok (.enter F args) w) ∧
    ∀ (u : Ws) w, Below w0.heap.size w0 w → Calls Try.prog F #[.agg #[.int .i64 u.node, .int .i64 u.high, .slice u.A u.n u.c], c] w fun e w' => e = .returned (.bool (decide (u.node = nd))) ∧ Below w.heap.size w w'
set_option maxRecDepth 100000 in
set_option maxHeartbeats 4000000 in
theorem wsIndex_any (A : Option Addr) (c : Nat) (fv : Value) (U : List Ws) (nd : Int) {n : Nat} (hnU : U.length = n) (w : World) (hU : GX encWs 3 w (· < w.heap.size) A U) (hF : FW w fv nd) (hl : n ≤ 1000000) {z : Int} (H : Hid (dI (U.map Ws.win) nd = z)) :
    Calls Try.prog 103 #[.slice A n c, fv] w fun e w' => e = .returned (.int .i64 z) ∧ Below w.heap.size w w' := by
  obtain ⟨F, cv, rfl, eg, hF⟩ := hF
  have H0 := hid hU
  have HF := hid hF
  have HNU := hid hnU
  clear hU hF hnU
  go_enter Try.func103, Try.ntmps103
  go_wp2_with fail
  go_loopg [8] n (fun g1 vi wr => ∃ i : Nat, vi = .int .i64 i ∧ i ≤ n ∧ n - i ≤ g1 ∧ Hid ((∀ (j : Nat) (h : j < U.length), j < i → U[j].node ≠ nd) ∧ Below w.heap.size w wr))
  case atStart => exact ⟨0, rfl, by omega, by omega, hid ⟨fun j x hj => by omega, Below.refl _ _⟩⟩
  case round =>
    obtain ⟨i, rfl, hin, hgk, HBl⟩ := hrel
    by_cases hlt : i < n
    · have hltz : (i : Int) < (n : Int) := by omega
      have hltd : decide ((i : Int) < (n : Int)) = true := decide_eq_true hltz
      have hi0 : (0 : Int) ≤ (i : Int) := by omega
      have hiU : i < U.length := by have := HNU.out; omega
      obtain ⟨u, hu⟩ : ∃ u, U[i] = u := ⟨_, rfl⟩
      have HU := hid hu
      obtain ⟨bb, oo, rfl, -, r0, r1, r2⟩ := ws_cells (H0.out.up HBl.out.2) (by rw [List.getElem?_eq_getElem hiU, hu])
      obtain ⟨z1, hz1⟩ : ∃ z1, decide (u.node = nd) = z1 := ⟨_, rfl⟩
      have HZ := hid hz1
      have HC := hid (HF.out u wr HBl.out.2)
      rw [hz1] at HC
      clear hz1 hu
      go_wp2_with fail
      refine HC.out.mono ?_
      rintro e w1 ⟨rfl, hb1⟩
      have HB1 := hid (estep HBl.out.2 hb1)
      clear hb1 r0 r1 r2
      cases z1
      · go_wp2_with fail
        go_roundg (n - (i + 1))
        case measure => omega
        case rel => exact ⟨i + 1, by go_num, by omega, by omega, hid ⟨fun j h hj => by
          rcases Nat.lt_or_eq_of_le (Nat.le_of_lt_succ hj) with h2 | rfl
          · exact HBl.out.1 j h h2
          · rw [HU.out]; exact of_decide_eq_false HZ.out, HB1.out⟩⟩
      · have HE := hid (show z = (i : Int) by
          rw [← H.out]
          refine dI_hit (by rw [List.length_map]; exact hiU) (fun j h hj => ?_) ?_
          · rw [List.getElem_map]; exact HBl.out.1 j (by simpa using h) hj
          · rw [List.getElem_map, HU.out]; exact of_decide_eq_true HZ.out)
        go_wp2_with fail
        go_returns
        exact ⟨by rw [HE.out]; rfl, HB1.out⟩
    · obtain rfl : i = n := by omega
      have hltd : decide ((i : Int) < (i : Int)) = false := by simp
      have HE := hid (show z = -1 by
        rw [← H.out]
        refine dI_miss fun j h => ?_
        rw [List.getElem_map]
        have h2 : j < U.length := by simpa using h
        exact HBl.out.1 j h2 (by have := HNU.out; omega))
      go_wp2_with fail
      go_returns
      exact ⟨by rw [HE.out]; rfl, HBl.out.2⟩
set_option maxRecDepth 100000 in
set_option maxHeartbeats 4000000 in
theorem wplace1_any (g : Nat) (nd : Int) (u : Ws) (w : World) (hq : Bk w g 3 #[.int .i64 nd]) :
    Calls Try.prog 104 #[.agg #[.int .i64 u.node, .int .i64 u.high, .slice u.A u.n u.c], .pointer (some ⟨g, 0, none⟩)] w fun e w' => e = .returned (.bool (decide (u.node = nd))) ∧ Below w.heap.size w w' := by
  have hb1 := enew w (.cells #[.int .i64 u.node, .int .i64 u.high, .slice u.A u.n u.c] 66)
  have r0 := Bk.cell (Bk.new w 66 #[.int .i64 u.node, .int .i64 u.high, .slice u.A u.n u.c]) 0
  have q0 := Bk.cell (Bk.up hq hb1) 0
  have hd : (u.node == nd) = decide (u.node = nd) := rfl
  clear hq
  go_enter Try.func104, Try.ntmps104
  go_upto_region 1 with (fail)
  generalize w.alloc (.cells #[.int .i64 u.node, .int .i64 u.high, .slice u.A u.n u.c] 66) = v0 at *
  have r0' : v0.cell? ⟨w.heap.size, 0, none⟩ = some (.int .i64 u.node) := r0
  have q0' : v0.cell? ⟨g, 0, none⟩ = some (.int .i64 nd) := q0
  clear r0 q0
  go_wp2_with fail
  go_returns
  exact ⟨rfl, hb1⟩
set_option maxRecDepth 100000 in
set_option maxHeartbeats 4000000 in
theorem wplace_any (v : Value) (l : List Win) (nd : Int) (w : World) (h : WnV w v l) (hl : l.length ≤ 1000000) {z : Int} (H : Hid (dI l nd = z)) :
    Calls Try.prog 65 #[v, .int .i64 nd] w fun e w' => e = .returned (.int .i64 z) ∧ Below w.heap.size w w' := by
  have hmf : ∀ (fn : Fn) (first cap : Array Value) (w : World), (Instr.makeFunc fn first cap).run Try.prog w = .ok (.func fn first cap) w := fun _ _ _ _ => rfl
  have hb1 := enew w (.cells #[.int .i64 nd] 3)
  have hq := Bk.new w 3 #[.int .i64 nd]
  obtain ⟨A, n, c, U, rfl, ho, rfl⟩ := h.up hb1
  have hgx := ho.gx
  have hnl := ho.len
  go_enter Try.func65, Try.ntmps65
  go_upto_region 1 with (fail)
  generalize w.alloc (.cells #[.int .i64 nd] 3) = v0 at *
  have HFB : Hid (FW v0 (.func (.func 104) #[] #[.pointer (some ⟨w.heap.size, 0, none⟩)]) nd) := hid ⟨_, _, rfl, fun _ _ => by kernel_rfl, fun u w2 h2 => wplace1_any w.heap.size nd u w2 (hq.up h2)⟩
  have HI := hid (wsIndex_any A c _ U nd hnl v0 hgx HFB.out (by rw [List.length_map] at hl; omega) H)
  have HBl := hid hb1
  clear hgx hq hb1 ho hnl
  go_wp2_with fail
  refine HI.out.mono ?_
  rintro e w1 ⟨rfl, hb2⟩
  go_wp2_with fail
  go_returns
  exact ⟨rfl, estep HBl.out hb2⟩
set_option maxRecDepth 100000 in
set_option maxHeartbeats 4000000 in
theorem wat_any (v : Value) (l : List Win) (nd : Int) (w : World) (h : WnV w v l) (hl : l.length ≤ 1000000) {z : Int} (H : Hid (dI l nd = z)) :
    Calls Try.prog 67 #[v, .int .i64 nd] w fun e w' => e = .returned (.int .i64 z) ∧ Below w.heap.size w w' := by
  obtain ⟨A, n, c, U, rfl, ho, rfl⟩ := h
  rw [List.length_map, ho.len] at hl
  have H0 := hid ho.gx
  have HNU := hid ho.len
  clear ho
  go_enter Try.func67, Try.ntmps67
  go_wp2_with fail
  go_loopg [5] n (fun g1 vi wr => ∃ i : Nat, vi = .int .i64 i ∧ i ≤ n ∧ n - i ≤ g1 ∧ Hid ((∀ (j : Nat) (h : j < U.length), j < i → U[j].node ≠ nd) ∧ Below w.heap.size w wr))
  case atStart => exact ⟨0, rfl, by omega, by omega, hid ⟨fun j x hj => by omega, Below.refl _ _⟩⟩
  case round =>
    obtain ⟨i, rfl, hin, hgk, HBl⟩ := hrel
    by_cases hlt : i < n
    · have hltz : (i : Int) < (n : Int) := by omega
      have hltd : decide ((i : Int) < (n : Int)) = true := decide_eq_true hltz
      have hi0 : (0 : Int) ≤ (i : Int) := by omega
      have hiU : i < U.length := by have := HNU.out; omega
      obtain ⟨u, hu⟩ : ∃ u, U[i] = u := ⟨_, rfl⟩
      have HU := hid hu
      obtain ⟨bb, oo, rfl, -, r0, r1, r2⟩ := ws_cells (H0.out.up HBl.out.2) (by rw [List.getElem?_eq_getElem hiU, hu])
      have hadd : IntKind.i64.wrap ((i : Int) + 1) = (i : Int) + 1 := IntWalk.i64_in _ (by omega)
      clear hu
      by_cases hz : u.node = nd
      · have hd1 : (u.node == nd) = true := by simpa using hz
        have HE := hid (show z = (i : Int) by
          rw [← H.out]
          refine dI_hit (by rw [List.length_map]; exact hiU) (fun j h hj => ?_) ?_
          · rw [List.getElem_map]; exact HBl.out.1 j (by simpa using h) hj
          · rw [List.getElem_map, HU.out]; exact hz)
        clear hz
        go_wp2_with fail
        go_returns
        exact ⟨by rw [HE.out]; rfl, HBl.out.2⟩
      · have hd1 : (u.node == nd) = false := by simpa using hz
        have HZ := hid (And.intro hz True.intro)
        have HN := hid (show ∀ (j : Nat) (h : j < U.length), j < i + 1 → U[j].node ≠ nd from fun j h hj => by
          rcases Nat.lt_or_eq_of_le (Nat.le_of_lt_succ hj) with h2 | rfl
          · exact HBl.out.1 j h h2
          · rw [HU.out]; exact hz)
        clear hz
        go_wp2_with fail
        go_roundg (n - (i + 1))
        case measure => omega
        case rel => exact ⟨i + 1, by go_num, by omega, by omega, hid ⟨HN.out, HBl.out.2⟩⟩
    · obtain rfl : i = n := by omega
      have hltd : decide ((i : Int) < (i : Int)) = false := by simp
      have HE := hid (show z = -1 by
        rw [← H.out]
        refine dI_miss fun j h => ?_
        rw [List.getElem_map]
        have h2 : j < U.length := by simpa using h
        exact HBl.out.1 j h2 (by have := HNU.out; omega))
      go_wp2_with fail
      go_returns
      exact ⟨by rw [HE.out]; rfl, HBl.out.2⟩
end Go.Proofs.Ytpfhmpblcmednaa
namespace Go.Proofs.Ytpfhmpblcmednaa
set_option linter.unusedVariables false
set_option linter.unusedSimpArgs false
open Go.RowKit Go.Joins

theorem dI_at {l : List Win} {nd : Int} {k : Nat} (h : dI l nd = (k : Int)) : ∃ hk : k < l.length, dAt l nd = k := by
  unfold dI at h
  split at h
  · rename_i h1
    have : dAt l nd = k := by omega
    exact ⟨by omega, this⟩
  · omega
theorem dI_cases (l : List Win) (nd : Int) : (∃ k : Nat, dI l nd = (k : Int)) ∨ (dI l nd = -1 ∧ ¬ dAt l nd < l.length) := by
  unfold dI
  split
  · exact Or.inl ⟨_, rfl⟩
  · exact Or.inr ⟨rfl, by assumption⟩
set_option maxRecDepth 100000 in
set_option maxHeartbeats 4000000 in
theorem dhas_any (v : Value) (l : List Win) (nd s : Int) (w : World) (hv : WnV w v l) (hl : l.length ≤ 1000) (hs : ∀ x ∈ l, x.seen.length ≤ 1000) {b : Bool} (H : Hid (dHas l nd s = b)) :
    Calls Try.prog 26 #[v, .int .i64 nd, .int .i64 s] w fun e w' => e = .returned (.bool b) ∧ Below w.heap.size w w' := by
  obtain ⟨z, hz⟩ : ∃ z, dI l nd = z := ⟨_, rfl⟩
  have HPL := hid (wplace_any v l nd w hv (by omega) (hid hz))
  obtain ⟨A, n, c, U, rfl, ho, rfl⟩ := hv
  have HO := hid ho
  have HS := hid hs
  rcases dI_cases (U.map Ws.win) nd with ⟨k, hk⟩ | ⟨hm, hno⟩
  · obtain ⟨hk1, hat⟩ := dI_at hk
    obtain rfl : z = (k : Int) := hz.symm.trans hk
    have hkU : k < U.length := by simpa using hk1
    obtain ⟨u, hu⟩ : ∃ u, U[k] = u := ⟨_, rfl⟩
    have HB1 := hid (show decide (s ∈ u.L) = b by
      rw [← H.out]
      unfold dHas
      rw [dif_pos (by rw [hat]; exact hk1)]
      simp only [hat]
      rw [List.getElem_map, hu]
      rfl)
    have hmem : u ∈ U := by rw [← hu]; exact List.getElem_mem hkU
    have HWO := hid (ho.wp u hmem)
    have hul : u.n ≤ 1000 := by have := hs u.win (List.mem_map.2 ⟨u, hmem, rfl⟩); rw [← (ho.wp u hmem).len]; exact this
    have hk0 : (0 : Int) ≤ (k : Int) := by omega
    have hkn : (k : Int) < (n : Int) := by have := ho.len; omega
    have hge : decide ((0 : Int) ≤ (k : Int)) = true := decide_eq_true hk0
    have HUU := hid (show U[k]? = some u by rw [List.getElem?_eq_getElem hkU, hu])
    clear hz hk hat hu hmem ho hs hk1
    go_enter Try.func26, Try.ntmps26
    go_wp2_with fail
    refine HPL.out.mono ?_
    rintro e w1 ⟨rfl, hb1⟩
    obtain ⟨bb, oo, rfl, -, r0, r1, r2⟩ := ws_cells (HO.out.gx.up hb1) HUU.out
    have HC := hid (icontains_any u.A u.c u.n u.L s w1 (HWO.out.up hb1).gx (hid HWO.out.len) (by omega) HB1)
    have HBl := hid hb1
    clear hb1 HPL
    go_wp2_with fail
    refine HC.out.mono ?_
    rintro e w2 ⟨rfl, hb2⟩
    have HBm := hid (estep HBl.out hb2)
    clear hb2 r0 r1 r2
    go_wp2_with fail
    go_returns
    exact ⟨rfl, HBm.out⟩
  · obtain rfl : z = -1 := hz.symm.trans hm
    have HB1 := hid (show b = false by rw [← H.out]; unfold dHas; rw [dif_neg hno])
    clear hz hm hno ho hs
    go_enter Try.func26, Try.ntmps26
    go_wp2_with fail
    refine HPL.out.mono ?_
    rintro e w1 ⟨rfl, hb1⟩
    go_wp2_with fail
    go_returns
    exact ⟨by rw [HB1.out]; rfl, hb1⟩
set_option maxRecDepth 100000 in
set_option maxHeartbeats 4000000 in
theorem rdhas_any (v : Value) (l : List Win) (nd s : Int) (w : World) (hv : WnV w v l) (hl : l.length ≤ 1000) (hs : ∀ x ∈ l, x.seen.length ≤ 1000) {b : Bool} (H : Hid (dHas l nd s = b)) :
    Calls Try.prog 27 #[v, .int .i64 nd, .int .i64 s] w fun e w' => e = .returned (.bool b) ∧ Below w.heap.size w w' := by
  obtain ⟨z, hz⟩ : ∃ z, dI l nd = z := ⟨_, rfl⟩
  have HPL := hid (wat_any v l nd w hv (by omega) (hid hz))
  obtain ⟨A, n, c, U, rfl, ho, rfl⟩ := hv
  have HO := hid ho
  have HS := hid hs
  rcases dI_cases (U.map Ws.win) nd with ⟨k, hk⟩ | ⟨hm, hno⟩
  · obtain ⟨hk1, hat⟩ := dI_at hk
    obtain rfl : z = (k : Int) := hz.symm.trans hk
    have hkU : k < U.length := by simpa using hk1
    obtain ⟨u, hu⟩ : ∃ u, U[k] = u := ⟨_, rfl⟩
    have HB1 := hid (show decide (s ∈ u.L) = b by
      rw [← H.out]
      unfold dHas
      rw [dif_pos (by rw [hat]; exact hk1)]
      simp only [hat]
      rw [List.getElem_map, hu]
      rfl)
    have hmem : u ∈ U := by rw [← hu]; exact List.getElem_mem hkU
    have HWO := hid (ho.wp u hmem)
    have hul : u.n ≤ 1000 := by have := hs u.win (List.mem_map.2 ⟨u, hmem, rfl⟩); rw [← (ho.wp u hmem).len]; exact this
    have hk0 : (0 : Int) ≤ (k : Int) := by omega
    have hkn : (k : Int) < (n : Int) := by have := ho.len; omega
    have hge : decide ((0 : Int) ≤ (k : Int)) = true := decide_eq_true hk0
    have HUU := hid (show U[k]? = some u by rw [List.getElem?_eq_getElem hkU, hu])
    clear hz hk hat hu hmem ho hs hk1
    go_enter Try.func27, Try.ntmps27
    go_wp2_with fail
    refine HPL.out.mono ?_
    rintro e w1 ⟨rfl, hb1⟩
    obtain ⟨bb, oo, rfl, -, r0, r1, r2⟩ := ws_cells (HO.out.gx.up hb1) HUU.out
    have HC := hid (oin_any u.A u.c u.n u.L s w1 (HWO.out.up hb1).gx (hid HWO.out.len) (by omega) HB1)
    have HBl := hid hb1
    clear hb1 HPL
    go_wp2_with fail
    refine HC.out.mono ?_
    rintro e w2 ⟨rfl, hb2⟩
    have HBm := hid (estep HBl.out hb2)
    clear hb2 r0 r1 r2
    go_wp2_with fail
    go_returns
    exact ⟨rfl, HBm.out⟩
  · obtain rfl : z = -1 := hz.symm.trans hm
    have HB1 := hid (show b = false by rw [← H.out]; unfold dHas; rw [dif_neg hno])
    clear hz hm hno ho hs
    go_enter Try.func27, Try.ntmps27
    go_wp2_with fail
    refine HPL.out.mono ?_
    rintro e w1 ⟨rfl, hb1⟩
    go_wp2_with fail
    go_returns
    exact ⟨by rw [HB1.out]; rfl, hb1⟩
set_option maxRecDepth 100000 in
set_option maxHeartbeats 4000000 in
theorem clonews_any (A : Option Addr) (n c : Nat) (L : List Ws) (w : World) (h1 : GX encWs 3 w (· < w.heap.size) A L) (hn : Hid (L.length = n)) (hl : n ≤ 1000000) :
    Calls Try.prog 101 #[.slice A n c] w fun e w' => ∃ v, e = .returned v ∧ GB encWs 3 66 w' w.heap.size v L ∧ Below w.heap.size w w' := by
  have heq := ieqnil 58 66 Try.underlying58
  rcases A with _ | ad
  · have hL0 : L = [] := by
      rcases L with _ | ⟨p, r⟩
      · rfl
      · obtain ⟨b, o, e, _⟩ := h1 0 (by simp)
        cases e
    subst hL0
    have hn0 := hn.out
    clear hn
    go_enter Try.func101, Try.ntmps101
    go_wp2_with fail
    go_returns
    exact ⟨_, rfl, GB.nil _ _, Below.refl _ _⟩
  · have hb0 := enew w (.cells #[] 66)
    have hown0 : GB encWs 3 66 (w.alloc (.cells #[] 66)) w.heap.size (.slice (some ⟨w.heap.size, 0, none⟩) 0 0) [] := by
      have := World.ownsRow_lit (e := 66) (size := 3) w #[] 0 (Nat.le_refl _) (by unfold maxLen; omega) (by simp)
      simpa [GB, gvals] using this
    have H0 := hid (And.intro hb0 (And.intro hown0 (h1.up hb0)))
    clear hb0 hown0 h1
    go_enter Try.func101, Try.ntmps101
    go_wp2_with (at_builtin; refine wpList_append_gx (W0 := w) rowWs rfl _ _ rfl w.heap.size (.slice (some ⟨w.heap.size, 0, none⟩) 0 0) [] L (some ad) c _ rfl H0.out.2.1 (by rw [hn.out]; rfl) H0.out.2.2 (fun h => by cases h) (by have := hn.out; simp; omega) H0.out.1 (Nat.le_refl _) ?_)
    intro v1 w1 hown1 hbel1 _
    have H1 := hid (And.intro hown1 hbel1)
    clear hown1 hbel1
    go_wp2_with fail
    go_returns
    exact ⟨_, rfl, H1.out.1, H1.out.2⟩
end Go.Proofs.Ytpfhmpblcmednaa
namespace Go.Proofs.Ytpfhmpblcmednaa
set_option linter.unusedVariables false
set_option linter.unusedSimpArgs false
open Go.RowKit Go.Joins

section
variable {α : Type} {enc : α → List Value} {k : Nat} {e : TypeId}
theorem gb_bk {w : World} {base b n cap : Nat} {L : List α} (h : GB enc k e w base (.slice (some ⟨b, 0, none⟩) n cap) L) : ∃ cs, Bk w b e cs := by
  rcases h.2 with ⟨h0, _⟩ | ⟨g, cap', cur, e1, e2, e3, -⟩
  · cases h0
  · simp only [Value.slice.injEq, Option.some.injEq, Addr.mk.injEq, and_true, true_and] at e1
    obtain ⟨rfl, -⟩ := e1
    exact ⟨cur, e3⟩
theorem gb_onS {w w' : World} {S : Nat → Prop} {base : Nat} {v : Value} {L : List α} (h : GB enc k e w base v L) (ho : OnS S w w') (hn : ∀ q, v.ownBlock = some q → ¬ S q) : GB enc k e w' base v L := by
  refine ⟨h.1, ?_⟩
  rcases h.2 with h2 | ⟨g, cap', cur, e1, e2, e3, e4⟩
  · exact Or.inl h2
  · refine Or.inr ⟨g, cap', cur, e1, e2, ?_, e4⟩
    rw [ho.block g (Array.getElem?_eq_some_iff.1 e3).1 (hn g (by rw [e1]; rfl))]
    exact e3
theorem gb_lt {w : World} {base b n cap : Nat} {L : List α} (h : GB enc k e w base (.slice (some ⟨b, 0, none⟩) n cap) L) : base ≤ b ∧ b < w.heap.size := by
  have := World.ownsRow.lt h b rfl
  exact this
end
/-- A row that lies by itself. -/
def NR (w : World) (B : Nat) (u : Ws) : Prop := ∃ q, u.A = some ⟨q, 0, none⟩ ∧ GB encWi 1 3 w B (.slice (some ⟨q, 0, none⟩) u.n u.c) u.L
/-- Windows in new memory, none of which shares its numbers. -/
structure NW (w : World) (B : Nat) (v : Value) (V : List Ws) : Prop where
  gb : GB encWs 3 66 w B v V
  row : ∀ j (h : j < V.length), NR w B V[j]
  apart : ∀ i j (hi : i < V.length) (hj : j < V.length), i ≠ j → V[i].A ≠ V[j].A
theorem NR.below {w w' : World} {B : Nat} {u : Ws} (h : NR w B u) (hb : Below w.heap.size w w') : NR w' B u := by
  obtain ⟨q, e, h1⟩ := h
  exact ⟨q, e, h1.below hb⟩
theorem NR.set {w : World} {B g i : Nat} {u : Ws} {cs : Array Value} (h : NR w B u) (hB : Bk w g 66 cs) (x : Value) : NR (w.setCell ⟨g, i, none⟩ x) B u := by
  obtain ⟨q, e, h1⟩ := h
  exact ⟨q, e, GB.set h1 hB (by decide) i x⟩
theorem NR.ws {w : World} {B : Nat} {u : Ws} (h : NR w B u) : WsO w (· < w.heap.size) u := by
  obtain ⟨q, e, h1⟩ := h
  obtain ⟨a, b, c, d⟩ := gb_len encWi_len h1
  exact ⟨by rw [e]; exact d.imp fun b hb => hb.2, a, b, c⟩
theorem NR.wsn {w : World} {B : Nat} {u : Ws} (h : NR w B u) : WsO w (fun b => B ≤ b ∧ b < w.heap.size) u := by
  obtain ⟨q, e, h1⟩ := h
  obtain ⟨a, b, c, d⟩ := gb_len encWi_len h1
  exact ⟨by rw [e]; exact d, a, b, c⟩
theorem NW.wnn {w : World} {B : Nat} {A : Option Addr} {n c : Nat} {V : List Ws} (h : NW w B (.slice A n c) V) : WnN w (fun b => B ≤ b ∧ b < w.heap.size) A n c V := by
  obtain ⟨A', c', e, h1, h2, h3, h4⟩ := GB.reads encWs_len h.gb
  simp only [Value.slice.injEq] at e
  obtain ⟨rfl, hn, rfl⟩ := e
  refine ⟨h1, fun u hu => ?_, hn.symm, h2, by omega, h4⟩
  obtain ⟨j, hj, rfl⟩ := List.mem_iff_getElem.1 hu
  exact (h.row j hj).wsn
theorem NW.wnv {w : World} {B : Nat} {A : Option Addr} {n c : Nat} {V : List Ws} (h : NW w B (.slice A n c) V) : WnO w A n c V := by
  obtain ⟨A', c', e, h1, h2, h3, h4⟩ := GB.reads encWs_len h.gb
  simp only [Value.slice.injEq] at e
  obtain ⟨rfl, hn, rfl⟩ := e
  refine ⟨h1.imp fun b hb => hb.2, fun u hu => ?_, hn.symm, h2, by omega, h4⟩
  obtain ⟨j, hj, rfl⟩ := List.mem_iff_getElem.1 hu
  exact (h.row j hj).ws
theorem NW.up {w w' : World} {B : Nat} {v : Value} {V : List Ws} (h : NW w B v V) (hb : Below w.heap.size w w') : NW w' B v V := ⟨h.gb.below hb, fun j hj => (h.row j hj).below hb, h.apart⟩
/-- What the loop knows: the first k rows lie by themselves. -/
structure CpI (w wr : World) (v : Value) (U V : List Ws) (k : Nat) : Prop where
  gb : GB encWs 3 66 wr w.heap.size v V
  len : V.length = U.length
  map : V.map Ws.win = U.map Ws.win
  row : ∀ j (h : j < V.length), j < k → NR wr w.heap.size V[j]
  apart : ∀ i j (hi : i < V.length) (hj : j < V.length), i < k → j < k → i ≠ j → V[i].A ≠ V[j].A
  rest : ∀ j (h : j < V.length) (h2 : j < U.length), k ≤ j → V[j] = U[j]
  bel : Below w.heap.size w wr
theorem CpI.step {w wr w2 : World} {g n c q c5 : Nat} {U V : List Ws} {k : Nat} (h : CpI w wr (.slice (some ⟨g, 0, none⟩) n c) U V k) (hk : k < V.length) (hb : Below wr.heap.size wr w2)
    (hq : GB encWi 1 3 w2 wr.heap.size (.slice (some ⟨q, 0, none⟩) V[k].n c5) V[k].L) :
    CpI w (w2.setCell ⟨g, k * 3 + 2, none⟩ (.slice (some ⟨q, 0, none⟩) V[k].n c5)) (.slice (some ⟨g, 0, none⟩) n c) U (V.set k { V[k] with A := some ⟨q, 0, none⟩, c := c5 }) (k + 1) := by
  have hgb2 := h.gb.below hb
  obtain ⟨cs, hB⟩ := gb_bk hgb2
  have hgw : w.heap.size ≤ g := (gb_lt h.gb).1
  have hql := gb_lt hq
  have hold : ∀ j (hj : j < V.length), j < k → ∃ q', V[j].A = some ⟨q', 0, none⟩ ∧ q' < wr.heap.size := fun j hj hjk => by
    obtain ⟨q', e, h1⟩ := h.row j hj hjk
    exact ⟨q', e, (gb_lt h1).2⟩
  refine ⟨gb_set1 encWs_len hgb2 k 2 hk (by omega) _ _ rfl, by rw [List.length_set]; exact h.len, ?_, fun j hj hjk => ?_, fun i j hi hj hik hjk hne => ?_, fun j hj h2 hkj => ?_, (estep h.bel hb).setCell (p := ⟨g, k * 3 + 2, none⟩) hgw _⟩
  · rw [List.map_set, ← h.map]
    have : Ws.win { V[k] with A := some ⟨q, 0, none⟩, c := c5 } = (V.map Ws.win)[k]'(by simpa using hk) := by rw [List.getElem_map]; rfl
    rw [this, List.set_getElem_self]
  · rw [List.length_set] at hj
    by_cases e : k = j
    · subst e
      simp only [List.getElem_set_self]
      exact ⟨q, rfl, (GB.set hq hB (by decide) _ _).more h.bel.size⟩
    · simp only [List.getElem_set_ne e]
      exact ((h.row j hj (by omega)).below hb).set hB _
  · rw [List.length_set] at hi hj
    by_cases e : k = i
    · subst e
      rw [List.getElem_set_self, List.getElem_set_ne (by omega)]
      obtain ⟨q', e', hlt⟩ := hold j hj (by omega)
      rw [e']
      intro he
      simp only [Option.some.injEq, Addr.mk.injEq, and_true] at he
      omega
    · by_cases e2 : k = j
      · subst e2
        rw [List.getElem_set_self, List.getElem_set_ne e]
        obtain ⟨q', e', hlt⟩ := hold i hi (by omega)
        rw [e']
        intro he
        simp only [Option.some.injEq, Addr.mk.injEq, and_true] at he
        omega
      · rw [List.getElem_set_ne e, List.getElem_set_ne e2]
        exact h.apart i j hi hj (by omega) (by omega) hne
  · rw [List.length_set] at hj
    rw [List.getElem_set_ne (by omega)]
    exact h.rest j hj h2 (by omega)
set_option maxRecDepth 100000 in
set_option maxHeartbeats 8000000 in
theorem wcopied_any (v : Value) (l : List Win) (w : World) (hv : WnV w v l) (hl : l.length ≤ 1000) (hs : ∀ x ∈ l, x.seen ≠ [] ∧ x.seen.length ≤ 1000) :
    Calls Try.prog 64 #[v] w fun e w' => ∃ v' V, e = .returned v' ∧ NW w' w.heap.size v' V ∧ V.map Ws.win = l ∧ Below w.heap.size w w' := by
  obtain ⟨A, n, c, U, rfl, ho, rfl⟩ := hv
  have hn := ho.len
  rw [List.length_map, hn] at hl
  have HCL := hid (clonews_any A n c U w ho.gx (hid hn) (by omega))
  have HO := hid ho
  have HS := hid hs
  have HN := hid hn
  clear ho hs hn
  go_enter Try.func64, Try.ntmps64
  go_wp2_with fail
  refine HCL.out.mono ?_
  rintro e w1 ⟨v1, rfl, hv1, hb1⟩
  obtain ⟨A1, c1, rfl, -⟩ := GB.reads encWs_len hv1
  rw [HN.out] at hv1 ⊢
  have HI0 := hid (show CpI w w1 (.slice A1 n c1) U U 0 from ⟨hv1, rfl, rfl, fun j h hj => by omega, fun i j hi hj h1 => by omega, fun j h h2 _ => rfl, hb1⟩)
  clear hv1 hb1 HCL
  go_wp2_with fail
  go_loopg [9] n (fun g1 vi wr => ∃ (k : Nat) (V : List Ws), vi = .int .i64 k ∧ k ≤ n ∧ n - k ≤ g1 ∧ Hid (CpI w wr (.slice A1 n c1) U V k))
  case atStart => exact ⟨0, U, rfl, by omega, by omega, HI0⟩
  case round =>
    obtain ⟨k, V, rfl, hkn, hgk, HI⟩ := hrel
    obtain ⟨wz, hwz⟩ : ∃ wz, wz = wr := ⟨_, rfl⟩
    subst hwz
    by_cases hlt : k < n
    · have hltz : (k : Int) < (n : Int) := by omega
      have hltd : decide ((k : Int) < (n : Int)) = true := decide_eq_true hltz
      have hk0 : (0 : Int) ≤ (k : Int) := by omega
      have hkU : k < U.length := by have := HN.out; omega
      have hkV : k < V.length := by rw [HI.out.len]; exact hkU
      have hVU := HI.out.rest k hkV hkU (Nat.le_refl _)
      obtain ⟨g, rfl⟩ : ∃ g, A1 = some ⟨g, 0, none⟩ := by
        rcases GB.form encWs_len HI.out.gb with ⟨h1, h2⟩ | ⟨g, c', h1, -⟩
        · rw [h2] at hkV; simp at hkV
        · simp only [Value.slice.injEq] at h1
          exact ⟨g, h1.1⟩
      have r2 := (gb_at encWs_len HI.out.gb k 2 hkV (by omega)).1
      have f2 := (gb_at encWs_len HI.out.gb k 2 hkV (by omega)).2
      obtain ⟨u, hu⟩ : ∃ u, V[k] = u := ⟨_, rfl⟩
      have huU : u ∈ U := by rw [← hu, hVU]; exact List.getElem_mem hkU
      have hsu := HS.out u.win (List.mem_map.2 ⟨u, huU, rfl⟩)
      have hwo := HO.out.wp u huU
      have r2' : wz.cell? ⟨g, k * 3 + 2, none⟩ = some (.slice u.A u.n u.c) := by rw [r2, hu]; rfl
      have hun : u.n ≤ 1000 := by rw [← hwo.len]; exact hsu.2
      have HCI := hid (clonei_any u.A u.n u.c u.L wz (hwo.up HI.out.bel).gx (hid hwo.len) (by omega))
      have HNE := hid (And.intro hsu.1 (And.intro hwo.len hu))
      clear r2 hVU hwo hsu huU hu
      go_wp2_with fail
      refine HCI.out.mono ?_
      rintro e w2 ⟨v5, rfl, hv5, hb5⟩
      obtain ⟨q, c5, rfl⟩ : ∃ q c5, v5 = .slice (some ⟨q, 0, none⟩) u.n c5 := by
        rcases GB.form encWi_len hv5 with ⟨-, h2⟩ | ⟨q, c', h1, -⟩
        · exact absurd h2 HNE.out.1
        · exact ⟨q, c', by rw [h1, HNE.out.2.1]⟩
      have g2 := gb_at encWs_len (HI.out.gb.below hb5) k 2 hkV (by omega)
      obtain ⟨g3, g4⟩ := g2
      have g3' : w2.cell? ⟨g, k * 3 + 2, none⟩ = some (.slice u.A u.n u.c) := by rw [g3, HNE.out.2.2]; rfl
      have HI2 := hid (HI.out.step hkV hb5 (by rw [HNE.out.2.2]; exact hv5))
      clear g3 hv5 hb5 HCI f2 r2'
      go_wp2_with fail
      go_roundg (n - (k + 1))
      case measure => omega
      case rel => exact ⟨k + 1, _, by go_num, by omega, by omega, hid (by have := HI2.out; rw [HNE.out.2.2] at this; exact this)⟩
    · obtain rfl : k = n := by omega
      have hltd : decide ((k : Int) < (k : Int)) = false := by simp
      go_wp2_with fail
      go_returns
      exact ⟨_, V, rfl, ⟨HI.out.gb, fun j hj => HI.out.row j hj (by rw [← HN.out, ← HI.out.len]; exact hj), fun i j hi hj hne => HI.out.apart i j hi hj (by rw [← HN.out, ← HI.out.len]; exact hi) (by rw [← HN.out, ← HI.out.len]; exact hj) hne⟩, HI.out.map, HI.out.bel⟩
end Go.Proofs.Ytpfhmpblcmednaa
namespace Go.Proofs.Ytpfhmpblcmednaa
set_option linter.unusedVariables false
set_option linter.unusedSimpArgs false
open Go.RowKit Go.Joins

theorem wno_of {w : World} {B : Nat} {A : Option Addr} {n c : Nat} {V : List Ws} (h : GB encWs 3 66 w B (.slice A n c) V) (hr : ∀ u ∈ V, WsO w (· < w.heap.size) u) : WnO w A n c V := by
  obtain ⟨A', c', e, h1, h2, h3, h4⟩ := GB.reads encWs_len h
  simp only [Value.slice.injEq] at e
  obtain ⟨rfl, hn, rfl⟩ := e
  exact ⟨h1.imp fun b hb => hb.2, hr, hn.symm, h2, by omega, h4⟩
theorem wnn_of {w : World} {B : Nat} {A : Option Addr} {n c : Nat} {V : List Ws} (h : GB encWs 3 66 w B (.slice A n c) V) (hr : ∀ u ∈ V, WsO w (fun b => B ≤ b ∧ b < w.heap.size) u) : WnN w (fun b => B ≤ b ∧ b < w.heap.size) A n c V := by
  obtain ⟨A', c', e, h1, h2, h3, h4⟩ := GB.reads encWs_len h
  simp only [Value.slice.injEq] at e
  obtain ⟨rfl, hn, rfl⟩ := e
  exact ⟨h1, hr, hn.symm, h2, by omega, h4⟩
theorem ws_set3 {w : World} {B g n c : Nat} {V : List Ws} (h : GB encWs 3 66 w B (.slice (some ⟨g, 0, none⟩) n c) V) (k : Nat) (hk : k < V.length) (u : Ws) :
    GB encWs 3 66 (((w.setCell ⟨g, k * 3, none⟩ (.int .i64 u.node)).setCell ⟨g, k * 3 + 1, none⟩ (.int .i64 u.high)).setCell ⟨g, k * 3 + 2, none⟩ (.slice u.A u.n u.c)) B (.slice (some ⟨g, 0, none⟩) n c) (V.set k u) := by
  have h1 := gb_set1 encWs_len h k 0 hk (by omega) { V[k] with node := u.node } (.int .i64 u.node) rfl
  have hk1 : k < (V.set k { V[k] with node := u.node }).length := by rw [List.length_set]; exact hk
  have h2 := gb_set1 encWs_len h1 k 1 hk1 (by omega) { V[k] with node := u.node, high := u.high } (.int .i64 u.high) (by rw [List.getElem_set_self]; rfl)
  rw [List.set_set] at h2
  have hk2 : k < (V.set k { V[k] with node := u.node, high := u.high }).length := by rw [List.length_set]; exact hk
  have h3 := gb_set1 encWs_len h2 k 2 hk2 (by omega) u (.slice u.A u.n u.c) (by rw [List.getElem_set_self]; rfl)
  rw [List.set_set] at h3
  exact h3
theorem heap_alloc_same (w : World) (o : Obj) {b : Nat} (h : b < w.heap.size) : (w.alloc o).heap[b]? = w.heap[b]? := heap_alloc_old w o h
/-- Behind taken: the row is another one. -/
theorem fresh_fin {w2 w3 : World} {B g n c q k : Nat} {V : List Ws} {u : Ws} (hN : NW w2 B (.slice (some ⟨g, 0, none⟩) n c) V) (hk : k < V.length) (hA : V[k].A = some ⟨q, 0, none⟩) (ho : OnS (fun b => b = q) w2 w3) (hu : WsO w3 (fun b => b = q ∨ w2.heap.size ≤ b ∧ b < w3.heap.size) u) (o : Obj) (hB0 : B ≤ w2.heap.size) :
    GB encWs 3 66 (w3.alloc o) B (.slice (some ⟨g, 0, none⟩) n c) V ∧
    WnN ((((w3.alloc o).setCell ⟨g, k * 3, none⟩ (.int .i64 u.node)).setCell ⟨g, k * 3 + 1, none⟩ (.int .i64 u.high)).setCell ⟨g, k * 3 + 2, none⟩ (.slice u.A u.n u.c)) (fun b => B ≤ b ∧ b < ((((w3.alloc o).setCell ⟨g, k * 3, none⟩ (.int .i64 u.node)).setCell ⟨g, k * 3 + 1, none⟩ (.int .i64 u.high)).setCell ⟨g, k * 3 + 2, none⟩ (.slice u.A u.n u.c)).heap.size) (some ⟨g, 0, none⟩) n c (V.set k u) := by
  obtain ⟨q', e', hq⟩ := hN.row k hk
  have hqq : q' = q := by rw [hA] at e'; simpa using e'.symm
  subst hqq
  obtain ⟨cs, hB⟩ := gb_bk hN.gb
  obtain ⟨cs', hB'⟩ := gb_bk hq
  have hgq : g ≠ q' := fun he => by
    subst he
    have := hB.symm.trans hB'
    simp at this
  have hgl := (gb_lt hN.gb).2
  have hql := (gb_lt hq).2
  have hg3 : GB encWs 3 66 w3 B (.slice (some ⟨g, 0, none⟩) n c) V := gb_onS hN.gb ho fun b hb => by
    simp only [Value.ownBlock, Option.some.injEq] at hb
    omega
  have hg4 := hg3.below (enew w3 o)
  obtain ⟨cs4, hB4⟩ := gb_bk hg4
  have hfin := ws_set3 hg4 k hk u
  have hBq := (gb_lt hq).1
  refine ⟨hg4, wnn_of hfin fun x hx => ?_⟩
  have hsz : ((((w3.alloc o).setCell ⟨g, k * 3, none⟩ (.int .i64 u.node)).setCell ⟨g, k * 3 + 1, none⟩ (.int .i64 u.high)).setCell ⟨g, k * 3 + 2, none⟩ (.slice u.A u.n u.c)).heap.size = w3.heap.size + 1 := by simp [World.setCell]
  have hsame : ∀ b, b ≠ g → b < w3.heap.size → ((((w3.alloc o).setCell ⟨g, k * 3, none⟩ (.int .i64 u.node)).setCell ⟨g, k * 3 + 1, none⟩ (.int .i64 u.high)).setCell ⟨g, k * 3 + 2, none⟩ (.slice u.A u.n u.c)).heap[b]? = w3.heap[b]? := fun b hb hlt => by
    rw [Below.heap_setCell _ ⟨g, k * 3 + 2, none⟩ _ b hb, Below.heap_setCell _ ⟨g, k * 3 + 1, none⟩ _ b hb, Below.heap_setCell _ ⟨g, k * 3, none⟩ _ b hb, heap_alloc_same w3 o hlt]
  obtain ⟨j, hj, rfl⟩ := List.mem_iff_getElem.1 hx
  by_cases e : k = j
  · subst e
    rw [List.getElem_set_self]
    refine (hu.same fun b hb => hsame b ?_ ?_).imp fun b hb => ?_
    · rcases hb with rfl | hb
      · exact fun h => hgq h.symm
      · omega
    · have := ho.size
      rcases hb with rfl | hb
      · omega
      · exact hb.2
    · have := ho.size
      rw [hsz]
      rcases hb with rfl | hb
      · omega
      · omega
  · rw [List.getElem_set_ne e]
    rw [List.length_set] at hj
    obtain ⟨qj, ej, hqj⟩ := hN.row j hj
    have hne : qj ≠ q' := fun h => hN.apart j k hj hk (fun h => e h.symm) (by rw [ej, hA, h])
    have hj3 : GB encWi 1 3 w3 B (.slice (some ⟨qj, 0, none⟩) V[j].n V[j].c) V[j].L := gb_onS hqj ho fun b hb => by
      simp only [Value.ownBlock, Option.some.injEq] at hb
      omega
    have hnr : NR (w3.alloc o) B V[j] := ⟨qj, ej, hj3.below (enew w3 o)⟩
    have hB5 := Bk.set_ hB4 (k * 3) (.int .i64 u.node)
    have hB6 := Bk.set_ hB5 (k * 3 + 1) (.int .i64 u.high)
    exact (((hnr.set hB4 _).set hB5 _).set hB6 _).wsn
/-- What the program's Fresh answers: all of it in new blocks. -/
def FrN (w : World) (r : List Win × Bool) (e : Ending) (w' : World) : Prop := ∃ v, e = .returned (.tuple #[v, .bool r.2]) ∧ WnM w' (fun b => w.heap.size ≤ b ∧ b < w'.heap.size) v r.1 ∧ Below w.heap.size w w'
/-- What Fresh answers. -/
def FrR (w : World) (r : List Win × Bool) (e : Ending) (w' : World) : Prop := ∃ v, e = .returned (.tuple #[v, .bool r.2]) ∧ WnV w' v r.1 ∧ Below w.heap.size w w'
theorem badD_true {nd s : Int} (h : nd < 0 ∨ 7 < nd ∨ s < 0 ∨ 1099511627776 < s) (l : List Win) : dFresh l nd s = (l, false) := by
  unfold dFresh
  rw [if_pos (show badD nd s = true from decide_eq_true h)]
set_option maxRecDepth 100000 in
set_option maxHeartbeats 8000000 in
theorem dfresh_n (v : Value) (l : List Win) (nd s : Int) (w : World) (hv : WnV w v l) (hok : WinsOk l) {r : List Win × Bool} (H : Hid (dFresh l nd s = r)) :
    Calls Try.prog 23 #[v, .int .i64 nd, .int .i64 s] w fun e w' => FrN w r e w' := by
  have hnot := enot
  have hl8 := hok.len
  have HCP := hid (wcopied_any v l w hv (by omega) fun x hx => by
    have := (hok.ok x hx).len
    exact ⟨fun h => by rw [h] at this; simp at this, by omega⟩)
  have HOK := hid hok
  clear hok hv
  go_enter Try.func23, Try.ntmps23
  go_wp2_with fail
  refine HCP.out.mono ?_
  rintro e w1 ⟨v1, V, rfl, hN, hm, hb1⟩
  obtain ⟨A1, c1, rfl, -⟩ := GB.reads encWs_len hN.gb
  obtain ⟨n, hn⟩ : ∃ n, V.length = n := ⟨_, rfl⟩
  rw [hn] at hN ⊢
  have HNW := hid (And.intro hN (And.intro hm (And.intro hb1 hn)))
  have hn8 : n ≤ 8 := by rw [← hm, List.length_map, hn] at hl8; exact hl8
  clear hN hm hb1 hn HCP hl8
  by_cases h1 : nd < 0
  · have hd1 : decide (nd < 0) = true := decide_eq_true h1
    have HE := hid (H.out.symm.trans (badD_true (Or.inl h1) l))
    go_wp2_with fail
    go_returns
    exact ⟨.slice A1 n c1, by rw [HE.out]; rfl, by rw [HE.out]; exact ⟨A1, n, c1, V, rfl, HNW.out.1.wnn, HNW.out.2.1⟩, HNW.out.2.2.1⟩
  have hd1 : decide (nd < 0) = false := decide_eq_false h1
  by_cases h2 : 7 < nd
  · have hd2 : decide (7 < nd) = true := decide_eq_true h2
    have HE := hid (H.out.symm.trans (badD_true (Or.inr (Or.inl h2)) l))
    go_wp2_with fail
    go_returns
    exact ⟨.slice A1 n c1, by rw [HE.out]; rfl, by rw [HE.out]; exact ⟨A1, n, c1, V, rfl, HNW.out.1.wnn, HNW.out.2.1⟩, HNW.out.2.2.1⟩
  have hd2 : decide (7 < nd) = false := decide_eq_false h2
  by_cases h3 : s < 0
  · have hd3 : decide (s < 0) = true := decide_eq_true h3
    have HE := hid (H.out.symm.trans (badD_true (Or.inr (Or.inr (Or.inl h3))) l))
    go_wp2_with fail
    go_returns
    exact ⟨.slice A1 n c1, by rw [HE.out]; rfl, by rw [HE.out]; exact ⟨A1, n, c1, V, rfl, HNW.out.1.wnn, HNW.out.2.1⟩, HNW.out.2.2.1⟩
  have hd3 : decide (s < 0) = false := decide_eq_false h3
  by_cases h4 : 1099511627776 < s
  · have hd4 : decide (1099511627776 < s) = true := decide_eq_true h4
    have HE := hid (H.out.symm.trans (badD_true (Or.inr (Or.inr (Or.inr h4))) l))
    go_wp2_with fail
    go_returns
    exact ⟨.slice A1 n c1, by rw [HE.out]; rfl, by rw [HE.out]; exact ⟨A1, n, c1, V, rfl, HNW.out.1.wnn, HNW.out.2.1⟩, HNW.out.2.2.1⟩
  have hd4 : decide (1099511627776 < s) = false := decide_eq_false h4
  have hs : 0 ≤ s ∧ s ≤ 1099511627776 := by omega
  have hbad : ¬ badD nd s = true := by simp [badD]; omega
  have HBD := hid (And.intro hbad True.intro)
  obtain ⟨z, hz⟩ : ∃ z, dI (V.map Ws.win) nd = z := ⟨_, rfl⟩
  have HPL := hid (fun w2 (hv : WnV w2 (.slice A1 n c1) (V.map Ws.win)) => wplace_any (.slice A1 n c1) (V.map Ws.win) nd w2 hv (by rw [List.length_map, HNW.out.2.2.2]; omega) (hid hz))
  have HV1 := hid (show WnV w1 (.slice A1 n c1) (V.map Ws.win) from ⟨A1, n, c1, V, rfl, HNW.out.1.wnv, rfl⟩)
  clear h1 h2 h3 h4 hbad
  rcases dI_cases (V.map Ws.win) nd with ⟨k, hk⟩ | ⟨hm, hno⟩
  · obtain ⟨hk1, hat⟩ := dI_at hk
    obtain rfl : z = (k : Int) := hz.symm.trans hk
    have hkV : k < V.length := by simpa using hk1
    obtain ⟨u, hu⟩ : ∃ u, V[k] = u := ⟨_, rfl⟩
    have hkl : k < l.length := by rw [← HNW.out.2.1]; exact hk1
    have huw : u.win = l[k] := by
      have h1 : (V.map Ws.win)[k] = l[k] := by simp only [HNW.out.2.1]
      rw [← h1, List.getElem_map, hu]
    have HE := hid (show r = (l.set k (dTake u.win s).1, (dTake u.win s).2) by
      rw [← H.out]
      unfold dFresh
      have e1 : dAt l nd = k := by rw [← HNW.out.2.1]; exact hat
      rw [if_neg HBD.out.1, dif_pos (by rw [e1]; exact hkl)]
      simp only [e1, huw])
    have hwok : WinOk u.win := by rw [huw]; exact HOK.out.ok _ (List.getElem_mem hkl)
    obtain ⟨q, hq1, hq2⟩ := HNW.out.1.row k hkV
    rw [hu] at hq1 hq2
    obtain ⟨g, rfl⟩ : ∃ g, A1 = some ⟨g, 0, none⟩ := by
      rcases GB.form encWs_len HNW.out.1.gb with ⟨h1, h2⟩ | ⟨g, c', h1, -⟩
      · rw [h2] at hkV; simp at hkV
      · simp only [Value.slice.injEq] at h1
        exact ⟨g, h1.1⟩
    have hk0 : (0 : Int) ≤ (k : Int) := by omega
    have hkn : (k : Int) < (n : Int) := by have := HNW.out.2.2.2; omega
    have hge : decide ((k : Int) < 0) = false := decide_eq_false (by omega)
    have HU := hid (And.intro hu (And.intro hq1 (And.intro hwok (And.intro hkV hkl))))
    obtain ⟨und, uhi, uA, un, uc, uL⟩ := u
    obtain rfl : uA = some ⟨q, 0, none⟩ := HU.out.2.1
    have HUL := hid (gb_len encWi_len hq2).1
    clear hz hk hk1 hat hu huw hwok hq1 hq2
    go_wp2_with fail
    refine (HPL.out _ HV1.out).mono ?_
    rintro e w2 ⟨rfl, hb2⟩
    have HN2 := hid (HNW.out.1.up hb2)
    have HB2 := hid (estep HNW.out.2.2.1 hb2)
    clear hb2 HPL HV1
    have r0 : w2.cell? ⟨g, k * 3, none⟩ = some (.int .i64 und) := by have := (gb_at encWs_len HN2.out.gb k 0 hkV (by omega)).1; rw [HU.out.1] at this; exact this
    have r1 : w2.cell? ⟨g, k * 3 + 1, none⟩ = some (.int .i64 uhi) := by have := (gb_at encWs_len HN2.out.gb k 1 hkV (by omega)).1; rw [HU.out.1] at this; exact this
    have r2 : w2.cell? ⟨g, k * 3 + 2, none⟩ = some (.slice (some ⟨q, 0, none⟩) un uc) := by have := (gb_at encWs_len HN2.out.gb k 2 hkV (by omega)).1; rw [HU.out.1] at this; exact this
    have HTK := hid (taken_any und uhi q un uc uL s w2 (by
      obtain ⟨q', e', h'⟩ := HN2.out.row k hkV
      rw [HU.out.1] at e' h'
      simp only [Option.some.injEq, Addr.mk.injEq, and_true] at e'
      subst e'
      exact h'.more (Nat.zero_le _)) HUL HU.out.2.2.1 hs)
    go_wp2_with fail
    refine HTK.out.mono ?_
    rintro e w3 ⟨x, b, rfl, hx, hwx, hox⟩
    have hfin := fresh_fin HN2.out hkV (by rw [HU.out.1]) hox hwx (.cells #[.int .i64 x.node, .int .i64 x.high, .slice x.A x.n x.c] 66) HB2.out.size
    have hen := enew w3 (.cells #[.int .i64 x.node, .int .i64 x.high, .slice x.A x.n x.c] 66)
    have KT := hid (Bk.new w3 66 #[.int .i64 x.node, .int .i64 x.high, .slice x.A x.n x.c])
    have HBf := hid (show Below w.heap.size w (w3.alloc (.cells #[.int .i64 x.node, .int .i64 x.high, .slice x.A x.n x.c] 66)) from
      ((OnS.to_below HB2.out hox (fun b _ hb => by
        obtain ⟨q', e', h'⟩ := HNW.out.1.row k hkV
        rw [HU.out.1] at e'
        simp only [Option.some.injEq, Addr.mk.injEq, and_true] at e'
        have := (gb_lt h').1
        omega) HB2.out.size).trans (hen.mono (Nat.le_trans HB2.out.size hox.size))))
    have HFN := hid (And.intro hfin.1 (And.intro hfin.2 (And.intro hx (gb_lt HNW.out.1.gb).1)))
    clear hfin hx hwx hox hen HTK r0 r1 r2
    go_upto_region 8 with (fail)
    obtain ⟨tb, htb⟩ : ∃ tb, w3.heap.size = tb := ⟨_, rfl⟩
    rw [htb] at KT ⊢
    clear htb
    generalize w3.alloc (.cells #[.int .i64 x.node, .int .i64 x.high, .slice x.A x.n x.c] 66) = w4 at *
    have t0 : w4.cell? ⟨tb, 0, none⟩ = some (.int .i64 x.node) := Bk.cell KT.out 0
    have t1 : w4.cell? ⟨tb, 1, none⟩ = some (.int .i64 x.high) := Bk.cell KT.out 1
    have t2 : w4.cell? ⟨tb, 2, none⟩ = some (.slice x.A x.n x.c) := Bk.cell KT.out 2
    have r0 := gb_at encWs_len HFN.out.1 k 0 hkV (by omega)
    have r1 := gb_at encWs_len HFN.out.1 k 1 hkV (by omega)
    have r2 := gb_at encWs_len HFN.out.1 k 2 hkV (by omega)
    rw [HU.out.1] at r0 r1 r2
    have s0 : w4.cell? ⟨g, k * 3, none⟩ = some (.int .i64 und) := r0.1
    have s1 : w4.cell? ⟨g, k * 3 + 1, none⟩ = some (.int .i64 uhi) := r1.1
    have s2 : w4.cell? ⟨g, k * 3 + 2, none⟩ = some (.slice (some ⟨q, 0, none⟩) un uc) := r2.1
    have f0 : w4.frozen? ⟨g, k * 3, none⟩ = false := r0.2
    have f1 : w4.frozen? ⟨g, k * 3 + 1, none⟩ = false := r1.2
    have f2 : w4.frozen? ⟨g, k * 3 + 2, none⟩ = false := r2.2
    clear r0 r1 r2
    go_wp2_with fail
    go_returns
    obtain ⟨h1, h2, h3, h4⟩ := HFN.out
    have h3' : dTake ⟨und, uhi, uL⟩ s = (x.win, b) := h3.symm
    refine ⟨_, by rw [HE.out]; simp only [Ws.win, h3']; rfl, ?_, ((HBf.out.setCell (p := ⟨g, k * 3, none⟩) h4 _).setCell (p := ⟨g, k * 3 + 1, none⟩) h4 _).setCell (p := ⟨g, k * 3 + 2, none⟩) h4 _⟩
    rw [HE.out]
    refine ⟨_, _, _, _, rfl, h2, ?_⟩
    rw [List.map_set, HNW.out.2.1]
    simp only [Ws.win, h3']
  · obtain rfl : z = -1 := hz.symm.trans hm
    have HE := hid (show r = (l ++ [⟨nd, s, [s]⟩], true) by
      rw [← H.out]
      unfold dFresh
      rw [if_neg HBD.out.1, dif_neg (by rw [← HNW.out.2.1]; exact hno)])
    clear hz hm hno
    go_wp2_with fail
    refine (HPL.out _ HV1.out).mono ?_
    rintro e w2 ⟨rfl, hb2⟩
    have HN2 := hid (HNW.out.1.up hb2)
    have HB2 := hid (estep HNW.out.2.2.1 hb2)
    clear hb2 HPL HV1
    have hba := enew w2 (.cells #[.int .i64 s] 3)
    have hbb := enew (w2.alloc (.cells #[.int .i64 s] 3)) (.cells #[.int .i64 nd, .int .i64 s, .slice (some ⟨w2.heap.size, 0, none⟩) 1 1] 66)
    have hx1 := gx_new (M := [(⟨nd, s, some ⟨w2.heap.size, 0, none⟩, 1, 1, [s]⟩ : Ws)]) encWs_len (Bk.new (w2.alloc (.cells #[.int .i64 s] 3)) 66 #[.int .i64 nd, .int .i64 s, .slice (some ⟨w2.heap.size, 0, none⟩) 1 1]) rfl
    rw [World.size_alloc] at hx1
    have hza : GB encWi 1 3 (w2.alloc (.cells #[.int .i64 s] 3)) w.heap.size (.slice (some ⟨w2.heap.size, 0, none⟩) 1 1) [s] := by
      have := World.ownsRow_lit (e := 3) (size := 1) (base := w.heap.size) w2 #[.int .i64 s] 1 HB2.out.size (by unfold maxLen; omega) rfl
      simpa [GB, gvals, encWi] using this
    have HX := hid (And.intro hx1 (And.intro ((HN2.out.up hba).up hbb) (And.intro (show NR _ w.heap.size (⟨nd, s, some ⟨w2.heap.size, 0, none⟩, 1, 1, [s]⟩ : Ws) from ⟨w2.heap.size, rfl, hza.below hbb⟩) (estep (estep HB2.out hba) hbb))))
    clear hx1 hza hba hbb
    go_wp2_with (at_builtin; refine wpList_append_gx (W0 := w) rowWs rfl _ _ rfl w.heap.size (.slice A1 n c1) V [(⟨nd, s, some ⟨w2.heap.size, 0, none⟩, 1, 1, [s]⟩ : Ws)] (some ⟨w2.heap.size + 1, 0, none⟩) 1 _ rfl HX.out.2.1.gb rfl HX.out.1 (fun h => by cases h) (by rw [HNW.out.2.2.2]; simp; omega) HX.out.2.2.2 (Nat.le_refl _) ?_)
    intro v5 w5 hG5 hb5 hg5
    have HF := hid (show ∀ u ∈ V ++ [(⟨nd, s, some ⟨w2.heap.size, 0, none⟩, 1, 1, [s]⟩ : Ws)], WsO w5 (fun b => w.heap.size ≤ b ∧ b < w5.heap.size) u from fun u hu => by
      rcases List.mem_append.1 hu with hu | hu
      · obtain ⟨j, hj, rfl⟩ := List.mem_iff_getElem.1 hu
        obtain ⟨q, e, h1⟩ := HX.out.2.1.row j hj
        exact NR.wsn (B := w.heap.size) ⟨q, e, GB.grown h1 HX.out.2.1.gb (by decide) hg5⟩
      · rw [List.mem_singleton.1 hu]
        obtain ⟨q, e, h1⟩ := HX.out.2.2.1
        exact NR.wsn (B := w.heap.size) ⟨q, e, GB.grown h1 HX.out.2.1.gb (by decide) hg5⟩)
    obtain ⟨A5, c5, rfl, -⟩ := GB.reads encWs_len hG5
    have H5 := hid (And.intro (wnn_of hG5 HF.out) hb5)
    clear hG5 hb5 hg5
    go_wp2_with fail
    go_returns
    refine ⟨_, by rw [HE.out]; rfl, ?_, H5.out.2⟩
    rw [HE.out]
    exact ⟨A5, _, c5, _, rfl, H5.out.1, by rw [List.map_append, HNW.out.2.1]; rfl⟩
theorem dfresh_any (v : Value) (l : List Win) (nd s : Int) (w : World) (hv : WnV w v l) (hok : WinsOk l) {r : List Win × Bool} (H : Hid (dFresh l nd s = r)) :
    Calls Try.prog 23 #[v, .int .i64 nd, .int .i64 s] w fun e w' => FrR w r e w' := by
  refine (dfresh_n v l nd s w hv hok H).mono ?_
  rintro e w' ⟨v', rfl, hv', hb⟩
  exact ⟨v', rfl, hv'.wnv fun b hb => hb.2, hb⟩
end Go.Proofs.Ytpfhmpblcmednaa
namespace Go.Proofs.Ytpfhmpblcmednaa
set_option linter.unusedVariables false
set_option linter.unusedSimpArgs false
open Go.RowKit Go.Joins

def abv (ab : Int) (L : List Int) : List Int := L.filter fun x => decide (ab < x)
/-- What the loop knows behind i numbers: put or not. -/
def WtI (L : List Int) (s ab : Int) (i : Nat) (b : Bool) (out : List Int) : Prop :=
  (b = false ∧ out = abv ab (L.take i) ∧ ∀ x ∈ L.take i, x < s) ∨ (b = true ∧ out = insS (abv ab (L.take i)) s ∧ ∃ x ∈ L.take i, s < x)
theorem insS_snoc {F : List Int} {s x : Int} (h : s < x) : insS (F ++ [x]) s = insS F s ++ [x] := by
  unfold insS
  rw [List.filter_append, List.filter_append, List.filter_cons, List.filter_cons, if_neg (by simp; omega), if_pos (by simpa using h)]
  simp
section
variable {L out : List Int} {s ab : Int} {i : Nat} {b : Bool}
theorem at_mem (hi : i < L.length) : L[i] ∈ L.take (i + 1) := by
  rw [List.take_succ_eq_append_getElem hi]
  exact List.mem_append_right _ (List.mem_singleton.2 rfl)
theorem WtI.start : WtI L s ab 0 false [] := Or.inl ⟨rfl, by simp [abv], by simp⟩
theorem abv_succ (hi : i < L.length) : abv ab (L.take (i + 1)) = if ab < L[i] then abv ab (L.take i) ++ [L[i]] else abv ab (L.take i) := by
  unfold abv
  rw [List.take_succ_eq_append_getElem hi, List.filter_append, List.filter_cons]
  split
  · rename_i h; rw [if_pos (of_decide_eq_true h)]; simp
  · rename_i h; rw [if_neg (by simpa using h)]; simp
theorem WtI.hit (h : WtI L s ab i false out) (hi : i < L.length) (hab : ab < s) (hx : s < L[i]) : WtI L s ab (i + 1) true (out ++ [s] ++ [L[i]]) := by
  rcases h with ⟨-, h1, h2⟩ | ⟨h, -⟩
  · refine Or.inr ⟨rfl, ?_, L[i], at_mem hi, hx⟩
    rw [abv_succ hi, if_pos (by omega), insS_snoc hx, insS_top (l := abv ab _) fun x hx2 => h2 x (List.mem_filter.1 hx2).1, h1]
  · cases h
theorem WtI.low (h : WtI L s ab i false out) (hi : i < L.length) (hx : L[i] < s) : WtI L s ab (i + 1) false (if ab < L[i] then out ++ [L[i]] else out) := by
  rcases h with ⟨-, h1, h2⟩ | ⟨h, -⟩
  · refine Or.inl ⟨rfl, by rw [abv_succ hi, h1], fun x hx2 => ?_⟩
    rw [List.take_succ_eq_append_getElem hi] at hx2
    rcases List.mem_append.1 hx2 with h3 | h3
    · exact h2 x h3
    · rw [List.mem_singleton.1 h3]; exact hx
  · cases h
theorem WtI.high (h : WtI L s ab i true out) (hi : i < L.length) (hab : ab < s) (hp : L.Pairwise (· < ·)) : s < L[i] ∧ WtI L s ab (i + 1) true (out ++ [L[i]]) := by
  rcases h with ⟨h, -⟩ | ⟨-, h1, x, hx, hsx⟩
  · cases h
  · have hlt : s < L[i] := by
      obtain ⟨j, hj, rfl⟩ := List.mem_iff_getElem.1 hx
      rw [List.length_take] at hj
      rw [List.getElem_take] at hsx
      have := List.pairwise_iff_getElem.1 hp j i (by omega) hi (by omega)
      omega
    refine ⟨hlt, Or.inr ⟨rfl, ?_, L[i], at_mem hi, hlt⟩⟩
    rw [abv_succ hi, if_pos (by omega), insS_snoc hlt, h1]
theorem WtI.done0 (h : WtI L s ab L.length false out) : out ++ [s] = insS (abv ab L) s := by
  rcases h with ⟨-, h1, h2⟩ | ⟨h, -⟩
  · rw [List.take_length] at h1 h2
    rw [insS_top (l := abv ab _) fun x hx2 => h2 x (List.mem_filter.1 hx2).1, h1]
  · cases h
theorem WtI.done1 (h : WtI L s ab L.length true out) : out = insS (abv ab L) s := by
  rcases h with ⟨h, -⟩ | ⟨-, h1, -⟩
  · cases h
  · rw [List.take_length] at h1; exact h1
theorem insS_len (F : List Int) (s : Int) : (insS F s).length ≤ 2 * F.length + 1 := by
  unfold insS
  have h1 := List.length_filter_le (fun x => decide (x < s)) F
  have h2 := List.length_filter_le (fun x => decide (s < x)) F
  simp only [List.length_append, List.length_cons]
  omega
theorem WtI.len (h : WtI L s ab i b out) : out.length ≤ 2 * L.length + 1 := by
  have h0 : (abv ab (L.take i)).length ≤ L.length := Nat.le_trans (List.length_filter_le _ _) (by rw [List.length_take]; omega)
  rcases h with ⟨-, h1, -⟩ | ⟨-, h1, -⟩
  · rw [h1]; omega
  · rw [h1]; have := insS_len (abv ab (L.take i)) s; omega
end
set_option maxRecDepth 100000 in
set_option maxHeartbeats 8000000 in
theorem rwith_any (A : Option Addr) (n c : Nat) (L : List Int) (s ab : Int) (w : World) (hA : GX encWi 1 w (· < w.heap.size) A L) (hn : Hid (L.length = n)) (hl : n ≤ 1000) (hp : L.Pairwise (· < ·)) (hs : s ∉ L) (hab : ab < s) :
    Calls Try.prog 68 #[.slice A n c, .int .i64 s, .int .i64 ab] w fun e w' => ∃ v, e = .returned v ∧ GB encWi 1 3 w' w.heap.size v (insS (abv ab L) s) ∧ Below w.heap.size w w' := by
  have hnot := enot
  have HA := hid hA
  have HP := hid hp
  have HNS := hid hs
  clear hA hp hs
  go_enter Try.func68, Try.ntmps68
  go_wp2_with fail
  go_loopg [7, 8, 9] n (fun g1 vo vp vi wr => ∃ (i : Nat) (b : Bool) (out : List Int), vi = .int .i64 i ∧ vp = .bool b ∧ i ≤ n ∧ n - i ≤ g1 ∧ Hid (WtI L s ab i b out ∧ GB encWi 1 3 wr w.heap.size vo out ∧ Below w.heap.size w wr))
  case atStart => exact ⟨0, false, [], rfl, rfl, by omega, by omega, hid ⟨WtI.start, GB.nil _ _, Below.refl _ _⟩⟩
  case round =>
    obtain ⟨i, b, out, rfl, rfl, hin, hgk, HI⟩ := hrel
    obtain ⟨wz, hwz⟩ : ∃ wz, wz = wr := ⟨_, rfl⟩
    subst hwz
    have hol := HI.out.1.len
    have HOL := hid (show out.length ≤ 2001 by have := hn.out; omega)
    clear hol
    by_cases hlt : i < n
    · have hltz : (i : Int) < (n : Int) := by omega
      have hltd : decide ((i : Int) < (n : Int)) = true := decide_eq_true hltz
      have hi0 : (0 : Int) ≤ (i : Int) := by omega
      have hadd : IntKind.i64.wrap ((i : Int) + 1) = (i : Int) + 1 := IntWalk.i64_in _ (by omega)
      have hiL : i < L.length := by have := hn.out; omega
      obtain ⟨bb, oo, rfl, -, r0⟩ := (HA.out.up HI.out.2.2).wi i hiL
      have hne : L[i] ≠ s := fun e => HNS.out (e ▸ List.getElem_mem hiL)
      obtain ⟨x, hx⟩ : ∃ x, L[i] = x := ⟨_, rfl⟩
      have HX := hid hx
      rw [hx] at r0 hne
      clear hx
      have hen := enew wz (.cells #[.int .i64 x] 3)
      have hgx := gx_new (M := [x]) encWi_len (Bk.new wz 3 #[.int .i64 x]) rfl
      have H1 := hid (And.intro hgx (And.intro (HI.out.2.1.below hen) (estep HI.out.2.2 hen)))
      clear hen hgx
      cases b
      · by_cases hc : s < x
        · have hd : decide (s < x) = true := decide_eq_true hc
          have hd2 : decide (ab < x) = true := decide_eq_true (by omega)
          have HW := hid (by have := HI.out.1.hit hiL hab (by rw [HX.out]; exact hc); rw [HX.out] at this; exact this)
          have hen := enew wz (.cells #[.int .i64 s] 3)
          have hgx := gx_new (M := [s]) encWi_len (Bk.new wz 3 #[.int .i64 s]) rfl
          have H2 := hid (And.intro hgx (And.intro (HI.out.2.1.below hen) (estep HI.out.2.2 hen)))
          clear hen hgx hc H1
          go_wp2_with (at_builtin; refine wpList_append_gx (W0 := w) rowWi rfl _ _ rfl w.heap.size _ out [s] (some ⟨wz.heap.size, 0, none⟩) 1 _ rfl H2.out.2.1 rfl H2.out.1 (fun h => by cases h) (by have := HOL.out; simp; omega) H2.out.2.2 (Nat.le_refl _) ?_)
          intro v5 w5 hG5 hb5 hg5
          have r5 : w5.cell? ⟨bb, oo + i, none⟩ = some (.int .i64 x) := by
            obtain ⟨b', o', e', -, r'⟩ := (HA.out.up hb5).wi i hiL
            simp only [Option.some.injEq, Addr.mk.injEq, and_true] at e'
            obtain ⟨rfl, rfl⟩ := e'
            rw [r', HX.out]
          have hen := enew w5 (.cells #[.int .i64 x] 3)
          have hgx := gx_new (M := [x]) encWi_len (Bk.new w5 3 #[.int .i64 x]) rfl
          have H3 := hid (And.intro hgx (And.intro (hG5.below hen) (estep hb5 hen)))
          clear hen hgx hG5 hb5 hg5 H2 r0
          go_wp2_with (at_builtin; refine wpList_append_gx (W0 := w) rowWi rfl _ _ rfl w.heap.size _ (out ++ [s]) [x] (some ⟨w5.heap.size, 0, none⟩) 1 _ rfl H3.out.2.1 rfl H3.out.1 (fun h => by cases h) (by have := HOL.out; simp; omega) H3.out.2.2 (Nat.le_refl _) ?_)
          intro v6 w6 hG6 hb6 hg6
          have H6 := hid (And.intro hG6 hb6)
          clear hG6 hb6 hg6 H3 r5
          go_wp2_with fail
          go_roundg (n - (i + 1))
          case measure => omega
          case rel => exact ⟨i + 1, true, out ++ [s] ++ [x], by go_num, rfl, by omega, by omega, hid ⟨by first | exact HW.out | simpa using HW.out, by first | exact H6.out.1 | simpa using H6.out.1, H6.out.2⟩⟩
        · have hd : decide (s < x) = false := decide_eq_false hc
          have HW := hid (by have := HI.out.1.low hiL (by rw [HX.out]; omega); rw [HX.out] at this; exact this)
          by_cases hc2 : ab < x
          · have hd2 : decide (ab < x) = true := decide_eq_true hc2
            rw [if_pos hc2] at HW
            clear hc2 hc
            go_wp2_with (at_builtin; refine wpList_append_gx (W0 := w) rowWi rfl _ _ rfl w.heap.size _ out [x] (some ⟨wz.heap.size, 0, none⟩) 1 _ rfl H1.out.2.1 rfl H1.out.1 (fun h => by cases h) (by have := HOL.out; simp; omega) H1.out.2.2 (Nat.le_refl _) ?_)
            intro v6 w6 hG6 hb6 hg6
            have H6 := hid (And.intro hG6 hb6)
            clear hG6 hb6 hg6 H1 r0
            go_wp2_with fail
            go_roundg (n - (i + 1))
            case measure => omega
            case rel => exact ⟨i + 1, false, out ++ [x], by go_num, rfl, by omega, by omega, hid ⟨HW.out, H6.out.1, H6.out.2⟩⟩
          · have hd2 : decide (ab < x) = false := decide_eq_false hc2
            rw [if_neg hc2] at HW
            clear hc2 hc
            go_wp2_with fail
            go_roundg (n - (i + 1))
            case measure => omega
            case rel => exact ⟨i + 1, false, out, by go_num, rfl, by omega, by omega, hid ⟨HW.out, HI.out.2.1, HI.out.2.2⟩⟩
      · have hh := HI.out.1.high hiL hab HP.out
        rw [HX.out] at hh
        have hd2 : decide (ab < x) = true := decide_eq_true (by omega)
        have HW := hid hh.2
        clear hh
        go_wp2_with (at_builtin; refine wpList_append_gx (W0 := w) rowWi rfl _ _ rfl w.heap.size _ out [x] (some ⟨wz.heap.size, 0, none⟩) 1 _ rfl H1.out.2.1 rfl H1.out.1 (fun h => by cases h) (by have := HOL.out; simp; omega) H1.out.2.2 (Nat.le_refl _) ?_)
        intro v6 w6 hG6 hb6 hg6
        have H6 := hid (And.intro hG6 hb6)
        clear hG6 hb6 hg6 H1 r0
        go_wp2_with fail
        go_roundg (n - (i + 1))
        case measure => omega
        case rel => exact ⟨i + 1, true, out ++ [x], by go_num, rfl, by omega, by omega, hid ⟨HW.out, H6.out.1, H6.out.2⟩⟩
    · obtain rfl : i = n := by omega
      have hltd : decide ((i : Int) < (i : Int)) = false := by simp
      cases b
      · have HD := hid (show out ++ [s] = insS (abv ab L) s from WtI.done0 (by have := HI.out.1; rwa [← hn.out] at this))
        have hen := enew wz (.cells #[.int .i64 s] 3)
        have hgx := gx_new (M := [s]) encWi_len (Bk.new wz 3 #[.int .i64 s]) rfl
        have H2 := hid (And.intro hgx (And.intro (HI.out.2.1.below hen) (estep HI.out.2.2 hen)))
        clear hen hgx
        go_wp2_with (at_builtin; refine wpList_append_gx (W0 := w) rowWi rfl _ _ rfl w.heap.size _ out [s] (some ⟨wz.heap.size, 0, none⟩) 1 _ rfl H2.out.2.1 rfl H2.out.1 (fun h => by cases h) (by have := HOL.out; simp; omega) H2.out.2.2 (Nat.le_refl _) ?_)
        intro v5 w5 hG5 hb5 hg5
        have H5 := hid (And.intro hG5 hb5)
        clear hG5 hb5 hg5 H2
        go_wp2_with fail
        go_returns
        exact ⟨_, rfl, by rw [← HD.out]; exact H5.out.1, H5.out.2⟩
      · have HD := hid (show out = insS (abv ab L) s from WtI.done1 (by have := HI.out.1; rwa [← hn.out] at this))
        go_wp2_with fail
        go_returns
        exact ⟨_, rfl, by rw [← HD.out]; exact HI.out.2.1, HI.out.2.2⟩
end Go.Proofs.Ytpfhmpblcmednaa
namespace Go.Proofs.Ytpfhmpblcmednaa
set_option linter.unusedVariables false
set_option linter.unusedSimpArgs false
open Go.RowKit Go.Joins

theorem dTake_top {x : Win} {s : Int} (h : x.high < s) : dTake x s = (⟨x.node, s, insS (abv (s - 128) x.seen) s⟩, true) := by unfold dTake; rw [if_pos h]; rfl
theorem dTake_mid {x : Win} {s : Int} (h : ¬ x.high < s) (h2 : s ∉ x.seen) (h3 : ¬ s ≤ x.high - 128) : dTake x s = (⟨x.node, x.high, insS x.seen s⟩, true) := by unfold dTake; rw [if_neg h, if_neg (fun h => h.elim h3 h2)]
theorem dTake_old {x : Win} {s : Int} (h : ¬ x.high < s) (h2 : s ∈ x.seen ∨ s ≤ x.high - 128) : dTake x s = (x, false) := by unfold dTake; rw [if_neg h, if_pos h2.symm]
theorem rfresh_fin {w8 : World} {B g n c k : Nat} {U : List Ws} {x : Ws} (hG : GB encWs 3 66 w8 B (.slice (some ⟨g, 0, none⟩) n c) U) (hk : k < U.length) (hU : ∀ u ∈ U, WsO w8 (fun b => b < w8.heap.size ∧ b ≠ g) u) (hx : WsO w8 (fun b => b < w8.heap.size ∧ b ≠ g) x) :
    WnO (((w8.setCell ⟨g, k * 3, none⟩ (.int .i64 x.node)).setCell ⟨g, k * 3 + 1, none⟩ (.int .i64 x.high)).setCell ⟨g, k * 3 + 2, none⟩ (.slice x.A x.n x.c)) (some ⟨g, 0, none⟩) n c (U.set k x) := by
  refine wno_of (ws_set3 hG k hk x) fun u hu => ?_
  have hsz : (((w8.setCell ⟨g, k * 3, none⟩ (.int .i64 x.node)).setCell ⟨g, k * 3 + 1, none⟩ (.int .i64 x.high)).setCell ⟨g, k * 3 + 2, none⟩ (.slice x.A x.n x.c)).heap.size = w8.heap.size := by simp [World.setCell]
  have hsame : ∀ u, WsO w8 (fun b => b < w8.heap.size ∧ b ≠ g) u → WsO (((w8.setCell ⟨g, k * 3, none⟩ (.int .i64 x.node)).setCell ⟨g, k * 3 + 1, none⟩ (.int .i64 x.high)).setCell ⟨g, k * 3 + 2, none⟩ (.slice x.A x.n x.c)) (· < (((w8.setCell ⟨g, k * 3, none⟩ (.int .i64 x.node)).setCell ⟨g, k * 3 + 1, none⟩ (.int .i64 x.high)).setCell ⟨g, k * 3 + 2, none⟩ (.slice x.A x.n x.c)).heap.size) u := fun u h => by
    refine (h.same fun b hb => ?_).imp fun b hb => by rw [hsz]; exact hb.1
    rw [Below.heap_setCell _ ⟨g, k * 3 + 2, none⟩ _ b hb.2, Below.heap_setCell _ ⟨g, k * 3 + 1, none⟩ _ b hb.2, Below.heap_setCell _ ⟨g, k * 3, none⟩ _ b hb.2]
  rcases List.mem_or_eq_of_mem_set hu with hu | rfl
  · exact hsame _ (hU u hu)
  · exact hsame _ hx
set_option maxRecDepth 100000 in
set_option maxHeartbeats 8000000 in
theorem rdfresh_any (v : Value) (l : List Win) (nd s : Int) (w : World) (hv : WnV w v l) (hok : WinsOk l) {r : List Win × Bool} (H : Hid (dFresh l nd s = r)) :
    Calls Try.prog 24 #[v, .int .i64 nd, .int .i64 s] w fun e w' => FrR w r e w' := by
  have hnot := enot
  have hl8 := hok.len
  have HOK := hid hok
  obtain ⟨A, n, c, U, rfl, ho, rfl⟩ := hv
  have hn := ho.len
  rw [List.length_map, hn] at hl8
  have HO := hid ho
  have HN := hid hn
  have HNIL := ho.nil
  clear hok ho hn
  go_enter Try.func24, Try.ntmps24
  by_cases h1 : nd < 0
  · have hd1 : decide (nd < 0) = true := decide_eq_true (by omega)
    have HE := hid (H.out.symm.trans (badD_true (Or.inl h1) _))
    go_wp2_with fail
    go_returns
    exact ⟨.slice A n c, by rw [HE.out]; rfl, by rw [HE.out]; exact ⟨A, n, c, U, rfl, HO.out, rfl⟩, Below.refl _ _⟩
  have hd1 : decide (nd < 0) = false := decide_eq_false (by omega)
  by_cases h2 : 7 < nd
  · have hd2 : decide (8 ≤ nd) = true := decide_eq_true (by omega)
    have HE := hid (H.out.symm.trans (badD_true (Or.inr (Or.inl h2)) _))
    go_wp2_with fail
    go_returns
    exact ⟨.slice A n c, by rw [HE.out]; rfl, by rw [HE.out]; exact ⟨A, n, c, U, rfl, HO.out, rfl⟩, Below.refl _ _⟩
  have hd2 : decide (8 ≤ nd) = false := decide_eq_false (by omega)
  by_cases h3 : s < 0
  · have hd3 : decide (s < 0) = true := decide_eq_true (by omega)
    have HE := hid (H.out.symm.trans (badD_true (Or.inr (Or.inr (Or.inl h3))) _))
    go_wp2_with fail
    go_returns
    exact ⟨.slice A n c, by rw [HE.out]; rfl, by rw [HE.out]; exact ⟨A, n, c, U, rfl, HO.out, rfl⟩, Below.refl _ _⟩
  have hd3 : decide (s < 0) = false := decide_eq_false (by omega)
  by_cases h4 : 1099511627776 < s
  · have hd4 : decide (1099511627776 < s) = true := decide_eq_true (by omega)
    have HE := hid (H.out.symm.trans (badD_true (Or.inr (Or.inr (Or.inr h4))) _))
    go_wp2_with fail
    go_returns
    exact ⟨.slice A n c, by rw [HE.out]; rfl, by rw [HE.out]; exact ⟨A, n, c, U, rfl, HO.out, rfl⟩, Below.refl _ _⟩
  have hd4 : decide (1099511627776 < s) = false := decide_eq_false (by omega)
  have hs : 0 ≤ s ∧ s ≤ 1099511627776 := by omega
  have hbad : ¬ badD nd s = true := by simp [badD]; omega
  have HBD := hid (And.intro hbad True.intro)
  obtain ⟨z, hz⟩ : ∃ z, dI (U.map Ws.win) nd = z := ⟨_, rfl⟩
  clear h1 h2 h3 h4 hbad
  go_wp2_with (at_builtin; refine wpList_append_gx (W0 := w) rowWs rfl _ _ rfl w.heap.size (.slice none 0 0) [] U A c _ rfl (GB.nil _ _) (by rw [HN.out]; rfl) HO.out.gx HNIL (by have := HN.out; simp; omega) (Below.refl _ _) (Nat.le_refl _) ?_)
  intro v5 w5 hG5 hb5 hg5
  have H5 := hid (And.intro hG5 hb5)
  have HPL := hid (wat_any (.slice A n c) (U.map Ws.win) nd w5 ⟨A, n, c, U, rfl, HO.out.up hb5, rfl⟩ (by rw [List.length_map, HN.out]; omega) (hid hz))
  obtain ⟨A5, c5, rfl, -⟩ := GB.reads encWs_len H5.out.1
  rw [HN.out] at H5 ⊢
  clear hG5 hb5 hg5
  go_wp2_with fail
  refine HPL.out.mono ?_
  rintro e w2 ⟨rfl, hb2⟩
  have HG2 := hid (H5.out.1.below hb2)
  have HB2 := hid (estep H5.out.2 hb2)
  clear hb2 HPL
  rcases dI_cases (U.map Ws.win) nd with ⟨k, hk⟩ | ⟨hm, hno⟩
  · obtain ⟨hk1, hat⟩ := dI_at hk
    obtain rfl : z = (k : Int) := hz.symm.trans hk
    have hkV : k < U.length := by simpa using hk1
    obtain ⟨u, hu⟩ : ∃ u, U[k] = u := ⟨_, rfl⟩
    have hund : u.node = nd := by
      have := dAt_node (l := U.map Ws.win) (nd := nd) (by rw [hat]; exact hk1)
      simp only [hat] at this
      rw [List.getElem_map, hu] at this
      exact this
    have HE := hid (show r = ((U.map Ws.win).set k (dTake u.win s).1, (dTake u.win s).2) by
      rw [← H.out]
      unfold dFresh
      rw [if_neg HBD.out.1, dif_pos (by rw [hat]; exact hk1)]
      have e9 : (U.map Ws.win)[dAt (U.map Ws.win) nd] = u.win := by simp only [hat]; rw [List.getElem_map, hu]
      rw [e9, hat])
    have huU : u ∈ U := by rw [← hu]; exact List.getElem_mem hkV
    have hwok : WinOk u.win := HOK.out.ok _ (List.mem_map.2 ⟨u, huU, rfl⟩)
    have hwo := HO.out.wp u huU
    obtain ⟨g, rfl⟩ : ∃ g, A5 = some ⟨g, 0, none⟩ := by
      rcases GB.form encWs_len HG2.out with ⟨h1, h2⟩ | ⟨g, c', h1, -⟩
      · rw [h2] at hkV; simp at hkV
      · simp only [Value.slice.injEq] at h1
        exact ⟨g, h1.1⟩
    have hk0 : (0 : Int) ≤ (k : Int) := by omega
    have hkn : (k : Int) < (n : Int) := by have := HN.out; omega
    have hge : decide ((k : Int) < 0) = false := decide_eq_false (by omega)
    obtain ⟨bb, oo, rfl, -, r0, r1, r2⟩ := ws_cells (HO.out.gx.same fun b hb => HB2.out.block b hb) (by rw [List.getElem?_eq_getElem hkV, hu])
    have HU := hid (And.intro hu (And.intro hwok (And.intro hwo huU)))
    obtain ⟨und, uhi, uA, un, uc, uL⟩ := u
    obtain rfl : und = nd := hund
    have HUL := hid (show uL.length = un from hwo.len)
    have hun : un ≤ 128 := by have := hwok.len.2; have h2 := hwo.len; simp only [Ws.win] at this; simp only at h2; omega
    have hhi := hwok.high
    simp only [Ws.win] at hhi
    have hen := enew w2 (.cells #[.int .i64 und, .int .i64 uhi, .slice uA un uc] 66)
    have KT := hid (Bk.new w2 66 #[.int .i64 und, .int .i64 uhi, .slice uA un uc])
    have HG7 := hid (HG2.out.below hen)
    have HB7 := hid (estep HB2.out hen)
    have hg7 := gb_lt HG2.out
    have HSZ := hid hen.size
    clear hz hk hk1 hat hu hwok hen hwo huU
    go_upto_region 10 with (fail)
    obtain ⟨tb, htb⟩ : ∃ tb, w2.heap.size = tb := ⟨_, rfl⟩
    rw [htb] at KT ⊢
    clear htb
    generalize w2.alloc (.cells #[.int .i64 und, .int .i64 uhi, .slice uA un uc] 66) = w7 at *
    have t1 : w7.cell? ⟨tb, 1, none⟩ = some (.int .i64 uhi) := Bk.cell KT.out 1
    have t2 : w7.cell? ⟨tb, 2, none⟩ = some (.slice uA un uc) := Bk.cell KT.out 2
    have HGA := hid (HU.out.2.2.1.up HB7.out)
    have hU7 : ∀ w8, Below w7.heap.size w7 w8 → ∀ x ∈ U, WsO w8 (fun b => b < w8.heap.size ∧ b ≠ g) x := fun w8 hb x hx => by
      refine ((HO.out.wp x hx).same fun b hb2 => (estep HB7.out hb).block b hb2).imp fun b hb2 => ⟨Nat.lt_of_lt_of_le hb2 (estep HB7.out hb).size, by omega⟩
    have HU7 := hid hU7
    have hs7 : w2.heap.size ≤ w7.heap.size := HSZ.out
    clear hU7 r0 r1 r2
    by_cases hc : uhi < s
    · have hd5 : decide (uhi < s) = true := decide_eq_true hc
      have HD := hid (show dTake (⟨und, uhi, uA, un, uc, uL⟩ : Ws).win s = (⟨und, s, insS (abv (s - 128) uL) s⟩, true) from dTake_top hc)
      have hw1 : IntKind.i64.wrap (s - 128) = s - 128 := IntWalk.i64_in _ (by omega)
      have HWT := hid (rwith_any uA un uc uL s (s - 128) w7 HGA.out.gx HUL (by omega) HU.out.2.1.up (fun hm => by have := HU.out.2.1.low s hm; simp only [Ws.win] at this; omega) (by omega))
      clear hc
      go_wp2_with fail
      refine HWT.out.mono ?_
      rintro e w8 ⟨v8, rfl, hv8, hb8⟩
      have HG8 := hid (HG7.out.below hb8)
      have HB8 := hid (hb8)
      obtain ⟨A8, c8, rfl, -⟩ := GB.reads encWi_len hv8
      obtain ⟨m8, hm8⟩ : ∃ m, (insS (abv (s - 128) uL) s).length = m := ⟨_, rfl⟩
      rw [hm8] at hv8 ⊢
      have HX8 := hid (show WsO w8 (fun b => b < w8.heap.size ∧ b ≠ g) (⟨und, s, A8, m8, c8, insS (abv (s - 128) uL) s⟩ : Ws) by
        obtain ⟨a1, a2, a3, a4⟩ := gb_len encWi_len hv8
        exact ⟨a4.imp fun b hb => ⟨hb.2, by omega⟩, a1, a2, a3⟩)
      have q0 := gb_at encWs_len HG8.out k 0 hkV (by omega)
      have q1 := gb_at encWs_len HG8.out k 1 hkV (by omega)
      have q2 := gb_at encWs_len HG8.out k 2 hkV (by omega)
      rw [HU.out.1] at q0 q1 q2
      have s0 : w8.cell? ⟨g, k * 3, none⟩ = some (.int .i64 und) := q0.1
      have s1 : w8.cell? ⟨g, k * 3 + 1, none⟩ = some (.int .i64 uhi) := q1.1
      have s2 : w8.cell? ⟨g, k * 3 + 2, none⟩ = some (.slice uA un uc) := q2.1
      have f0 : w8.frozen? ⟨g, k * 3, none⟩ = false := q0.2
      have f1 : w8.frozen? ⟨g, k * 3 + 1, none⟩ = false := q1.2
      have f2 : w8.frozen? ⟨g, k * 3 + 2, none⟩ = false := q2.2
      have y1 : w8.cell? ⟨tb, 1, none⟩ = some (.int .i64 uhi) := Bk.cell (KT.out.up HB8.out) 1
      clear q0 q1 q2 hv8 hb8 hm8
      go_wp2_with fail
      go_returns
      refine ⟨.slice (some ⟨g, 0, none⟩) n c5, by rw [HE.out, HD.out]; rfl, ?_, (((estep HB7.out HB8.out).setCell (p := ⟨g, k * 3, none⟩) hg7.1 _).setCell (p := ⟨g, k * 3 + 1, none⟩) hg7.1 _).setCell (p := ⟨g, k * 3 + 2, none⟩) hg7.1 _⟩
      rw [HE.out, HD.out]
      have hfin := rfresh_fin HG8.out hkV (HU7.out _ HB8.out) HX8.out
      have hmp : (U.set k (⟨und, s, A8, m8, c8, insS (abv (s - 128) uL) s⟩ : Ws)).map Ws.win = (U.map Ws.win).set k ⟨und, s, insS (abv (s - 128) uL) s⟩ := by rw [List.map_set]; rfl
      exact ⟨some ⟨g, 0, none⟩, n, c5, _, rfl, hfin, hmp⟩
    · have hd5 : decide (uhi < s) = false := decide_eq_false hc
      have hw1 : IntKind.i64.wrap (uhi - s) = uhi - s := IntWalk.i64_in _ (by omega)
      have HDa := hid (show s ∉ uL → ¬ s ≤ uhi - 128 → dTake (⟨und, uhi, uA, un, uc, uL⟩ : Ws).win s = (⟨und, uhi, insS uL s⟩, true) from fun hni h2 => dTake_mid hc hni h2)
      have HDb := hid (show s ∈ uL ∨ s ≤ uhi - 128 → dTake (⟨und, uhi, uA, un, uc, uL⟩ : Ws).win s = ((⟨und, uhi, uA, un, uc, uL⟩ : Ws).win, false) from fun hni => dTake_old hc hni)
      have HSM := hid (show (U.map Ws.win).set k (⟨und, uhi, uA, un, uc, uL⟩ : Ws).win = U.map Ws.win by
        rw [← HU.out.1, ← List.getElem_map Ws.win (h := by simpa using hkV), List.set_getElem_self])
      by_cases hc2 : s ≤ uhi - 128
      · have hd6 : decide (128 ≤ uhi - s) = true := decide_eq_true (by omega)
        have HD := hid (HDb.out (Or.inr hc2))
        clear hc hc2
        go_wp2_with fail
        go_returns
        refine ⟨.slice (some ⟨bb, oo, none⟩) n c, by rw [HE.out, HD.out]; rfl, ?_, HB7.out⟩
        rw [HE.out, HD.out]
        exact ⟨_, n, c, U, rfl, HO.out.up HB7.out, HSM.out.symm⟩
      · have hd6 : decide (128 ≤ uhi - s) = false := decide_eq_false (by omega)
        obtain ⟨zc, hzc⟩ : ∃ z, decide (s ∈ uL) = z := ⟨_, rfl⟩
        have HCN := hid (oin_any uA uc un uL s w7 HGA.out.gx HUL (by omega) (hid hzc))
        have HDc := hid (fun h : s ∉ uL => HDa.out h hc2)
        clear hc hc2
        go_wp2_with fail
        refine HCN.out.mono ?_
        rintro e w9 ⟨rfl, hb9⟩
        have HB9 := hid hb9
        have KT9 := hid (KT.out.up hb9)
        have HG9 := hid (HG7.out.below hb9)
        have HGB := hid (HGA.out.up hb9)
        clear hb9 HCN t1 t2
        have t1 : w9.cell? ⟨tb, 1, none⟩ = some (.int .i64 uhi) := Bk.cell KT9.out 1
        have t2 : w9.cell? ⟨tb, 2, none⟩ = some (.slice uA un uc) := Bk.cell KT9.out 2
        cases zc
        · have hni := of_decide_eq_false hzc
          have HD := hid (HDc.out hni)
          have HNS := hid (And.intro hni True.intro)
          have hn1000 : un ≤ 1000 := by omega
          clear hni t1 t2
          go_wp2_with fail
          go_loopg [11, 12, 13] un (fun g1 vo vp vi wr => ∃ (i : Nat) (b : Bool) (out : List Int), vi = .int .i64 i ∧ vp = .bool b ∧ i ≤ un ∧ un - i ≤ g1 ∧ Hid (WtI uL s (-1000) i b out ∧ GB encWi 1 3 wr w9.heap.size vo out ∧ Below w9.heap.size w9 wr))
          case atStart => exact ⟨0, false, [], rfl, rfl, by omega, by omega, hid ⟨WtI.start, GB.nil _ _, Below.refl _ _⟩⟩
          case round =>
            obtain ⟨i, b, out, rfl, rfl, hin, hgk, HI⟩ := hrel
            obtain ⟨wz, hwz⟩ : ∃ wz, wz = wr := ⟨_, rfl⟩
            subst hwz
            have y2 : wz.cell? ⟨tb, 2, none⟩ = some (.slice uA un uc) := Bk.cell (KT9.out.up HI.out.2.2) 2
            have y1 : wz.cell? ⟨tb, 1, none⟩ = some (.int .i64 uhi) := Bk.cell (KT9.out.up HI.out.2.2) 1
            have hol := HI.out.1.len
            have HOL := hid (show out.length ≤ 2001 by have := HUL.out; omega)
            clear hol
            by_cases hlt : i < un
            · have hltz : (i : Int) < (un : Int) := by omega
              have hltd : decide ((i : Int) < (un : Int)) = true := decide_eq_true hltz
              have hi0 : (0 : Int) ≤ (i : Int) := by omega
              have hadd : IntKind.i64.wrap ((i : Int) + 1) = (i : Int) + 1 := IntWalk.i64_in _ (by omega)
              have hiL : i < uL.length := by have := HUL.out; omega
              obtain ⟨bb, oo, rfl, -, r0⟩ := (HGB.out.gx.up HI.out.2.2).wi i hiL
              have hne : uL[i] ≠ s := fun e => HNS.out.1 (e ▸ List.getElem_mem hiL)
              obtain ⟨x, hx⟩ : ∃ x, uL[i] = x := ⟨_, rfl⟩
              have HX := hid hx
              rw [hx] at r0 hne
              clear hx
              have hen := enew wz (.cells #[.int .i64 x] 3)
              have hgx := gx_new (M := [x]) encWi_len (Bk.new wz 3 #[.int .i64 x]) rfl
              have H1 := hid (And.intro hgx (And.intro (HI.out.2.1.below hen) (estep HI.out.2.2 hen)))
              clear hen hgx
              cases b
              · by_cases hc : s < x
                · have hd : decide (s < x) = true := decide_eq_true hc
                  have hd2 : decide (-1000 < x) = true := decide_eq_true (by omega)
                  have HW := hid (by have := HI.out.1.hit hiL (show (-1000 : Int) < s by omega) (by rw [HX.out]; exact hc); rw [HX.out] at this; exact this)
                  have hen := enew wz (.cells #[.int .i64 s] 3)
                  have hgx := gx_new (M := [s]) encWi_len (Bk.new wz 3 #[.int .i64 s]) rfl
                  have H2 := hid (And.intro hgx (And.intro (HI.out.2.1.below hen) (estep HI.out.2.2 hen)))
                  clear hen hgx hc H1
                  go_wp2_with (at_builtin; refine wpList_append_gx (W0 := w9) rowWi rfl _ _ rfl w9.heap.size _ out [s] (some ⟨wz.heap.size, 0, none⟩) 1 _ rfl H2.out.2.1 rfl H2.out.1 (fun h => by cases h) (by have := HOL.out; simp; omega) H2.out.2.2 (Nat.le_refl _) ?_)
                  intro v5 w5 hG5 hb5 hg5
                  have y25 : w5.cell? ⟨tb, 2, none⟩ = some (.slice (some ⟨bb, oo, none⟩) un uc) := Bk.cell (KT9.out.up hb5) 2
                  have r5 : w5.cell? ⟨bb, oo + i, none⟩ = some (.int .i64 x) := by
                    obtain ⟨b', o', e', -, r'⟩ := (HGB.out.gx.up hb5).wi i hiL
                    simp only [Option.some.injEq, Addr.mk.injEq, and_true] at e'
                    obtain ⟨rfl, rfl⟩ := e'
                    rw [r', HX.out]
                  have hen := enew w5 (.cells #[.int .i64 x] 3)
                  have hgx := gx_new (M := [x]) encWi_len (Bk.new w5 3 #[.int .i64 x]) rfl
                  have H3 := hid (And.intro hgx (And.intro (hG5.below hen) (estep hb5 hen)))
                  clear hen hgx hG5 hb5 hg5 H2 r0
                  go_wp2_with (at_builtin; refine wpList_append_gx (W0 := w9) rowWi rfl _ _ rfl w9.heap.size _ (out ++ [s]) [x] (some ⟨w5.heap.size, 0, none⟩) 1 _ rfl H3.out.2.1 rfl H3.out.1 (fun h => by cases h) (by have := HOL.out; simp; omega) H3.out.2.2 (Nat.le_refl _) ?_)
                  intro v6 w6 hG6 hb6 hg6
                  have H6 := hid (And.intro hG6 hb6)
                  clear hG6 hb6 hg6 H3 r5
                  go_wp2_with fail
                  go_roundg (un - (i + 1))
                  case measure => omega
                  case rel => exact ⟨i + 1, true, out ++ [s] ++ [x], by go_num, rfl, by omega, by omega, hid ⟨by first | exact HW.out | simpa using HW.out, by first | exact H6.out.1 | simpa using H6.out.1, H6.out.2⟩⟩
                · have hd : decide (s < x) = false := decide_eq_false hc
                  have HW := hid (by have := HI.out.1.low hiL (by rw [HX.out]; omega); rw [HX.out] at this; exact this)
                  by_cases hc2 : -1000 < x
                  · have hd2 : decide (-1000 < x) = true := decide_eq_true hc2
                    rw [if_pos hc2] at HW
                    clear hc2 hc
                    go_wp2_with (at_builtin; refine wpList_append_gx (W0 := w9) rowWi rfl _ _ rfl w9.heap.size _ out [x] (some ⟨wz.heap.size, 0, none⟩) 1 _ rfl H1.out.2.1 rfl H1.out.1 (fun h => by cases h) (by have := HOL.out; simp; omega) H1.out.2.2 (Nat.le_refl _) ?_)
                    intro v6 w6 hG6 hb6 hg6
                    have H6 := hid (And.intro hG6 hb6)
                    clear hG6 hb6 hg6 H1 r0
                    go_wp2_with fail
                    go_roundg (un - (i + 1))
                    case measure => omega
                    case rel => exact ⟨i + 1, false, out ++ [x], by go_num, rfl, by omega, by omega, hid ⟨HW.out, H6.out.1, H6.out.2⟩⟩
                  · exact absurd (show (-1000 : Int) < x by have h5 := HU.out.2.1.low x (by rw [← HX.out]; exact List.getElem_mem hiL); have h2 := HU.out.2.1.high; simp only [Ws.win] at h5 h2; omega) hc2
              · have hh := HI.out.1.high hiL (show (-1000 : Int) < s by omega) HU.out.2.1.up
                rw [HX.out] at hh
                have hd2 : decide (-1000 < x) = true := decide_eq_true (by omega)
                have HW := hid hh.2
                clear hh
                go_wp2_with (at_builtin; refine wpList_append_gx (W0 := w9) rowWi rfl _ _ rfl w9.heap.size _ out [x] (some ⟨wz.heap.size, 0, none⟩) 1 _ rfl H1.out.2.1 rfl H1.out.1 (fun h => by cases h) (by have := HOL.out; simp; omega) H1.out.2.2 (Nat.le_refl _) ?_)
                intro v6 w6 hG6 hb6 hg6
                have H6 := hid (And.intro hG6 hb6)
                clear hG6 hb6 hg6 H1 r0
                go_wp2_with fail
                go_roundg (un - (i + 1))
                case measure => omega
                case rel => exact ⟨i + 1, true, out ++ [x], by go_num, rfl, by omega, by omega, hid ⟨HW.out, H6.out.1, H6.out.2⟩⟩
            · obtain rfl : i = un := by omega
              have hltd : decide ((i : Int) < (i : Int)) = false := by simp
              have hs9 := HB9.out.size
              have hall : abv (-1000) uL = uL := List.filter_eq_self.2 fun x hx => decide_eq_true (by have := HU.out.2.1.low x hx; have h2 := HU.out.2.1.high; simp only [Ws.win] at this h2; omega)
              cases b
              · have hdd : out ++ [s] = insS uL s := by have := WtI.done0 (by have := HI.out.1; rwa [← HUL.out] at this); rwa [hall] at this
                have HDD := hid hdd
                have hen := enew wz (.cells #[.int .i64 s] 3)
                have hgx := gx_new (M := [s]) encWi_len (Bk.new wz 3 #[.int .i64 s]) rfl
                have H2 := hid (And.intro hgx (And.intro (HI.out.2.1.below hen) (estep HI.out.2.2 hen)))
                clear hen hgx hall hdd
                go_wp2_with (at_builtin; refine wpList_append_gx (W0 := w9) rowWi rfl _ _ rfl w9.heap.size _ out [s] (some ⟨wz.heap.size, 0, none⟩) 1 _ rfl H2.out.2.1 rfl H2.out.1 (fun h => by cases h) (by have := HOL.out; simp; omega) H2.out.2.2 (Nat.le_refl _) ?_)
                intro v8 w8 hv8 hb8 hg5
                rw [HDD.out] at hv8
                clear hg5 H2 y1 y2
                have HG8 := hid (HG9.out.below hb8)
                have HB8 := hid (estep HB9.out hb8)
                obtain ⟨A8, c8, rfl, -⟩ := GB.reads encWi_len hv8
                obtain ⟨m8, hm8⟩ : ∃ m, (insS uL s).length = m := ⟨_, rfl⟩
                rw [hm8] at hv8 ⊢
                have HX8 := hid (show WsO w8 (fun b => b < w8.heap.size ∧ b ≠ g) (⟨und, uhi, A8, m8, c8, insS uL s⟩ : Ws) by
                  obtain ⟨a1, a2, a3, a4⟩ := gb_len encWi_len hv8
                  exact ⟨a4.imp fun b hb => ⟨hb.2, by omega⟩, a1, a2, a3⟩)
                have q0 := gb_at encWs_len HG8.out k 0 hkV (by omega)
                have q1 := gb_at encWs_len HG8.out k 1 hkV (by omega)
                have q2 := gb_at encWs_len HG8.out k 2 hkV (by omega)
                rw [HU.out.1] at q0 q1 q2
                have s0 : w8.cell? ⟨g, k * 3, none⟩ = some (.int .i64 und) := q0.1
                have s1 : w8.cell? ⟨g, k * 3 + 1, none⟩ = some (.int .i64 uhi) := q1.1
                have s2 : w8.cell? ⟨g, k * 3 + 2, none⟩ = some (.slice uA i uc) := q2.1
                have f0 : w8.frozen? ⟨g, k * 3, none⟩ = false := q0.2
                have f1 : w8.frozen? ⟨g, k * 3 + 1, none⟩ = false := q1.2
                have f2 : w8.frozen? ⟨g, k * 3 + 2, none⟩ = false := q2.2
                have y1 : w8.cell? ⟨tb, 1, none⟩ = some (.int .i64 uhi) := Bk.cell (KT.out.up HB8.out) 1
                clear q0 q1 q2 hv8 hb8 hm8
                go_wp2_with fail
                go_returns
                refine ⟨.slice (some ⟨g, 0, none⟩) n c5, by rw [HE.out, HD.out]; rfl, ?_, (((estep HB7.out HB8.out).setCell (p := ⟨g, k * 3, none⟩) hg7.1 _).setCell (p := ⟨g, k * 3 + 1, none⟩) hg7.1 _).setCell (p := ⟨g, k * 3 + 2, none⟩) hg7.1 _⟩
                rw [HE.out, HD.out]
                have hfin := rfresh_fin HG8.out hkV (HU7.out _ HB8.out) HX8.out
                have hmp : (U.set k (⟨und, uhi, A8, m8, c8, insS uL s⟩ : Ws)).map Ws.win = (U.map Ws.win).set k ⟨und, uhi, insS uL s⟩ := by rw [List.map_set]; rfl
                exact ⟨some ⟨g, 0, none⟩, n, c5, _, rfl, hfin, hmp⟩
              · have hdd : out = insS uL s := by have := WtI.done1 (by have := HI.out.1; rwa [← HUL.out] at this); rwa [hall] at this
                obtain ⟨w8, hw8⟩ : ∃ w8, w8 = wz := ⟨_, rfl⟩
                subst hw8
                obtain ⟨v8, hve⟩ : ∃ v8, v8 = u11 := ⟨_, rfl⟩
                subst hve
                have hv8 := HI.out.2.1
                rw [hdd] at hv8
                have hb8 := HI.out.2.2
                clear hall hdd y1
                have HG8 := hid (HG9.out.below hb8)
                have HB8 := hid (estep HB9.out hb8)
                obtain ⟨A8, c8, rfl, -⟩ := GB.reads encWi_len hv8
                obtain ⟨m8, hm8⟩ : ∃ m, (insS uL s).length = m := ⟨_, rfl⟩
                rw [hm8] at hv8 ⊢
                have HX8 := hid (show WsO w8 (fun b => b < w8.heap.size ∧ b ≠ g) (⟨und, uhi, A8, m8, c8, insS uL s⟩ : Ws) by
                  obtain ⟨a1, a2, a3, a4⟩ := gb_len encWi_len hv8
                  exact ⟨a4.imp fun b hb => ⟨hb.2, by omega⟩, a1, a2, a3⟩)
                have q0 := gb_at encWs_len HG8.out k 0 hkV (by omega)
                have q1 := gb_at encWs_len HG8.out k 1 hkV (by omega)
                have q2 := gb_at encWs_len HG8.out k 2 hkV (by omega)
                rw [HU.out.1] at q0 q1 q2
                have s0 : w8.cell? ⟨g, k * 3, none⟩ = some (.int .i64 und) := q0.1
                have s1 : w8.cell? ⟨g, k * 3 + 1, none⟩ = some (.int .i64 uhi) := q1.1
                have s2 : w8.cell? ⟨g, k * 3 + 2, none⟩ = some (.slice uA i uc) := q2.1
                have f0 : w8.frozen? ⟨g, k * 3, none⟩ = false := q0.2
                have f1 : w8.frozen? ⟨g, k * 3 + 1, none⟩ = false := q1.2
                have f2 : w8.frozen? ⟨g, k * 3 + 2, none⟩ = false := q2.2
                have y1 : w8.cell? ⟨tb, 1, none⟩ = some (.int .i64 uhi) := Bk.cell (KT.out.up HB8.out) 1
                clear q0 q1 q2 hv8 hb8 hm8
                go_wp2_with fail
                go_returns
                refine ⟨.slice (some ⟨g, 0, none⟩) n c5, by rw [HE.out, HD.out]; rfl, ?_, (((estep HB7.out HB8.out).setCell (p := ⟨g, k * 3, none⟩) hg7.1 _).setCell (p := ⟨g, k * 3 + 1, none⟩) hg7.1 _).setCell (p := ⟨g, k * 3 + 2, none⟩) hg7.1 _⟩
                rw [HE.out, HD.out]
                have hfin := rfresh_fin HG8.out hkV (HU7.out _ HB8.out) HX8.out
                have hmp : (U.set k (⟨und, uhi, A8, m8, c8, insS uL s⟩ : Ws)).map Ws.win = (U.map Ws.win).set k ⟨und, uhi, insS uL s⟩ := by rw [List.map_set]; rfl
                exact ⟨some ⟨g, 0, none⟩, n, c5, _, rfl, hfin, hmp⟩
        · have HD := hid (HDb.out (Or.inl (of_decide_eq_true hzc)))
          go_wp2_with fail
          go_returns
          refine ⟨.slice (some ⟨bb, oo, none⟩) n c, by rw [HE.out, HD.out]; rfl, ?_, estep HB7.out HB9.out⟩
          rw [HE.out, HD.out]
          exact ⟨_, n, c, U, rfl, HO.out.up (estep HB7.out HB9.out), HSM.out.symm⟩
  · obtain rfl : z = -1 := hz.symm.trans hm
    have HE := hid (show r = (U.map Ws.win ++ [⟨nd, s, [s]⟩], true) by
      rw [← H.out]
      unfold dFresh
      rw [if_neg HBD.out.1, dif_neg hno])
    clear hz hm hno
    have hba := enew w2 (.cells #[.int .i64 s] 3)
    have hbb := enew (w2.alloc (.cells #[.int .i64 s] 3)) (.cells #[.int .i64 nd, .int .i64 s, .slice (some ⟨w2.heap.size, 0, none⟩) 1 1] 66)
    have hx1 := gx_new (M := [(⟨nd, s, some ⟨w2.heap.size, 0, none⟩, 1, 1, [s]⟩ : Ws)]) encWs_len (Bk.new (w2.alloc (.cells #[.int .i64 s] 3)) 66 #[.int .i64 nd, .int .i64 s, .slice (some ⟨w2.heap.size, 0, none⟩) 1 1]) rfl
    rw [World.size_alloc] at hx1
    have hza : GB encWi 1 3 (w2.alloc (.cells #[.int .i64 s] 3)) w.heap.size (.slice (some ⟨w2.heap.size, 0, none⟩) 1 1) [s] := by
      have := World.ownsRow_lit (e := 3) (size := 1) (base := w.heap.size) w2 #[.int .i64 s] 1 HB2.out.size (by unfold maxLen; omega) rfl
      simpa [GB, gvals, encWi] using this
    have HX := hid (And.intro hx1 (And.intro ((HG2.out.below hba).below hbb) (And.intro (show NR _ w.heap.size (⟨nd, s, some ⟨w2.heap.size, 0, none⟩, 1, 1, [s]⟩ : Ws) from ⟨w2.heap.size, rfl, hza.below hbb⟩) (estep (estep HB2.out hba) hbb))))
    clear hx1 hza hba hbb
    go_wp2_with (at_builtin; refine wpList_append_gx (W0 := w) rowWs rfl _ _ rfl w.heap.size (.slice A5 n c5) U [(⟨nd, s, some ⟨w2.heap.size, 0, none⟩, 1, 1, [s]⟩ : Ws)] (some ⟨w2.heap.size + 1, 0, none⟩) 1 _ rfl HX.out.2.1 rfl HX.out.1 (fun h => by cases h) (by rw [HN.out]; simp; omega) HX.out.2.2.2 (Nat.le_refl _) ?_)
    intro v6 w6 hG6 hb6 hg6
    have HF := hid (show ∀ u ∈ U ++ [(⟨nd, s, some ⟨w2.heap.size, 0, none⟩, 1, 1, [s]⟩ : Ws)], WsO w6 (· < w6.heap.size) u from fun u hu => by
      rcases List.mem_append.1 hu with hu | hu
      · exact ((HO.out.wp u hu).same fun b hb2 => hb6.block b hb2).imp fun b hb2 => Nat.lt_of_lt_of_le hb2 hb6.size
      · rw [List.mem_singleton.1 hu]
        obtain ⟨q, e, h1⟩ := HX.out.2.2.1
        exact NR.ws (B := w.heap.size) ⟨q, e, GB.grown h1 HX.out.2.1 (by decide) hg6⟩)
    obtain ⟨A6, c6, rfl, -⟩ := GB.reads encWs_len hG6
    have H6 := hid (And.intro (wno_of hG6 HF.out) hb6)
    clear hG6 hb6 hg6
    go_wp2_with fail
    go_returns
    refine ⟨_, by rw [HE.out]; rfl, ?_, H6.out.2⟩
    rw [HE.out]
    exact ⟨A6, _, c6, _, rfl, H6.out.1, by rw [List.map_append]; rfl⟩
end Go.Proofs.Ytpfhmpblcmednaa
namespace Go.Proofs.Ytpfhmpblcmednaa
set_option linter.unusedVariables false
set_option linter.unusedSimpArgs false
open Go.RowKit Go.Joins

theorem win_at {U V : List Ws} (h : U.map Ws.win = V.map Ws.win) {k : Nat} {x y : Ws} (hx : U[k]? = some x) (hy : V[k]? = some y) : y.node = x.node ∧ y.high = x.high ∧ y.L = x.L := by
  have := congrArg (·[k]?) h
  simp only [List.getElem?_map, hx, hy, Option.map_some, Option.some.injEq] at this
  unfold Ws.win at this
  injection this with h1 h2 h3
  exact ⟨h1.symm, h2.symm, h3.symm⟩
set_option maxRecDepth 100000 in
set_option maxHeartbeats 4000000 in
theorem wnsame_any (u v : Value) (l : List Win) (w : World) (hu : WnV w u l) (hv : WnV w v l) (hl : l.length ≤ 1000) (hs : ∀ x ∈ l, x.seen.length ≤ 1000) :
    Calls Try.prog 25 #[u, v] w fun e w' => e = .returned (.bool true) ∧ Below w.heap.size w w' := by
  obtain ⟨A, m, ca, U, rfl, hU, rfl⟩ := hu
  obtain ⟨B, m2, cb, V, rfl, hV, hE⟩ := hv
  obtain rfl : m = m2 := by
    have := congrArg List.length hE
    simp only [List.length_map] at this
    rw [← hU.len, ← hV.len, this]
  rw [List.length_map, hU.len] at hl
  have HE := hid hE.symm
  have HU := hid hU
  have HV := hid hV
  have HSM := hid hs
  have hnot := enot
  clear hU hV hE hs
  go_enter Try.func25, Try.ntmps25
  go_wp2_with fail
  go_loopw [5] (fun i wr => ∃ k : Nat, k ≤ m ∧ i = .int .i64 k ∧ Hid (Below w.heap.size w wr)) (fun i _ => m - (intOf i).toNat)
  case atStart => exact ⟨0, by omega, rfl, hid (Below.refl _ _)⟩
  case round =>
    obtain ⟨k, hk, rfl, HK⟩ := hrel
    by_cases hlt : k < m
    · obtain ⟨x, hkU⟩ : ∃ x, U[k]? = some x := ⟨_, List.getElem?_eq_getElem (by have := HU.out.len; omega)⟩
      obtain ⟨y, hkV⟩ : ∃ y, V[k]? = some y := ⟨_, List.getElem?_eq_getElem (by have := HV.out.len; omega)⟩
      obtain ⟨b, o, rfl, -, r0, r1, r2⟩ := ws_cells (HU.out.up HK.out).gx hkU
      obtain ⟨b2, o2, rfl, -, s0, s1, s2⟩ := ws_cells (HV.out.up HK.out).gx hkV
      have HO1 := hid ((HU.out.up HK.out).wp _ (List.mem_of_getElem? hkU))
      have HO2 := hid ((HV.out.up HK.out).wp _ (List.mem_of_getElem? hkV))
      obtain ⟨e1, e2, e3⟩ := win_at HE.out hkU hkV
      have hsm := HSM.out _ (List.mem_map.2 ⟨_, List.mem_of_getElem? hkU, rfl⟩)
      have hyn : y.n = x.n := by rw [← HO2.out.len, e3, HO1.out.len]
      have hxn : x.n ≤ 1000 := by rw [← HO1.out.len]; exact hsm
      rw [e1] at s0; rw [e2] at s1; rw [hyn] at s2
      have R0 := BwS.cell r0
      have R1 := BwS.cell r1
      have R2 := BwS.cell r2
      have S0 := BwS.cell s0
      have S1 := BwS.cell s1
      have S2 := BwS.cell s2
      have HSA := hid (fun p : BwS wr => ints_same x.A y.A x.c y.c x.L HO1.out.len p.w (HO1.out.up p.h).gx (by have := (HO2.out.up p.h).gx; rw [e3] at this; exact this) (by omega))
      have hi0 : (0 : Int) ≤ (k : Int) := by omega
      have hi1 : (k : Int) < (m : Int) := by omega
      clear hkU hkV e1 e2 e3 hyn hsm r0 r1 r2 s0 s1 s2
      go_wp2_with fail
      refine wp_region_bws (by kernel_rfl) (by kernel_rfl) ?_
      repeat (go_big_quiet_step ((go_at_call 69; exact calls_bws (HSA.out _))))
      refine wpQuiet_nil ?_
      rintro _ ⟨pq, rfl⟩
      have HP := hid (estep HK.out pq.h)
      clear R0 R1 R2 S0 S1 S2 HSA
      go_wp2_with fail
      go_roundw
      case rel => exact ⟨k + 1, by omega, by go_num, HP⟩
      case measure => simp [intOf]; omega
    · obtain rfl : k = m := by omega
      go_wp2_with fail
      go_ret
      exact ⟨rfl, HK.out⟩
theorem wn_lit (nd hi n : Int) (w : World) : WnV ((w.alloc (.cells #[.int .i64 n] 3)).alloc (.cells #[.int .i64 nd, .int .i64 hi, .slice (some ⟨w.heap.size, 0, none⟩) 1 1] 66)) (.slice (some ⟨w.heap.size + 1, 0, none⟩) 1 1) [⟨nd, hi, [n]⟩] := by
  have hba := enew w (.cells #[.int .i64 n] 3)
  have hbb := enew (w.alloc (.cells #[.int .i64 n] 3)) (.cells #[.int .i64 nd, .int .i64 hi, .slice (some ⟨w.heap.size, 0, none⟩) 1 1] 66)
  have hx1 := gx_new (M := [(⟨nd, hi, some ⟨w.heap.size, 0, none⟩, 1, 1, [n]⟩ : Ws)]) encWs_len (Bk.new (w.alloc (.cells #[.int .i64 n] 3)) 66 #[.int .i64 nd, .int .i64 hi, .slice (some ⟨w.heap.size, 0, none⟩) 1 1]) rfl
  rw [World.size_alloc] at hx1
  have hza : GB encWi 1 3 (w.alloc (.cells #[.int .i64 n] 3)) w.heap.size (.slice (some ⟨w.heap.size, 0, none⟩) 1 1) [n] := by
    have := World.ownsRow_lit (e := 3) (size := 1) (base := w.heap.size) w #[.int .i64 n] 1 (Nat.le_refl _) (by unfold maxLen; omega) rfl
    simpa [GB, gvals, encWi] using this
  have hnr : NR _ w.heap.size (⟨nd, hi, some ⟨w.heap.size, 0, none⟩, 1, 1, [n]⟩ : Ws) := ⟨w.heap.size, rfl, hza.below hbb⟩
  refine ⟨_, 1, 1, [⟨nd, hi, some ⟨w.heap.size, 0, none⟩, 1, 1, [n]⟩], rfl, ⟨hx1.imp fun b hb => ?_, fun u hu => ?_, rfl, fun h => (by cases h), Nat.le_refl _, by unfold maxLen; omega⟩, rfl⟩
  · subst hb; simp
  · rw [List.mem_singleton.1 hu]; exact hnr.ws
/-- What of the fixed calls comes. -/
theorem k29_1 : dFresh [] 1 5 = ([⟨1, 5, [5]⟩], true) := by rfl
theorem o29_1 : WinsOk [⟨1, 5, [5]⟩] := by have := dFresh_ok wins_nil 1 5; rwa [k29_1] at this
theorem k29_2 : dFresh [⟨1, 5, [5]⟩] 1 3 = ([⟨1, 5, [3, 5]⟩], true) := by rfl
theorem o29_2 : WinsOk [⟨1, 5, [3, 5]⟩] := by have := dFresh_ok o29_1 1 3; rwa [k29_2] at this
theorem k29_3 : dFresh [⟨1, 5, [3, 5]⟩] 1 5 = ([⟨1, 5, [3, 5]⟩], false) := by rfl
theorem o29_3 : WinsOk [⟨1, 5, [3, 5]⟩] := by have := dFresh_ok o29_2 1 5; rwa [k29_3] at this
theorem k29_4 : dFresh [⟨1, 5, [3, 5]⟩] 1 200 = ([⟨1, 200, [200]⟩], true) := by rfl
theorem o29_4 : WinsOk [⟨1, 200, [200]⟩] := by have := dFresh_ok o29_3 1 200; rwa [k29_4] at this
theorem k29_5 : dFresh [⟨1, 200, [200]⟩] 1 72 = ([⟨1, 200, [200]⟩], false) := by rfl
theorem o29_5 : WinsOk [⟨1, 200, [200]⟩] := by have := dFresh_ok o29_4 1 72; rwa [k29_5] at this
theorem h29_1 : dHas [⟨1, 200, [200]⟩] 1 200 = true := by rfl
theorem h29_2 : dHas [⟨1, 200, [200]⟩] 1 5 = false := by rfl
theorem h29_3 : dHas [⟨1, 200, [200]⟩] 2 200 = false := by rfl
set_option maxRecDepth 100000 in
set_option maxHeartbeats 8000000 in
theorem known29_any (w : World) : Calls Try.prog 22 #[] w fun e w' => e = .returned (.bool true) ∧ Below w.heap.size w w' := by
  have hnot := enot
  have H1 := hid (fun v (w2 : World) (hv : WnV w2 v []) => dfresh_any v [] 1 5 w2 hv wins_nil (hid k29_1))
  have H2 := hid (fun v (w2 : World) (hv : WnV w2 v [⟨1, 5, [5]⟩]) => dfresh_any v [⟨1, 5, [5]⟩] 1 3 w2 hv o29_1 (hid k29_2))
  have H3 := hid (fun v (w2 : World) (hv : WnV w2 v [⟨1, 5, [3, 5]⟩]) => dfresh_any v [⟨1, 5, [3, 5]⟩] 1 5 w2 hv o29_2 (hid k29_3))
  have H4 := hid (fun v (w2 : World) (hv : WnV w2 v [⟨1, 5, [3, 5]⟩]) => dfresh_any v [⟨1, 5, [3, 5]⟩] 1 200 w2 hv o29_3 (hid k29_4))
  have H5 := hid (fun v (w2 : World) (hv : WnV w2 v [⟨1, 200, [200]⟩]) => dfresh_any v [⟨1, 200, [200]⟩] 1 72 w2 hv o29_4 (hid k29_5))
  have HS := hid (fun u v (w2 : World) (hu : WnV w2 u [⟨1, 200, [200]⟩]) (hv : WnV w2 v [⟨1, 200, [200]⟩]) => wnsame_any u v [⟨1, 200, [200]⟩] w2 hu hv (by simp) (by simp))
  have HA := hid (fun v (w2 : World) (hv : WnV w2 v [⟨1, 200, [200]⟩]) => dhas_any v [⟨1, 200, [200]⟩] 1 200 w2 hv (by simp) (by simp) (hid h29_1))
  have HBb := hid (fun v (w2 : World) (hv : WnV w2 v [⟨1, 200, [200]⟩]) => dhas_any v [⟨1, 200, [200]⟩] 1 5 w2 hv (by simp) (by simp) (hid h29_2))
  have HCc := hid (fun v (w2 : World) (hv : WnV w2 v [⟨1, 200, [200]⟩]) => dhas_any v [⟨1, 200, [200]⟩] 2 200 w2 hv (by simp) (by simp) (hid h29_3))
  go_enter Try.func22, Try.ntmps22
  go_wp2_with fail
  refine (H1.out _ _ (WnV.nil _)).mono ?_
  rintro e w1 ⟨v1, rfl, hv, hb⟩
  have V1 := hid hv
  have B1 := hid hb
  clear hv hb H1
  go_wp2_with fail
  refine (H2.out _ _ V1.out).mono ?_
  rintro e w2 ⟨v2, rfl, hv, hb⟩
  have V2 := hid hv
  have B2 := hid (estep B1.out hb)
  clear hv hb H2 B1 V1
  go_wp2_with fail
  refine (H3.out _ _ V2.out).mono ?_
  rintro e w3 ⟨v3, rfl, hv, hb⟩
  have V3 := hid hv
  have B3 := hid (estep B2.out hb)
  clear hv hb H3 B2 V2
  go_wp2_with fail
  refine (H4.out _ _ V3.out).mono ?_
  rintro e w4 ⟨v4, rfl, hv, hb⟩
  have V4 := hid hv
  have B4 := hid (estep B3.out hb)
  clear hv hb H4 B3 V3
  go_wp2_with fail
  refine (H5.out _ _ V4.out).mono ?_
  rintro e w5 ⟨v5, rfl, hv, hb⟩
  have V5 := hid hv
  have V4b := hid (V4.out.up hb)
  have B5 := hid (estep B4.out hb)
  clear hv hb H5 B4 V4 V5
  have hba := enew w5 (.cells #[.int .i64 200] 3)
  have hbb := enew (w5.alloc (.cells #[.int .i64 200] 3)) (.cells #[.int .i64 1, .int .i64 200, .slice (some ⟨w5.heap.size, 0, none⟩) 1 1] 66)
  have V6 := hid ((V4b.out.up hba).up hbb)
  have L6 := hid (wn_lit 1 200 200 w5)
  have B6 := hid (estep (estep B5.out hba) hbb)
  clear hba hbb V4b B5
  go_wp2_with fail
  refine (HS.out _ _ _ V6.out L6.out).mono ?_
  rintro e w7 ⟨rfl, hb⟩
  have V7 := hid (V6.out.up hb)
  have B7 := hid (estep B6.out hb)
  clear hb V6 L6 B6 HS
  go_wp2_with fail
  refine (HA.out _ _ V7.out).mono ?_
  rintro e w8 ⟨rfl, hb⟩
  have V8 := hid (V7.out.up hb)
  have B8 := hid (estep B7.out hb)
  clear hb V7 B7 HA
  go_wp2_with fail
  refine (HBb.out _ _ V8.out).mono ?_
  rintro e w9 ⟨rfl, hb⟩
  have V9 := hid (V8.out.up hb)
  have B9 := hid (estep B8.out hb)
  clear hb V8 B8 HBb
  go_wp2_with fail
  refine (HCc.out _ _ V9.out).mono ?_
  rintro e wa ⟨rfl, hb⟩
  have Ba := hid (estep B9.out hb)
  clear hb V9 B9 HCc
  go_wp2_with fail
  go_returns
  exact ⟨rfl, Ba.out⟩
end Go.Proofs.Ytpfhmpblcmednaa
namespace Go.Proofs.Ytpfhmpblcmednaa
set_option linter.unusedVariables false
set_option linter.unusedSimpArgs false
open Go.RowKit Go.ChangeShapes Go.WideShapes Go.Deep Go.Joins

def encPr (p : Int × Int) : List Value := [.int .i64 p.1, .int .i64 p.2]
theorem encPr_len (p : Int × Int) : (encPr p).length = 2 := rfl
section
variable {H : Type} {enc : TypeId × Value → H} {P : Program} {w : World} {base : Nat}
theorem pr_of {t e : TypeId} (ht : P.underlying t = some (.array 2 e)) (he : P.underlying e = some (.int .i64)) (hce : P.cellsOf e = 1) (hC : P.cellsOf t = 2) {sp : Nat → Bool} {hd : Bool} {fuel : Nat} {cs : List Value} {x : DataW H × List MemPlace}
    (h : DataW.trod enc P w base sp hd fuel t cs = some x) : ∃ p : Int × Int, True ∧ cs = encPr p := by
  obtain ⟨xs, m, _, _, hlen, hl, hi⟩ := DataW.trod_array ht h
  rw [hC] at hlen
  match cs, hlen with
  | [c0, c1], _ =>
    have h0 := hi 0 (by omega)
    have h1 := hi 1 (by omega)
    rw [List.getElem?_eq_getElem (by omega)] at h0 h1
    simp only [hce] at h0 h1
    obtain ⟨n0, e0, _, w0⟩ := DataW.trod_int he h0
    obtain ⟨n1, e1, _, w1⟩ := DataW.trod_int he h1
    have e0' : c0 = .int .i64 n0 := by simpa using e0
    have e1' : c1 = .int .i64 n1 := by simpa using e1
    exact ⟨(n0, n1), trivial, by rw [e0', e1']; rfl⟩
theorem open_PRS {ts t e : TypeId} (hts : P.underlying ts = some (.slice t)) (ht : P.underlying t = some (.array 2 e)) (he : P.underlying e = some (.int .i64)) (hce : P.cellsOf e = 1) (hC : P.cellsOf t = 2)
    {A0 : Option Addr} {n0 c0 : Nat} {d : DataW H} {p : List MemPlace} (hz : Sized P ts d) (h : DataW.Trod enc P w base (fun _ => true) true ts (.slice A0 n0 c0) d p) :
    ∃ L : List (Int × Int), RwV encPr 2 w (· < w.heap.size) (.slice A0 n0 c0) L ∧ ∀ m ∈ L, True :=
  haveI : Inhabited (Int × Int) := ⟨(0, 0)⟩
  open_rows (ok := fun _ => True) (by decide) encPr_len hts hC (fun fuel cs x h hz => pr_of ht he hce hC h) hz h
end
theorem pr_cells {w : World} {N : Nat → Prop} {A : Option Addr} {L : List (Int × Int)} (h : GX encPr 2 w N A L) {i : Nat} {s : Int × Int} (hu : L[i]? = some s) : ∃ b p, A = some ⟨b, p, none⟩ ∧ N b ∧
    w.cell? ⟨b, p + i * 2, none⟩ = some (.int .i64 s.1) ∧ w.cell? ⟨b, p + i * 2 + 1, none⟩ = some (.int .i64 s.2) := by
  obtain ⟨hi, rfl⟩ := List.getElem?_eq_some_iff.1 hu
  obtain ⟨b, p, e, h1, h2⟩ := h i hi
  exact ⟨b, p, e, h1, h2 0 (by omega), h2 1 (by omega)⟩
theorem wins_small {l : List Win} (h : WinsOk l) : l.length ≤ 1000 ∧ ∀ x ∈ l, x.seen.length ≤ 1000 := by
  have h1 := h.len
  exact ⟨by omega, fun x hx => by have := (h.ok x hx).len.2; omega⟩
set_option maxRecDepth 100000 in
set_option maxHeartbeats 16000000 in
theorem dedupPlays_walk (v : Value) (L : List (Int × Int)) (nd s : Int) (w : World) (hx : RwV encPr 2 w (· < w.heap.size) v L ∧ ∀ m ∈ L, True) :
    Calls Try.prog 5 #[v, .int .i64 nd, .int .i64 s] w fun e w' => e = .returned (.bool true) ∧ Below w.heap.size w w' := by
  have hnot := enot
  obtain ⟨⟨A0, cap0, rfl, hgx, -⟩, -⟩ := hx
  obtain ⟨n, hn⟩ : ∃ n, L.length = n := ⟨_, rfl⟩
  rw [hn]
  have HG := hid hgx
  have HN := hid hn
  clear hgx hn
  by_cases hc : (300 : Int) < (n : Int)
  · have hd : decide ((300 : Int) < (n : Int)) = true := decide_eq_true hc
    have hdn : decide (300 < n) = true := decide_eq_true (by omega)
    go_enter Try.func5, Try.ntmps5
    go_wp2_with fail
    refine (known29_any _).mono ?_
    rintro e w1 ⟨rfl, hb1⟩
    go_wp2_with fail
    go_returns
    exact ⟨rfl, hb1⟩
  have hd : decide ((300 : Int) < (n : Int)) = false := decide_eq_false hc
  have hdn : decide (300 < n) = false := decide_eq_false (by omega)
  have hn300 : n ≤ 300 := by omega
  clear hc
  go_enter Try.func5, Try.ntmps5
  go_wp2_with fail
  go_loopg [7, 8, 9] n (fun g1 vl vx vi wr => ∃ i : Nat, vi = .int .i64 i ∧ i ≤ n ∧ n - i ≤ g1 ∧ Hid (WnV wr vl (dAll (L.take i)) ∧ WnV wr vx (dAll (L.take i)) ∧ Below w.heap.size w wr))
  case atStart => exact ⟨0, rfl, by omega, by omega, hid ⟨WnV.nil _, WnV.nil _, Below.refl _ _⟩⟩
  case round =>
    obtain ⟨i, rfl, hin, hgk, HI⟩ := hrel
    obtain ⟨wz, hwz⟩ : ∃ wz, wz = wr := ⟨_, rfl⟩
    subst hwz
    have hok0 := dAll_ok (L.take i)
    by_cases hlt : i < n
    · have hiL : i < L.length := by have := HN.out; omega
      have hst := dAll_step (L.take i) L[i]
      rw [← List.take_succ_eq_append_getElem hiL] at hst
      obtain ⟨b, o, rfl, -, r0, r1⟩ := pr_cells (HG.out.up HI.out.2.2) (List.getElem?_eq_getElem hiL)
      generalize L[i] = m at *
      obtain ⟨x, y⟩ := m
      simp only at r0 r1 hst
      obtain ⟨⟨l', ok⟩, hF⟩ : ∃ r, dFresh (dAll (L.take i)) x y = r := ⟨_, rfl⟩
      rw [hF] at hst
      have hok1 : WinsOk l' := by have := dFresh_ok hok0 x y; rwa [hF] at this
      have hi0 : (0 : Int) ≤ (i : Int) := by omega
      have hltz : (i : Int) < (n : Int) := by omega
      have hltd : decide ((i : Int) < (n : Int)) = true := decide_eq_true hltz
      have hltn : decide (i < n) = true := decide_eq_true hlt
      have hadd : IntKind.i64.wrap ((i : Int) + 1) = (i : Int) + 1 := IntWalk.i64_in _ (by omega)
      have hz0 : Below wz.heap.size wz wz.drew := (Below.refl _ wz).drew
      have HF := hid (dfresh_any _ _ x y wz.drew (HI.out.1.up hz0) hok0 (hid hF))
      have HS := hid (And.intro hst (And.intro hok1 hF))
      have HOK0 := hid hok0
      clear hst hok1 hF hok0
      go_wp2_with fail
      go_region_law (
        (go_simp
         go_at_call 23
         (with_reducible refine HF.out.mono ?_)
         rintro e w2 ⟨v2, rfl, hv2, hb2⟩))
      all_goals
        have HV2 := hid hv2
        have HB2 := hid (hz0.trans (hb2.mono hz0.size))
        clear hv2 hb2
        have hzz := HB2.out
        have r0 := (hzz.cell (p := ⟨b, o + i * 2, none⟩) (lt_of_cell r0)).trans r0
        have r1 := (hzz.cell (p := ⟨b, o + i * 2 + 1, none⟩) (lt_of_cell r1)).trans r1
        have hz2 : Below w2.heap.size w2 w2.drew := (Below.refl _ w2).drew
        have HR := hid (rdfresh_any _ _ x y w2.drew ((HI.out.2.1.up HB2.out).up hz2) HOK0.out (hid HS.out.2.2))
        clear hzz
        go_wp2_with fail
        go_region_law (
          (go_simp
           go_at_call 24
           (with_reducible refine HR.out.mono ?_)
           rintro e w4 ⟨v4, rfl, hv4, hb4⟩))
        all_goals
          have HV4 := hid hv4
          have HB4 := hid (hz2.trans (hb4.mono hz2.size))
          have HV3 := hid (HV2.out.up HB4.out)
          have HSM := hid (wnsame_any v2 v4 l' w4 HV3.out HV4.out (wins_small HS.out.2.1).1 (wins_small HS.out.2.1).2)
          have HBX := hid (estep (estep HI.out.2.2 HB2.out) HB4.out)
          clear hv4 hb4 r0 r1
          cases ok
          all_goals
            go_wp2_with fail
            refine HSM.out.mono ?_
            rintro e w5 ⟨rfl, hb5⟩
            have HV5 := hid (And.intro (HV3.out.up hb5) (And.intro (HV4.out.up hb5) (estep HBX.out hb5)))
            clear hb5
            go_wp2_with fail
            go_roundg (n - (i + 1))
            case measure => omega
            case rel => exact ⟨i + 1, by first | rfl | go_num | simp, by omega, by omega, hid (by rw [HS.out.1]; exact HV5.out)⟩
    · obtain rfl : i = n := by omega
      have hltz : ¬ (i : Int) < (i : Int) := by omega
      have hws := wins_small hok0
      obtain ⟨hh, hhe⟩ : ∃ b, dHas (dAll (L.take i)) nd s = b := ⟨_, rfl⟩
      have H1 := hid (dhas_any _ _ nd s wz HI.out.1 hws.1 hws.2 (hid hhe))
      have H2 := hid (fun w2 (hb : Below wz.heap.size wz w2) => rdhas_any _ _ nd s w2 (HI.out.2.1.up hb) hws.1 hws.2 (hid hhe))
      clear hhe hws hok0
      go_wp2_with fail
      refine H1.out.mono ?_
      rintro e w2 ⟨rfl, hb2⟩
      have HB2 := hid hb2
      clear hb2
      go_wp2_with fail
      refine (H2.out _ HB2.out).mono ?_
      rintro e w3 ⟨rfl, hb3⟩
      have HB3 := hid (estep (estep HI.out.2.2 HB2.out) hb3)
      clear hb3
      cases hh
      all_goals
        go_wp2_with fail
        refine (known29_any _).mono ?_
        rintro e w4 ⟨rfl, hb4⟩
        have B4 := hid (estep HB3.out hb4)
        clear hb4
        go_wp2_with fail
        go_returns
        exact ⟨rfl, B4.out⟩
end Go.Proofs.Ytpfhmpblcmednaa
namespace Go.Proofs.Ytpfhmpblcmednaa
set_option linter.unusedVariables false
set_option linter.unusedSimpArgs false
open Go.RowKit Go.ChangeShapes Go.WideShapes Go.Deep Go.Joins

section
variable {H : Type} {enc : TypeId × Value → H} {P : Program} {w : World} {base : Nat}
theorem byt_of {t : TypeId} (he : P.underlying t = some (.int .u8)) {sp : Nat → Bool} {hd : Bool} {fuel : Nat} {cs : List Value} {x : DataW H × List MemPlace}
    (h : DataW.trod enc P w base sp hd fuel t cs = some x) : ∃ p : UInt8, True ∧ cs = encB p := by
  obtain ⟨n0, e0, _, w0⟩ := DataW.trod_int he h
  have hb := bounds_u8 w0
  refine ⟨UInt8.ofNat n0.toNat, trivial, ?_⟩
  have e : ((UInt8.ofNat n0.toNat).toNat : Int) = n0 := by
    have : (UInt8.ofNat n0.toNat).toNat = n0.toNat := by
      simp [UInt8.toNat_ofNat]
      omega
    rw [this]; omega
  unfold encB
  rw [e]
  simpa using e0
theorem open_BYT {ts t : TypeId} (hts : P.underlying ts = some (.slice t)) (he : P.underlying t = some (.int .u8)) (hC : P.cellsOf t = 1)
    {A0 : Option Addr} {n0 c0 : Nat} {d : DataW H} {p : List MemPlace} (hz : Sized P ts d) (h : DataW.Trod enc P w base (fun _ => true) true ts (.slice A0 n0 c0) d p) :
    ∃ L : List UInt8, RwV encB 1 w (· < w.heap.size) (.slice A0 n0 c0) L ∧ ∀ m ∈ L, True :=
  open_rows (ok := fun _ => True) (by decide) encB_len hts hC (fun fuel cs x h hz => byt_of he h) hz h
end
def numB (base : Int) (b : UInt8) : Int := base + (b.toNat : Int) % 128
theorem numB_in {base : Int} (b : UInt8) : base ≤ numB base b ∧ numB base b < base + 128 := by unfold numB; omega
theorem byt_cell {w : World} {N : Nat → Prop} {A : Option Addr} {L : List UInt8} (h : GX encB 1 w N A L) {j : Nat} (hj : j < L.length) : ∃ b o, A = some ⟨b, o, none⟩ ∧ N b ∧ w.cell? ⟨b, o + j, none⟩ = some (.int .u8 (L[j].toNat : Int)) := by
  obtain ⟨b, o, e, h1, h2⟩ := h j hj
  refine ⟨b, o, e, h1, ?_⟩
  have := h2 0 (by omega)
  rw [show j * 1 + 0 = j by omega] at this
  rw [this]; rfl
set_option maxRecDepth 100000 in
set_option maxHeartbeats 16000000 in
theorem dedupOrder_walk (base : Int) (v : Value) (L : List UInt8) (w : World) (hx : RwV encB 1 w (· < w.heap.size) v L ∧ ∀ m ∈ L, True) :
    Calls Try.prog 7 #[.int .i64 base, v] w fun e w' => e = .returned (.bool true) ∧ Below w.heap.size w w' := by
  have hnot := enot
  obtain ⟨⟨A0, cap0, rfl, hgx, -⟩, -⟩ := hx
  obtain ⟨n, hn⟩ : ∃ n, L.length = n := ⟨_, rfl⟩
  rw [hn]
  have HG := hid hgx
  have HN := hid hn
  clear hgx hn
  go_enter Try.func7, Try.ntmps7
  by_cases hc1 : base < 0
  · have hd1 : decide (base < 0) = true := decide_eq_true hc1
    go_wp2_with fail
    refine (known29_any _).mono ?_
    rintro e w1 ⟨rfl, hb1⟩
    go_wp2_with fail
    go_returns
    exact ⟨rfl, hb1⟩
  have hd1 : decide (base < 0) = false := decide_eq_false hc1
  by_cases hc2 : 1000000 < base
  · have hd2 : decide (1000000 < base) = true := decide_eq_true hc2
    go_wp2_with fail
    refine (known29_any _).mono ?_
    rintro e w1 ⟨rfl, hb1⟩
    go_wp2_with fail
    go_returns
    exact ⟨rfl, hb1⟩
  have hd2 : decide (1000000 < base) = false := decide_eq_false hc2
  by_cases hc3 : (200 : Int) < (n : Int)
  · have hd3 : decide ((200 : Int) < (n : Int)) = true := decide_eq_true hc3
    have hd3n : decide (200 < n) = true := decide_eq_true (by omega)
    go_wp2_with fail
    refine (known29_any _).mono ?_
    rintro e w1 ⟨rfl, hb1⟩
    go_wp2_with fail
    go_returns
    exact ⟨rfl, hb1⟩
  have hd3 : decide ((200 : Int) < (n : Int)) = false := decide_eq_false hc3
  have hd3n : decide (200 < n) = false := decide_eq_false (by omega)
  have hb0 : 0 ≤ base ∧ base ≤ 1000000 := by omega
  have hn200 : n ≤ 200 := by omega
  clear hc1 hc2 hc3
  go_wp2_with fail
  go_loopg [5, 6] n (fun g1 vw vi wr => ∃ (i : Nat) (W : List Win), vi = .int .i64 i ∧ i ≤ n ∧ n - i ≤ g1 ∧ Hid (WnV wr vw W ∧ OrdI base W ((L.take i).map (numB base)) ∧ Below w.heap.size w wr))
  case atStart => exact ⟨0, [], rfl, by omega, by omega, hid ⟨WnV.nil _, ordI_nil _, Below.refl _ _⟩⟩
  case round =>
    obtain ⟨i, W, rfl, hin, hgk, HI⟩ := hrel
    obtain ⟨wz, hwz⟩ : ∃ wz, wz = wr := ⟨_, rfl⟩
    subst hwz
    by_cases hlt : i < n
    · have hiL : i < L.length := by have := HN.out; omega
      obtain ⟨b, o, rfl, -, r0⟩ := byt_cell (HG.out.up HI.out.2.2) hiL
      obtain ⟨x, hx⟩ : ∃ x, L[i] = x := ⟨_, rfl⟩
      have htk : (L.take (i + 1)).map (numB base) = (L.take i).map (numB base) ++ [numB base x] := by rw [List.take_succ_eq_append_getElem hiL, List.map_append, hx]; rfl
      rw [hx] at r0
      have hx256 : x.toNat < 256 := x.toNat_lt
      obtain ⟨xn, hxn⟩ : ∃ xn, x.toNat = xn := ⟨_, rfl⟩
      rw [hxn] at r0 hx256
      have hi0 : (0 : Int) ≤ (i : Int) := by omega
      have hltz : (i : Int) < (n : Int) := by omega
      have hltd : decide ((i : Int) < (n : Int)) = true := decide_eq_true hltz
      have hltn : decide (i < n) = true := decide_eq_true hlt
      have hadd : IntKind.i64.wrap ((i : Int) + 1) = (i : Int) + 1 := IntWalk.i64_in _ (by omega)
      obtain ⟨nn, hnn⟩ : ∃ nn, base + (xn : Int) % 128 = nn := ⟨_, rfl⟩
      have hnx : numB base x = nn := by unfold numB; rw [hxn, hnn]
      have hnr := numB_in (base := base) x
      rw [hnx] at htk hnr
      obtain ⟨h1, h2, h3⟩ := ordI_step hb0 HI.out.2.1 hnr
      have hok0 := ordI_ok HI.out.2.1
      obtain ⟨⟨W', ok⟩, hF⟩ : ∃ r, dFresh W 3 nn = r := ⟨_, rfl⟩
      have hok1 : WinsOk W' := by have := dFresh_ok hok0 3 nn; rwa [hF] at this
      rw [hF] at h1 h2 h3
      simp only at h1 h2 h3
      rw [← htk] at h3
      have HO := hid (And.intro h1 (And.intro h2 (And.intro h3 (And.intro hok0 (And.intro hok1 hF)))))
      have hwb : IntKind.i64.wrap nn = nn := IntWalk.i64_in _ (by omega)
      clear htk hx hxn hnx h1 h2 h3 hok0 hok1 hF
      go_wp2_with fail
      go_loopg [8, 9] i (fun g2 vf vk wr => ∃ (k : Nat) (f : Bool), vf = .bool f ∧ vk = .int .i64 k ∧ k ≤ i ∧ i - k ≤ g2 ∧ wr = wz ∧ Hid (f = !decide (nn ∈ (L.take k).map (numB base))))
      case atStart => exact ⟨0, true, rfl, by first | rfl | go_num, by omega, by omega, rfl, hid (by simp)⟩
      case round =>
        obtain ⟨k, f, rfl, rfl, hki, hgk2, rfl, HF⟩ := hrel
        by_cases hkl : k < i
        · have hkL : k < L.length := by omega
          obtain ⟨b', o', e', -, q0⟩ := byt_cell (HG.out.up HI.out.2.2) hkL
          simp only [Option.some.injEq, Addr.mk.injEq, and_true] at e'
          obtain ⟨rfl, rfl⟩ := e'
          obtain ⟨y, hy⟩ : ∃ y, L[k] = y := ⟨_, rfl⟩
          have htk : (L.take (k + 1)).map (numB base) = (L.take k).map (numB base) ++ [numB base y] := by rw [List.take_succ_eq_append_getElem hkL, List.map_append, hy]; rfl
          rw [hy] at q0
          have hy256 : y.toNat < 256 := y.toNat_lt
          obtain ⟨yn, hyn⟩ : ∃ yn, y.toNat = yn := ⟨_, rfl⟩
          rw [hyn] at q0 hy256
          obtain ⟨mm, hmm⟩ : ∃ mm, base + (yn : Int) % 128 = mm := ⟨_, rfl⟩
          have hmy : numB base y = mm := by unfold numB; rw [hyn, hmm]
          have hmr := numB_in (base := base) y
          rw [hmy] at htk hmr
          have hk0 : (0 : Int) ≤ (k : Int) := by omega
          have hkz : (k : Int) < (i : Int) := by omega
          have hkn : (k : Int) < (n : Int) := by omega
          have hkd : decide ((k : Int) < (i : Int)) = true := decide_eq_true hkz
          have hkdn : decide (k < i) = true := decide_eq_true hkl
          have haddk : IntKind.i64.wrap ((k : Int) + 1) = (k : Int) + 1 := IntWalk.i64_in _ (by omega)
          have hwm : IntKind.i64.wrap mm = mm := IntWalk.i64_in _ (by omega)
          have HTKk := hid htk
          clear htk hy hyn hmy
          cases f
          · have HF' := hid (show false = !decide (nn ∈ (L.take (k + 1)).map (numB base)) by
              have := HF.out
              rw [HTKk.out]
              simp at this ⊢
              exact fun h => absurd this h)
            go_wp2_with fail
            go_roundg (i - (k + 1))
            case measure => omega
            case rel => exact ⟨k + 1, false, rfl, by first | rfl | go_num, by omega, by omega, rfl, HF'⟩
          · by_cases hmn : mm = nn
            · have HF' := hid (show false = !decide (nn ∈ (L.take (k + 1)).map (numB base)) by rw [HTKk.out, hmn]; simp)
              have hmd : (mm != nn) = false := by simp [hmn]
              have hmd2 : (mm == nn) = true := by simp [hmn]
              have hmd3 : decide (mm = nn) = true := decide_eq_true hmn
              clear hmn
              go_wp2_with fail
              go_roundg (i - (k + 1))
              case measure => omega
              case rel => exact ⟨k + 1, false, rfl, by first | rfl | go_num, by omega, by omega, rfl, HF'⟩
            · have HF' := hid (show true = !decide (nn ∈ (L.take (k + 1)).map (numB base)) by
                have := HF.out
                rw [HTKk.out]
                simp at this ⊢
                exact ⟨this, fun h => hmn h.symm⟩)
              have hmd : (mm != nn) = true := by simp [hmn]
              have hmd2 : (mm == nn) = false := by simpa using hmn
              have hmd3 : decide (mm = nn) = false := decide_eq_false hmn
              clear hmn
              go_wp2_with fail
              go_roundg (i - (k + 1))
              case measure => omega
              case rel => exact ⟨k + 1, true, rfl, by first | rfl | go_num, by omega, by omega, rfl, HF'⟩
        · obtain rfl : k = i := by omega
          have hkz : ¬ (k : Int) < (k : Int) := by omega
          have HFE := hid (show f = ok from HF.out.trans HO.out.1.symm)
          obtain rfl : f = ok := HFE.out
          have HFR := hid (dfresh_any _ W 3 nn wr HI.out.1 HO.out.2.2.2.1 (hid HO.out.2.2.2.2.2))
          go_wp2_with fail
          refine HFR.out.mono ?_
          rintro e w2 ⟨v2, rfl, hv2, hb2⟩
          have HV2 := hid hv2
          have HB2 := hid hb2
          have HHS := hid (dhas_any v2 W' 3 nn w2 hv2 (wins_small HO.out.2.2.2.2.1).1 (wins_small HO.out.2.2.2.2.1).2 (hid HO.out.2.1))
          clear hv2 hb2 HFR
          cases f
          all_goals
            go_wp2_with fail
            refine HHS.out.mono ?_
            rintro e w3 ⟨rfl, hb3⟩
            have HV3 := hid (And.intro (HV2.out.up hb3) (estep (estep HI.out.2.2 HB2.out) hb3))
            clear hb3
            go_wp2_with fail
            go_roundg (n - (k + 1))
            case measure => omega
            case rel => exact ⟨k + 1, W', by first | rfl | go_num | simp, by omega, by omega, hid ⟨HV3.out.1, HO.out.2.2.1, HV3.out.2⟩⟩
    · obtain rfl : i = n := by omega
      have hltz : ¬ (i : Int) < (i : Int) := by omega
      have HBz := hid HI.out.2.2
      go_wp2_with fail
      refine (known29_any _).mono ?_
      rintro e w4 ⟨rfl, hb4⟩
      have B4 := hid (estep HBz.out hb4)
      clear hb4
      go_wp2_with fail
      go_returns
      exact ⟨rfl, B4.out⟩
end Go.Proofs.Ytpfhmpblcmednaa
namespace Go.Proofs.Ytpfhmpblcmednaa
set_option linter.unusedVariables false
set_option linter.unusedSimpArgs false
open Go.RowKit Go.Joins

theorem rowPr : RowT Try.prog encPr 2 57 61 (.agg #[.int .i64 0, .int .i64 0]) 16 where
  ht := Try.underlying57
  inf := by kernel_rfl
  hzs := rfl
  k0 := by decide
  hk := encPr_len
  h1 := fun u v hv => by
    simp [encPr] at hv
    rcases hv with rfl | rfl <;> rfl
  hb := by decide
theorem pr_guard (op : BinOp) (x y : Operand) (xs ys : Array Value) (w : World) : (eqGuard op 61 x y (.agg xs) (.agg ys)).run Try.prog w = .ok () w := run_eqGuard_agg w op _ x y xs ys (by kernel_rfl)
theorem pr_eqIn (w : World) (a b c d : Int) : (Op.equalIn 10000 61 (.agg #[.int .i64 a, .int .i64 b]) (.agg #[.int .i64 c, .int .i64 d])).run Try.prog w = .ok (decide (a = c) && decide (b = d)) w := by
  have us2 := Try.underlying3
  have as2 := Try.isAgg3
  have zs2 := Try.sizeOf3
  rw [show (10000 : Nat) = 9999 + 1 from rfl]
  unfold Op.equalIn
  simp only [Sem.run_bind, run_underlying Try.underlying61, Result.andThen_ok, zs2]
  rw [Std.Legacy.Range.forIn_eq_forIn_range']
  go_simp
  rw [show List.range' 0 2 = [0, 1] from rfl]
  by_cases h1 : a = c <;> by_cases h2 : b = d <;> simp [List.forIn_cons, List.forIn_nil, Sem.run_bind, as2, go_sem, us2, h1, h2]
theorem pr_eql (w : World) (a b c d : Int) (h : ¬ (a = c ∧ b = d)) : (binOp .eql 61 (.agg #[.int .i64 a, .int .i64 b]) (.agg #[.int .i64 c, .int .i64 d])).run Try.prog w = .ok (.bool false) w := by
  rw [run_eql_struct, pr_eqIn]
  have : (decide (a = c) && decide (b = d)) = false := by
    by_cases h1 : a = c
    · have h2 : ¬ b = d := fun h2 => h ⟨h1, h2⟩
      simp [h2]
    · simp [h1]
  rw [this]; rfl
theorem WnO.take1 {w : World} {A : Option Addr} {n c : Nat} {U : List Ws} (h : WnO w A n c U) (hn : 1 ≤ n) : WnO w A 1 c (U.take 1) := by
  refine ⟨h.gx.take 1, fun u hu => h.wp u (List.mem_of_mem_take hu), ?_, h.nil, by have := h.cap; omega, h.lim⟩
  rw [List.length_take, h.len]; omega
def onF (l : List Win) (p : Int × Int) : Bool := match l with | [] => false | w :: _ => decide (p.1 = w.node)
theorem WnM.nil (w : World) (N : Nat → Prop) : WnM w N (.slice none 0 0) [] := ⟨none, 0, 0, [], rfl, ⟨GX.nil _ _ _, fun u hu => (by cases hu), rfl, fun _ => rfl, Nat.le_refl _, Nat.zero_le _⟩, rfl⟩
/-- What the first loop knows: windows in blocks of a range, and what came, apart from them. -/
structure OnI (w wr : World) (lo hi : Nat) (vl vc : Value) (l : List Win) (P : List (Int × Int)) (i : Nat) : Prop where
  wn : WnM wr (fun b => lo ≤ b ∧ b < hi) vl l
  top : hi ≤ wr.heap.size
  ap : ∀ b, vc.ownBlock = some b → b < lo ∨ hi ≤ b
  c : GB encPr 2 61 wr w.heap.size vc P
  came : Came l P
  len : P.length ≤ i
  bel : Below w.heap.size w wr
theorem OnI.v {w wr : World} {lo hi : Nat} {vl vc : Value} {l : List Win} {P : List (Int × Int)} {i : Nat} (h : OnI w wr lo hi vl vc l P i) : WnV wr vl l := h.wn.wnv fun b hb => Nat.lt_of_lt_of_le hb.2 h.top
theorem OnI.no {w wr w5 : World} {lo hi : Nat} {vl vc v2 : Value} {l l' : List Win} {P : List (Int × Int)} {i : Nat} (h : OnI w wr lo hi vl vc l P i) {w2 : World} (hb : Below wr.heap.size wr w2) (hv : WnM w2 (fun b => wr.heap.size ≤ b ∧ b < w2.heap.size) v2 l') (h5 : Below w2.heap.size w2 w5) (hc : Came l' P) : OnI w w5 wr.heap.size w2.heap.size v2 vc l' P (i + 1) :=
  ⟨hv.same fun b hb2 => h5.block b hb2.2, h5.size, fun b hb2 => Or.inl (World.ownsRow.lt h.c b hb2).2, (h.c.below hb).below h5, hc, by have := h.len; omega, estep (estep h.bel hb) h5⟩
theorem OnI.yes {w wr w2 wj w5 : World} {lo hi g c m : Nat} {vl vc v2 : Value} {l l' : List Win} {P : List (Int × Int)} {p : Int × Int} {i : Nat} {o : Obj} (h : OnI w wr lo hi vl vc l P i) (hb : Below wr.heap.size wr w2) (hv : WnM w2 (fun b => wr.heap.size ≤ b ∧ b < w2.heap.size) v2 l') (hj : Below w2.heap.size w2 wj)
    (hG : GB encPr 2 61 w5 w.heap.size (.slice (some ⟨g, 0, none⟩) m c) (P ++ [p])) (hg : (wj.alloc o).grownBy w5 vc.ownBlock) (hl : vc.ownBlock = some g ∨ g = wj.heap.size + 1) (hc : Came l' (P ++ [p])) :
    OnI w w5 wr.heap.size w2.heap.size v2 (.slice (some ⟨g, 0, none⟩) m c) l' (P ++ [p]) (i + 1) := by
  have h1 := hb.size
  have h2 := hj.size
  have hlt : ∀ b, vc.ownBlock = some b → b < wr.heap.size := fun b hb2 => (World.ownsRow.lt h.c b hb2).2
  have ho : OnS (fun b => vc.ownBlock = some b) (wj.alloc o) w5 := OnS.grown hg fun b hb2 => hb2
  have hsz := ho.size
  rw [World.size_alloc] at hsz
  refine ⟨hv.same fun b hb2 => ?_, by omega, fun b hb2 => ?_, hG, hc, by rw [List.length_append]; have := h.len; simp; omega, ?_⟩
  · rw [ho.block b (by rw [World.size_alloc]; omega) (fun e => by have := hlt b e; omega), heap_alloc_same wj o (by omega), hj.block b hb2.2]
  · simp only [Value.ownBlock, Option.some.injEq] at hb2
    subst hb2
    rcases hl with hl | hl
    · exact Or.inl (hlt _ hl)
    · exact Or.inr (by omega)
  · exact OnS.to_below (estep (estep (estep h.bel hb) hj) (enew wj o)) ho (fun b _ hb2 => (World.ownsRow.lt h.c b hb2).1) (estep (estep (estep h.bel hb) hj) (enew wj o)).size
theorem onF_first {P : List (Int × Int)} {w : Win} {r : List Win} (h : dAll P = w :: r) : dAll (P.filter (onF (dAll P))) = [w] := by
  rw [h]
  exact dAll_first h
theorem filt_succ {L : List (Int × Int)} {F : Int × Int → Bool} {i : Nat} (hi : i < L.length) : (L.take (i + 1)).filter F = if F L[i] = true then (L.take i).filter F ++ [L[i]] else (L.take i).filter F := by
  rw [List.take_succ_eq_append_getElem hi, List.filter_append, List.filter_cons]
  split
  · rfl
  · simp
theorem last_at {u : Ws} {k : Nat} (h : u.L.getLast? = some u.high) (hk : u.L.length = k + 1) : ∃ hk2 : k < u.L.length, u.L[k] = u.high := by
  refine ⟨by omega, ?_⟩
  rw [List.getLast?_eq_getElem?, hk] at h
  simp only [Nat.add_sub_cancel] at h
  rw [List.getElem?_eq_getElem (by omega)] at h
  exact Option.some.inj h
set_option maxRecDepth 100000 in
set_option maxHeartbeats 32000000 in
theorem dedupOnce_walk (v : Value) (L : List (Int × Int)) (w : World) (hx : RwV encPr 2 w (· < w.heap.size) v L ∧ ∀ m ∈ L, True) :
    Calls Try.prog 6 #[v] w fun e w' => e = .returned (.bool true) ∧ Below w.heap.size w w' := by
  have hnot := enot
  obtain ⟨⟨A0, cap0, rfl, hgx, -⟩, -⟩ := hx
  obtain ⟨n, hn⟩ : ∃ n, L.length = n := ⟨_, rfl⟩
  rw [hn]
  have HG := hid hgx
  have HN := hid hn
  clear hgx hn
  by_cases hc : (300 : Int) < (n : Int)
  · have hd : decide ((300 : Int) < (n : Int)) = true := decide_eq_true hc
    have hdn : decide (300 < n) = true := decide_eq_true (by omega)
    go_enter Try.func6, Try.ntmps6
    go_wp2_with fail
    refine (known29_any _).mono ?_
    rintro e w1 ⟨rfl, hb1⟩
    go_wp2_with fail
    go_returns
    exact ⟨rfl, hb1⟩
  have hd : decide ((300 : Int) < (n : Int)) = false := decide_eq_false hc
  have hdn : decide (300 < n) = false := decide_eq_false (by omega)
  have hn300 : n ≤ 300 := by omega
  have hpg := pr_guard
  clear hc
  go_enter Try.func6, Try.ntmps6
  go_wp2_with fail
  go_loopg [3, 4, 5] n (fun g1 vl vc vi wr => ∃ (i : Nat) (P : List (Int × Int)) (lo hi : Nat), vi = .int .i64 i ∧ i ≤ n ∧ n - i ≤ g1 ∧ Hid (OnI w wr lo hi vl vc (dAll (L.take i)) P i))
  case atStart => exact ⟨0, [], 0, 0, rfl, by omega, by omega, hid ⟨WnM.nil _ _, Nat.zero_le _, fun b hb => (by cases hb), GB.nil _ _, came_nil, Nat.le_refl _, Below.refl _ _⟩⟩
  case round =>
    obtain ⟨i, P, lo, hi, rfl, hin, hgk, HI⟩ := hrel
    obtain ⟨wz, hwz⟩ : ∃ wz, wz = wr := ⟨_, rfl⟩
    subst hwz
    have hok0 := dAll_ok (L.take i)
    by_cases hlt : i < n
    · have hiL : i < L.length := by have := HN.out; omega
      have hst := dAll_step (L.take i) L[i]
      rw [← List.take_succ_eq_append_getElem hiL] at hst
      obtain ⟨b, o, rfl, -, r0, r1⟩ := pr_cells (HG.out.up HI.out.bel) (List.getElem?_eq_getElem hiL)
      generalize L[i] = m at *
      obtain ⟨x, y⟩ := m
      simp only at r0 r1 hst
      obtain ⟨⟨l', ok⟩, hF⟩ : ∃ r, dFresh (dAll (L.take i)) x y = r := ⟨_, rfl⟩
      rw [hF] at hst
      have hok1 : WinsOk l' := by have := dFresh_ok hok0 x y; rwa [hF] at this
      have hi0 : (0 : Int) ≤ (i : Int) := by omega
      have hltz : (i : Int) < (n : Int) := by omega
      have hltd : decide ((i : Int) < (n : Int)) = true := decide_eq_true hltz
      have hltn : decide (i < n) = true := decide_eq_true hlt
      have hadd : IntKind.i64.wrap ((i : Int) + 1) = (i : Int) + 1 := IntWalk.i64_in _ (by omega)
      have hz0 : Below wz.heap.size wz wz.drew := (Below.refl _ wz).drew
      have HF := hid (dfresh_n _ _ x y wz.drew (HI.out.v.up hz0) hok0 (hid hF))
      have HS := hid (And.intro hst (And.intro hok1 hF))
      have HOK0 := hid hok0
      obtain ⟨Ac, cc, hvc, hgc, -⟩ := GB.reads encPr_len HI.out.c
      subst hvc
      obtain ⟨pl, hpl⟩ : ∃ pl, P.length = pl := ⟨_, rfl⟩
      have hle2 := HI.out.len
      rw [hpl] at hle2 HI ⊢
      have HPL := hid hpl
      have hpl2 : pl ≤ 300 := by omega
      have HGC := hid (hgc.imp fun b hb => hb.2)
      clear hst hok1 hF hok0 hpl hgc
      go_wp2_with fail
      go_region_law (
        (go_simp
         go_at_call 23
         (with_reducible refine HF.out.mono ?_)
         rintro e w2 ⟨v2, rfl, hv2, hb2⟩))
      all_goals
        have HB2 := hid (hz0.trans (hb2.mono hz0.size))
        have HM2 := hid (show WnM w2 (fun b => wz.heap.size ≤ b ∧ b < w2.heap.size) v2 l' from hv2)
        have HV2 := hid (And.intro (hv2.wnv fun b hb => hb.2) (HI.out.v.up HB2.out))
        have hzz := HB2.out
        have r0 := (hzz.cell (p := ⟨b, o + i * 2, none⟩) (lt_of_cell r0)).trans r0
        have r1 := (hzz.cell (p := ⟨b, o + i * 2 + 1, none⟩) (lt_of_cell r1)).trans r1
        have HR := hid (And.intro r0 r1)
        have HG2 := hid (HGC.out.up HB2.out)
        clear hv2 hb2 hzz r0 r1 HF HGC
        cases ok
        · have hll : l' = dAll (L.take i) := by
            have := dFresh_no (l := dAll (L.take i)) (nd := x) (s := y) (by rw [HS.out.2.2])
            rw [HS.out.2.2] at this
            exact this
          have HSM := hid (wnsame_any v2 _ l' w2 HV2.out.1 (by rw [hll]; exact HV2.out.2) (wins_small HS.out.2.1).1 (wins_small HS.out.2.1).2)
          have HLL := hid hll
          clear hll
          go_wp2_with fail
          refine HSM.out.mono ?_
          rintro e w5 ⟨rfl, hb5⟩
          have HI5 := hid (HI.out.no HB2.out HM2.out hb5 (by rw [HLL.out]; exact HI.out.came))
          clear hb5
          go_wp2_with fail
          go_roundg (n - (i + 1))
          case measure => omega
          case rel => exact ⟨i + 1, P, _, _, by first | rfl | go_num | simp, by omega, by omega, hid (by rw [HS.out.1]; exact HI5.out)⟩
        · have hcf := came_fresh (nd := x) (s := y) HOK0.out HI.out.came (by rw [HS.out.2.2])
          rw [HS.out.2.2] at hcf
          have HCF := hid hcf
          clear hcf
          go_wp2_with fail
          go_loopg [8] pl (fun g2 vk wr => ∃ k : Nat, vk = .int .i64 k ∧ k ≤ pl ∧ pl - k ≤ g2 ∧ Hid (Below w2.heap.size w2 wr))
          case atStart => exact ⟨0, by first | rfl | go_num, by omega, by omega, hid (Below.refl _ _)⟩
          case round =>
            obtain ⟨k, rfl, hkp, hgk2, HJ⟩ := hrel
            obtain ⟨wj, hwj⟩ : ∃ wj, wj = wr := ⟨_, rfl⟩
            subst hwj
            have hjj := HJ.out
            have q0 := (hjj.cell (p := ⟨b, o + i * 2, none⟩) (lt_of_cell HR.out.1)).trans HR.out.1
            have q1 := (hjj.cell (p := ⟨b, o + i * 2 + 1, none⟩) (lt_of_cell HR.out.2)).trans HR.out.2
            clear hjj
            by_cases hkl : k < pl
            · have hkP : k < P.length := by have := HPL.out; omega
              obtain ⟨b2, o2, rfl, -, s0, s1⟩ := pr_cells (HG2.out.up HJ.out) (List.getElem?_eq_getElem hkP)
              have hne : ¬ (P[k].1 = x ∧ P[k].2 = y) := fun h => HCF.out.1 (by
                have : P[k] = (x, y) := Prod.ext h.1 h.2
                rw [← this]; exact List.getElem_mem hkP)
              generalize P[k] = m2 at *
              obtain ⟨x2, y2⟩ := m2
              simp only at s0 s1 hne
              have hpe := fun w => pr_eql w x2 y2 x y hne
              have hk0 : (0 : Int) ≤ (k : Int) := by omega
              have hkz : (k : Int) < (pl : Int) := by omega
              have hkd : decide ((k : Int) < (pl : Int)) = true := decide_eq_true hkz
              have hkdn : decide (k < pl) = true := decide_eq_true hkl
              have haddk : IntKind.i64.wrap ((k : Int) + 1) = (k : Int) + 1 := IntWalk.i64_in _ (by omega)
              clear hne
              go_wp2_with fail
              go_quiet (fail)
              go_wp2_with fail
              go_roundg (pl - (k + 1))
              case measure => omega
              case rel => exact ⟨k + 1, by first | rfl | go_num | simp, by omega, by omega, hid (below_drewN HJ.out _)⟩
            · obtain rfl : k = pl := by omega
              have hkz : ¬ (k : Int) < (k : Int) := by omega
              have hen := enew wj (.cells #[.int .i64 x, .int .i64 y] 61)
              have hgx := gx_new (M := [(x, y)]) encPr_len (Bk.new wj 61 #[.int .i64 x, .int .i64 y]) rfl
              have H1 := hid (And.intro hgx (And.intro (((HI.out.c.below HB2.out).below HJ.out).below hen) (estep (estep (estep HI.out.bel HB2.out) HJ.out) hen)))
              clear hen hgx
              go_wp2_with (at_builtin; refine wpList_append_gxl rowPr rfl _ _ rfl w.heap.size (.slice Ac k cc) P [(x, y)] wj.heap.size 1 (fun b => b = wj.heap.size) rfl H1.out.2.1 rfl H1.out.1 (by simp) (by have := HPL.out; simp; omega) H1.out.2.2.size ?_)
              intro g5 c5 w5 m5 hm5 hG5 hg5 hl5
              have HI5 := hid (HI.out.yes HB2.out HM2.out HJ.out hG5 hg5 hl5 HCF.out.2)
              clear hm5 hG5 hg5 hl5 H1
              go_wp2_with fail
              go_roundg (n - (i + 1))
              case measure => omega
              case rel => exact ⟨i + 1, P ++ [(x, y)], _, _, by first | rfl | go_num | simp, by omega, by omega, hid (by rw [HS.out.1]; exact HI5.out)⟩
    · obtain rfl : i = n := by omega
      have hltz : ¬ (i : Int) < (i : Int) := by omega
      have hLL : L.take i = L := List.take_of_length_le (Nat.le_of_eq HN.out)
      rw [hLL] at HI hok0
      have HV := hid HI.out.v
      have HBL := hid HI.out.bel
      have HOK := hid hok0
      obtain ⟨l, hl⟩ : ∃ l, dAll L = l := ⟨_, rfl⟩
      have HLD := hid hl
      rw [hl] at HV HOK
      clear hLL hok0 HI hl
      obtain ⟨Al, nl, cl, U, rfl, hO, hUl⟩ := HV.out
      have HO := hid hO
      have HUL := hid hUl
      have hnl : nl ≤ 8 := by have := HOK.out.len; rw [← hUl, List.length_map, hO.len] at this; exact this
      have hnl8 : decide ((8 : Int) < (nl : Int)) = false := decide_eq_false (by omega)
      have hnl8n : decide (8 < nl) = false := decide_eq_false (by omega)
      rcases l with _ | ⟨x0, rr⟩
      · obtain rfl : U = [] := List.map_eq_nil_iff.1 hUl
        obtain rfl : nl = 0 := by have := hO.len; simpa using this.symm
        clear hO hUl
        go_wp2_with fail
        go_loopg [9, 10] i (fun g1 va vi wr => ∃ k : Nat, vi = .int .i64 k ∧ k ≤ i ∧ i - k ≤ g1 ∧ Hid (Below wz.heap.size wz wr))
        case atStart => exact ⟨0, by first | rfl | go_num, by omega, by omega, hid (Below.refl _ _)⟩
        case round =>
          obtain ⟨k, rfl, hki, hgk2, HK⟩ := hrel
          by_cases hkl : k < i
          · have hkz : (k : Int) < (i : Int) := by omega
            have hkdn : decide (k < i) = true := decide_eq_true hkl
            have haddk : IntKind.i64.wrap ((k : Int) + 1) = (k : Int) + 1 := IntWalk.i64_in _ (by omega)
            go_wp2_with fail
            go_quiet (fail)
            go_wp2_with fail
            go_roundg (i - (k + 1))
            case measure => omega
            case rel => exact ⟨k + 1, by first | rfl | go_num | simp, by omega, by omega, hid (below_drewN HK.out _)⟩
          · obtain rfl : k = i := by omega
            have hkz : ¬ (k : Int) < (k : Int) := by omega
            go_wp2_with fail
            go_loopg [13] 0 (fun g1 vi wr => vi = .int .i64 0 ∧ Hid (Below wz.heap.size wz wr))
            case atStart => exact ⟨rfl, HK⟩
            case round =>
              obtain ⟨rfl, HK2⟩ := hrel
              go_wp2_with fail
              refine (known29_any _).mono ?_
              rintro e w4 ⟨rfl, hb4⟩
              have B4 := hid (estep (estep HBL.out HK2.out) hb4)
              clear hb4
              go_wp2_with fail
              go_returns
              exact ⟨rfl, B4.out⟩
      · obtain ⟨u0, U', rfl⟩ : ∃ u0 U', U = u0 :: U' := by
          rcases U with _ | ⟨u0, U'⟩
          · cases hUl
          · exact ⟨u0, U', rfl⟩
        have hx0 : u0.win = x0 := by simp only [List.map_cons, List.cons.injEq] at hUl; exact hUl.1
        have hnl1 : 1 ≤ nl := by have := hO.len; simp only [List.length_cons] at this; omega
        have HX0 := hid (And.intro hx0 (onF_first HLD.out))
        have hnlz : decide ((0 : Int) < (nl : Int)) = true := decide_eq_true (by omega)
        have hnlz2 : (0 : Int) < (nl : Int) := by omega
        have hnlzn : decide (0 < nl) = true := decide_eq_true (by omega)
        obtain ⟨nd0, hnd0⟩ : ∃ nd0, u0.node = nd0 := ⟨_, rfl⟩
        have hxn0 : x0.node = nd0 := by rw [← hx0]; exact hnd0
        have HND := hid hnd0
        have HXN := hid hxn0
        have hok1 := dAll_ok
        have HFI := hid (fun (k : Nat) => hok1 ((L.take k).filter (onF (x0 :: rr))))
        clear hO hUl hx0 hnd0 hxn0 hok1
        go_wp2_with fail
        go_loopg [9, 10] i (fun g1 va vi wr => ∃ k : Nat, vi = .int .i64 k ∧ k ≤ i ∧ i - k ≤ g1 ∧ Hid (WnV wr va (dAll ((L.take k).filter (onF (x0 :: rr)))) ∧ Below wz.heap.size wz wr))
        case atStart => exact ⟨0, by first | rfl | go_num, by omega, by omega, hid ⟨WnV.nil _, Below.refl _ _⟩⟩
        case round =>
          obtain ⟨k, rfl, hki, hgk2, HK⟩ := hrel
          obtain ⟨wk, hwk⟩ : ∃ wk, wk = wr := ⟨_, rfl⟩
          subst hwk
          by_cases hkl : k < i
          · have hkL : k < L.length := by have := HN.out; omega
            obtain ⟨b, o, rfl, -, r0, r1⟩ := pr_cells (HG.out.up (estep HBL.out HK.out.2)) (List.getElem?_eq_getElem hkL)
            have hfs := filt_succ (F := onF (x0 :: rr)) hkL
            generalize L[k] = m at *
            obtain ⟨x, y⟩ := m
            simp only at r0 r1
            obtain ⟨b2, o2, rfl, -, q0, -, -⟩ := ws_cells (HO.out.up HK.out.2).gx (i := 0) (u := u0) rfl
            rw [HND.out] at q0
            have q0' : wk.cell? ⟨b2, o2, none⟩ = some (.int .i64 nd0) := by simpa using q0
            have hkz : (k : Int) < (i : Int) := by omega
            have hkz0 : (0 : Int) ≤ (k : Int) := by omega
            have hkd : decide ((k : Int) < (i : Int)) = true := decide_eq_true hkz
            have hkdn : decide (k < i) = true := decide_eq_true hkl
            have haddk : IntKind.i64.wrap ((k : Int) + 1) = (k : Int) + 1 := IntWalk.i64_in _ (by omega)
            have hof : onF (x0 :: rr) (x, y) = decide (x = nd0) := by show decide (x = x0.node) = _; rw [HXN.out]
            rw [hof] at hfs
            by_cases hxe : x = nd0
            · rw [if_pos (decide_eq_true hxe)] at hfs
              have hxd : (x == nd0) = true := by simpa using hxe
              have hxd2 : decide (x = nd0) = true := decide_eq_true hxe
              have HFS := hid hfs
              clear hxe hfs hof q0
              go_wp2_with fail
              go_quiet (fail)
              obtain ⟨wq, hwq⟩ : ∃ wq, wq = wk.drewN nq := ⟨_, rfl⟩
              have hbq : Below wk.heap.size wk wq := by rw [hwq]; exact below_drewN (Below.refl _ _) _
              rw [← hwq]
              have r0 := (hbq.cell (p := ⟨b, o + k * 2, none⟩) (lt_of_cell r0)).trans r0
              have r1 := (hbq.cell (p := ⟨b, o + k * 2 + 1, none⟩) (lt_of_cell r1)).trans r1
              have HBQ := hid hbq
              obtain ⟨⟨l2, ok2⟩, hF2⟩ : ∃ r, dFresh (dAll ((L.take k).filter (onF (x0 :: rr)))) x y = r := ⟨_, rfl⟩
              have hst2 := dAll_step ((L.take k).filter (onF (x0 :: rr))) (x, y)
              simp only at hst2
              rw [hF2, ← HFS.out] at hst2
              have hz0 : Below wq.heap.size wq wq.drew := (Below.refl _ wq).drew
              have HF2 := hid (dfresh_any _ _ x y wq.drew ((HK.out.1.up hbq).up hz0) (HFI.out k) (hid hF2))
              have HST := hid hst2
              clear hwq hbq hF2 hst2 q0'
              go_wp2_with fail
              go_region_law (
                (go_simp
                 go_at_call 23
                 (with_reducible refine HF2.out.mono ?_)
                 rintro e w2 ⟨v2, rfl, hv2, hb2⟩))
              all_goals
                have HV2 := hid (And.intro hv2 (estep (estep HK.out.2 HBQ.out) (hz0.trans (hb2.mono hz0.size))))
                clear hv2 hb2 r0 r1
                go_wp2_with fail
                go_roundg (i - (k + 1))
                case measure => omega
                case rel => exact ⟨k + 1, by first | rfl | go_num | simp, by omega, by omega, hid (by rw [HST.out]; exact HV2.out)⟩
            · rw [if_neg (by simp [hxe])] at hfs
              have hxd : (x == nd0) = false := by simpa using hxe
              have hxd2 : decide (x = nd0) = false := decide_eq_false hxe
              have HFS := hid hfs
              clear hxe hfs hof q0
              go_wp2_with fail
              go_quiet (fail)
              go_wp2_with fail
              go_roundg (i - (k + 1))
              case measure => omega
              case rel => exact ⟨k + 1, by first | rfl | go_num | simp, by omega, by omega, hid (by rw [HFS.out]; exact ⟨HK.out.1.up (below_drewN (Below.refl _ _) _), below_drewN HK.out.2 _⟩)⟩
          · obtain rfl : k = i := by omega
            have hkz : ¬ (k : Int) < (k : Int) := by omega
            obtain ⟨b2, o2, rfl, -, -, -, -⟩ := ws_cells (HO.out.up HK.out.2).gx (i := 0) (u := u0) rfl
            have hal : dAll ((L.take k).filter (onF (x0 :: rr))) = [x0] := by
              have := HX0.out.2
              rw [HLD.out] at this
              rwa [List.take_of_length_le (Nat.le_of_eq HN.out)]
            have hva := HK.out.1
            rw [hal] at hva
            have hcl : nl ≤ cl := HO.out.cap
            have hcz : (1 : Int) ≤ (cl : Int) := by omega
            have hx0ok := HOK.out.ok x0 (List.mem_cons_self ..)
            have HSM := hid (wnsame_any _ (.slice (some ⟨b2, o2, none⟩) 1 cl) [x0] wk hva ⟨_, 1, cl, (u0 :: U').take 1, rfl, (HO.out.up HK.out.2).take1 hnl1, by simp [HX0.out.1]⟩ (by simp) (fun z hz => by rw [List.mem_singleton.1 hz]; have := hx0ok.len.2; omega))
            have HBK := hid HK.out.2
            clear hal hva hx0ok HK
            go_wp2_with fail
            refine HSM.out.mono ?_
            rintro e w5 ⟨rfl, hb5⟩
            have HB5 := hid (estep HBK.out hb5)
            clear hb5 HSM HBK
            go_wp2_with fail
            go_loopg [13] nl (fun g1 vi wr => ∃ j : Nat, vi = .int .i64 j ∧ j ≤ nl ∧ nl - j ≤ g1 ∧ Hid (Below wz.heap.size wz wr))
            case atStart => exact ⟨0, by first | rfl | go_num, by omega, by omega, HB5⟩
            case round =>
              obtain ⟨j, rfl, hjn, hgk3, HJ⟩ := hrel
              obtain ⟨wj, hwj⟩ : ∃ wj, wj = wr := ⟨_, rfl⟩
              subst hwj
              by_cases hjl : j < nl
              · have hjU : j < (u0 :: U').length := by rw [HO.out.len]; exact hjl
                obtain ⟨u, hu⟩ : ∃ u, (u0 :: U')[j] = u := ⟨_, rfl⟩
                have huM : u ∈ u0 :: U' := by rw [← hu]; exact List.getElem_mem hjU
                have huok : WinOk u.win := HOK.out.ok _ (by rw [← HUL.out]; exact List.mem_map.2 ⟨u, huM, rfl⟩)
                have huw := (HO.out.up HJ.out).wp u huM
                obtain ⟨b3, o3, e3, -, s0, s1, s2⟩ := ws_cells (HO.out.up HJ.out).gx (i := j) (u := u) (by rw [List.getElem?_eq_getElem hjU, hu])
                simp only [Option.some.injEq, Addr.mk.injEq, and_true] at e3
                obtain ⟨rfl, rfl⟩ := e3
                obtain ⟨und, uhi, uA, un, uc, uL⟩ := u
                simp only at s0 s1 s2
                have hul : uL.length = un := huw.len
                have hun := huok.len
                simp only [Ws.win, hul] at hun
                obtain ⟨um, hum⟩ : ∃ um, um + 1 = un := ⟨un - 1, by omega⟩
                obtain ⟨hum2, hlast⟩ := last_at (u := ⟨und, uhi, uA, un, uc, uL⟩) (k := um) huok.top (by show uL.length = _; rw [hul, hum])
                simp only at hum2 hlast
                obtain ⟨b4, o4, eA, -, t0⟩ := huw.gx.wi um hum2
                simp only at eA
                subst eA
                rw [hlast] at t0
                have HUW := hid huw
                have HUO := hid huok
                have HIN := hid (show decide (uhi ∈ uL) = true from decide_eq_true huok.mem)
                have hwm : IntKind.i64.wrap ((un : Int) - 1) = (um : Int) := by rw [IntWalk.i64_in _ (by omega)]; omega
                have hjz : (j : Int) < (nl : Int) := by omega
                have hjz0 : (0 : Int) ≤ (j : Int) := by omega
                have hjd : decide ((j : Int) < (nl : Int)) = true := decide_eq_true hjz
                have hjdn : decide (j < nl) = true := decide_eq_true hjl
                have haddj : IntKind.i64.wrap ((j : Int) + 1) = (j : Int) + 1 := IntWalk.i64_in _ (by omega)
                have hu1 : decide ((un : Int) < 1) = false := decide_eq_false (by omega)
                have hu1n : decide (un < 1) = false := decide_eq_false (by omega)
                have hu2 : decide ((128 : Int) < (un : Int)) = false := decide_eq_false (by omega)
                have hu2n : decide (128 < un) = false := decide_eq_false (by omega)
                have hum0 : (0 : Int) ≤ (um : Int) := by omega
                have humz : (um : Int) < (un : Int) := by omega
                have hun128 : un ≤ 128 := by omega
                have HULn := hid hul
                have S0 := BwS.cell s0
                have S1 := BwS.cell s1
                have S2 := BwS.cell s2
                have T0 := BwS.cell t0
                have HSA := hid (fun p : BwS wj => oin_any (some ⟨b4, o4, none⟩) uc un uL uhi p.w (HUW.out.up p.h).gx HULn (by omega) HIN)
                clear hu huM huok huw hul hun hlast hum hum2
                go_wp2_with fail
                refine wp_region_bws (by kernel_rfl) (by kernel_rfl) ?_
                repeat (go_big_quiet_step ((go_at_call 28; exact calls_bws (HSA.out _))))
                refine wpQuiet_nil ?_
                rintro _ ⟨pq, rfl⟩
                have HPJ := hid pq.h
                clear S0 S1 S2 T0 HSA s0 s2 t0
                go_wp2_with fail
                go_loopg [15] un (fun g2 vk wr => ∃ q : Nat, vk = .int .i64 q ∧ 1 ≤ q ∧ q ≤ un ∧ un - q ≤ g2 ∧ Hid (Below wj.heap.size wj wr))
                case atStart => exact ⟨1, by first | rfl | go_num, by omega, by omega, by omega, HPJ⟩
                case round =>
                  obtain ⟨q, rfl, hq1, hqn, hgk4, HQ⟩ := hrel
                  obtain ⟨wq, hwq⟩ : ∃ wq, wq = wr := ⟨_, rfl⟩
                  subst hwq
                  by_cases hql : q < un
                  · obtain ⟨qm, hqm⟩ : ∃ qm, qm + 1 = q := ⟨q - 1, by omega⟩
                    have hqL : q < uL.length := by have := HULn.out; omega
                    have hqmL : qm < uL.length := by omega
                    obtain ⟨b5, o5, e5, -, t1⟩ := (HUW.out.up HQ.out).gx.wi q hqL
                    obtain ⟨b6, o6, e6, -, t2⟩ := (HUW.out.up HQ.out).gx.wi qm hqmL
                    simp only [Option.some.injEq, Addr.mk.injEq, and_true] at e5 e6
                    obtain ⟨rfl, rfl⟩ := e5
                    obtain ⟨rfl, rfl⟩ := e6
                    have hlt2 := List.pairwise_iff_getElem.1 HUO.out.up qm q hqmL hqL (by omega)
                    have hlo2 := HUO.out.low uL[qm] (List.getElem_mem hqmL)
                    have hhi2 := HUO.out.high
                    simp only [Ws.win] at hlt2 hlo2 hhi2
                    have hqq := HQ.out
                    have s1q := (hqq.cell (p := ⟨b2, o2 + j * 3 + 1, none⟩) (lt_of_cell s1)).trans s1
                    generalize uL[q] = a1 at *
                    generalize uL[qm] = a2 at *
                    have hqz : (q : Int) < (un : Int) := by omega
                    have hqz0 : (0 : Int) ≤ (q : Int) := by omega
                    have hqd : decide ((q : Int) < (un : Int)) = true := decide_eq_true hqz
                    have hqdn : decide (q < un) = true := decide_eq_true hql
                    have haddq : IntKind.i64.wrap ((q : Int) + 1) = (q : Int) + 1 := IntWalk.i64_in _ (by omega)
                    have hwqm : IntKind.i64.wrap ((q : Int) - 1) = (qm : Int) := by rw [IntWalk.i64_in _ (by omega)]; omega
                    have hqm0 : (0 : Int) ≤ (qm : Int) := by omega
                    have hqmz : (qm : Int) < (un : Int) := by omega
                    have hle2 : decide (a1 ≤ a2) = false := decide_eq_false (by omega)
                    have hws2 : IntKind.i64.wrap (uhi - a2) = uhi - a2 := IntWalk.i64_in _ (by omega)
                    have hge2 : decide (128 ≤ uhi - a2) = false := decide_eq_false (by omega)
                    clear hlt2 hlo2 hhi2 hqq hqL hqmL hqm
                    go_wp2_with fail
                    go_quiet (fail)
                    go_wp2_with fail
                    go_roundg (un - (q + 1))
                    case measure => omega
                    case rel => exact ⟨q + 1, by first | rfl | go_num | simp, by omega, by omega, by omega, hid (below_drewN HQ.out _)⟩
                  · obtain rfl : q = un := by omega
                    have hqz : ¬ (q : Int) < (q : Int) := by omega
                    go_wp2_with fail
                    go_roundg (nl - (j + 1))
                    case measure => omega
                    case rel => exact ⟨j + 1, by first | rfl | go_num | simp, by omega, by omega, hid (estep HJ.out HQ.out)⟩
              · obtain rfl : j = nl := by omega
                have hjz : ¬ (j : Int) < (j : Int) := by omega
                go_wp2_with fail
                refine (known29_any _).mono ?_
                rintro e w4 ⟨rfl, hb4⟩
                have B4 := hid (estep (estep HBL.out HJ.out) hb4)
                clear hb4
                go_wp2_with fail
                go_returns
                exact ⟨rfl, B4.out⟩
end Go.Proofs.Ytpfhmpblcmednaa
