/- Texts put together: Br Bt. -/
import Derived.Test.YtpfhmpblcmednaaD25
import Derived.Test.YtpfhmpblcmednaaD02
import Derived.Test.YtpfhmpblcmednaaD21
import Derived.Test.YtpfhmpblcmednaaD18
import Derived.Test.YtpfhmpblcmednaaD27
import Derived.Deep.RegionLaw
namespace Go.Proofs.Ytpfhmpblcmednaa
set_option linter.unusedVariables false
set_option linter.unusedSimpArgs false
open Go.RowKit Go.Joins

/-- A buffer in block g, what waits in block p, if there is any: how many there is room for. -/
def BfH (w : World) (g : Nat) (p : Option Nat) (room : Nat) (x : Bfr) : Prop :=
  ∃ v, Bk w g 140 #[.int .i64 (room : Int), v, .int .i64 (x.2 : Int)] ∧ GB encSp 11 37 w 0 v x.1 ∧ v.ownBlock = p ∧ x.1.length ≤ room ∧ room ≤ 64 ∧ 1 ≤ room
section
variable {w w' : World} {g room : Nat} {p : Option Nat} {x : Bfr} {S : Nat → Prop}
theorem GB.onS {α : Type} {enc : α → List Value} {k : Nat} {e : TypeId} {base : Nat} {v : Value} {L : List α} (h : GB enc k e w base v L) (ho : OnS S w w') (hn : ∀ q, v.ownBlock = some q → ¬ S q) : GB enc k e w' base v L := by
  refine ⟨h.1, ?_⟩
  rcases h.2 with h2 | ⟨g, cap', cur, e1, e2, e3, e4⟩
  · exact Or.inl h2
  · refine Or.inr ⟨g, cap', cur, e1, e2, ?_, e4⟩
    rw [ho.block g (Array.getElem?_eq_some_iff.1 e3).1 (hn g (by rw [e1]; rfl))]
    exact e3
theorem BfH.up (h : BfH w g p room x) (hb : Below w.heap.size w w') : BfH w' g p room x := by
  obtain ⟨v, h1, h2, h3⟩ := h
  exact ⟨v, h1.up hb, h2.below hb, h3⟩
theorem BfH.onS (h : BfH w g p room x) (ho : OnS S w w') (hg : ¬ S g) (hp : ∀ q, p = some q → ¬ S q) : BfH w' g p room x := by
  obtain ⟨v, h1, h2, h3, h4⟩ := h
  exact ⟨v, h1.onS ho hg, h2.onS ho (fun q hq => hp q (h3 ▸ hq)), h3, h4⟩
theorem BfH.lt (h : BfH w g p room x) : g < w.heap.size ∧ ∀ q, p = some q → q < w.heap.size ∧ g ≠ q := by
  obtain ⟨v, h1, h2, h3, h4⟩ := h
  refine ⟨h1.lt, fun q hq => ⟨(World.ownsRow.lt h2 q (h3.trans hq)).2, fun e => ?_⟩⟩
  subst e
  exact GB.not_bk h2 h1 (by decide) (h3.trans hq).symm
theorem BfH.few (h : BfH w g p room x) : x.1.length ≤ room ∧ room ≤ 64 ∧ 1 ≤ room := by
  obtain ⟨v, h1, h2, h3, h4⟩ := h
  exact h4
end
set_option maxRecDepth 100000 in
set_option maxHeartbeats 4000000 in
theorem bfnew_any (room : Int) (w : World) {c : Nat} (H : Hid (bfRoom room = c)) :
    Calls Try.prog 45 #[.int .i64 room] w fun e w' => ∃ g, e = .returned (.pointer (some ⟨g, 0, none⟩)) ∧ w.heap.size ≤ g ∧ BfH w' g none c ([], 0) ∧ Below w.heap.size w w' := by
  have h1 := bfRoom_pos room
  have hmm : min (max room 1) 64 = (c : Int) := by have := H.out; unfold bfRoom at this; omega
  rw [H.out] at h1
  have HC := hid h1
  clear h1 H
  go_enter Try.func45, Try.ntmps45
  go_wp2_with fail
  go_returns
  exact ⟨w.heap.size, rfl, Nat.le_refl _, ⟨_, Bk.new w _ _, GB.nil _ _, rfl, Nat.zero_le _, HC.out.2, HC.out.1⟩, enew _ _⟩
set_option maxRecDepth 100000 in
set_option maxHeartbeats 4000000 in
theorem bfLen_any (g : Nat) (p : Option Nat) (room : Nat) (x : Bfr) (w : World) (h : BfH w g p room x) {k : Nat} (H : Hid (x.1.length = k)) :
    Calls Try.prog 58 #[.pointer (some ⟨g, 0, none⟩)] w fun e w' => e = .returned (.int .i64 (k : Int)) ∧ Below w.heap.size w w' := by
  obtain ⟨v, h1, h2, -⟩ := h
  obtain ⟨A, c, rfl, -⟩ := GB.reads encSp_len h2
  rw [H.out] at h1
  have h3 : w.cell? ⟨g, 1, none⟩ = some (.slice A k c) := Bk.cell h1 1
  clear h1 h2
  go_enter Try.func58, Try.ntmps58
  go_wp2_with fail
  go_returns
  exact ⟨rfl, Below.refl _ _⟩
set_option maxRecDepth 100000 in
set_option maxHeartbeats 4000000 in
theorem bfLost_any (g : Nat) (p : Option Nat) (room : Nat) (x : Bfr) (w : World) (h : BfH w g p room x) (hx : x.2 ≤ 1099511627776) {k : Nat} (H : Hid (x.2 = k)) :
    Calls Try.prog 61 #[.pointer (some ⟨g, 0, none⟩)] w fun e w' => e = .returned (.int .i64 (k : Int)) ∧ Below w.heap.size w w' := by
  obtain ⟨v, h1, -⟩ := h
  rw [H.out] at h1 hx
  have h2 : w.cell? ⟨g, 2, none⟩ = some (.int .i64 (k : Int)) := Bk.cell h1 2
  have H2 := hid (ncount_any ⟨g, 2, none⟩ k w h2 (by omega) (by omega))
  clear h1 h2
  go_enter Try.func61, Try.ntmps61
  go_wp2_with fail
  refine H2.out.mono ?_
  rintro e w' ⟨rfl, rfl⟩
  go_wp2_with fail
  go_returns
  exact ⟨rfl, Below.refl _ _⟩
set_option maxRecDepth 100000 in
theorem bfLen_nil (w : World) : Calls Try.prog 58 #[.pointer none] w fun e w' => e = .returned (.int .i64 0) ∧ Below w.heap.size w w' := by
  go_enter Try.func58, Try.ntmps58
  go_wp2_with fail
  go_returns
  exact ⟨rfl, Below.refl _ _⟩
set_option maxRecDepth 100000 in
theorem bfLost_nil (w : World) : Calls Try.prog 61 #[.pointer none] w fun e w' => e = .returned (.int .i64 0) ∧ Below w.heap.size w w' := by
  go_enter Try.func61, Try.ntmps61
  go_wp2_with fail
  go_returns
  exact ⟨rfl, Below.refl _ _⟩
set_option maxRecDepth 100000 in
theorem bfTake_nil (n : Int) (w : World) : Calls Try.prog 88 #[.pointer none, .int .i64 n] w fun e w' => e = .returned (.slice none 0 0) ∧ Below w.heap.size w w' := by
  go_enter Try.func88, Try.ntmps88
  go_wp2_with fail
  go_returns
  exact ⟨rfl, Below.refl _ _⟩
set_option maxRecDepth 100000 in
theorem bfPut_nil (cs : Array Value) (w : World) : Calls Try.prog 47 #[.pointer none, .agg cs] w fun e w' => e = .returned (.bool false) ∧ Below w.heap.size w w' := by
  have hb := hid (enew w (.cells cs 37))
  go_enter Try.func47, Try.ntmps47
  go_wp2_with fail
  go_returns
  exact ⟨rfl, hb.out⟩
end Go.Proofs.Ytpfhmpblcmednaa
namespace Go.Proofs.Ytpfhmpblcmednaa
set_option linter.unusedVariables false
set_option linter.unusedSimpArgs false
open Go.RowKit Go.Joins

section
variable {α : Type} {enc : α → List Value} {k : Nat} {e : TypeId} {P : Program} {t : TypeId} {z : Value} {bytes : Nat}
/-- append at a step of a region that draws, where there is room: what is appended may lie in the same block. -/
theorem step_append_fit (T : RowT P enc k t e z bytes) {ops : Array Oper} {o : Oper} {a : Act} {K : Act → World → Prop} {Q : Exit → Act → World → Prop} {E : Prop} {w : World} (hgd : o.guard = none) (s x : Operand)
    (ho : o.op = .call { callee := .builtin .append, args := #[s, x], argTypes := #[t, t] }) (base q n cap : Nat) (L M : List α) (ad : Addr) (m c : Nat)
    (hs : a.eval s = .slice (some ⟨q, 0, none⟩) n cap) (hn : L.length = n) (hown : GB enc k e w base (.slice (some ⟨q, 0, none⟩) n cap) L) (hx : a.eval x = .slice (some ad) m c) (hm : M.length = m) (hR : ∀ j u, (gvals enc M)[j]? = some u → w.cell? (ad.add j) = some u)
    (hroom : n + m ≤ cap) (h : ∀ w', GB enc k e w' base (.slice (some ⟨q, 0, none⟩) (n + m) cap) (L ++ M) → w.grownBy w' (some q) → K (a.put o.dst (.slice (some ⟨q, 0, none⟩) (n + m) cap)) w') :
    if Region.wanted o (yielded ops a.tmps) = true then Oper.wp P o a w K Q else E := by
  have hw : Region.wanted o (yielded ops a.tmps) = true := by simp [Region.wanted, hgd]
  rw [if_pos hw]
  subst hn hm
  obtain ⟨i0, hi, hz0, hz1, hz2⟩ := info_parts T.inf
  obtain ⟨w', hr, h2, h3⟩ := run_append_fits (P := P) w base t o.type e i0 k T.ht hi hz1 q L.length cap (gvals enc L) hown ad M.length c (gvals enc M) (gvals_len enc k T.hk M) hR (fun u hu => by
    simp only [gvals, List.mem_flatMap] at hu
    obtain ⟨y, _, hu⟩ := hu
    exact T.h1 y u hu) hroom
  unfold Oper.wp execOp
  simp only [ho, resolve, invoke, builtin, Sem.run_bind, Sem.run_pure, Result.andThen_ok, List.map_toArray, List.map_cons, List.map_nil, hs, hx, hr]
  refine h w' ?_ h3
  unfold GB
  rw [List.length_append, ← gvals_append]
  exact h2
/-- clear of what lies behind a slice's end, in its block. -/
theorem run_clear_gb (T : RowT P enc k t e z bytes) (hz1 : ∀ u ∈ z.cells.toList, u.oneCell' = true) {w : World} {base q n cap : Nat} {L : List α} (ty : TypeId) (hn : L.length = n) (hown : GB enc k e w base (.slice (some ⟨q, 0, none⟩) n cap) L) (m c : Nat) (hm : 0 < m) (hfit : n + m ≤ cap) :
    ∃ w', (Builtin.clear_ #[t] ty #[.slice (some ⟨q, n * k, none⟩) m c]).run P w = .ok (.tuple #[]) w' ∧ GB enc k e w' base (.slice (some ⟨q, 0, none⟩) n cap) L ∧ w.grownBy w' (some q) := by
  subst hn
  obtain ⟨i0, hi, hz0, hs1, hs2⟩ := info_parts T.inf
  have h := hown
  rcases h.2 with ⟨h0, _⟩ | ⟨g, cap', cur, he, e2, e3, e4, e5, e6, e7⟩
  · cases h0
  · simp only [Value.slice.injEq, Option.some.injEq, Addr.mk.injEq, and_true, true_and] at he
    obtain ⟨rfl, rfl⟩ := he
    have hzl : (Builtin.zeroCells z.cells m).toList.length = m * k := by rw [Array.length_toList, size_zeroCells, T.hzs]
    have hz2 : ∀ u ∈ (Builtin.zeroCells z.cells m).toList, u.oneCell' = true := fun u hu => by
      simp only [Builtin.zeroCells, Array.mem_toList_iff, Array.mem_map] at hu
      obtain ⟨i, _, rfl⟩ := hu
      refine hz1 _ ?_
      have h0 : i % z.cells.size < z.cells.size := Nat.mod_lt _ (by rw [T.hzs]; exact T.k0)
      rw [getElem!_pos z.cells _ h0]
      exact Array.mem_toList_iff.2 (Array.getElem_mem h0)
    have hle : L.length * k + m * k ≤ cur.size := by rw [e6, ← Nat.add_mul]; exact Nat.mul_le_mul_right _ hfit
    have hst := run_storeCells_at P q (L.length * k) e (Builtin.zeroCells z.cells m).toList 0 cur w e3 (by rw [hzl]; omega) hz2
    simp only [Nat.add_zero] at hst
    have hv : (zeroValue e).run P w = .ok z w := by
      simp [zeroValue, typeInfo, hi, hz0]
    obtain ⟨m, rfl⟩ : ∃ j, m = j + 1 := ⟨m - 1, by omega⟩
    refine ⟨_, by simp [Builtin.clear_, run_underlying T.ht, hv, hst]; rfl, ⟨hown.1, .inr ⟨q, cap, _, rfl, e2, setRow_heap w q cur _ e _ e3, e4, e5, ?_, ?_⟩⟩, ⟨rfl, rfl, rfl, by simp, fun j _ hj => setRow_other w q j _ (fun e => hj (by simp [e]))⟩⟩
    · simp only [List.size_toArray, List.length_append, List.length_take, List.length_drop, Array.length_toList, size_zeroCells, T.hzs]
      omega
    · show List.take (L.length * k) (List.take (L.length * k) cur.toList ++ (_ ++ _)) = _
      rw [List.take_append_of_le_length (by simp only [List.length_take, Array.length_toList]; omega), List.take_take, Nat.min_self]
      exact e7
theorem wpList_clear_gb (T : RowT P enc k t e z bytes) (hz1 : ∀ u ∈ z.cells.toList, u.oneCell' = true) {ops : Array Oper} {rest : List Oper} {o : Oper} {a : Act} {Q : Exit → Act → World → Prop} {w : World} (hgd : o.guard = none) (x : Operand)
    (ho : o.op = .call { callee := .builtin .clear, args := #[x], argTypes := #[t] }) (base q n cap : Nat) (L : List α) (off m c : Nat) (hx : a.eval x = .slice (some ⟨q, off, none⟩) m c) (ho2 : off = n * k) (hn : L.length = n) (hown : GB enc k e w base (.slice (some ⟨q, 0, none⟩) n cap) L) (hm : 0 < m) (hfit : n + m ≤ cap)
    (h : ∀ w', GB enc k e w' base (.slice (some ⟨q, 0, none⟩) n cap) L → w.grownBy w' (some q) → wpList P ops Q rest (a.put o.dst (.tuple #[])) w') : wpList P ops Q (o :: rest) a w := by
  subst ho2
  obtain ⟨w', hr, h2, h3⟩ := run_clear_gb T hz1 o.type hn hown m c hm hfit
  refine wpList_plain hgd fun K hK => ?_
  unfold Oper.wp execOp
  simp only [ho, resolve, invoke, builtin, Sem.run_bind, Sem.run_pure, Result.andThen_ok, List.map_toArray, List.map_cons, List.map_nil, hx, hr]
  exact hK _ _ (h w' h2 h3)
end
theorem spz_one : ∀ u ∈ (Value.agg #[.int .u64 0, .int .u64 0, .int .u64 0, .int .u64 0, .string ByteArray.empty, .int .i64 0, .int .i64 0, .int .i64 0, .bool false, .int .i64 0, .int .i64 0]).cells.toList, u.oneCell' = true := fun u hu => by
  simp [Value.cells] at hu
  rcases hu with rfl | rfl | rfl | rfl | rfl <;> rfl
end Go.Proofs.Ytpfhmpblcmednaa
