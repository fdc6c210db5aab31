/- Texts put together: Ac Bo Bq. -/
import Derived.Test.YtpfhmpblcmednaaD02
import Derived.Test.YtpfhmpblcmednaaD17
import Derived.Test.YtpfhmpblcmednaaD24
import Derived.Laws.StructEq
import Derived.BigQuiet
namespace Go.Proofs.Ytpfhmpblcmednaa
set_option linter.unusedVariables false
set_option linter.unusedSimpArgs false
open Go.RowKit Go.ChangeShapes Go.WideShapes Go.Deep Go.Joins

/-- A span as its cells. -/
def spv (s : Sp) : List Value := [.int .u64 (s.hi : Int), .int .u64 (s.lo : Int), .int .u64 (s.id : Int), .int .u64 (s.up : Int), .string (bs s.name), .int .i64 s.status, .int .i64 s.seq, .int .i64 s.kids, .bool s.shade, .int .i64 s.start, .int .i64 s.fin]
def encO (o : Opn) : List Value := [.int .i64 o.1, .int .u64 (o.2.hi : Int), .int .u64 (o.2.lo : Int), .int .u64 (o.2.id : Int), .int .u64 (o.2.up : Int), .string (bs o.2.name), .int .i64 o.2.status, .int .i64 o.2.seq, .int .i64 o.2.kids, .bool o.2.shade, .int .i64 o.2.start, .int .i64 o.2.fin]
theorem encO_len (o : Opn) : (encO o).length = 12 := rfl
/-- A slice of open spans, as a value that can be read. -/
def OV (w : World) (v : Value) (L : List Opn) : Prop := ∃ A c, v = .slice A L.length c ∧ GX encO 12 w (· < w.heap.size) A L ∧ L.length ≤ c ∧ c ≤ maxLen ∧ (A = none → c = 0)
theorem OV.up {w w' : World} {v : Value} {L : List Opn} (h : OV w v L) (hb : Below w.heap.size w w') : OV w' v L := by
  obtain ⟨A, c, e, h1, h2⟩ := h
  exact ⟨A, c, e, h1.up hb, h2⟩
theorem OV.nil (w : World) : OV w (.slice none 0 0) [] := ⟨none, 0, rfl, GX.nil _ _ _, Nat.le_refl _, by unfold maxLen; omega, fun _ => rfl⟩
section
variable {α : Type} {enc : α → List Value} {k : Nat} {e : TypeId} {P : Program} {t : TypeId} {z : Value} {bytes : Nat}
/-- append to a slice that has no room: a new row. -/
theorem run_append_full (T : RowT P enc k t e z bytes) {w : World} {N N2 : Nat → Prop} {A : Option Addr} {L M : List α} {b cap : Nat} (ty : TypeId) (hA : GX enc k w N A L) (hR : GX enc k w N2 (some ⟨b, 0, none⟩) M) (hm : 0 < M.length) (hl : L.length + M.length ≤ 10000000) :
    ∃ v' w', (Builtin.append_ #[t, t] ty #[.slice A L.length L.length, .slice (some ⟨b, 0, none⟩) M.length cap]).run P w = .ok v' w' ∧ GB enc k e w' w.heap.size v' (L ++ M) ∧ w.grownBy w' none := by
  obtain ⟨i0, hi, hz0, hz1, hz2⟩ := info_parts T.inf
  have hby : (L.length + M.length) * bytes ≤ 140737488355328 := Nat.le_trans (Nat.mul_le_mul hl T.hb) (by omega)
  have hlM := gvals_len enc k T.hk M
  have hlL := gvals_len enc k T.hk L
  have fin : ∀ old, old < L.length + M.length → GB enc k e (w.drew.alloc (.cells ((gvals enc L).toArray ++ (gvals enc M).toArray ++ Builtin.zeroCells z.cells (grownCap w (L.length + M.length) old e - (L.length + M.length))) e)) w.heap.size (.slice (some ⟨w.heap.size, 0, none⟩) (L.length + M.length) (grownCap w (L.length + M.length) old e)) (L ++ M) ∧ w.grownBy (w.drew.alloc (.cells ((gvals enc L).toArray ++ (gvals enc M).toArray ++ Builtin.zeroCells z.cells (grownCap w (L.length + M.length) old e - (L.length + M.length))) e)) none := by
    intro old ho
    have hge := grownCap_ge w (L.length + M.length) old e
    have hcm : grownCap w (L.length + M.length) old e ≤ maxLen := grownCap_le_maxLen w _ old e (by unfold maxLen; omega)
    have hlen : (gvals enc L ++ gvals enc M).length = (L.length + M.length) * k := by rw [List.length_append, hlL, hlM, Nat.add_mul]
    refine ⟨?_, rfl, rfl, rfl, by simp, fun j hj _ => heap_alloc_old w.drew _ hj⟩
    unfold GB
    rw [List.length_append, ← gvals_append]
    refine ⟨hlen, .inr ⟨w.heap.size, _, _, rfl, Nat.le_refl _, heap_alloc_new w.drew _, hge, hcm, ?_, ?_⟩⟩
    · simp only [Array.size_append, List.size_toArray, size_zeroCells, T.hzs, hlL, hlM, ← Nat.add_mul]
      congr 1
      omega
    · simp only [Array.toList_append, List.append_assoc]
      rw [← List.append_assoc, ← hlen]
      exact List.take_left
  rcases A with _ | a
  · have h0 : L = [] := by
      rcases L with _ | ⟨x, r⟩
      · rfl
      · obtain ⟨_, _, h, _⟩ := hA 0 (by simp)
        cases h
    subst h0
    have hr := run_append_nil (P := P) w t ty e i0 z T.ht hi hz0 ⟨b, 0, none⟩ M.length cap (gvals enc M) (by rw [hlM, hz1]) (GX.cell T.hk hR) hm (by omega) (by rw [hz2]; simp only [List.length_nil, Nat.zero_add] at hby; omega)
    have hf := fin 0 (by simpa using hm)
    simp only [List.length_nil, Nat.zero_add] at hf ⊢
    refine ⟨_, _, hr, ?_⟩
    simpa [gvals] using hf
  · have hco : ∀ j u, (gvals enc L)[j]? = some u → w.cell? (a.add j) = some u := by
      rcases L with _ | ⟨x, r⟩
      · intro j u hj
        simp [gvals] at hj
      · obtain ⟨b2, o2, h, _⟩ := hA 0 (by simp)
        injection h with h
        subst h
        exact GX.cell T.hk hA
    have hr := run_append_grow (P := P) w t ty e i0 z T.ht hi hz0 a L.length L.length (gvals enc L) (by rw [hlL, hz1]) hco ⟨b, 0, none⟩ M.length cap (gvals enc M) (by rw [hlM, hz1]) (GX.cell T.hk hR) (by omega) (by omega) (growslice_fits (by omega) (by rw [hz2]; exact hby))
    exact ⟨_, _, hr, fin L.length (by omega)⟩
theorem step_append_full (T : RowT P enc k t e z bytes) {ops : Array Oper} {o : Oper} {a : Act} {K : Act → World → Prop} {Q : Exit → Act → World → Prop} {E : Prop} {w : World} (hgd : o.guard = none) (s x : Operand)
    (ho : o.op = .call { callee := .builtin .append, args := #[s, x], argTypes := #[t, t] }) {A : Option Addr} {n : Nat} {L M : List α} {b cap : Nat} {N N2 : Nat → Prop}
    (hs : a.eval s = .slice A n n) (hn : L.length = n) (hA : GX enc k w N A L) (hx : a.eval x = .slice (some ⟨b, 0, none⟩) M.length cap) (hR : GX enc k w N2 (some ⟨b, 0, none⟩) M) (hm : 0 < M.length) (hl : L.length + M.length ≤ 10000000)
    (h : ∀ v' w', GB enc k e w' w.heap.size v' (L ++ M) → w.grownBy w' none → K (a.put o.dst v') w') :
    if Region.wanted o (yielded ops a.tmps) = true then Oper.wp P o a w K Q else E := by
  have hw : Region.wanted o (yielded ops a.tmps) = true := by simp [Region.wanted, hgd]
  rw [if_pos hw]
  subst hn
  obtain ⟨v', w', hr, h2, h3⟩ := run_append_full (cap := cap) T o.type hA hR hm hl
  unfold Oper.wp execOp
  simp only [ho, resolve, invoke, builtin, Sem.run_bind, Sem.run_pure, Result.andThen_ok, List.map_toArray, List.map_cons, List.map_nil, hs, hx, hr]
  exact h v' w' h2 h3
end
section
variable {H : Type} {enc : TypeId × Value → H} {P : Program} {w : World} {base : Nat}
theorem opn_of {ot t tr q i u bo : TypeId} {f0 f1 f2 f3 f4 f5 f6 f7 f8 f9 g0 g1 k0 k1 : Field} (T : SpT P t tr q i u bo f0 f1 f2 f3 f4 f5 f6 f7 f8 f9 g0 g1) (hot : P.underlying ot = some (.struct #[k0, k1])) (hC : P.cellsOf ot = 12) (hk : k0.type = i ∧ k1.type = t ∧ k0.offset = 0 ∧ k1.offset = 1) {sp : Nat → Bool} {hd : Bool} {fuel : Nat} {cs : List Value} {x : DataW H × List MemPlace}
    (h : DataW.trod enc P w base sp hd fuel ot cs = some x) (hz : Sized P ot x.1) : ∃ o : Opn, okSp o.2 ∧ cs = encO o := by
  obtain ⟨xs, n, _, hx, hl, hlen, hgg⟩ := DataW.trod_struct hot h
  rw [hC] at hl
  obtain ⟨t0, t1, o0, o1⟩ := hk
  match cs, hl, xs, hlen with
  | [c0, c1, c2, c3, c4, c5, c6, c7, c8, c9, c10, c11], _, [y0, y1], _ =>
    have h0 := hgg 0 k0 rfl
    have h1 := hgg 1 k1 rfl
    rw [t0, o0, T.ci] at h0
    rw [t1, o1, T.ct] at h1
    rw [hx] at hz
    have z1 := sized_part hz hot (j := 1) (f := k1) (d := y1.1) rfl rfl
    rw [t1] at z1
    obtain ⟨n0, m0, _, _⟩ := DataW.trod_int T.hi h0
    obtain ⟨s, hs, hc⟩ := span_of T h1 z1
    refine ⟨(n0, s), hs, ?_⟩
    have m0' : c0 = .int .i64 n0 := by simpa using m0
    have hc' : [c1, c2, c3, c4, c5, c6, c7, c8, c9, c10, c11] = spv s := by simpa [spv] using hc
    rw [m0', hc']
    rfl
instance : Inhabited Opn := ⟨(0, sp0)⟩
theorem open_OPS {ts ot t tr q i u bo : TypeId} {f0 f1 f2 f3 f4 f5 f6 f7 f8 f9 g0 g1 k0 k1 : Field} (T : SpT P t tr q i u bo f0 f1 f2 f3 f4 f5 f6 f7 f8 f9 g0 g1) (hot : P.underlying ot = some (.struct #[k0, k1])) (hC : P.cellsOf ot = 12) (hk : k0.type = i ∧ k1.type = t ∧ k0.offset = 0 ∧ k1.offset = 1) (hts : P.underlying ts = some (.slice ot))
    {A0 : Option Addr} {n0 c0 : Nat} {d : DataW H} {p : List MemPlace} (hz : Sized P ts d) (h : DataW.Trod enc P w base (fun _ => true) true ts (.slice A0 n0 c0) d p) :
    ∃ L : List Opn, OV w (.slice A0 n0 c0) L ∧ ∀ o ∈ L, okSp o.2 := by
  obtain ⟨fuel, hf⟩ := h
  rcases open_slice hts hf with ⟨h0, _⟩ | ⟨a, len, cap, m, n, D, Pl, hcs, _, hl, hm, hmm, hx0, hx⟩
  · have e' : Value.slice A0 n0 c0 = .slice none 0 0 := by simpa [Value.cells] using h0
    rw [e']
    exact ⟨[], OV.nil w, by simp⟩
  · simp only [if_true] at hmm
    subst hmm
    have hx0' : d = (.slice ((List.range len).map D) ((List.range (m - len)).map fun j => D (len + j))) := congrArg Prod.fst hx0
    rw [hx0'] at hz
    have each : ∀ i, i < len → ∃ o : Opn, okSp o.2 ∧ ∃ cs', w.cells? base (a.add (i * 12)) 12 = some cs' ∧ cs' = encO o := fun i hi => by
      obtain ⟨cs', h1, h2⟩ := hx i (by omega)
      rw [hC] at h1
      obtain ⟨s, hs, hc⟩ := opn_of T hot hC hk h2 (hz.elem hts (d := D i) (List.mem_map.2 ⟨i, List.mem_range.2 hi, rfl⟩))
      exact ⟨s, hs, cs', h1, hc⟩
    obtain ⟨F, hF⟩ := choose_lt each
    have hlen : ((List.range len).map F).length = len := by simp
    have e' : Value.slice A0 n0 c0 = .slice (some a) len m := by simpa [Value.cells] using hcs
    rw [e']
    refine ⟨(List.range len).map F, ⟨some a, m, by rw [hlen], fun k hk => ?_, by rw [hlen]; exact hl, hm, fun h => by cases h⟩, fun s hs => ?_⟩
    · rw [hlen] at hk
      obtain ⟨_, cs', h1, h2⟩ := hF k hk
      obtain ⟨_, hl', hcell⟩ := World.cells?_some h1
      obtain ⟨_, cs0, y1, y2⟩ := hF 0 (by omega)
      obtain ⟨_, _, ycell⟩ := World.cells?_some y1
      have hc00 := ycell 0 (by omega)
      rw [y2] at hc00
      have hpl := plain_of_cell hc00
      simp only [Nat.zero_mul, Addr.add, if_true] at hpl
      have hat : ∀ j, j < 12 → w.cell? ⟨a.block, a.off + (k * 12 + j), none⟩ = cs'[j]? := fun j hj => by
        have := hcell j hj
        rw [hpl, add_add, Addr.add_lit] at this
        exact this
      have hlt : a.block < w.heap.size := lt_of_cell (a := ⟨a.block, a.off + (k * 12 + 0), none⟩) (by rw [hat 0 (by omega), h2]; rfl)
      simp only [List.getElem_map, List.getElem_range]
      refine ⟨a.block, a.off, by rw [← hpl], hlt, fun j hj => ?_⟩
      rw [hat j hj, h2]
    · obtain ⟨i, hi, rfl⟩ := List.mem_map.1 hs
      exact (hF i (List.mem_range.1 hi)).1
theorem arr3_three {cs : Array Value} (h : cs.size = 3) : ∃ a b c, cs = #[a, b, c] := by
  obtain ⟨l⟩ := cs
  match l, h with
  | [a, b, c], _ => exact ⟨a, b, c, rfl⟩
theorem open_R3 {r : Reach} {b0 : Nat} {t e : TypeId} {v : Value} {d : DataW H} {p : List MemPlace} (ht : P.underlying t = some (.array 3 e)) (he : P.underlying e = some (.int .i64)) (hce : P.cellsOf e = 1) (hC : P.cellsOf t = 3)
    (hv : Value.okWide P w r b0 t v) (h : DataW.Trod enc P w base (fun _ => true) true t v d p) :
    ∃ a b c : Int, v = .agg #[.int .i64 a, .int .i64 b, .int .i64 c] := by
  obtain ⟨cs, rfl, hsz⟩ := okWide_arr ht hv
  obtain ⟨c0, c1, c2, rfl⟩ := arr3_three (hsz.trans hC)
  obtain ⟨fuel, hf⟩ := h
  obtain ⟨xs, m, _, _, _, hl, hi⟩ := DataW.trod_array ht hf
  have h0 := hi 0 (by omega)
  have h1 := hi 1 (by omega)
  have h2 := hi 2 (by omega)
  rw [List.getElem?_eq_getElem (by omega)] at h0 h1 h2
  simp only [hce, Value.cells] at h0 h1 h2
  obtain ⟨n0, e0, _, w0⟩ := DataW.trod_int he h0
  obtain ⟨n1, e1, _, w1⟩ := DataW.trod_int he h1
  obtain ⟨n2, e2, _, w2⟩ := DataW.trod_int he h2
  have e0' : c0 = .int .i64 n0 := by simpa using e0
  have e1' : c1 = .int .i64 n1 := by simpa using e1
  have e2' : c2 = .int .i64 n2 := by simpa using e2
  exact ⟨n0, n1, n2, by rw [e0', e1', e2']⟩
end
theorem ops_guard (op : BinOp) (p q : Operand) (xs ys : Array Value) (w : World) : (eqGuard op 37 p q (.agg xs) (.agg ys)).run Try.prog w = .ok () w := run_eqGuard_agg w op _ p q xs ys (by kernel_rfl)
theorem opt_self (k : Nat) (w : World) (a b : Nat) : (Op.equalIn (k + 2) 35 (.agg #[.int .u64 (a : Int), .int .u64 (b : Int)]) (.agg #[.int .u64 (a : Int), .int .u64 (b : Int)])).run Try.prog w = .ok true w := by
  have us := Try.underlying33
  have asx := Try.isAgg33
  have zs := Try.sizeOf33
  rw [run_equalIn_agg w (k + 1) _ _ _ (by kernel_rfl) (by kernel_rfl)]
  simp only [Program.fieldsOf, Try.underlying35]
  go_simp
theorem ops_eqIn (k : Nat) (w : World) (a b c d : Nat) (nm : List UInt8) (st sq kd : Int) (sh : Bool) (x y : Int) : (Op.equalIn (k + 3) 37 (.agg #[.int .u64 (a : Int), .int .u64 (b : Int), .int .u64 (c : Int), .int .u64 (d : Int), .string (bs nm), .int .i64 st, .int .i64 sq, .int .i64 kd, .bool sh, .int .i64 x, .int .i64 y]) (.agg #[.int .u64 (a : Int), .int .u64 (b : Int), .int .u64 (c : Int), .int .u64 (d : Int), .string (bs nm), .int .i64 st, .int .i64 sq, .int .i64 kd, .bool sh, .int .i64 x, .int .i64 y])).run Try.prog w = .ok true w := by
  have us := Try.underlying33
  have asx := Try.isAgg33
  have zs := Try.sizeOf33
  have us2 := Try.underlying3
  have as2 := Try.isAgg3
  have zs2 := Try.sizeOf3
  have us3 := Try.underlying35
  have as3 := Try.isAgg35
  have zs3 := Try.sizeOf35
  have us4 := Try.underlying9
  have as4 := Try.isAgg9
  have zs4 := Try.sizeOf9
  have us5 := Try.underlying4
  have as5 := Try.isAgg4
  have zs5 := Try.sizeOf4
  have ht := opt_self k w a b
  rw [run_equalIn_agg w (k + 2) _ _ _ (by kernel_rfl) (by kernel_rfl)]
  simp only [Program.fieldsOf, Try.underlying37]
  go_simp
theorem ops_eql (w : World) (s : Sp) : (binOp .eql 37 (.agg #[.int .u64 (s.hi : Int), .int .u64 (s.lo : Int), .int .u64 (s.id : Int), .int .u64 (s.up : Int), .string (bs s.name), .int .i64 s.status, .int .i64 s.seq, .int .i64 s.kids, .bool s.shade, .int .i64 s.start, .int .i64 s.fin]) (.agg #[.int .u64 (s.hi : Int), .int .u64 (s.lo : Int), .int .u64 (s.id : Int), .int .u64 (s.up : Int), .string (bs s.name), .int .i64 s.status, .int .i64 s.seq, .int .i64 s.kids, .bool s.shade, .int .i64 s.start, .int .i64 s.fin])).run Try.prog w = .ok (.bool true) w := by
  rw [run_eql_struct, show (10000 : Nat) = 9997 + 3 from rfl, ops_eqIn]; rfl
end Go.Proofs.Ytpfhmpblcmednaa
namespace Go.Proofs.Ytpfhmpblcmednaa
set_option linter.unusedVariables false
set_option linter.unusedSimpArgs false
open Go.RowKit Go.ChangeShapes Go.WideShapes Go.Deep Go.Joins

def encSp (s : Sp) : List Value := [.int .u64 (s.hi : Int), .int .u64 (s.lo : Int), .int .u64 (s.id : Int), .int .u64 (s.up : Int), .string (bs s.name), .int .i64 s.status, .int .i64 s.seq, .int .i64 s.kids, .bool s.shade, .int .i64 s.start, .int .i64 s.fin]
theorem encSp_len (s : Sp) : (encSp s).length = 11 := rfl
theorem encSp_one (s : Sp) : ∀ u ∈ encSp s, u.oneCell' = true := fun u hu => by
  simp [encSp] at hu
  rcases hu with rfl | rfl | rfl | rfl | rfl | rfl | rfl | rfl | rfl | rfl | rfl <;> rfl
theorem rowSp : RowT Try.prog encSp 11 43 37 (.agg #[.int .u64 0, .int .u64 0, .int .u64 0, .int .u64 0, .string ByteArray.empty, .int .i64 0, .int .i64 0, .int .i64 0, .bool false, .int .i64 0, .int .i64 0]) 96 where
  ht := Try.underlying43
  inf := by kernel_rfl
  hzs := rfl
  k0 := by decide
  hk := encSp_len
  h1 := encSp_one
  hb := by decide
/-- A move: a span, and how many are taken. -/
def encBM (m : Sp × Int) : List Value := [.int .u64 (m.1.hi : Int), .int .u64 (m.1.lo : Int), .int .u64 (m.1.id : Int), .int .u64 (m.1.up : Int), .string (bs m.1.name), .int .i64 m.1.status, .int .i64 m.1.seq, .int .i64 m.1.kids, .bool m.1.shade, .int .i64 m.1.start, .int .i64 m.1.fin, .int .i64 m.2]
theorem encBM_len (m : Sp × Int) : (encBM m).length = 12 := rfl
/-- A list of rows of k cells, as a value that can be read. -/
def RwV {α : Type} (enc : α → List Value) (k : Nat) (w : World) (N : Nat → Prop) (v : Value) (L : List α) : Prop := ∃ A c, v = .slice A L.length c ∧ GX enc k w N A L ∧ L.length ≤ c ∧ c ≤ maxLen ∧ (A = none → c = 0)
section
variable {α : Type} {enc : α → List Value} {k : Nat} {w w' : World} {N M : Nat → Prop} {v : Value} {L : List α}
theorem RwV.same (h : RwV enc k w N v L) (hs : ∀ b, N b → w'.heap[b]? = w.heap[b]?) : RwV enc k w' N v L := by
  obtain ⟨A, c, e, h1, h2⟩ := h
  exact ⟨A, c, e, h1.same hs, h2⟩
theorem RwV.imp (h : RwV enc k w N v L) (hn : ∀ b, N b → M b) : RwV enc k w M v L := by
  obtain ⟨A, c, e, h1, h2⟩ := h
  exact ⟨A, c, e, h1.imp hn, h2⟩
theorem RwV.up (h : RwV enc k w (· < w.heap.size) v L) (hb : Below w.heap.size w w') : RwV enc k w' (· < w'.heap.size) v L := by
  obtain ⟨A, c, e, h1, h2⟩ := h
  exact ⟨A, c, e, h1.up hb, h2⟩
theorem RwV.nil (w : World) (N : Nat → Prop) : RwV enc k w N (.slice none 0 0) [] := ⟨none, 0, rfl, GX.nil _ _ _, Nat.le_refl _, Nat.zero_le _, fun _ => rfl⟩
theorem RwV.of_gb {e : TypeId} {base : Nat} (hk : ∀ x, (enc x).length = k) (h : GB enc k e w base v L) : RwV enc k w (fun b => base ≤ b ∧ b < w.heap.size) v L := by
  obtain ⟨A, c, e, h1, h2, h3, h4⟩ := GB.reads hk h
  exact ⟨A, c, e, h1, h3, h4, h2⟩
end
section
variable {H : Type} {enc : TypeId × Value → H} {P : Program} {w : World} {base : Nat}
/-- A slice of rows, opened: what each row's cells are is told by f. -/
theorem open_rows {α : Type} [Inhabited α] {en : α → List Value} {k : Nat} (hk0 : 0 < k) (hk : ∀ x, (en x).length = k) {ok : α → Prop} {ts t : TypeId} (hts : P.underlying ts = some (.slice t)) (hC : P.cellsOf t = k)
    (f : ∀ (fuel : Nat) (cs : List Value) (x : DataW H × List MemPlace), DataW.trod enc P w base (fun _ => true) true fuel t cs = some x → Sized P t x.1 → ∃ y : α, ok y ∧ cs = en y)
    {A0 : Option Addr} {n0 c0 : Nat} {d : DataW H} {p : List MemPlace} (hz : Sized P ts d) (h : DataW.Trod enc P w base (fun _ => true) true ts (.slice A0 n0 c0) d p) :
    ∃ L : List α, RwV en k w (· < w.heap.size) (.slice A0 n0 c0) L ∧ ∀ y ∈ L, ok y := by
  obtain ⟨fuel, hf⟩ := h
  rcases open_slice hts hf with ⟨h0, _⟩ | ⟨a, len, cap, m, n, D, Pl, hcs, _, hl, hm, hmm, hx0, hx⟩
  · have e' : Value.slice A0 n0 c0 = .slice none 0 0 := by simpa [Value.cells] using h0
    rw [e']
    exact ⟨[], RwV.nil w _, by simp⟩
  · simp only [if_true] at hmm
    subst hmm
    have hx0' : d = (.slice ((List.range len).map D) ((List.range (m - len)).map fun j => D (len + j))) := congrArg Prod.fst hx0
    rw [hx0'] at hz
    have each : ∀ i, i < len → ∃ o : α, ok o ∧ ∃ cs', w.cells? base (a.add (i * k)) k = some cs' ∧ cs' = en o := fun i hi => by
      obtain ⟨cs', h1, h2⟩ := hx i (by omega)
      rw [hC] at h1
      obtain ⟨s, hs, hc⟩ := f _ _ _ h2 (hz.elem hts (d := D i) (List.mem_map.2 ⟨i, List.mem_range.2 hi, rfl⟩))
      exact ⟨s, hs, cs', h1, hc⟩
    obtain ⟨F, hF⟩ := choose_lt each
    have hlen : ((List.range len).map F).length = len := by simp
    have e' : Value.slice A0 n0 c0 = .slice (some a) len m := by simpa [Value.cells] using hcs
    rw [e']
    refine ⟨(List.range len).map F, ⟨some a, m, by rw [hlen], fun i hi => ?_, by rw [hlen]; exact hl, hm, fun h => by cases h⟩, fun s hs => ?_⟩
    · rw [hlen] at hi
      obtain ⟨_, cs', h1, h2⟩ := hF i hi
      obtain ⟨_, hl', hcell⟩ := World.cells?_some h1
      obtain ⟨_, cs0, y1, y2⟩ := hF 0 (by omega)
      obtain ⟨_, _, ycell⟩ := World.cells?_some y1
      have hsome : ∀ (o : α), ∃ u, (en o)[0]? = some u := fun o => ⟨_, List.getElem?_eq_getElem (by rw [hk]; exact hk0)⟩
      obtain ⟨u0, hu0⟩ := hsome (F 0)
      have hc00 := ycell 0 hk0
      rw [y2, hu0] at hc00
      have hpl := plain_of_cell hc00
      simp only [Nat.zero_mul, Addr.add, if_true] at hpl
      have hat : ∀ j, j < k → w.cell? ⟨a.block, a.off + (i * k + j), none⟩ = cs'[j]? := fun j hj => by
        have := hcell j hj
        rw [hpl, add_add, Addr.add_lit] at this
        exact this
      obtain ⟨u1, hu1⟩ := hsome (F i)
      have hlt : a.block < w.heap.size := lt_of_cell (a := ⟨a.block, a.off + (i * k + 0), none⟩) (by rw [hat 0 hk0, h2]; exact hu1)
      simp only [List.getElem_map, List.getElem_range]
      refine ⟨a.block, a.off, by rw [← hpl], hlt, fun j hj => ?_⟩
      rw [hat j hj, h2]
    · obtain ⟨i, hi, rfl⟩ := List.mem_map.1 hs
      exact (hF i (List.mem_range.1 hi)).1
instance : Inhabited Sp := ⟨sp0⟩
theorem open_SPL {ts t tr q i u bo : TypeId} {f0 f1 f2 f3 f4 f5 f6 f7 f8 f9 g0 g1 : Field} (T : SpT P t tr q i u bo f0 f1 f2 f3 f4 f5 f6 f7 f8 f9 g0 g1) (hts : P.underlying ts = some (.slice t))
    {A0 : Option Addr} {n0 c0 : Nat} {d : DataW H} {p : List MemPlace} (hz : Sized P ts d) (h : DataW.Trod enc P w base (fun _ => true) true ts (.slice A0 n0 c0) d p) :
    ∃ L : List Sp, RwV encSp 11 w (· < w.heap.size) (.slice A0 n0 c0) L ∧ ∀ s ∈ L, okSp s :=
  open_rows (by decide) encSp_len hts T.ct (fun fuel cs x h hz => span_of T h hz) hz h
theorem bm_of {mt t tr q i u bo : TypeId} {f0 f1 f2 f3 f4 f5 f6 f7 f8 f9 g0 g1 k0 k1 : Field} (T : SpT P t tr q i u bo f0 f1 f2 f3 f4 f5 f6 f7 f8 f9 g0 g1) (hmt : P.underlying mt = some (.struct #[k0, k1])) (hC : P.cellsOf mt = 12) (hk : k0.type = t ∧ k1.type = i ∧ k0.offset = 0 ∧ k1.offset = 11) {sp : Nat → Bool} {hd : Bool} {fuel : Nat} {cs : List Value} {x : DataW H × List MemPlace}
    (h : DataW.trod enc P w base sp hd fuel mt cs = some x) (hz : Sized P mt x.1) : ∃ m : Sp × Int, okSp m.1 ∧ cs = encBM m := by
  obtain ⟨xs, n, _, hx, hl, hlen, hgg⟩ := DataW.trod_struct hmt h
  rw [hC] at hl
  obtain ⟨t0, t1, o0, o1⟩ := hk
  match cs, hl, xs, hlen with
  | [c0, c1, c2, c3, c4, c5, c6, c7, c8, c9, c10, c11], _, [y0, y1], _ =>
    have h0 := hgg 0 k0 rfl
    have h1 := hgg 1 k1 rfl
    rw [t0, o0, T.ct] at h0
    rw [t1, o1, T.ci] at h1
    rw [hx] at hz
    have z0 := sized_part hz hmt (j := 0) (f := k0) (d := y0.1) rfl rfl
    rw [t0] at z0
    obtain ⟨n1, m1, _, _⟩ := DataW.trod_int T.hi h1
    obtain ⟨s, hs, hc⟩ := span_of T h0 z0
    refine ⟨(s, n1), hs, ?_⟩
    have m1' : c11 = .int .i64 n1 := by simpa using m1
    have hc' : [c0, c1, c2, c3, c4, c5, c6, c7, c8, c9, c10] = encSp s := by simpa [encSp] using hc
    have e : encBM (s, n1) = encSp s ++ [.int .i64 n1] := rfl
    rw [e, m1', ← hc']
    rfl
theorem open_BMS {ts mt t tr q i u bo : TypeId} {f0 f1 f2 f3 f4 f5 f6 f7 f8 f9 g0 g1 k0 k1 : Field} (T : SpT P t tr q i u bo f0 f1 f2 f3 f4 f5 f6 f7 f8 f9 g0 g1) (hmt : P.underlying mt = some (.struct #[k0, k1])) (hC : P.cellsOf mt = 12) (hk : k0.type = t ∧ k1.type = i ∧ k0.offset = 0 ∧ k1.offset = 11) (hts : P.underlying ts = some (.slice mt))
    {A0 : Option Addr} {n0 c0 : Nat} {d : DataW H} {p : List MemPlace} (hz : Sized P ts d) (h : DataW.Trod enc P w base (fun _ => true) true ts (.slice A0 n0 c0) d p) :
    ∃ L : List (Sp × Int), RwV encBM 12 w (· < w.heap.size) (.slice A0 n0 c0) L ∧ ∀ m ∈ L, okSp m.1 :=
  haveI : Inhabited (Sp × Int) := ⟨(sp0, 0)⟩
  open_rows (by decide) encBM_len hts hC (fun fuel cs x h hz => bm_of T hmt hC hk h hz) hz h
end
end Go.Proofs.Ytpfhmpblcmednaa
namespace Go.Proofs.Ytpfhmpblcmednaa
set_option linter.unusedVariables false
set_option linter.unusedSimpArgs false
open Go.RowKit Go.Joins

/-- The cells of one row. -/
theorem sp_cells {w : World} {N : Nat → Prop} {A : Option Addr} {L : List Sp} (h : GX encSp 11 w N A L) {i : Nat} {s : Sp} (hu : L[i]? = some s) : ∃ b p, A = some ⟨b, p, none⟩ ∧ N b ∧
    w.cell? ⟨b, p + i * 11, none⟩ = some (.int .u64 (s.hi : Int)) ∧ w.cell? ⟨b, p + i * 11 + 1, none⟩ = some (.int .u64 (s.lo : Int)) ∧ w.cell? ⟨b, p + i * 11 + 2, none⟩ = some (.int .u64 (s.id : Int)) ∧ w.cell? ⟨b, p + i * 11 + 3, none⟩ = some (.int .u64 (s.up : Int)) ∧ w.cell? ⟨b, p + i * 11 + 4, none⟩ = some (.string (bs s.name)) ∧
    w.cell? ⟨b, p + i * 11 + 5, none⟩ = some (.int .i64 s.status) ∧ w.cell? ⟨b, p + i * 11 + 6, none⟩ = some (.int .i64 s.seq) ∧ w.cell? ⟨b, p + i * 11 + 7, none⟩ = some (.int .i64 s.kids) ∧ w.cell? ⟨b, p + i * 11 + 8, none⟩ = some (.bool s.shade) ∧ w.cell? ⟨b, p + i * 11 + 9, none⟩ = some (.int .i64 s.start) ∧ w.cell? ⟨b, p + i * 11 + 10, none⟩ = some (.int .i64 s.fin) := by
  obtain ⟨hi, rfl⟩ := List.getElem?_eq_some_iff.1 hu
  obtain ⟨b, p, e, h1, h2⟩ := h i hi
  exact ⟨b, p, e, h1, h2 0 (by omega), h2 1 (by omega), h2 2 (by omega), h2 3 (by omega), h2 4 (by omega), h2 5 (by omega), h2 6 (by omega), h2 7 (by omega), h2 8 (by omega), h2 9 (by omega), h2 10 (by omega)⟩
theorem sps_neq (w : World) (s : Sp) : (binOp .neq 37 (.agg #[.int .u64 (s.hi : Int), .int .u64 (s.lo : Int), .int .u64 (s.id : Int), .int .u64 (s.up : Int), .string (bs s.name), .int .i64 s.status, .int .i64 s.seq, .int .i64 s.kids, .bool s.shade, .int .i64 s.start, .int .i64 s.fin]) (.agg #[.int .u64 (s.hi : Int), .int .u64 (s.lo : Int), .int .u64 (s.id : Int), .int .u64 (s.up : Int), .string (bs s.name), .int .i64 s.status, .int .i64 s.seq, .int .i64 s.kids, .bool s.shade, .int .i64 s.start, .int .i64 s.fin])).run Try.prog w = .ok (.bool false) w := by
  rw [run_neq_struct, show (10000 : Nat) = 9997 + 3 from rfl, ops_eqIn]; rfl
set_option maxRecDepth 100000 in
set_option maxHeartbeats 4000000 in
/-- Same of lists that are alike. -/
theorem spsame_lit (A B : Option Addr) (ca cb n : Nat) (L : List Sp) (w : World) (hA : GX encSp 11 w (· < w.heap.size) A L) (hB : GX encSp 11 w (· < w.heap.size) B L) (hn : Hid (L.length = n)) (hl0 : n ≤ 1000000) :
    Calls Try.prog 21 #[.slice A n ca, .slice B n cb] w fun e w' => e = .returned (.bool true) ∧ Below w.heap.size w w' := by
  have HA := hid hA
  have HBr := hid hB
  have HNl := hid hn.out
  have hg := ops_guard
  have hq := sps_neq
  clear hA hB hn
  go_enter Try.func21, Try.ntmps21
  go_wp2_with fail
  go_loopw [5] (fun i wr => ∃ k : Nat, k ≤ n ∧ i = .int .i64 k ∧ Hid (Below w.heap.size w wr)) (fun i _ => n - (intOf i).toNat)
  case atStart => exact ⟨0, by omega, rfl, hid (Below.refl _ _)⟩
  case round =>
    obtain ⟨k, hk, rfl, HK⟩ := hrel
    by_cases hlt : k < n
    · have hkL : k < L.length := by have := HNl.out; omega
      obtain ⟨b, o, rfl, -, r0, r1, r2, r3, r4, r5, r6, r7, r8, r9, r10⟩ := sp_cells (HA.out.up HK.out) (List.getElem?_eq_getElem hkL)
      obtain ⟨b2, o2, rfl, -, s0, s1, s2, s3, s4, s5, s6, s7, s8, s9, s10⟩ := sp_cells (HBr.out.up HK.out) (List.getElem?_eq_getElem hkL)
      generalize L[k] = s at *
      have hi0 : (0 : Int) ≤ (k : Int) := by omega
      have hi1 : (k : Int) < (n : Int) := by omega
      go_wp2_with fail
      go_quiet (fail)
      go_wp2_with fail
      go_roundw
      case rel => exact ⟨k + 1, by omega, by go_num, hid (below_drewN HK.out _)⟩
      case measure => simp [intOf]; omega
    · obtain rfl : k = n := by omega
      go_wp2_with fail
      go_ret
      exact ⟨rfl, HK.out⟩
theorem speqnil (a : Option Addr) (n c : Nat) (w : World) : (binOp .eql 43 (.slice a n c) (.slice none 0 0)).run Try.prog w = .ok (.bool a.isNone) w := by
  simp only [binOp]
  simp [run_equal_slice_nil w 43 37 a n c Try.underlying43]
set_option maxRecDepth 100000 in
set_option maxHeartbeats 4000000 in
theorem clonesp_any (A : Option Addr) (n c : Nat) (L : List Sp) (w : World) (h1 : GX encSp 11 w (· < w.heap.size) A L) (hn : Hid (L.length = n)) (hl : n ≤ 1000000) :
    Calls Try.prog 63 #[.slice A n c] w fun e w' => ∃ v, e = .returned v ∧ GB encSp 11 37 w' w.heap.size v L ∧ Below w.heap.size w w' := by
  have heq := speqnil
  rcases A with _ | ad
  · have hL0 : L = [] := by
      rcases L with _ | ⟨p, r⟩
      · rfl
      · obtain ⟨b, o, e, _⟩ := h1 0 (by simp)
        cases e
    subst hL0
    have hn0 := hn.out
    clear hn
    go_enter Try.func63, Try.ntmps63
    go_wp2_with fail
    go_returns
    exact ⟨_, rfl, GB.nil _ _, Below.refl _ _⟩
  · have hb0 := enew w (.cells #[] 37)
    have hown0 : GB encSp 11 37 (w.alloc (.cells #[] 37)) w.heap.size (.slice (some ⟨w.heap.size, 0, none⟩) 0 0) [] := by
      have := World.ownsRow_lit (e := 37) (size := 11) w #[] 0 (Nat.le_refl _) (by unfold maxLen; omega) (by simp)
      simpa [GB, gvals] using this
    have H0 := hid (And.intro hb0 (And.intro hown0 (h1.up hb0)))
    clear hb0 hown0 h1
    go_enter Try.func63, Try.ntmps63
    go_wp2_with (at_builtin; refine wpList_append_gx (W0 := w) rowSp rfl _ _ rfl w.heap.size (.slice (some ⟨w.heap.size, 0, none⟩) 0 0) [] L (some ad) c _ rfl H0.out.2.1 (by rw [hn.out]; rfl) H0.out.2.2 (fun h => by cases h) (by have := hn.out; simp; omega) H0.out.1 (Nat.le_refl _) ?_)
    intro v1 w1 hown1 hbel1 _
    have H1 := hid (And.intro hown1 hbel1)
    clear hown1 hbel1
    go_wp2_with fail
    go_returns
    exact ⟨_, rfl, H1.out.1, H1.out.2⟩
end Go.Proofs.Ytpfhmpblcmednaa
