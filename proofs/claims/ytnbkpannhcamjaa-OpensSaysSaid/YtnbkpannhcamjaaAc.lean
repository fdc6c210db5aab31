/- opens: rows of open spans; an append to what has no room; arguments that are lists of open spans. -/
import Derived.Test.YtnbkpannhcamjaaAa
import Derived.Test.YtnbkpannhcamjaaGb
import Derived.Test.YtnbkpannhcamjaaSm
import Derived.Laws.StructEq
namespace Go.Proofs.Ytnbkpannhcamjaa
set_option linter.unusedVariables false
set_option linter.unusedSimpArgs false
open Go.RowKit Go.ChangeShapes Go.WideShapes Go.Deep Go.Joins

/-- A span as its cells. -/
def spv (s : Sp) : List Value := [.int .u64 (s.hi : Int), .int .u64 (s.lo : Int), .int .u64 (s.id : Int), .int .u64 (s.up : Int), .string (bs s.name), .int .i64 s.status, .int .i64 s.seq, .int .i64 s.kids, .bool s.shade, .int .i64 s.start, .int .i64 s.fin]
def encO (o : Opn) : List Value := [.int .i64 o.1, .int .u64 (o.2.hi : Int), .int .u64 (o.2.lo : Int), .int .u64 (o.2.id : Int), .int .u64 (o.2.up : Int), .string (bs o.2.name), .int .i64 o.2.status, .int .i64 o.2.seq, .int .i64 o.2.kids, .bool o.2.shade, .int .i64 o.2.start, .int .i64 o.2.fin]
theorem encO_len (o : Opn) : (encO o).length = 12 := rfl
theorem rowO : RowT Try.prog encO 12 22 44 (.agg #[.int .i64 0, .int .u64 0, .int .u64 0, .int .u64 0, .int .u64 0, .string ByteArray.empty, .int .i64 0, .int .i64 0, .int .i64 0, .bool false, .int .i64 0, .int .i64 0]) 104 where
  ht := Try.underlying22
  inf := by kernel_rfl
  hzs := rfl
  k0 := by decide
  hk := encO_len
  h1 := fun x u hu => by
    simp [encO] at hu
    rcases hu with rfl | rfl | rfl | rfl | rfl | rfl | rfl | rfl | rfl | rfl | rfl | rfl <;> rfl
  hb := by decide
/-- A slice of open spans, as a value that can be read. -/
def OV (w : World) (v : Value) (L : List Opn) : Prop := ∃ A c, v = .slice A L.length c ∧ GX encO 12 w (· < w.heap.size) A L ∧ L.length ≤ c ∧ c ≤ maxLen ∧ (A = none → c = 0)
theorem OV.up {w w' : World} {v : Value} {L : List Opn} (h : OV w v L) (hb : Below w.heap.size w w') : OV w' v L := by
  obtain ⟨A, c, e, h1, h2⟩ := h
  exact ⟨A, c, e, h1.up hb, h2⟩
theorem OV.nil (w : World) : OV w (.slice none 0 0) [] := ⟨none, 0, rfl, GX.nil _ _ _, Nat.le_refl _, by unfold maxLen; omega, fun _ => rfl⟩
theorem OV.of_gb {w : World} {base : Nat} {v : Value} {L : List Opn} (h : GB encO 12 44 w base v L) : OV w v L := by
  obtain ⟨A, c, e, h1, h2, h3, h4⟩ := GB.reads encO_len h
  exact ⟨A, c, e, h1.imp fun b hb => hb.2, h3, h4, h2⟩
section
variable {α : Type} {enc : α → List Value} {k : Nat} {e : TypeId} {P : Program} {t : TypeId} {z : Value} {bytes : Nat}
/-- append to a slice that has no room: a new row. -/
theorem run_append_full (T : RowT P enc k t e z bytes) {w : World} {N N2 : Nat → Prop} {A : Option Addr} {L M : List α} {b cap : Nat} (ty : TypeId) (hA : GX enc k w N A L) (hR : GX enc k w N2 (some ⟨b, 0, none⟩) M) (hm : 0 < M.length) (hl : L.length + M.length ≤ 10000000) :
    ∃ v' w', (Builtin.append_ #[t, t] ty #[.slice A L.length L.length, .slice (some ⟨b, 0, none⟩) M.length cap]).run P w = .ok v' w' ∧ GB enc k e w' w.heap.size v' (L ++ M) ∧ w.grownBy w' none := by
  obtain ⟨i0, hi, hz0, hz1, hz2⟩ := info_parts T.inf
  have hby : (L.length + M.length) * bytes ≤ 140737488355328 := Nat.le_trans (Nat.mul_le_mul hl T.hb) (by omega)
  have hlM := gvals_len enc k T.hk M
  have hlL := gvals_len enc k T.hk L
  have fin : ∀ old, old < L.length + M.length → GB enc k e (w.drew.alloc (.cells ((gvals enc L).toArray ++ (gvals enc M).toArray ++ Builtin.zeroCells z.cells (grownCap w (L.length + M.length) old e - (L.length + M.length))) e)) w.heap.size (.slice (some ⟨w.heap.size, 0, none⟩) (L.length + M.length) (grownCap w (L.length + M.length) old e)) (L ++ M) ∧ w.grownBy (w.drew.alloc (.cells ((gvals enc L).toArray ++ (gvals enc M).toArray ++ Builtin.zeroCells z.cells (grownCap w (L.length + M.length) old e - (L.length + M.length))) e)) none := by
    intro old ho
    have hge := grownCap_ge w (L.length + M.length) old e
    have hcm : grownCap w (L.length + M.length) old e ≤ maxLen := grownCap_le_maxLen w _ old e (by unfold maxLen; omega)
    have hlen : (gvals enc L ++ gvals enc M).length = (L.length + M.length) * k := by rw [List.length_append, hlL, hlM, Nat.add_mul]
    refine ⟨?_, rfl, rfl, rfl, by simp, fun j hj _ => heap_alloc_old w.drew _ hj⟩
    unfold GB
    rw [List.length_append, ← gvals_append]
    refine ⟨hlen, .inr ⟨w.heap.size, _, _, rfl, Nat.le_refl _, heap_alloc_new w.drew _, hge, hcm, ?_, ?_⟩⟩
    · simp only [Array.size_append, List.size_toArray, size_zeroCells, T.hzs, hlL, hlM, ← Nat.add_mul]
      congr 1
      omega
    · simp only [Array.toList_append, List.append_assoc]
      rw [← List.append_assoc, ← hlen]
      exact List.take_left
  rcases A with _ | a
  · have h0 : L = [] := by
      rcases L with _ | ⟨x, r⟩
      · rfl
      · obtain ⟨_, _, h, _⟩ := hA 0 (by simp)
        cases h
    subst h0
    have hr := run_append_nil (P := P) w t ty e i0 z T.ht hi hz0 ⟨b, 0, none⟩ M.length cap (gvals enc M) (by rw [hlM, hz1]) (GX.cell T.hk hR) hm (by omega) (by rw [hz2]; simp only [List.length_nil, Nat.zero_add] at hby; omega)
    have hf := fin 0 (by simpa using hm)
    simp only [List.length_nil, Nat.zero_add] at hf ⊢
    refine ⟨_, _, hr, ?_⟩
    simpa [gvals] using hf
  · have hco : ∀ j u, (gvals enc L)[j]? = some u → w.cell? (a.add j) = some u := by
      rcases L with _ | ⟨x, r⟩
      · intro j u hj
        simp [gvals] at hj
      · obtain ⟨b2, o2, h, _⟩ := hA 0 (by simp)
        injection h with h
        subst h
        exact GX.cell T.hk hA
    have hr := run_append_grow (P := P) w t ty e i0 z T.ht hi hz0 a L.length L.length (gvals enc L) (by rw [hlL, hz1]) hco ⟨b, 0, none⟩ M.length cap (gvals enc M) (by rw [hlM, hz1]) (GX.cell T.hk hR) (by omega) (by omega) (growslice_fits (by omega) (by rw [hz2]; exact hby))
    exact ⟨_, _, hr, fin L.length (by omega)⟩
theorem step_append_full (T : RowT P enc k t e z bytes) {ops : Array Oper} {o : Oper} {a : Act} {K : Act → World → Prop} {Q : Exit → Act → World → Prop} {E : Prop} {w : World} (hgd : o.guard = none) (s x : Operand)
    (ho : o.op = .call { callee := .builtin .append, args := #[s, x], argTypes := #[t, t] }) {A : Option Addr} {n : Nat} {L M : List α} {b cap : Nat} {N N2 : Nat → Prop}
    (hs : a.eval s = .slice A n n) (hn : L.length = n) (hA : GX enc k w N A L) (hx : a.eval x = .slice (some ⟨b, 0, none⟩) M.length cap) (hR : GX enc k w N2 (some ⟨b, 0, none⟩) M) (hm : 0 < M.length) (hl : L.length + M.length ≤ 10000000)
    (h : ∀ v' w', GB enc k e w' w.heap.size v' (L ++ M) → w.grownBy w' none → K (a.put o.dst v') w') :
    if Region.wanted o (yielded ops a.tmps) = true then Oper.wp P o a w K Q else E := by
  have hw : Region.wanted o (yielded ops a.tmps) = true := by simp [Region.wanted, hgd]
  rw [if_pos hw]
  subst hn
  obtain ⟨v', w', hr, h2, h3⟩ := run_append_full (cap := cap) T o.type hA hR hm hl
  unfold Oper.wp execOp
  simp only [ho, resolve, invoke, builtin, Sem.run_bind, Sem.run_pure, Result.andThen_ok, List.map_toArray, List.map_cons, List.map_nil, hs, hx, hr]
  exact h v' w' h2 h3
end
section
variable {H : Type} {enc : TypeId × Value → H} {P : Program} {w : World} {base : Nat}
theorem opn_of {ot t tr q i u bo : TypeId} {f0 f1 f2 f3 f4 f5 f6 f7 f8 f9 g0 g1 k0 k1 : Field} (T : SpT P t tr q i u bo f0 f1 f2 f3 f4 f5 f6 f7 f8 f9 g0 g1) (hot : P.underlying ot = some (.struct #[k0, k1])) (hC : P.cellsOf ot = 12) (hk : k0.type = i ∧ k1.type = t ∧ k0.offset = 0 ∧ k1.offset = 1) {sp : Nat → Bool} {hd : Bool} {fuel : Nat} {cs : List Value} {x : DataW H × List MemPlace}
    (h : DataW.trod enc P w base sp hd fuel ot cs = some x) (hz : Sized P ot x.1) : ∃ o : Opn, okSp o.2 ∧ cs = encO o := by
  obtain ⟨xs, n, _, hx, hl, hlen, hgg⟩ := DataW.trod_struct hot h
  rw [hC] at hl
  obtain ⟨t0, t1, o0, o1⟩ := hk
  match cs, hl, xs, hlen with
  | [c0, c1, c2, c3, c4, c5, c6, c7, c8, c9, c10, c11], _, [y0, y1], _ =>
    have h0 := hgg 0 k0 rfl
    have h1 := hgg 1 k1 rfl
    rw [t0, o0, T.ci] at h0
    rw [t1, o1, T.ct] at h1
    rw [hx] at hz
    have z1 := sized_part hz hot (j := 1) (f := k1) (d := y1.1) rfl rfl
    rw [t1] at z1
    obtain ⟨n0, m0, _, _⟩ := DataW.trod_int T.hi h0
    obtain ⟨s, hs, hc⟩ := span_of T h1 z1
    refine ⟨(n0, s), hs, ?_⟩
    have m0' : c0 = .int .i64 n0 := by simpa using m0
    have hc' : [c1, c2, c3, c4, c5, c6, c7, c8, c9, c10, c11] = spv s := by simpa [spv] using hc
    rw [m0', hc']
    rfl
instance : Inhabited Opn := ⟨(0, sp0)⟩
theorem open_OPS {ts ot t tr q i u bo : TypeId} {f0 f1 f2 f3 f4 f5 f6 f7 f8 f9 g0 g1 k0 k1 : Field} (T : SpT P t tr q i u bo f0 f1 f2 f3 f4 f5 f6 f7 f8 f9 g0 g1) (hot : P.underlying ot = some (.struct #[k0, k1])) (hC : P.cellsOf ot = 12) (hk : k0.type = i ∧ k1.type = t ∧ k0.offset = 0 ∧ k1.offset = 1) (hts : P.underlying ts = some (.slice ot))
    {A0 : Option Addr} {n0 c0 : Nat} {d : DataW H} {p : List MemPlace} (hz : Sized P ts d) (h : DataW.Trod enc P w base (fun _ => true) true ts (.slice A0 n0 c0) d p) :
    ∃ L : List Opn, OV w (.slice A0 n0 c0) L ∧ ∀ o ∈ L, okSp o.2 := by
  obtain ⟨fuel, hf⟩ := h
  rcases open_slice hts hf with ⟨h0, _⟩ | ⟨a, len, cap, m, n, D, Pl, hcs, _, hl, hm, hmm, hx0, hx⟩
  · have e' : Value.slice A0 n0 c0 = .slice none 0 0 := by simpa [Value.cells] using h0
    rw [e']
    exact ⟨[], OV.nil w, by simp⟩
  · simp only [if_true] at hmm
    subst hmm
    have hx0' : d = (.slice ((List.range len).map D) ((List.range (m - len)).map fun j => D (len + j))) := congrArg Prod.fst hx0
    rw [hx0'] at hz
    have each : ∀ i, i < len → ∃ o : Opn, okSp o.2 ∧ ∃ cs', w.cells? base (a.add (i * 12)) 12 = some cs' ∧ cs' = encO o := fun i hi => by
      obtain ⟨cs', h1, h2⟩ := hx i (by omega)
      rw [hC] at h1
      obtain ⟨s, hs, hc⟩ := opn_of T hot hC hk h2 (hz.elem hts (d := D i) (List.mem_map.2 ⟨i, List.mem_range.2 hi, rfl⟩))
      exact ⟨s, hs, cs', h1, hc⟩
    obtain ⟨F, hF⟩ := choose_lt each
    have hlen : ((List.range len).map F).length = len := by simp
    have e' : Value.slice A0 n0 c0 = .slice (some a) len m := by simpa [Value.cells] using hcs
    rw [e']
    refine ⟨(List.range len).map F, ⟨some a, m, by rw [hlen], fun k hk => ?_, by rw [hlen]; exact hl, hm, fun h => by cases h⟩, fun s hs => ?_⟩
    · rw [hlen] at hk
      obtain ⟨_, cs', h1, h2⟩ := hF k hk
      obtain ⟨_, hl', hcell⟩ := World.cells?_some h1
      obtain ⟨_, cs0, y1, y2⟩ := hF 0 (by omega)
      obtain ⟨_, _, ycell⟩ := World.cells?_some y1
      have hc00 := ycell 0 (by omega)
      rw [y2] at hc00
      have hpl := plain_of_cell hc00
      simp only [Nat.zero_mul, Addr.add, if_true] at hpl
      have hat : ∀ j, j < 12 → w.cell? ⟨a.block, a.off + (k * 12 + j), none⟩ = cs'[j]? := fun j hj => by
        have := hcell j hj
        rw [hpl, add_add, Addr.add_lit] at this
        exact this
      have hlt : a.block < w.heap.size := lt_of_cell (a := ⟨a.block, a.off + (k * 12 + 0), none⟩) (by rw [hat 0 (by omega), h2]; rfl)
      simp only [List.getElem_map, List.getElem_range]
      refine ⟨a.block, a.off, by rw [← hpl], hlt, fun j hj => ?_⟩
      rw [hat j hj, h2]
    · obtain ⟨i, hi, rfl⟩ := List.mem_map.1 hs
      exact (hF i (List.mem_range.1 hi)).1
theorem arr3_three {cs : Array Value} (h : cs.size = 3) : ∃ a b c, cs = #[a, b, c] := by
  obtain ⟨l⟩ := cs
  match l, h with
  | [a, b, c], _ => exact ⟨a, b, c, rfl⟩
theorem open_R3 {r : Reach} {b0 : Nat} {t e : TypeId} {v : Value} {d : DataW H} {p : List MemPlace} (ht : P.underlying t = some (.array 3 e)) (he : P.underlying e = some (.int .i64)) (hce : P.cellsOf e = 1) (hC : P.cellsOf t = 3)
    (hv : Value.okWide P w r b0 t v) (h : DataW.Trod enc P w base (fun _ => true) true t v d p) :
    ∃ a b c : Int, v = .agg #[.int .i64 a, .int .i64 b, .int .i64 c] := by
  obtain ⟨cs, rfl, hsz⟩ := okWide_arr ht hv
  obtain ⟨c0, c1, c2, rfl⟩ := arr3_three (hsz.trans hC)
  obtain ⟨fuel, hf⟩ := h
  obtain ⟨xs, m, _, _, _, hl, hi⟩ := DataW.trod_array ht hf
  have h0 := hi 0 (by omega)
  have h1 := hi 1 (by omega)
  have h2 := hi 2 (by omega)
  rw [List.getElem?_eq_getElem (by omega)] at h0 h1 h2
  simp only [hce, Value.cells] at h0 h1 h2
  obtain ⟨n0, e0, _, w0⟩ := DataW.trod_int he h0
  obtain ⟨n1, e1, _, w1⟩ := DataW.trod_int he h1
  obtain ⟨n2, e2, _, w2⟩ := DataW.trod_int he h2
  have e0' : c0 = .int .i64 n0 := by simpa using e0
  have e1' : c1 = .int .i64 n1 := by simpa using e1
  have e2' : c2 = .int .i64 n2 := by simpa using e2
  exact ⟨n0, n1, n2, by rw [e0', e1', e2']⟩
end
theorem ops_guard (op : BinOp) (p q : Operand) (xs ys : Array Value) (w : World) : (eqGuard op 27 p q (.agg xs) (.agg ys)).run Try.prog w = .ok () w := run_eqGuard_agg w op _ p q xs ys (by kernel_rfl)
theorem opo_guard (op : BinOp) (p q : Operand) (xs ys : Array Value) (w : World) : (eqGuard op 44 p q (.agg xs) (.agg ys)).run Try.prog w = .ok () w := run_eqGuard_agg w op _ p q xs ys (by kernel_rfl)
theorem opt_self (k : Nat) (w : World) (a b : Nat) : (Op.equalIn (k + 2) 25 (.agg #[.int .u64 (a : Int), .int .u64 (b : Int)]) (.agg #[.int .u64 (a : Int), .int .u64 (b : Int)])).run Try.prog w = .ok true w := by
  have us := Try.underlying23
  have asx := Try.isAgg23
  have zs := Try.sizeOf23
  rw [run_equalIn_agg w (k + 1) _ _ _ (by kernel_rfl) (by kernel_rfl)]
  simp only [Program.fieldsOf, Try.underlying25]
  go_simp
theorem ops_eqIn (k : Nat) (w : World) (a b c d : Nat) (nm : List UInt8) (st sq kd : Int) (sh : Bool) (x y : Int) : (Op.equalIn (k + 3) 27 (.agg #[.int .u64 (a : Int), .int .u64 (b : Int), .int .u64 (c : Int), .int .u64 (d : Int), .string (bs nm), .int .i64 st, .int .i64 sq, .int .i64 kd, .bool sh, .int .i64 x, .int .i64 y]) (.agg #[.int .u64 (a : Int), .int .u64 (b : Int), .int .u64 (c : Int), .int .u64 (d : Int), .string (bs nm), .int .i64 st, .int .i64 sq, .int .i64 kd, .bool sh, .int .i64 x, .int .i64 y])).run Try.prog w = .ok true w := by
  have us := Try.underlying23
  have asx := Try.isAgg23
  have zs := Try.sizeOf23
  have us2 := Try.underlying3
  have as2 := Try.isAgg3
  have zs2 := Try.sizeOf3
  have us3 := Try.underlying25
  have as3 := Try.isAgg25
  have zs3 := Try.sizeOf25
  have us4 := Try.underlying9
  have as4 := Try.isAgg9
  have zs4 := Try.sizeOf9
  have us5 := Try.underlying4
  have as5 := Try.isAgg4
  have zs5 := Try.sizeOf4
  have ht := opt_self k w a b
  rw [run_equalIn_agg w (k + 2) _ _ _ (by kernel_rfl) (by kernel_rfl)]
  simp only [Program.fieldsOf, Try.underlying27]
  go_simp
theorem ops_eql (w : World) (s : Sp) : (binOp .eql 27 (.agg #[.int .u64 (s.hi : Int), .int .u64 (s.lo : Int), .int .u64 (s.id : Int), .int .u64 (s.up : Int), .string (bs s.name), .int .i64 s.status, .int .i64 s.seq, .int .i64 s.kids, .bool s.shade, .int .i64 s.start, .int .i64 s.fin]) (.agg #[.int .u64 (s.hi : Int), .int .u64 (s.lo : Int), .int .u64 (s.id : Int), .int .u64 (s.up : Int), .string (bs s.name), .int .i64 s.status, .int .i64 s.seq, .int .i64 s.kids, .bool s.shade, .int .i64 s.start, .int .i64 s.fin])).run Try.prog w = .ok (.bool true) w := by
  rw [run_eql_struct, show (10000 : Nat) = 9997 + 3 from rfl, ops_eqIn]; rfl
theorem opo_neq (w : World) (n : Int) (s : Sp) : (binOp .neq 44 (.agg #[.int .i64 n, .int .u64 (s.hi : Int), .int .u64 (s.lo : Int), .int .u64 (s.id : Int), .int .u64 (s.up : Int), .string (bs s.name), .int .i64 s.status, .int .i64 s.seq, .int .i64 s.kids, .bool s.shade, .int .i64 s.start, .int .i64 s.fin]) (.agg #[.int .i64 n, .int .u64 (s.hi : Int), .int .u64 (s.lo : Int), .int .u64 (s.id : Int), .int .u64 (s.up : Int), .string (bs s.name), .int .i64 s.status, .int .i64 s.seq, .int .i64 s.kids, .bool s.shade, .int .i64 s.start, .int .i64 s.fin])).run Try.prog w = .ok (.bool false) w := by
  have us2 := Try.underlying3
  have as2 := Try.isAgg3
  have zs2 := Try.sizeOf3
  have us3 := Try.underlying27
  have as3 := Try.isAgg27
  have zs3 := Try.sizeOf27
  have hs := ops_eqIn 9996 w s.hi s.lo s.id s.up s.name s.status s.seq s.kids s.shade s.start s.fin
  rw [run_neq_struct, show (10000 : Nat) = 9999 + 1 from rfl, run_equalIn_agg w 9999 _ _ _ (by kernel_rfl) (by kernel_rfl)]
  simp only [Program.fieldsOf, Try.underlying44]
  go_simp
end Go.Proofs.Ytnbkpannhcamjaa
