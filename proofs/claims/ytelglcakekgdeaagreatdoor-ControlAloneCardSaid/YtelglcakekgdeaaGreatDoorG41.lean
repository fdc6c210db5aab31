/- Texts put together: Yg Yi Yh Yj. -/
import Derived.Test.YtelglcakekgdeaaGreatDoorG40
import Derived.Test.YtelglcakekgdeaaGreatDoorG30
import Derived.Deep.AppendLies
import Derived.Test.YtelglcakekgdeaaGreatDoorG18
namespace Go.Proofs.YtelglcakekgdeaaGreatDoor
set_option linter.unusedVariables false
set_option linter.unusedSimpArgs false
open Go.RowKit Go.Joins

theorem okC_of {l : List (List UInt8)} {text : List UInt8} {c : Cf} {n : Nat} (h : readC text = (c, n, 0)) (hk : chkC (chkR · l) c.1 c.2 = 0) : okC l c := by
  refine ⟨hk, fmt_len hk, ?_⟩
  by_cases hlen : 4096 < text.length
  · rw [readC, if_pos hlen] at h
    have := congrArg (fun x => x.2.2) h
    simp at this
  · rw [readC_out hlen] at h
    obtain ⟨L, hL⟩ : ∃ L, linesP (text.length + 1) text 0 (-1) [] [] = L := ⟨_, rfl⟩
    rw [hL] at h
    obtain ⟨Lo, m⟩ := L
    cases Lo with
    | none =>
      have := congrArg (fun x => x.2.2) h
      simp [outC] at this
    | some g =>
      have hg : g = c := by
        rw [outC] at h
        split at h
        · rename_i hne
          have := congrArg (fun x => x.2.2) h
          exact absurd this hne
        · exact congrArg (fun x => x.1) h
      subst hg
      obtain ⟨h1, h2⟩ := linesP_small _ _ _ _ _ _ 4096 g m hL (by omega) (by simp) (by simp)
      obtain ⟨-, -, h3⟩ := chkC_ok hk
      intro r hr
      obtain ⟨a1, a2, a3⟩ := h2 r hr
      have a4 := chkR_ps (h3 r hr)
      exact ⟨fun p hp => by have := a1 p hp; omega, by omega, by omega, by omega⟩
theorem pub_ok {l : List (List UInt8)} {n : Nat} {text : List UInt8} {c : Cf} (h : pubR l n text = (0, c)) : n ≠ 16 ∧ okC l c := by
  unfold pubR at h
  split at h
  · rename_i h1
    exact absurd (Prod.mk.inj h).1 h1
  · rename_i h1
    have h1 : (readC text).2.2 = 0 := Decidable.not_not.1 h1
    split at h
    · rename_i h2
      exact absurd (Prod.mk.inj h).1 h2
    · rename_i h2
      have h2 := Decidable.not_not.1 h2
      split at h
      · exact absurd (Prod.mk.inj h).1 (by decide)
      · rename_i h3
        obtain ⟨-, h4⟩ := Prod.mk.inj h
        refine ⟨h3, ?_⟩
        rw [← h4]
        refine okC_of (text := text) (n := (readC text).2.1) ?_ h2
        rw [← h1]
/-- The blocks in which a plane g and what it answers may lie, beside a row of the call's own. -/
def Mx (g : Nat) (ob : Option Nat) : Nat → Prop := fun b => b ≠ g ∧ ob ≠ some b
/-- The tables that were kept, as they were. -/
def Kept (w : World) (M : Nat → Prop) (KL : List Tu) (C : List Cf) : Prop := KL.length = C.length ∧ ∀ (k : Nat) (t : Tu) (c : Cf), KL[k]? = some t → C[k]? = some c → t.v = (k : Int) + 1 ∧ t.f = c.1 ∧ RM w M t.y t.U ∧ t.U.map Ru.sem = ordB rkS c.2
/-- What ControlStays' loop knows. -/
structure SL (l : List (List UInt8)) (w wr : World) (g : Nat) (i : Nat) (C : List Cf) (rf : Nat) (A : Option Addr) (n c : Nat) (KL : List Tu) : Prop where
  pl : PlH (Mx g (Value.slice A n c).ownBlock) wr g l C rf
  own : GB encT 3 32 wr w.heap.size (.slice A n c) KL
  ng : (Value.slice A n c).ownBlock ≠ some g
  kept : Kept wr (Mx g (Value.slice A n c).ownBlock) KL C
  sum : C.length + rf = i
  bel : Below w.heap.size w wr
theorem Kept.up {w w' : World} {M : Nat → Prop} {KL : List Tu} {C : List Cf} (h : Kept w M KL C) (hb : Below w.heap.size w w') : Kept w' M KL C :=
  ⟨h.1, fun k t c h1 h2 => by obtain ⟨a, b, d, e⟩ := h.2 k t c h1 h2; exact ⟨a, b, d.up hb, e⟩⟩
theorem Kept.only {w w' : World} {M : Nat → Prop} {KL : List Tu} {C : List Cf} {g : Nat} (h : Kept w M KL C) (ho : Onl g w w') (hg : ¬ M g) : Kept w' M KL C :=
  ⟨h.1, fun k t c h1 h2 => by obtain ⟨a, b, d, e⟩ := h.2 k t c h1 h2; exact ⟨a, b, d.only ho hg, e⟩⟩
theorem gb_only {α : Type} {enc : α → List Value} {k : Nat} {e : TypeId} {w w' : World} {b g : Nat} {v : Value} {L : List α} (h : GB enc k e w b v L) (ho : Onl g w w') (hg : v.ownBlock ≠ some g) : GB enc k e w' b v L :=
  World.ownsRow.kept (row := some g) h ⟨ho.os, ho.tape, ho.output, ho.size, fun k hk hn => ho.block k hk (fun e => hn (by rw [e]))⟩ (Or.inr hg)
theorem SL.up {l : List (List UInt8)} {w wr w' : World} {g : Nat} {i : Nat} {C : List Cf} {rf : Nat} {A : Option Addr} {n c : Nat} {KL : List Tu} (h : SL l w wr g i C rf A n c KL) (hb : Below wr.heap.size wr w') : SL l w w' g i C rf A n c KL :=
  ⟨h.pl.up hb, h.own.below hb, h.ng, h.kept.up hb, h.sum, estep h.bel hb⟩
theorem own_lt {w : World} {b : Nat} {v : Value} {KL : List Tu} (h : GB encT 3 32 w b v KL) : ∀ x, v.ownBlock = some x → x < w.heap.size := by
  intro x hx
  obtain ⟨c, fz, hc⟩ := Lib.ownsRow_kind h x hx
  rcases Nat.lt_or_ge x w.heap.size with hlt | hge
  · exact hlt
  · rw [Array.getElem?_eq_none hge] at hc; cases hc
theorem SL.mx {l : List (List UInt8)} {w wr : World} {g : Nat} {i : Nat} {C : List Cf} {rf : Nat} {A : Option Addr} {n c : Nat} {KL : List Tu} (h : SL l w wr g i C rf A n c KL) (b : Nat) (hb : wr.heap.size ≤ b) : Mx g (Value.slice A n c).ownBlock b :=
  ⟨by have := h.pl.lt; omega, fun e => by have := own_lt h.own b e; omega⟩
theorem SL.ng' {l : List (List UInt8)} {w wr : World} {g : Nat} {i : Nat} {C : List Cf} {rf : Nat} {A : Option Addr} {n c : Nat} {KL : List Tu} (h : SL l w wr g i C rf A n c KL) : ¬ Mx g (Value.slice A n c).ownBlock g := fun h2 => h2.1 rfl
theorem rowTu : RowT Tryz.prog encT 3 26 32 (.agg #[.int .i64 0, .slice none 0 0, .string ByteArray.empty]) 48 where
  ht := Tryz.underlying26
  inf := by kernel_rfl
  hzs := rfl
  k0 := by decide
  hk := encT_len
  h1 := encT_one
  hb := by decide
theorem whole_ord {v : Int} {c : Cf} {l : List (List UInt8)} (h1 : 1 ≤ v) (h2 : v ≤ 1099511627776) (h : okC l c) : wholeB v c.1 (ordB rkS c.2) l = true := by
  refine whole_again (T := (v, c.1, ordB rkS c.2)) ?_
  rw [compT, if_neg (by rw [badV, decide_eq_false (by omega), decide_eq_false (by omega)]; simp), if_neg (by rw [h.1]; simp)]
end Go.Proofs.YtelglcakekgdeaaGreatDoor
namespace Go.Proofs.YtelglcakekgdeaaGreatDoor
set_option linter.unusedVariables false
set_option linter.unusedSimpArgs false
open Go.RowKit Go.Joins

theorem wpList_append_gxl {α : Type} {enc : α → List Value} {k : Nat} {e : TypeId} {P : Program} {t : TypeId} {z : Value} {bytes : Nat} (T : RowT P enc k t e z bytes) {ops : Array Oper} {rest : List Oper} {o : Oper} {a : Act} {Q : Exit → Act → World → Prop} {w : World} (hgd : o.guard = none) (s x : Operand)
    (ho : o.op = .call { callee := .builtin .append, args := #[s, x], argTypes := #[t, t] }) (base : Nat) (v : Value) (L M : List α) (b cap : Nat) (N : Nat → Prop)
    (hs : a.eval s = v) (hown : GB enc k e w base v L) (hx : a.eval x = .slice (some ⟨b, 0, none⟩) M.length cap) (hR : GX enc k w N (some ⟨b, 0, none⟩) M) (hm : 0 < M.length)
    (hl : L.length + M.length ≤ 10000000) (hbase : base ≤ w.heap.size) (K : ∀ g c w' m, Hid (m = L.length + M.length) → GB enc k e w' base (.slice (some ⟨g, 0, none⟩) m c) (L ++ M) → w.grownBy w' v.ownBlock → (v.ownBlock = some g ∨ g = w.heap.size) → wpList P ops Q rest (a.put o.dst (.slice (some ⟨g, 0, none⟩) m c)) w') : wpList P ops Q (o :: rest) a w := by
  obtain ⟨i0, hi, hz0, hz1, hz2⟩ := info_parts T.inf
  have hby : (L.length + M.length) * bytes ≤ 140737488355328 := Nat.le_trans (Nat.mul_le_mul hl T.hb) (by omega)
  refine wpList_append_lies w hgd s x t ho base e i0 z k bytes T.ht hi hz0 hz1 hz2 T.hzs T.k0 v L.length (gvals enc L) hs hown ⟨b, 0, none⟩ M.length cap (gvals enc M) hx (gvals_len enc k T.hk M) (GX.cell T.hk hR) (fun u hu => ?_) hm (by unfold maxLen; omega) hby hbase _ rfl fun g c w' h1 h2 h3 _ => ?_
  · simp only [gvals, List.mem_flatMap] at hu
    obtain ⟨y, _, hu⟩ := hu
    exact T.h1 y u hu
  · refine K g c w' _ (hid rfl) ?_ h2 h3
    unfold GB
    rw [List.length_append, ← gvals_append]
    exact h1
/-- What lies in blocks that N allows is as it was. -/
structure Sm (w w' : World) (N : Nat → Prop) : Prop where
  size : w.heap.size ≤ w'.heap.size
  block : ∀ b, b < w.heap.size → N b → w'.heap[b]? = w.heap[b]?
section
variable {w w' : World} {M N : Nat → Prop} {y : Value} {U : List Ru} {l : List (List UInt8)} {g : Nat} {C : List Cf} {rf : Nat} {KL : List Tu}
theorem RM.sm (h : RM w M y U) (hs : Sm w w' N) (hn : ∀ b, M b → N b) : RM w' M y U :=
  (RN.same h fun b hB => hs.block b hB.1 (hn b hB.2)).imp fun b hB => ⟨Nat.lt_of_lt_of_le hB.1 hs.size, hB.2⟩
theorem TM.sm (h : TM w M y l) (hs : Sm w w' N) (hn : ∀ b, M b → N b) : TM w' M y l :=
  (TX.same h fun b hB => hs.block b hB.1 (hn b hB.2)).imp fun b hB => ⟨Nat.lt_of_lt_of_le hB.1 hs.size, hB.2⟩
theorem PlH.sm (h : PlH M w g l C rf) (hs : Sm w w' N) (hn : ∀ b, M b → N b) (hg : N g) : PlH M w' g l C rf := by
  have hlt := h.lt
  obtain ⟨h0, h1, h2, ny, F, k0, k1, k2⟩ := h
  refine ⟨h0, h1, h2, ny, F, (hs.block g hlt hg).trans k0, k1.sm hs hn, fun k c hc => ?_⟩
  obtain ⟨e, V, a, b⟩ := k2 k c hc
  exact ⟨e, V, a.sm hs hn, b⟩
theorem Kept.sm (h : Kept w M KL C) (hs : Sm w w' N) (hn : ∀ b, M b → N b) : Kept w' M KL C :=
  ⟨h.1, fun k t c h1 h2 => by obtain ⟨a, b, d, e⟩ := h.2 k t c h1 h2; exact ⟨a, b, d.sm hs hn, e⟩⟩
theorem Kept.imp {M2 : Nat → Prop} (h : Kept w M KL C) (hm : ∀ b, b < w.heap.size → M b → M2 b) : Kept w M2 KL C :=
  ⟨h.1, fun k t c h1 h2 => by obtain ⟨a, b, d, e⟩ := h.2 k t c h1 h2; exact ⟨a, b, d.imp hm, e⟩⟩
theorem Sm.grown {row : Option Nat} (h : w.grownBy w' row) : Sm w w' (fun b => row ≠ some b) := ⟨h.size, fun b hb hn => h.block b hb (fun e => hn e.symm)⟩
end
/-- Behind an append of the newest table, what the loop knows. -/
theorem SL.more {l : List (List UInt8)} {w v w' : World} {g i : Nat} {C : List Cf} {rf : Nat} {A : Option Addr} {n c c' : Nat} {KL : List Tu} {cc : Cf} {t : Tu} {gb m : Nat} (hm : m = n + 1)
    (pl : PlH (Mx g (Value.slice A n c).ownBlock) v g l (C ++ [cc]) rf) (own : GB encT 3 32 v w.heap.size (.slice A n c) KL) (ng : (Value.slice A n c).ownBlock ≠ some g) (kept : Kept v (Mx g (Value.slice A n c).ownBlock) KL C) (bel : Below w.heap.size w v)
    (ht : t.v = (C.length : Int) + 1 ∧ t.f = cc.1 ∧ RM v (Mx g (Value.slice A n c).ownBlock) t.y t.U ∧ t.U.map Ru.sem = ordB rkS cc.2)
    (own' : GB encT 3 32 w' w.heap.size (.slice (some ⟨gb, 0, none⟩) m c') (KL ++ [t])) (hg : v.grownBy w' (Value.slice A n c).ownBlock) (hb : (Value.slice A n c).ownBlock = some gb ∨ gb = v.heap.size) (hsum : C.length + 1 + rf = i) :
    SL l w w' g i (C ++ [cc]) rf (some ⟨gb, 0, none⟩) m c' (KL ++ [t]) := by
  subst hm
  have hs := Sm.grown hg
  have hob : (Value.slice (some ⟨gb, 0, none⟩) (n + 1) c').ownBlock = some gb := rfl
  have hMx : ∀ b, b < v.heap.size → Mx g (Value.slice A n c).ownBlock b → Mx g (some gb) b := fun b hb1 hb2 => by
    refine ⟨hb2.1, fun e => ?_⟩
    injection e with e
    rcases hb with hb | hb
    · exact hb2.2 (by rw [hb, e])
    · omega
  have hmx : ∀ w2 : World, w2.heap.size = v.heap.size → True := fun _ _ => trivial
  have hsz := hg.size
  have hn : ∀ b, Mx g (Value.slice A n c).ownBlock b → (Value.slice A n c).ownBlock ≠ some b := fun b h => h.2
  have hgl := pl.lt
  have hgg : gb ≠ g := by
    rcases hb with hb | hb
    · exact fun e => ng (by rw [hb, e])
    · omega
  have im : ∀ {M1 M2 : Nat → Prop} {y : Value} {U : List Ru}, RM v M1 y U → True := fun _ => trivial
  refine ⟨?_, own', by rw [hob]; exact fun e => hgg (by injection e), ?_, by rw [List.length_append]; simpa using hsum, ?_⟩
  · rw [hob]
    have h1 : PlH (fun b => Mx g (Value.slice A n c).ownBlock b ∧ Mx g (some gb) b) v g l (C ++ [cc]) rf := pl.imp (fun h => h.1.1 rfl) fun b hb1 hb2 => ⟨hb2, hMx b hb1 hb2⟩
    exact (h1.sm hs (fun b h => h.1.2) ng).imp (fun h => h.1 rfl) fun b _ h => h.2
  · rw [hob]
    have h1 : Kept v (fun b => Mx g (Value.slice A n c).ownBlock b ∧ Mx g (some gb) b) KL C := kept.imp fun b hb1 hb2 => ⟨hb2, hMx b hb1 hb2⟩
    have h2 : RM v (fun b => Mx g (Value.slice A n c).ownBlock b ∧ Mx g (some gb) b) t.y t.U := ht.2.2.1.imp fun b hb1 hb2 => ⟨hb2, hMx b hb1 hb2⟩
    have h3 := (h1.sm hs (fun b h => h.1.2)).imp (M2 := Mx g (some gb)) fun b _ h => h.2
    have h4 := (h2.sm hs (fun b h => h.1.2)).imp (M2 := Mx g (some gb)) fun b _ h => h.2
    refine ⟨by rw [List.length_append, List.length_append, h3.1]; rfl, fun k t1 c1 hk1 hk2 => ?_⟩
    by_cases hk : k < KL.length
    · rw [List.getElem?_append_left hk] at hk1
      rw [List.getElem?_append_left (by rw [← h3.1]; exact hk)] at hk2
      exact h3.2 k t1 c1 hk1 hk2
    · have hk3 : k < KL.length + 1 := by have := (List.getElem?_eq_some_iff.1 hk1).1; simpa using this
      obtain rfl : k = KL.length := by omega
      rw [List.getElem?_append_right (Nat.le_refl _), Nat.sub_self] at hk1
      rw [List.getElem?_append_right (by rw [h3.1]; exact Nat.le_refl _), h3.1, Nat.sub_self] at hk2
      obtain rfl : t = t1 := by simpa using hk1
      obtain rfl : cc = c1 := by simpa using hk2
      exact ⟨by rw [h3.1]; exact ht.1, ht.2.1, h4, ht.2.2.2⟩
  · exact bel.grown hg bel.size (fun k hk => (World.ownsRow.lt own k hk).1)
end Go.Proofs.YtelglcakekgdeaaGreatDoor
namespace Go.Proofs.YtelglcakekgdeaaGreatDoor
set_option linter.unusedVariables false
set_option linter.unusedSimpArgs false
open Go.RowKit Go.Joins

theorem tx_at {w : World} {A : Option Addr} {n c : Nat} {L : List (List UInt8)} (h : TX w (· < w.heap.size) (.slice A n c) L) {i : Nat} {t : List UInt8} (ht : L[i]? = some t) : ∃ b o, A = some ⟨b, o, none⟩ ∧ b < w.heap.size ∧ w.cell? ⟨b, o + i, none⟩ = some (.string (bs t)) := by
  obtain ⟨A2, c2, e, h1, -, -⟩ := h
  injection e with e1 e2 e3
  subst e1
  obtain ⟨hi, rfl⟩ := List.getElem?_eq_some_iff.1 ht
  obtain ⟨b, o, e4, h4, h5⟩ := gx_of_stx h1 i hi
  refine ⟨b, o, e4, h4, ?_⟩
  have := h5 0 (by omega)
  rw [show i * 1 + 0 = i by omega] at this
  rw [this]
  rfl
set_option maxRecDepth 100000 in
set_option maxHeartbeats 32000000 in
theorem controlStays_walk (ny : Value) (l : List (List UInt8)) (x : Value) (L : List (List UInt8)) (w : World) (E : EnvC w) (hn : TX w (· < w.heap.size) ny l) (hx : TX w (· < w.heap.size) x L) :
    Calls Tryz.prog 3 #[ny, x] w fun e w' => e = .returned (.bool true) ∧ Below w.heap.size w w' := by
  have hnot := enot
  have c0 : (ByteArray.mk #[]) = bs [] := rfl
  obtain ⟨nA, nc, rfl, -⟩ := id hn
  obtain ⟨xA, xc, rfl, -⟩ := id hx
  by_cases h20 : l.length ≤ 20
  rotate_left
  · have hd : decide ((20 : Int) < ((l.length : Nat) : Int)) = true := decide_eq_true (by omega)
    go_enter Tryz.func3, Tryz.ntmps3
    go_wp2_with fail
    refine (known18_any _ E).mono ?_
    rintro e w1 ⟨rfl, hb1⟩
    go_wp2_with fail
    go_returns
    exact ⟨rfl, hb1⟩
  have hd : decide ((20 : Int) < ((l.length : Nat) : Int)) = false := decide_eq_false (by omega)
  by_cases h30 : L.length ≤ 30
  rotate_left
  · have hd2 : decide ((30 : Int) < ((L.length : Nat) : Int)) = true := decide_eq_true (by omega)
    go_enter Tryz.func3, Tryz.ntmps3
    go_wp2_with fail
    refine (known18_any _ E).mono ?_
    rintro e w1 ⟨rfl, hb1⟩
    go_wp2_with fail
    go_returns
    exact ⟨rfl, hb1⟩
  have hd2 : decide ((30 : Int) < ((L.length : Nat) : Int)) = false := decide_eq_false (by omega)
  have HNW := hid (cnew_any18 (.slice nA l.length nc) l w hn (by omega))
  have H0 := hid (And.intro hn hx)
  have HE := hid E
  have HLL := hid h30
  clear hn hx E h20 h30
  generalize hnl : l.length = nl at *
  generalize hnL : L.length = n at *
  have HN := hid (And.intro hnl hnL)
  clear hnl hnL
  go_enter Tryz.func3, Tryz.ntmps3
  go_wp2_with fail
  refine HNW.out.mono ?_
  rintro e w1 ⟨g, rfl, hg, hH, hb1⟩
  have HG := hid hg
  have HST : Hid (SL l w w1 g 0 [] 0 none 0 0 []) := hid ⟨hH.imp (fun h => h.1 rfl) fun b hb h => ⟨h.2, fun e => by cases e⟩, GB.nil _ _, (fun e => by cases e), ⟨rfl, fun k t c h => by simp at h⟩, rfl, hb1⟩
  clear hH hb1 hg HNW
  go_wp2_with fail
  go_loopg [6, 7] n (fun g1 vs vi wr => ∃ (i : Nat) (C : List Cf) (rf : Nat) (A : Option Addr) (sn c : Nat) (KL : List Tu), vs = .slice A sn c ∧ vi = .int .i64 i ∧ i ≤ n ∧ n - i ≤ g1 ∧ Hid (SL l w wr g i C rf A sn c KL) ∧ Hid (KL.length = sn))
  case atStart => exact ⟨0, [], 0, none, 0, 0, [], rfl, rfl, by omega, by omega, HST, hid rfl⟩
  case round =>
    obtain ⟨i, C, rf, A, sn, c, KL, rfl, rfl, hin, hgk, HP, HKN⟩ := hrel
    by_cases hlt : i < n
    · have hltz : (i : Int) < (n : Int) := by omega
      have hltd : decide ((i : Int) < (n : Int)) = true := decide_eq_true hltz
      have hi0 : (0 : Int) ≤ (i : Int) := by omega
      obtain ⟨t, ht⟩ : ∃ t, L[i]? = some t := ⟨_, List.getElem?_eq_getElem (by have := HN.out.2; omega)⟩
      obtain ⟨bb, oo, rfl, hbb, e0⟩ := tx_at (tx_up H0.out.2 HP.out.bel) ht
      clear ht
      by_cases h5 : t.length ≤ 5000
      rotate_left
      · have hd5 : decide ((5000 : Int) < (t.length : Int)) = true := decide_eq_true (by omega)
        go_wp2_with fail
        refine (known18_any _ (HE.out.up HP.out.bel)).mono ?_
        rintro e w3 ⟨rfl, hb3⟩
        go_wp2_with fail
        go_returns
        exact ⟨rfl, estep HP.out.bel hb3⟩
      have hd5 : decide ((5000 : Int) < (t.length : Int)) = false := decide_eq_false (by omega)
      obtain ⟨z, cc, hz⟩ : ∃ z cc, pubR l C.length t = (z, cc) := ⟨_, _, rfl⟩
      have HZ := hid hz
      have HT5 := hid (show t.length ≤ 140737488351232 by omega)
      have hadd : IntKind.i64.wrap ((i : Int) + 1) = (i : Int) + 1 := IntWalk.i64_in _ (by have := HLL.out; omega)
      clear hz h5 hbb
      by_cases hz0 : z = 0
      · subst hz0
        obtain ⟨hn16, hokc⟩ := pub_ok HZ.out
        have HOK := hid hokc
        have HPB := hid (publish_ok _ g l C rf t wr (HE.out.up HP.out.bel) HP.out.pl HP.out.mx HT5.out (by have := HP.out.pl.2.2.1.1; omega) hokc HZ.out)
        clear hn16 hokc
        have hCs : C.length = sn := by have := HP.out.kept.1; have := HKN.out; omega
        have HPB2 : Hid (Calls Tryz.prog 7 #[.pointer (some ⟨g, 0, none⟩), .string (bs t)] wr fun e w' => e = .returned (.tuple #[.int .i64 ((sn : Int) + 1), .int .i64 0]) ∧ PlH (Mx g (Value.slice A sn c).ownBlock) w' g l (C ++ [cc]) rf ∧ Onl g wr w') := hid (by rw [← hCs]; rw [← hCs] at HPB; exact HPB.out)
        go_wp2_with fail
        refine HPB2.out.mono ?_
        rintro e w2 ⟨rfl, hP2, ho2⟩
        have HP2 := hid hP2
        have HOW := hid (gb_only HP.out.own ho2 HP.out.ng)
        have HKP := hid (HP.out.kept.only ho2 HP.out.ng')
        have HNG := hid HP.out.ng
        have HSU := hid HP.out.sum
        have HB2 := hid (Onl.below HP.out.bel ho2 HG.out HP.out.bel.size)
        have hmx : ∀ b, w2.heap.size ≤ b → Mx g (Value.slice A sn c).ownBlock b := fun b hb => ⟨by have := HP2.out.lt; omega, fun e => by have := own_lt HOW.out b e; omega⟩
        have HA := hid (at_in _ g l (C ++ [cc]) rf w2 HP2.out hmx ((sn : Int) + 1) sn cc rfl (by rw [List.getElem?_append_right (by omega), hCs, Nat.sub_self]; rfl))
        have hsn16 : sn + 1 ≤ 16 := by have h16 := HP2.out.2.2.1.1; rw [List.length_append] at h16; simp at h16; omega
        have hadd3 : IntKind.i64.wrap ((sn : Int) + 1) = (sn : Int) + 1 := IntWalk.i64_in _ (by omega)
        clear hP2 ho2 HPB HPB2 HP HZ e0 hmx
        go_wp2_with fail
        refine HA.out.mono ?_
        rintro e w3 ⟨⟨A4, V4, q4, rfl, hm4, hs4⟩, hb3⟩
        have hba := enew w3 (.cells #[.int .i64 ((sn : Int) + 1), .slice A4 V4.length q4, .string (bs cc.1)] 32)
        have ht3 := BT.new w3 ((sn : Int) + 1) (.slice A4 V4.length q4) cc.1
        obtain ⟨tg, htg⟩ : ∃ tg, tg = w3.heap.size := ⟨_, rfl⟩
        rw [← htg] at ht3
        have hb4 := estep hb3 hba
        have HP4 := hid (HP2.out.up hb4)
        have HO4 := hid (GB.below HOW.out hb4)
        have HK4 := hid (HKP.out.up hb4)
        have HB4 := hid (estep HB2.out hb4)
        have HT4 := hid ht3
        have HM4 := hid (hm4.up hba)
        have HS4 := hid hs4
        clear hb3 hba ht3 hb4 hm4 hs4 HP2 HOW HKP HB2 HA
        go_upto_region 13 with (fail)
        rw [← htg]
        clear htg
        generalize w3.alloc (.cells #[.int .i64 ((sn : Int) + 1), .slice A4 V4.length q4, .string (bs cc.1)] 32) = w4 at *
        generalize hv4 : V4.length = v4 at *
        have HV4N := hid hv4
        clear hv4
        obtain ⟨t0, t1, t2⟩ := HT4.out.cells
        have HWH := hid (rwhole_any ((sn : Int) + 1) (.slice A4 v4 q4) cc.1 V4 (.slice nA nl nc) l w4 HM4.out.rv (fun u hu => HOK.out.2.2 u.sem ((ordB_eqv (key := rkS) cc.2).mem (by rw [← HS4.out]; exact List.mem_map.2 ⟨u, hu, rfl⟩))) HOK.out.2.1 (tx_up H0.out.1 HB4.out) (z := true) (hid (by rw [HS4.out]; exact whole_ord (by omega) (by omega) HOK.out)))
        go_wp2_with fail
        refine HWH.out.mono ?_
        rintro e w5 ⟨rfl, hb5⟩
        have hba := enew w5 (.cells #[.int .i64 ((sn : Int) + 1), .slice A4 v4 q4, .string (bs cc.1)] 32)
        have hnb := Bk.new w5 32 #[.int .i64 ((sn : Int) + 1), .slice A4 v4 q4, .string (bs cc.1)]
        have hb6 := estep hb5 hba
        have HP6 := hid (HP4.out.up hb6)
        have HO6 := hid (GB.below HO4.out hb6)
        have HK6 := hid (HK4.out.up hb6)
        have HB6 := hid (estep HB4.out hb6)
        have HM6 := hid (HM4.out.up hb6)
        have HGX6 := hid (GX.one (enc := encT) (k := 3) (x := (⟨(sn : Int) + 1, A4, v4, q4, cc.1, V4⟩ : Tu)) hnb rfl)
        have HCS := hid hCs
        clear t0 t1 t2
        obtain ⟨t0, t1, t2⟩ := (HT4.out.up hb5).cells
        clear hb5 hba hnb hb6 HP4 HO4 HK4 HB4 HM4 HWH hCs HT4
        go_wp2_with (at_builtin; refine wpList_append_gxl rowTu rfl _ _ rfl w.heap.size (.slice A sn c) KL [(⟨(sn : Int) + 1, A4, v4, q4, cc.1, V4⟩ : Tu)] w5.heap.size 1 _ rfl HO6.out rfl HGX6.out (by simp) (by have := HKN.out; simp; omega) HB6.out.size ?_)
        intro gb c2 w7 m hm hown hgrow hlies
        have hm2 : m = sn + 1 := by have h1 := HKN.out; have h2 : m = KL.length + 1 := hm.out; omega
        have HSJ := hid (SL.more (i := i + 1) hm2 HP6.out HO6.out HNG.out HK6.out HB6.out (t := (⟨(sn : Int) + 1, A4, v4, q4, cc.1, V4⟩ : Tu)) ⟨by rw [HCS.out], rfl, HM6.out, HS4.out⟩ hown hgrow (Or.imp_right (fun h => by rw [World.size_alloc]; exact h) hlies) (by have := HSU.out; omega))
        have HKN2 : Hid ((KL ++ [(⟨(sn : Int) + 1, A4, v4, q4, cc.1, V4⟩ : Tu)]).length = m) := hid (by rw [List.length_append, HKN.out, hm2]; rfl)
        clear hm hown hgrow hlies HP6 HO6 HNG HK6 HB6 HM6 HGX6 HSU HCS t0 t1 t2 hm2
        generalize C ++ [cc] = C2 at *
        generalize KL ++ [(⟨(sn : Int) + 1, A4, v4, q4, cc.1, V4⟩ : Tu)] = KL2 at *
        generalize (some ⟨gb, 0, none⟩ : Option Addr) = A2 at *
        go_wp2_with fail
        go_loopg [12] m (fun g2 vj wr => ∃ j : Nat, vj = .int .i64 j ∧ j ≤ m ∧ m - j ≤ g2 ∧ Hid (SL l w wr g (i + 1) C2 rf A2 m c2 KL2))
        case atStart => exact ⟨0, rfl, by omega, by omega, HSJ⟩
        case round =>
          obtain ⟨j, rfl, hjn, hjk, HQ⟩ := hrel
          by_cases hjt : j < m
          · have hjz : (j : Int) < (m : Int) := by omega
            have hjd : decide ((j : Int) < (m : Int)) = true := decide_eq_true hjz
            have hj0 : (0 : Int) ≤ (j : Int) := by omega
            have hjl : j < KL2.length := by have := HKN2.out; omega
            have hjc : j < C2.length := by have := HQ.out.kept.1; omega
            obtain ⟨tj, htj⟩ : ∃ t, KL2[j]? = some t := ⟨_, List.getElem?_eq_getElem hjl⟩
            obtain ⟨cj, hcj⟩ : ∃ c, C2[j]? = some c := ⟨_, List.getElem?_eq_getElem hjc⟩
            obtain ⟨f1, f2, f3, f4⟩ := HQ.out.kept.2 j tj cj htj hcj
            have hj16 : C2.length ≤ 16 := HQ.out.pl.2.2.1.1
            have haddj : IntKind.i64.wrap ((j : Int) + 1) = (j : Int) + 1 := IntWalk.i64_in _ (by omega)
            have HAJ := hid (at_in _ g l C2 rf wr HQ.out.pl HQ.out.mx ((j : Int) + 1) j cj rfl hcj)
            have HF := hid (And.intro f3 f4)
            obtain ⟨-, hcl, -⟩ := chkC_ok (HQ.out.pl.2.1 cj (List.mem_of_getElem? hcj)).1
            have HCL := hid hcl
            obtain ⟨A5, cap5, e5, hgx, -⟩ := GB.reads encT_len HQ.out.own
            injection e5 with e6 e7 e8
            obtain ⟨b5, o5, e9, -, -⟩ := hgx j hjl
            rw [e9] at hgx e6
            subst e6
            obtain ⟨r0, r1, r2⟩ := tu_cell hgx htj
            rw [f1] at r0
            rw [f2] at r2
            have HR := hid (And.intro r0 (And.intro r1 r2))
            clear r0 r1 r2 hgx e7 e8 e9 f1 f2 f3 f4 htj hcj hjl hjc hj16 hcl
            go_wp2_with fail
            refine HAJ.out.mono ?_
            rintro e w3 ⟨⟨A4, V4, q4, rfl, hm4, hs4⟩, hb3⟩
            have hba := enew w3 (.cells #[.int .i64 ((j : Int) + 1), .slice A4 V4.length q4, .string (bs cj.1)] 32)
            have ht3 := BT.new w3 ((j : Int) + 1) (.slice A4 V4.length q4) cj.1
            obtain ⟨tg, htg⟩ : ∃ tg, tg = w3.heap.size := ⟨_, rfl⟩
            rw [← htg] at ht3
            have hb4 := estep hb3 hba
            have HQ4 := hid (HQ.out.up hb4)
            have HV4 := hid (And.intro (hm4.up hba).rv (HF.out.1.up hb4).rv)
            have HE4 := hid (hs4.trans HF.out.2.symm)
            have HT4 := hid ht3
            have HR4 := hid (And.intro ((hb4.cell (lt_of_cell HR.out.1)).trans HR.out.1) (And.intro ((hb4.cell (lt_of_cell HR.out.2.1)).trans HR.out.2.1) ((hb4.cell (lt_of_cell HR.out.2.2)).trans HR.out.2.2)))
            have HL4 := hid (show V4.length ≤ 1000000 by
              have := congrArg List.length hs4
              rw [List.length_map, ordB_length] at this
              have := HCL.out
              omega)
            clear hm4 hs4 hb3 hba ht3 hb4 HAJ HF HR HQ
            go_upto_region 20 with (fail)
            rw [← htg]
            clear htg
            generalize w3.alloc (.cells #[.int .i64 ((j : Int) + 1), .slice A4 V4.length q4, .string (bs cj.1)] 32) = w4 at *
            generalize hv4 : V4.length = v4 at *
            have HV4N := hid hv4
            clear hv4
            obtain ⟨t0, t1, t2⟩ := HT4.out.cells
            have T0 := BW.cell t0
            have T1 := BW.cell t1
            have T2 := BW.cell t2
            have R0 := BW.cell HR4.out.1
            have R1 := BW.cell HR4.out.2.1
            have R2 := BW.cell HR4.out.2.2
            have HSA : Hid (∀ p : BW w4, Calls Tryz.prog 10 #[.agg #[.int .i64 ((j : Int) + 1), .slice A4 v4 q4, .string (bs cj.1)], .agg #[.int .i64 ((j : Int) + 1), .slice tj.ya tj.yn tj.yc, .string (bs cj.1)]] p.w fun e w' => e = .returned (.bool true) ∧ Below p.w.heap.size p.w w') := hid fun p => rtsame_tv ((j : Int) + 1) cj.1 _ tj.y V4 tj.U p.w HE4.out (HV4.out.1.up (BW.h p)) (HV4.out.2.up (BW.h p)) (by rw [HV4N.out]; exact HL4.out)
            clear t0 t1 t2
            refine wp_region_bw (by kernel_rfl) (by kernel_rfl) ?_
            repeat (go_big_quiet_step ((go_at_call 10; with_reducible exact calls_bw (HSA.out _))))
            refine wpQuiet_nil ?_
            rintro _ ⟨pq, rfl⟩
            have HQ5 := hid (HQ4.out.up pq.h)
            clear T0 T1 T2 R0 R1 R2 HSA HQ4 HV4 HE4 HT4 HR4 HL4
            generalize pq.w = w5 at *
            go_wp2_with fail
            go_roundg (m - (j + 1))
            case measure => omega
            case rel => exact ⟨j + 1, by first | rfl | go_num | (simp), by omega, by omega, HQ5⟩
          · obtain rfl : j = m := by omega
            have hjd : decide ((j : Int) < (j : Int)) = false := by simp
            go_wp2_with fail
            go_roundg (n - (i + 1))
            case measure => omega
            case rel => exact ⟨i + 1, C2, rf, A2, j, c2, KL2, rfl, by first | rfl | go_num | (simp), by omega, by omega, HQ, HKN2⟩
      · have hz1 : (z == 0) = false := by simpa using hz0
        have hz2 : decide (z = 0) = false := decide_eq_false hz0
        have HPB := hid (publish_no _ g l C rf t wr (HE.out.up HP.out.bel) HP.out.pl (by have := HP.out.sum; have := HLL.out; omega) HT5.out hz0 HZ.out)
        clear hz0
        go_wp2_with fail
        refine HPB.out.mono ?_
        rintro e w2 ⟨rfl, hP2, ho2⟩
        have HSJ : Hid (SL l w w2 g (i + 1) C (rf + 1) A sn c KL) := hid ⟨hP2, gb_only HP.out.own ho2 HP.out.ng, HP.out.ng, HP.out.kept.only ho2 HP.out.ng', by have := HP.out.sum; omega, Onl.below HP.out.bel ho2 HG.out HP.out.bel.size⟩
        clear hP2 ho2 HPB HP HZ e0
        have HKN2 := HKN
        generalize rf + 1 = rf2 at *
        go_wp2_with fail
        go_loopg [12] sn (fun g2 vj wr => ∃ j : Nat, vj = .int .i64 j ∧ j ≤ sn ∧ sn - j ≤ g2 ∧ Hid (SL l w wr g (i + 1) C rf2 A sn c KL))
        case atStart => exact ⟨0, rfl, by omega, by omega, HSJ⟩
        case round =>
          obtain ⟨j, rfl, hjn, hjk, HQ⟩ := hrel
          by_cases hjt : j < sn
          · have hjz : (j : Int) < (sn : Int) := by omega
            have hjd : decide ((j : Int) < (sn : Int)) = true := decide_eq_true hjz
            have hj0 : (0 : Int) ≤ (j : Int) := by omega
            have hjl : j < KL.length := by have := HKN2.out; omega
            have hjc : j < C.length := by have := HQ.out.kept.1; omega
            obtain ⟨tj, htj⟩ : ∃ t, KL[j]? = some t := ⟨_, List.getElem?_eq_getElem hjl⟩
            obtain ⟨cj, hcj⟩ : ∃ c, C[j]? = some c := ⟨_, List.getElem?_eq_getElem hjc⟩
            obtain ⟨f1, f2, f3, f4⟩ := HQ.out.kept.2 j tj cj htj hcj
            have hj16 : C.length ≤ 16 := HQ.out.pl.2.2.1.1
            have haddj : IntKind.i64.wrap ((j : Int) + 1) = (j : Int) + 1 := IntWalk.i64_in _ (by omega)
            have HAJ := hid (at_in _ g l C rf2 wr HQ.out.pl HQ.out.mx ((j : Int) + 1) j cj rfl hcj)
            have HF := hid (And.intro f3 f4)
            obtain ⟨-, hcl, -⟩ := chkC_ok (HQ.out.pl.2.1 cj (List.mem_of_getElem? hcj)).1
            have HCL := hid hcl
            obtain ⟨A5, cap5, e5, hgx, -⟩ := GB.reads encT_len HQ.out.own
            injection e5 with e6 e7 e8
            obtain ⟨b5, o5, e9, -, -⟩ := hgx j hjl
            rw [e9] at hgx e6
            subst e6
            obtain ⟨r0, r1, r2⟩ := tu_cell hgx htj
            rw [f1] at r0
            rw [f2] at r2
            have HR := hid (And.intro r0 (And.intro r1 r2))
            clear r0 r1 r2 hgx e7 e8 e9 f1 f2 f3 f4 htj hcj hjl hjc hj16 hcl
            go_wp2_with fail
            refine HAJ.out.mono ?_
            rintro e w3 ⟨⟨A4, V4, q4, rfl, hm4, hs4⟩, hb3⟩
            have hba := enew w3 (.cells #[.int .i64 ((j : Int) + 1), .slice A4 V4.length q4, .string (bs cj.1)] 32)
            have ht3 := BT.new w3 ((j : Int) + 1) (.slice A4 V4.length q4) cj.1
            obtain ⟨tg, htg⟩ : ∃ tg, tg = w3.heap.size := ⟨_, rfl⟩
            rw [← htg] at ht3
            have hb4 := estep hb3 hba
            have HQ4 := hid (HQ.out.up hb4)
            have HV4 := hid (And.intro (hm4.up hba).rv (HF.out.1.up hb4).rv)
            have HE4 := hid (hs4.trans HF.out.2.symm)
            have HT4 := hid ht3
            have HR4 := hid (And.intro ((hb4.cell (lt_of_cell HR.out.1)).trans HR.out.1) (And.intro ((hb4.cell (lt_of_cell HR.out.2.1)).trans HR.out.2.1) ((hb4.cell (lt_of_cell HR.out.2.2)).trans HR.out.2.2)))
            have HL4 := hid (show V4.length ≤ 1000000 by
              have := congrArg List.length hs4
              rw [List.length_map, ordB_length] at this
              have := HCL.out
              omega)
            clear hm4 hs4 hb3 hba ht3 hb4 HAJ HF HR HQ
            go_upto_region 20 with (fail)
            rw [← htg]
            clear htg
            generalize w3.alloc (.cells #[.int .i64 ((j : Int) + 1), .slice A4 V4.length q4, .string (bs cj.1)] 32) = w4 at *
            generalize hv4 : V4.length = v4 at *
            have HV4N := hid hv4
            clear hv4
            obtain ⟨t0, t1, t2⟩ := HT4.out.cells
            have T0 := BW.cell t0
            have T1 := BW.cell t1
            have T2 := BW.cell t2
            have R0 := BW.cell HR4.out.1
            have R1 := BW.cell HR4.out.2.1
            have R2 := BW.cell HR4.out.2.2
            have HSA : Hid (∀ p : BW w4, Calls Tryz.prog 10 #[.agg #[.int .i64 ((j : Int) + 1), .slice A4 v4 q4, .string (bs cj.1)], .agg #[.int .i64 ((j : Int) + 1), .slice tj.ya tj.yn tj.yc, .string (bs cj.1)]] p.w fun e w' => e = .returned (.bool true) ∧ Below p.w.heap.size p.w w') := hid fun p => rtsame_tv ((j : Int) + 1) cj.1 _ tj.y V4 tj.U p.w HE4.out (HV4.out.1.up (BW.h p)) (HV4.out.2.up (BW.h p)) (by rw [HV4N.out]; exact HL4.out)
            clear t0 t1 t2
            refine wp_region_bw (by kernel_rfl) (by kernel_rfl) ?_
            repeat (go_big_quiet_step ((go_at_call 10; with_reducible exact calls_bw (HSA.out _))))
            refine wpQuiet_nil ?_
            rintro _ ⟨pq, rfl⟩
            have HQ5 := hid (HQ4.out.up pq.h)
            clear T0 T1 T2 R0 R1 R2 HSA HQ4 HV4 HE4 HT4 HR4 HL4
            generalize pq.w = w5 at *
            go_wp2_with fail
            go_roundg (sn - (j + 1))
            case measure => omega
            case rel => exact ⟨j + 1, by first | rfl | go_num | (simp), by omega, by omega, HQ5⟩
          · obtain rfl : j = sn := by omega
            have hjd : decide ((j : Int) < (j : Int)) = false := by simp
            go_wp2_with fail
            go_roundg (n - (i + 1))
            case measure => omega
            case rel => exact ⟨i + 1, C, rf2, A, j, c, KL, rfl, by first | rfl | go_num | (simp), by omega, by omega, HQ, HKN2⟩
    · obtain rfl : i = n := by omega
      have hltd : decide ((i : Int) < (i : Int)) = false := by simp
      have hCs : C.length = sn := by have := HP.out.kept.1; have := HKN.out; omega
      have hs16 : sn ≤ 16 := by have := HP.out.pl.2.2.1.1; omega
      have HVS : Hid (∀ w2, Below wr.heap.size wr w2 → Calls Tryz.prog 11 #[.pointer (some ⟨g, 0, none⟩)] w2 fun e w' => e = .returned (.int .i64 (sn : Int)) ∧ Below w2.heap.size w2 w') := hid fun w2 hb => cversions_any g (sn : Int) w2 (by rw [← hCs]; exact (HP.out.pl.up hb).cells.1) (by omega) (by omega)
      have HRS : Hid (∀ w2, Below wr.heap.size wr w2 → Calls Tryz.prog 12 #[.pointer (some ⟨g, 0, none⟩)] w2 fun e w' => e = .returned (.int .i64 (rf : Int)) ∧ Below w2.heap.size w2 w') := hid fun w2 hb => crefused_any g (rf : Int) w2 (HP.out.pl.up hb).cells.2.1 (by omega) (by have := HP.out.pl.2.2.1.2; omega)
      have hle : decide ((sn : Int) ≤ 16) = true := decide_eq_true (by omega)
      have hadd4 : IntKind.i64.wrap ((sn : Int) + (rf : Int)) = (i : Int) := by
        rw [IntWalk.i64_in _ (by have := HP.out.pl.2.2.1.2; omega)]
        have := HP.out.sum
        omega
      clear hCs
      go_wp2_with fail
      refine (HVS.out _ (Below.refl _ _)).mono ?_
      rintro e w3 ⟨rfl, hb3⟩
      have HB3 := hid hb3
      clear hb3
      go_wp2_with fail
      refine (HVS.out _ HB3.out).mono ?_
      rintro e w4 ⟨rfl, hb4⟩
      have HB4 := hid (estep HB3.out hb4)
      clear hb4
      go_wp2_with fail
      refine (HRS.out _ HB4.out).mono ?_
      rintro e w5 ⟨rfl, hb5⟩
      have HB5 := hid (estep HB4.out hb5)
      clear hb5
      go_wp2_with fail
      refine (known18_any _ (HE.out.up (estep HP.out.bel HB5.out))).mono ?_
      rintro e w6 ⟨rfl, hb6⟩
      go_wp2_with fail
      go_returns
      exact ⟨rfl, estep HP.out.bel (estep HB5.out hb6)⟩
end Go.Proofs.YtelglcakekgdeaaGreatDoor
namespace Go.Proofs.YtelglcakekgdeaaGreatDoor
set_option linter.unusedVariables false
set_option linter.unusedSimpArgs false
open Go.RowKit Go.Joins

/-- What ControlAlone's loop knows. -/
structure CA (l : List (List UInt8)) (w wr : World) (g xg : Nat) (i : Nat) (C : List Cf) (rf : Nat) : Prop where
  pl : PlH (fun b => b ≠ g ∧ b ≠ xg) wr g l C rf
  px : PlH (fun b => b ≠ g ∧ b ≠ xg) wr xg l C 0
  sum : C.length + rf = i
  bel : Below w.heap.size w wr
theorem CA.mx {l : List (List UInt8)} {w wr : World} {g xg i : Nat} {C : List Cf} {rf : Nat} (h : CA l w wr g xg i C rf) (b : Nat) (hb : wr.heap.size ≤ b) : b ≠ g ∧ b ≠ xg := ⟨by have := h.pl.lt; omega, by have := h.px.lt; omega⟩
set_option maxRecDepth 100000 in
set_option maxHeartbeats 32000000 in
theorem controlAlone_walk (ny : Value) (l : List (List UInt8)) (x : Value) (L : List (List UInt8)) (w : World) (E : EnvC w) (hn : TX w (· < w.heap.size) ny l) (hx : TX w (· < w.heap.size) x L) :
    Calls Tryz.prog 4 #[ny, x] w fun e w' => e = .returned (.bool true) ∧ Below w.heap.size w w' := by
  have hnot := enot
  have c0 : (ByteArray.mk #[]) = bs [] := rfl
  obtain ⟨nA, nc, rfl, -⟩ := id hn
  obtain ⟨xA, xc, rfl, -⟩ := id hx
  by_cases h20 : l.length ≤ 20
  rotate_left
  · have hd : decide ((20 : Int) < ((l.length : Nat) : Int)) = true := decide_eq_true (by omega)
    go_enter Tryz.func4, Tryz.ntmps4
    go_wp2_with fail
    refine (known18_any _ E).mono ?_
    rintro e w1 ⟨rfl, hb1⟩
    go_wp2_with fail
    go_returns
    exact ⟨rfl, hb1⟩
  have hd : decide ((20 : Int) < ((l.length : Nat) : Int)) = false := decide_eq_false (by omega)
  by_cases h30 : L.length ≤ 30
  rotate_left
  · have hd2 : decide ((30 : Int) < ((L.length : Nat) : Int)) = true := decide_eq_true (by omega)
    go_enter Tryz.func4, Tryz.ntmps4
    go_wp2_with fail
    refine (known18_any _ E).mono ?_
    rintro e w1 ⟨rfl, hb1⟩
    go_wp2_with fail
    go_returns
    exact ⟨rfl, hb1⟩
  have hd2 : decide ((30 : Int) < ((L.length : Nat) : Int)) = false := decide_eq_false (by omega)
  have HNW := hid (cnew_any18 (.slice nA l.length nc) l w hn (by omega))
  have H0 := hid (And.intro hn hx)
  have HE := hid E
  have HLL := hid h30
  have HNL := hid h20
  clear hn hx E h20 h30
  generalize hnl : l.length = nl at *
  generalize hnL : L.length = n at *
  have HN := hid (And.intro hnl hnL)
  clear hnl hnL
  go_enter Tryz.func4, Tryz.ntmps4
  go_wp2_with fail
  refine HNW.out.mono ?_
  rintro e w1 ⟨g, rfl, hg, hH, hb1⟩
  have HH1 := hid hH
  have HB1 := hid hb1
  have HNW2 := hid (cnew_any18 (.slice nA nl nc) l w1 (tx_up H0.out.1 hb1) (by have := HN.out.1; have := HNL.out; omega))
  clear hH hb1 HNW
  go_wp2_with fail
  refine HNW2.out.mono ?_
  rintro e w2 ⟨xg, rfl, hxg, hX, hb2⟩
  have HG : Hid (w.heap.size ≤ g ∧ w.heap.size ≤ xg ∧ g < xg) := hid ⟨hg, by have := HB1.out.size; omega, by have := HH1.out.lt; omega⟩
  have HST : Hid (CA l w w2 g xg 0 [] 0) := hid ⟨(HH1.out.imp (M2 := fun b => b ≠ g ∧ b ≠ xg) (fun h => h.1 rfl) fun b hb h => ⟨h.2, by omega⟩).up hb2, hX.imp (fun h => h.2 rfl) fun b hb h => ⟨by have := HH1.out.lt; have := h.1; omega, h.2⟩, rfl, estep HB1.out hb2⟩
  clear hX hb2 HNW2 hg hxg HH1 HB1
  go_wp2_with fail
  go_loopg [7] n (fun g1 vi wr => ∃ (i : Nat) (C : List Cf) (rf : Nat), vi = .int .i64 i ∧ i ≤ n ∧ n - i ≤ g1 ∧ Hid (CA l w wr g xg i C rf))
  case atStart => exact ⟨0, [], 0, rfl, by omega, by omega, HST⟩
  case round =>
    obtain ⟨i, C, rf, rfl, hin, hgk, HP⟩ := hrel
    by_cases hlt : i < n
    · have hltz : (i : Int) < (n : Int) := by omega
      have hltd : decide ((i : Int) < (n : Int)) = true := decide_eq_true hltz
      have hi0 : (0 : Int) ≤ (i : Int) := by omega
      obtain ⟨t, ht⟩ : ∃ t, L[i]? = some t := ⟨_, List.getElem?_eq_getElem (by have := HN.out.2; omega)⟩
      obtain ⟨b0, o0, ea0, hb00, e00⟩ := tx_at H0.out.2 ht
      obtain ⟨bb, oo, rfl, hbb, e0⟩ := tx_at (tx_up H0.out.2 HP.out.bel) ht
      have HBB : Hid (bb < w.heap.size) := hid (by
        injection ea0 with ea0
        injection ea0 with ea1
        rw [ea1]; exact hb00)
      clear ht b0 o0 ea0 hb00 e00 hbb
      by_cases h5 : t.length ≤ 5000
      rotate_left
      · have hd5 : decide ((5000 : Int) < (t.length : Int)) = true := decide_eq_true (by omega)
        go_wp2_with fail
        refine (known18_any _ (HE.out.up HP.out.bel)).mono ?_
        rintro e w3 ⟨rfl, hb3⟩
        go_wp2_with fail
        go_returns
        exact ⟨rfl, estep HP.out.bel hb3⟩
      have hd5 : decide ((5000 : Int) < (t.length : Int)) = false := decide_eq_false (by omega)
      obtain ⟨z, cc, hz⟩ : ∃ z cc, pubR l C.length t = (z, cc) := ⟨_, _, rfl⟩
      have HZ := hid hz
      have HT5 := hid (show t.length ≤ 140737488351232 by omega)
      have hadd : IntKind.i64.wrap ((i : Int) + 1) = (i : Int) + 1 := IntWalk.i64_in _ (by have := HLL.out; omega)
      have hgx : g ≠ xg := by have := HG.out.2.2; omega
      clear hz h5
      by_cases hz0 : z = 0
      · subst hz0
        obtain ⟨hn16, hokc⟩ := pub_ok HZ.out
        have hc16 : C.length < 16 := by have := HP.out.pl.2.2.1.1; omega
        have HOK := hid hokc
        obtain ⟨cn, hcn⟩ : ∃ cn, C.length = cn := ⟨_, rfl⟩
        have HPB : Hid (Calls Tryz.prog 7 #[.pointer (some ⟨g, 0, none⟩), .string (bs t)] wr fun e w' => e = .returned (.tuple #[.int .i64 ((cn : Int) + 1), .int .i64 0]) ∧ PlH (fun b => b ≠ g ∧ b ≠ xg) w' g l (C ++ [cc]) rf ∧ Onl g wr w') := hid (by rw [← hcn]; exact publish_ok _ g l C rf t wr (HE.out.up HP.out.bel) HP.out.pl HP.out.mx HT5.out hc16 hokc HZ.out)
        have HCN := hid hcn
        have HC16 := hid hc16
        clear hn16 hokc hcn hc16
        go_wp2_with fail
        refine HPB.out.mono ?_
        rintro e w3 ⟨rfl, hP3, ho3⟩
        have HB3 := hid (Onl.below HP.out.bel ho3 HG.out.1 HP.out.bel.size)
        have hx3 := HP.out.px.only ho3 (fun h => h.1 rfl) (Ne.symm hgx)
        have HPX : Hid (Calls Tryz.prog 7 #[.pointer (some ⟨xg, 0, none⟩), .string (bs t)] w3 fun e w' => e = .returned (.tuple #[.int .i64 ((cn : Int) + 1), .int .i64 0]) ∧ PlH (fun b => b ≠ g ∧ b ≠ xg) w' xg l (C ++ [cc]) 0 ∧ Onl xg w3 w') := hid (by
          rw [← HCN.out]
          exact publish_ok _ xg l C 0 t w3 (HE.out.up HB3.out) hx3 (fun b hb => ⟨by have := hP3.lt; omega, by have := hx3.lt; omega⟩) HT5.out HC16.out HOK.out HZ.out)
        have e1 := (World.cell?_of_block (ho3.block bb (lt_of_cell e0) (by have := HBB.out; have := HG.out.1; omega))).trans e0
        have HP3 := hid hP3
        clear e0 hP3 ho3 hx3 HPB
        have hne : ((cn : Int) + 1 != (cn : Int) + 1) = false := by simp
        go_wp2_with fail
        refine HPX.out.mono ?_
        rintro e w4 ⟨rfl, hX4, ho4⟩
        have HP4 : Hid (CA l w w4 g xg (i + 1) (C ++ [cc]) rf) := hid ⟨HP3.out.only ho4 (fun h => h.2 rfl) hgx, hX4, by rw [List.length_append]; have := HP.out.sum; simp; omega, Onl.below HB3.out ho4 HG.out.2.1 HB3.out.size⟩
        clear hX4 ho4 HPX HP3 HB3 HP e1 HZ HCN HC16
        go_wp2_with fail
        go_roundg (n - (i + 1))
        case measure => omega
        case rel => exact ⟨i + 1, C ++ [cc], rf, by first | rfl | go_num | (simp), by omega, by omega, HP4⟩
      · have hz1 : (z != 0) = true := by simpa using hz0
        have hz2 : decide (z = 0) = false := decide_eq_false hz0
        have hz3 : (!decide (z = 0)) = true := by rw [hz2]; rfl
        have HPB := hid (publish_no _ g l C rf t wr (HE.out.up HP.out.bel) HP.out.pl (by have := HP.out.sum; have := HLL.out; omega) HT5.out hz0 HZ.out)
        clear hz0
        go_wp2_with fail
        refine HPB.out.mono ?_
        rintro e w3 ⟨rfl, hP3, ho3⟩
        have HP4 : Hid (CA l w w3 g xg (i + 1) C (rf + 1)) := hid ⟨hP3, HP.out.px.only ho3 (fun h => h.1 rfl) (Ne.symm hgx), by have := HP.out.sum; omega, Onl.below HP.out.bel ho3 HG.out.1 HP.out.bel.size⟩
        clear hP3 ho3 HPB HP e0 HZ
        go_wp2_with fail
        go_roundg (n - (i + 1))
        case measure => omega
        case rel => exact ⟨i + 1, C, rf + 1, by first | rfl | go_num | (simp), by omega, by omega, HP4⟩
    · obtain rfl : i = n := by omega
      have hltd : decide ((i : Int) < (i : Int)) = false := by simp
      obtain ⟨cn, hcn⟩ : ∃ cn, C.length = cn := ⟨_, rfl⟩
      have HCN := hid hcn
      have hc16 : cn ≤ 16 := by have := HP.out.pl.2.2.1.1; omega
      have HB0 := hid (Below.refl wr.heap.size wr)
      obtain ⟨v, hv⟩ : ∃ v, v = wr := ⟨_, rfl⟩
      rw [← hv] at HB0
      have HPV : Hid (CA l w v g xg i C rf) := by rw [hv]; exact HP
      have HB0' : Hid (Below v.heap.size v wr) := hid (by rw [hv]; exact Below.refl _ _)
      clear hcn HP HB0 hv
      go_wp2_with fail
      go_loopg [12] cn (fun g2 vj wr => ∃ j : Nat, vj = .int .i64 ((j : Int) + 1) ∧ j ≤ cn ∧ cn - j ≤ g2 ∧ Hid (Below v.heap.size v wr))
      case atStart => exact ⟨0, by first | rfl | simp, by omega, by omega, HB0'⟩
      case round =>
        obtain ⟨j, rfl, hjn, hjk, HW⟩ := hrel
        have HVS := hid (fun (w2 : World) (hb : Below v.heap.size v w2) => cversions_any g (cn : Int) w2 (by rw [← HCN.out]; exact (HPV.out.pl.up hb).cells.1) (by omega) (by omega))
        by_cases hjt : j < cn
        · have hjd : decide ((j : Int) + 1 ≤ (cn : Int)) = true := decide_eq_true (by omega)
          have haddj : IntKind.i64.wrap ((j : Int) + 1 + 1) = (j : Int) + 1 + 1 := IntWalk.i64_in _ (by omega)
          obtain ⟨cj, hcj⟩ : ∃ c, C[j]? = some c := ⟨_, List.getElem?_eq_getElem (by have := HCN.out; omega)⟩
          have HAP := hid (fun (w2 : World) (hb : Below v.heap.size v w2) => at_in _ g l C rf w2 (HPV.out.pl.up hb) (fun b hb2 => HPV.out.mx b (by have := hb.size; omega)) ((j : Int) + 1) j cj rfl hcj)
          have HAX := hid (fun (w2 : World) (hb : Below v.heap.size v w2) => at_in _ xg l C 0 w2 (HPV.out.px.up hb) (fun b hb2 => HPV.out.mx b (by have := hb.size; omega)) ((j : Int) + 1) j cj rfl hcj)
          obtain ⟨-, hcl, -⟩ := chkC_ok (HPV.out.pl.2.1 cj (List.mem_of_getElem? hcj)).1
          have HCL := hid hcl
          clear hcj hcl
          go_wp2_with fail
          refine (HVS.out _ HW.out).mono ?_
          rintro e w3 ⟨rfl, hb3⟩
          have HB3 := hid (estep HW.out hb3)
          clear hb3
          go_wp2_with fail
          refine (HAP.out _ HB3.out).mono ?_
          rintro e w4 ⟨⟨A4, V4, q4, rfl, hm4, hs4⟩, hb4⟩
          have hba := enew w4 (.cells #[.int .i64 ((j : Int) + 1), .slice A4 V4.length q4, .string (bs cj.1)] 32)
          have ht4 := BT.new w4 ((j : Int) + 1) (.slice A4 V4.length q4) cj.1
          obtain ⟨tg, htg⟩ : ∃ tg, tg = w4.heap.size := ⟨_, rfl⟩
          rw [← htg] at ht4
          have HB5 := hid (estep HB3.out (estep hb4 hba))
          have HT5 := hid ht4
          have HM5 := hid (hm4.up hba).rv
          have HS5 := hid hs4
          have HL5 := hid (show V4.length ≤ 1000000 by
            have := congrArg List.length hs4
            rw [List.length_map, ordB_length] at this
            have := HCL.out
            omega)
          clear hba ht4 hb4 hm4 hs4 HAP HB3
          go_upto_region 18 with (fail)
          rw [← htg]
          clear htg
          generalize w4.alloc (.cells #[.int .i64 ((j : Int) + 1), .slice A4 V4.length q4, .string (bs cj.1)] 32) = w5 at *
          generalize hv4 : V4.length = v4 at *
          have HV4 := hid hv4
          clear hv4
          go_wp2_with fail
          refine (HAX.out _ HB5.out).mono ?_
          rintro e w6 ⟨⟨A6, V6, q6, rfl, hm6, hs6⟩, hb6⟩
          have hba := enew w6 (.cells #[.int .i64 ((j : Int) + 1), .slice A6 V6.length q6, .string (bs cj.1)] 32)
          have ht6 := BT.new w6 ((j : Int) + 1) (.slice A6 V6.length q6) cj.1
          obtain ⟨tx, htx⟩ : ∃ tx, tx = w6.heap.size := ⟨_, rfl⟩
          rw [← htx] at ht6
          have hb7 := estep hb6 hba
          have HB7 := hid (estep HB5.out hb7)
          have HT7 := hid ht6
          have HU7 := hid (HT5.out.up hb7)
          have HM7 := hid (And.intro (HM5.out.up hb7) (hm6.up hba).rv)
          have HS7 := hid (HS5.out.trans hs6.symm)
          clear hba ht6 hb6 hb7 hm6 hs6 HAX HB5 HT5 HM5 HS5
          go_upto_region 19 with (fail)
          rw [← htx]
          clear htx
          generalize w6.alloc (.cells #[.int .i64 ((j : Int) + 1), .slice A6 V6.length q6, .string (bs cj.1)] 32) = w7 at *
          generalize hv6 : V6.length = v6 at *
          clear hv6
          obtain ⟨t0, t1, t2⟩ := HU7.out.cells
          obtain ⟨s0, s1, s2⟩ := HT7.out.cells
          have HSA := hid (rtsame_tv ((j : Int) + 1) cj.1 (.slice A4 v4 q4) (.slice A6 v6 q6) V4 V6 w7 HS7.out HM7.out.1 HM7.out.2 (by rw [HV4.out]; exact HL5.out))
          go_wp2_with fail
          refine HSA.out.mono ?_
          rintro e w8 ⟨rfl, hb8⟩
          have HB8 := hid (estep HB7.out hb8)
          clear hb8 t0 t1 t2 s0 s1 s2 HSA HS7 HM7 HU7 HT7 HB7 HL5 HV4
          go_wp2_with fail
          go_roundg (cn - (j + 1))
          case measure => omega
          case rel => exact ⟨j + 1, by first | rfl | go_num | (simp), by omega, by omega, HB8⟩
        · obtain rfl : j = cn := by omega
          have hjd : decide ((j : Int) + 1 ≤ (j : Int)) = false := decide_eq_false (by omega)
          have HVX := hid (fun (w2 : World) (hb : Below v.heap.size v w2) => cversions_any xg (j : Int) w2 (by rw [← HCN.out]; exact (HPV.out.px.up hb).cells.1) (by omega) (by omega))
          have HRX : Hid (∀ w2, Below v.heap.size v w2 → Calls Tryz.prog 12 #[.pointer (some ⟨xg, 0, none⟩)] w2 fun e w' => e = .returned (.int .i64 0) ∧ Below w2.heap.size w2 w') := hid fun w2 hb => crefused_any xg 0 w2 (HPV.out.px.up hb).cells.2.1 (by omega) (by omega)
          go_wp2_with fail
          refine (HVS.out _ HW.out).mono ?_
          rintro e w3 ⟨rfl, hb3⟩
          have HB3 := hid (estep HW.out hb3)
          clear hb3
          go_wp2_with fail
          refine (HVS.out _ HB3.out).mono ?_
          rintro e w4 ⟨rfl, hb4⟩
          have HB4 := hid (estep HB3.out hb4)
          clear hb4
          go_wp2_with fail
          refine (HVX.out _ HB4.out).mono ?_
          rintro e w5 ⟨rfl, hb5⟩
          have HB5 := hid (estep HB4.out hb5)
          clear hb5
          go_wp2_with fail
          refine (HRX.out _ HB5.out).mono ?_
          rintro e w6 ⟨rfl, hb6⟩
          have HB6 := hid (estep HB5.out hb6)
          clear hb6
          go_wp2_with fail
          refine (known18_any _ (HE.out.up (estep HPV.out.bel HB6.out))).mono ?_
          rintro e w7 ⟨rfl, hb7⟩
          go_wp2_with fail
          go_returns
          exact ⟨rfl, estep HPV.out.bel (estep HB6.out hb7)⟩
end Go.Proofs.YtelglcakekgdeaaGreatDoor
