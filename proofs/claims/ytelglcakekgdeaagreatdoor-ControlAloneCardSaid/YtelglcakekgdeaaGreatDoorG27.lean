/- Texts put together: Yl Ys. -/
import Derived.Test.YtelglcakekgdeaaGreatDoorG25
import Derived.Test.YtelglcakekgdeaaGreatDoorG26
namespace Go.Proofs.YtelglcakekgdeaaGreatDoor
set_option linter.unusedVariables false
set_option linter.unusedSimpArgs false
open Go.RowKit Go.Joins

/-- The blocks that M allows, of those that are. -/
def In (M : Nat → Prop) (w : World) : Nat → Prop := fun b => b < w.heap.size ∧ M b
/-- A slice of rules that can be read, in blocks that M allows. -/
def RM (w : World) (M : Nat → Prop) (y : Value) (U : List Ru) : Prop := RN w (In M w) y U
theorem rn_no (w : World) (N : Nat → Prop) : RN w N (.slice none 0 0) [] := ⟨none, 0, rfl, GX.nil _ _ _, fun u hu => (by cases hu), fun _ => rfl, Nat.le_refl _, by simp⟩
/-- A slice of texts that can be read, in blocks that M allows. -/
def TM (w : World) (M : Nat → Prop) (y : Value) (l : List (List UInt8)) : Prop := TX w (In M w) y l
theorem STexts.same {w w' : World} {N : Nat → Prop} {A : Option Addr} {L : List (List UInt8)} (h : STexts w N A L) (hs : ∀ b, N b → w'.heap[b]? = w.heap[b]?) : STexts w' N A L := by
  intro k hk
  obtain ⟨ad, e, h1, h2⟩ := h k hk
  refine ⟨ad, e, h1, (World.cell?_of_block ?_).trans h2⟩
  rw [add_block]
  exact hs _ h1
theorem TX.same {w w' : World} {N : Nat → Prop} {y : Value} {l : List (List UInt8)} (h : TX w N y l) (hs : ∀ b, N b → w'.heap[b]? = w.heap[b]?) : TX w' N y l := by
  obtain ⟨A, c, e, h1, h2⟩ := h
  exact ⟨A, c, e, h1.same hs, h2⟩
theorem TX.imp {w : World} {N M : Nat → Prop} {y : Value} {l : List (List UInt8)} (h : TX w N y l) (hs : ∀ b, N b → M b) : TX w M y l := by
  obtain ⟨A, c, e, h1, h2⟩ := h
  exact ⟨A, c, e, h1.imp hs, h2⟩
section
variable {w w' : World} {M : Nat → Prop} {y : Value} {U : List Ru} {l : List (List UInt8)} {g : Nat}
theorem RM.up (h : RM w M y U) (hb : Below w.heap.size w w') : RM w' M y U :=
  (RN.same h fun b hB => hb.block b hB.1).imp fun b hB => ⟨Nat.lt_of_lt_of_le hB.1 hb.size, hB.2⟩
theorem RM.only (h : RM w M y U) (ho : Onl g w w') (hg : ¬ M g) : RM w' M y U :=
  (RN.same h fun b hB => ho.block b hB.1 (fun e => hg (e ▸ hB.2))).imp fun b hB => ⟨Nat.lt_of_lt_of_le hB.1 ho.size, hB.2⟩
theorem RM.rv (h : RM w M y U) : RV w y U := RN.rv h fun b hB => hB.1
theorem RM.imp {M2 : Nat → Prop} (h : RM w M y U) (hm : ∀ b, b < w.heap.size → M b → M2 b) : RM w M2 y U := RN.imp h fun b hB => ⟨hB.1, hm b hB.1 hB.2⟩
theorem RM.of_rv (h : RV w y U) (hb : Below w.heap.size w w') (hM : ∀ b, b < w.heap.size → M b) : RM w' M y U :=
  (RN.same h.rn fun b hB => hb.block b hB).imp fun b hB => ⟨Nat.lt_of_lt_of_le hB hb.size, hM b hB⟩
theorem RM.none (w : World) (M : Nat → Prop) : RM w M (.slice none 0 0) [] := ⟨Option.none, 0, rfl, GX.nil _ _ _, fun u hu => (by cases hu), fun _ => rfl, Nat.le_refl _, by simp⟩
theorem TM.up (h : TM w M y l) (hb : Below w.heap.size w w') : TM w' M y l :=
  (TX.same h fun b hB => hb.block b hB.1).imp fun b hB => ⟨Nat.lt_of_lt_of_le hB.1 hb.size, hB.2⟩
theorem TM.only (h : TM w M y l) (ho : Onl g w w') (hg : ¬ M g) : TM w' M y l :=
  (TX.same h fun b hB => ho.block b hB.1 (fun e => hg (e ▸ hB.2))).imp fun b hB => ⟨Nat.lt_of_lt_of_le hB.1 ho.size, hB.2⟩
theorem TM.tx (h : TM w M y l) : TX w (· < w.heap.size) y l := TX.imp h fun b hB => hB.1
theorem TM.imp {M2 : Nat → Prop} (h : TM w M y l) (hm : ∀ b, b < w.heap.size → M b → M2 b) : TM w M2 y l := TX.imp h fun b hB => ⟨hB.1, hm b hB.1 hB.2⟩
theorem TM.of_tx (h : TX w (· < w.heap.size) y l) (hb : Below w.heap.size w w') (hM : ∀ b, b < w.heap.size → M b) : TM w' M y l :=
  (TX.same h fun b hB => hb.block b hB).imp fun b hB => ⟨Nat.lt_of_lt_of_le hB hb.size, hM b hB⟩
end
theorem Bk.only {w w' : World} {g g2 : Nat} {t : TypeId} {cs : Array Value} (k : Bk w g t cs) (ho : Onl g2 w w') (hn : g ≠ g2) : Bk w' g t cs := (ho.block g k.lt hn).trans k
def encS1 (s : List UInt8) : List Value := [.string (bs s)]
theorem encS1_len (s : List UInt8) : (encS1 s).length = 1 := rfl
theorem rowS1 : RowT Tryz.prog encS1 1 22 9 (.string ByteArray.empty) 16 where
  ht := Tryz.underlying22
  inf := by kernel_rfl
  hzs := rfl
  k0 := by decide
  hk := fun _ => rfl
  h1 := fun x u hu => by
    simp [encS1] at hu
    subst hu; rfl
  hb := by decide
theorem gx_of_stx {w : World} {N : Nat → Prop} {A : Option Addr} {L : List (List UInt8)} (h : STexts w N A L) : GX encS1 1 w N A L := by
  intro i hi
  obtain ⟨ad, e, h1, h2⟩ := h i hi
  obtain ⟨ad0, e0, -, h20⟩ := h 0 (by omega)
  obtain rfl : ad = ad0 := by rw [e] at e0; injection e0
  have hp2 := plain_of_cell h20
  simp only [Addr.add, if_true] at hp2
  refine ⟨ad.block, ad.off, by rw [e]; exact congrArg some hp2, h1, fun j hj => ?_⟩
  obtain rfl : j = 0 := by omega
  rw [hp2, Addr.add_lit] at h2
  rw [show ad.off + (i * 1 + 0) = ad.off + i by omega, h2]
  rfl
theorem stx_of_gx {w : World} {N : Nat → Prop} {A : Option Addr} {L : List (List UInt8)} (h : GX encS1 1 w N A L) : STexts w N A L := by
  intro i hi
  obtain ⟨b, o, e, h1, h2⟩ := h i hi
  refine ⟨⟨b, o, none⟩, e, h1, ?_⟩
  have := h2 0 (by omega)
  rw [show i * 1 + 0 = i by omega] at this
  rw [Addr.add_lit, this]
  rfl
set_option maxRecDepth 100000 in
set_option maxHeartbeats 4000000 in
theorem cloneS_any (A : Option Addr) (c : Nat) (l : List (List UInt8)) (w : World) (h1 : STexts w (· < w.heap.size) A l) (hl : l.length ≤ 1000000) :
    Calls Tryz.prog 14 #[.slice A l.length c] w fun e w' => ∃ v, e = .returned v ∧ GB encS1 1 9 w' w.heap.size v l ∧ Below w.heap.size w w' := by
  have heq := eqnil 22 9 Tryz.underlying22
  rcases A with _ | ad
  · have hL0 : l = [] := by
      rcases l with _ | ⟨p, r⟩
      · rfl
      · obtain ⟨b, e, _⟩ := h1 0 (by simp)
        cases e
    subst hL0
    go_enter Tryz.func14, Tryz.ntmps14
    go_wp2_with fail
    go_returns
    exact ⟨_, rfl, GB.nil _ _, Below.refl _ _⟩
  · have hb0 := enew w (.cells #[] 9)
    have hown0 : GB encS1 1 9 (w.alloc (.cells #[] 9)) w.heap.size (.slice (some ⟨w.heap.size, 0, none⟩) 0 0) [] := by
      have := World.ownsRow_lit (e := 9) (size := 1) w #[] 0 (Nat.le_refl _) (by unfold maxLen; omega) (by simp)
      simpa [GB, gvals] using this
    have H0 := hid (And.intro hb0 (And.intro hown0 ((gx_of_stx h1).up hb0)))
    clear hb0 hown0 h1
    go_enter Tryz.func14, Tryz.ntmps14
    go_wp2_with (at_builtin; refine wpList_append_gx (W0 := w) rowS1 rfl _ _ rfl w.heap.size (.slice (some ⟨w.heap.size, 0, none⟩) 0 0) [] l (some ad) c _ rfl H0.out.2.1 rfl H0.out.2.2 (fun h => by cases h) (by simp; omega) H0.out.1 (Nat.le_refl _) ?_)
    intro v1 w1 hown1 hbel1 _
    have H1 := hid (And.intro hown1 hbel1)
    clear hown1 hbel1
    go_wp2_with fail
    go_returns
    exact ⟨_, rfl, H1.out.1, H1.out.2⟩
end Go.Proofs.YtelglcakekgdeaaGreatDoor
namespace Go.Proofs.YtelglcakekgdeaaGreatDoor
set_option linter.unusedVariables false
set_option linter.unusedSimpArgs false
open Go.RowKit Go.Joins

/-- A table that can be read, in blocks that N allows. -/
def TNN (w : World) (N : Nat → Prop) (t : Value) (T : Tt) : Prop := ∃ y V, t = .agg #[.int .i64 T.1, y, .string (bs T.2.1)] ∧ RN w N y V ∧ V.map Ru.sem = T.2.2
theorem TNN.none (w : World) (N : Nat → Prop) : TNN w N (.agg #[.int .i64 0, .slice none 0 0, .string (bs [])]) noT := ⟨_, [], rfl, rn_no w N, rfl⟩
theorem rn_put3' {w : World} {N : Nat → Prop} {y : Value} {V : List Ru} (h : RN w N y V) (g : Nat) (hg : ∀ b, N b → b ≠ g) (a b c : Value) : RN (((w.setCell ⟨g, 0, none⟩ a).setCell ⟨g, 1, none⟩ b).setCell ⟨g, 2, none⟩ c) N y V :=
  h.same fun k hk => by rw [Below.heap_setCell _ _ _ k (hg k hk), Below.heap_setCell _ _ _ k (hg k hk), Below.heap_setCell _ _ _ k (hg k hk)]
set_option maxRecDepth 100000 in
set_option maxHeartbeats 8000000 in
theorem tcompile_in (N : Nat → Prop) (y : Value) (f : List UInt8) (U : List Ru) (v : Int) (ny : Value) (l : List (List UInt8)) (w : World) (hy : RN w N y U) (hNw : ∀ b, N b → b < w.heap.size) (hs : ∀ u ∈ U, okRs u.sem) (hf : f.length ≤ 140737488351232) (hn : TX w (· < w.heap.size) ny l) {z : Int} {T : Tt} (H : Hid (compT v f (U.map Ru.sem) l = (z, T))) :
    Calls Tryz.prog 18 #[.agg #[y, .string (bs f)], .int .i64 v, ny] w fun e w' => (∃ t, e = .returned (.tuple #[t, .int .i64 z]) ∧ TNN w' (fun b => (w.heap.size ≤ b ∧ b < w'.heap.size) ∨ N b) t T) ∧ Below w.heap.size w w' := by
  have c3 : (ByteArray.mk #[]) = bs [] := rfl
  have hb1 := enew w (.cells #[y, .string (bs f)] 41)
  have hb2 := enew (w.alloc (.cells #[y, .string (bs f)] 41)) (.cells #[.int .i64 0, .slice none 0 0, .string (bs [])] 32)
  have hk0 := (BF.new w y f).up hb2
  have ht0 := BT.new (w.alloc (.cells #[y, .string (bs f)] 41)) 0 (.slice none 0 0) []
  rw [World.size_alloc] at ht0
  have hb0 := estep hb1 hb2
  have HNW := hid hNw
  have HY := hid (And.intro ((hy.rv hNw).up hb0) (tx_up hn hb0))
  have HB := hid hb0
  have HYR := hid hy
  have hgg : w.heap.size ≤ w.heap.size + 1 := by omega
  have hgn : w.heap.size + 1 ≠ w.heap.size := by omega
  have H0 := hid H.out
  have HCH := hid (fun (w2 : World) (h1 : RV w2 y U) (h2 : TX w2 (· < w2.heap.size) ny l) (zc : Int) (hz : Hid (chkC (chkR · l) f (U.map Ru.sem) = zc)) => tcheck_any y f U ny l w2 h1 hs hf h2 hz)
  have HC := hid (show compT v f (U.map Ru.sem) l = if badV v = true then (12, noT) else if chkC (chkR · l) f (U.map Ru.sem) ≠ 0 then (chkC (chkR · l) f (U.map Ru.sem), noT) else (0, (v, f, ordB rkS (U.map Ru.sem))) from rfl)
  clear hn hb0 hb1 hb2 hy hs hf H hNw
  go_enter Tryz.func18, Tryz.ntmps18
  go_upto_region 1 with (fail)
  generalize (w.alloc (.cells #[y, .string (bs f)] 41)).alloc (.cells #[.int .i64 0, .slice none 0 0, .string (bs [])] 32) = v0 at *
  obtain ⟨k0, k1⟩ := hk0.cells
  obtain ⟨t0, t1, t2⟩ := ht0.cells
  obtain ⟨z0, z1, z2⟩ := ht0.froz
  have HT := hid ht0
  have HK := hid hk0
  clear ht0 hk0
  by_cases hv : badV v = true
  · have HZ := hid (show (12, noT) = (z, T) by rw [← H0.out, HC.out, if_pos hv])
    obtain ⟨e1, e2⟩ := Prod.mk.inj HZ.out
    subst e1 e2
    obtain ⟨a0, a1, a2⟩ := (HT.out.set3 0 (.slice none 0 0) []).cells
    have HB2 := hid (below_set3 HB.out (w.heap.size + 1) hgg (.int .i64 0) (.slice none 0 0) (.string (bs [])))
    have HT2 := hid (fun (w2 : World) (N2 : Nat → Prop) => TNN.none w2 N2)
    clear HCH HC H0 HZ HY HT
    by_cases hv1 : v < 1
    · have d1 : decide (v < 1) = true := decide_eq_true hv1
      clear hv hv1
      have HA := hid (And.intro a0 (And.intro a1 a2))
      clear a0 a1 a2
      go_wp2_with fail
      (try simp only [Exit.inBlock, Exit.then])
      refine bodyPost_ret (v := .tuple #[.agg #[.int .i64 0, .slice none 0 0, .string (bs [])], .int .i64 12]) (by simp [results, Tryz.results18, go_sem, HA.out.1, HA.out.2.1, HA.out.2.2]; try rfl) rfl ?_
      exact ⟨⟨_, rfl, HT2.out _ _⟩, HB2.out⟩
    · have d1 : decide (v < 1) = false := decide_eq_false hv1
      have d2 : decide (1099511627776 < v) = true := by rw [badV, d1, Bool.false_or] at hv; exact hv
      clear hv hv1
      have HA := hid (And.intro a0 (And.intro a1 a2))
      clear a0 a1 a2
      go_wp2_with fail
      (try simp only [Exit.inBlock, Exit.then])
      refine bodyPost_ret (v := .tuple #[.agg #[.int .i64 0, .slice none 0 0, .string (bs [])], .int .i64 12]) (by simp [results, Tryz.results18, go_sem, HA.out.1, HA.out.2.1, HA.out.2.2]; try rfl) rfl ?_
      exact ⟨⟨_, rfl, HT2.out _ _⟩, HB2.out⟩
  have hvf : badV v = false := by simpa using hv
  rw [badV, Bool.or_eq_false_iff] at hvf
  obtain ⟨d1, d2⟩ := hvf
  have HC1 := hid (show (z, T) = if chkC (chkR · l) f (U.map Ru.sem) ≠ 0 then (chkC (chkR · l) f (U.map Ru.sem), noT) else (0, (v, f, ordB rkS (U.map Ru.sem))) by rw [← H0.out, HC.out, if_neg hv])
  obtain ⟨zc, hzc⟩ : ∃ zc, chkC (chkR · l) f (U.map Ru.sem) = zc := ⟨_, rfl⟩
  rw [hzc] at HC1
  have HZC := hid hzc
  clear hv H0 HC hzc
  go_wp2_with fail
  refine (HCH.out _ HY.out.1 HY.out.2 zc HZC).mono ?_
  rintro e w1 ⟨rfl, hb2⟩
  have HB1 := hid (estep HB.out hb2)
  have HY1 := hid (HY.out.1.up hb2)
  have HYN := hid (tx_up HY.out.2 hb2)
  have hk1 := HK.out.up hb2
  have ht1 := HT.out.up hb2
  clear k0 k1 t0 t1 t2 z0 z1 z2 d1 d2
  obtain ⟨t0, t1, t2⟩ := ht1.cells
  obtain ⟨z0, z1, z2⟩ := ht1.froz
  by_cases hz0 : zc = 0
  · subst hz0
    have HZ := hid (show (z, T) = (0, (v, f, ordB rkS (U.map Ru.sem))) by rw [HC1.out, if_neg (by simp)])
    obtain ⟨e1, e2⟩ := Prod.mk.inj HZ.out
    subst e1 e2
    have hok := chkC_small HZC.out
    have HO := hid (fun (w2 : World) (h : Below w.heap.size w w2) => order_in N y U w2 (HYR.out.same fun b hb => h.block b (HNW.out b hb)) (fun b hb => Nat.lt_of_lt_of_le (HNW.out b hb) h.size) (by have := hok.1; omega) (fun u hu => by have := hok.2 u hu; omega))
    have hN : ∀ (w2 w3 : World), w1.heap.size ≤ w2.heap.size → w2.heap.size ≤ w3.heap.size → ∀ b, ((w2.heap.size ≤ b ∧ b < w3.heap.size) ∨ N b) → b ≠ w.heap.size + 1 ∧ ((w.heap.size ≤ b ∧ b < w3.heap.size) ∨ N b) := fun w2 w3 h1 h2 b hb => by
      have := Bk.lt ht1
      rcases hb with hb | hb
      · exact ⟨by omega, Or.inl ⟨by omega, hb.2⟩⟩
      · exact ⟨by have := HNW.out b hb; omega, Or.inr hb⟩
    have HN := hid hN
    clear hN
    have HB2 := hid hb2
    have HT1 := hid ht1
    have HK1 := hid hk1
    have hsz1 : w.heap.size + 1 < w1.heap.size := Bk.lt ht1
    clear HCH HC1 HZ hok hb2 HT HK HY
    go_upto_region 6 with (fail)
    clear t0 t1 t2 z0 z1 z2
    obtain ⟨k0, k1⟩ := HK1.out.cells
    obtain ⟨t0, t1, t2⟩ := HT1.out.cells
    obtain ⟨z0, z1, z2⟩ := HT1.out.froz
    have hz : Below w1.heap.size w1 w1.drew := (Below.refl _ _).drew
    go_region_held3 (fun w' => w'.cell? ⟨w.heap.size, 0, none⟩ = some y ∧ w'.cell? ⟨w.heap.size, 1, none⟩ = some (.string (bs f)) ∧ Below w.heap.size w w') (first | (with_reducible exact keepBF0 HK1.out HB1.out hz) | (with_reducible exact keepBF0 HK1.out HB1.out (hz.trans (Below.mono (by assumption) hz.size))) | (with_reducible exact keepBF3 HK1.out HB1.out hz _ hgg hgn _ _ _)) (first
      | (go_at_call 27
         ((with_reducible refine (HO.out _ (estep HB1.out hz)).mono ?_); rintro e w5 ⟨y1, V1, rfl, ⟨hrv1, hvm1⟩, hy5⟩)
         obtain ⟨A1, c1, rfl, -⟩ := id hrv1
         have hzs := hz.size
         have hzt := hy5.size
         have hz := hz.trans (hy5.mono hz.size)
         have ht5 := HT1.out.up hz
         obtain ⟨t0, t1, t2⟩ := ht5.cells
         obtain ⟨z0, z1, z2⟩ := ht5.froz))
    all_goals
      obtain ⟨a0, a1, a2⟩ := (ht5.set3 v (.slice A1 V1.length c1) f).cells
      have HB3 := hid (below_set3 (estep HB1.out hz) (w.heap.size + 1) hgg (.int .i64 v) (.slice A1 V1.length c1) (.string (bs f)))
      have hgl := hsz1
      have HA := hid (And.intro a0 (And.intro a1 a2))
      clear a0 a1 a2
      go_wp2_with fail
      (try simp only [Exit.inBlock, Exit.then])
      refine bodyPost_ret (v := .tuple #[.agg #[.int .i64 v, .slice A1 V1.length c1, .string (bs f)], .int .i64 0]) (by simp [results, Tryz.results18, go_sem, HA.out.1, HA.out.2.1, HA.out.2.2]; try rfl) rfl ?_
      refine ⟨⟨_, rfl, _, V1, rfl, ?_, hvm1⟩, HB3.out⟩
      refine (rn_put3' hrv1 (w.heap.size + 1) (fun b hb => (HN.out _ _ hzs hzt b hb).1) _ _ _).imp fun b hb => ?_
      rw [World.size_setCell, World.size_setCell, World.size_setCell]
      exact (HN.out _ _ hzs hzt b hb).2
  · have hz1 : (zc != 0) = true := by simpa using hz0
    have hz2 : decide (zc = 0) = false := decide_eq_false hz0
    have hz3 : (!decide (zc = 0)) = true := by rw [hz2]; rfl
    have HZ := hid (show (z, T) = (zc, noT) by rw [HC1.out, if_pos hz0])
    obtain ⟨rfl, rfl⟩ := Prod.mk.inj HZ.out
    obtain ⟨a0, a1, a2⟩ := (ht1.set3 0 (.slice none 0 0) []).cells
    have HB2 := hid (below_set3 HB1.out (w.heap.size + 1) hgg (.int .i64 0) (.slice none 0 0) (.string (bs [])))
    have HT2 := hid (fun (w2 : World) (N2 : Nat → Prop) => TNN.none w2 N2)
    clear hb2 hz0 HY HC1 HZ HT HK
    have HA := hid (And.intro a0 (And.intro a1 a2))
    clear a0 a1 a2
    clear HCH hk1 ht1
    go_wp2_with fail
    (try simp only [Exit.inBlock, Exit.then])
    refine bodyPost_ret (v := .tuple #[.agg #[.int .i64 0, .slice none 0 0, .string (bs [])], .int .i64 z]) (by simp [results, Tryz.results18, go_sem, HA.out.1, HA.out.2.1, HA.out.2.2]; try rfl) rfl ?_
    exact ⟨⟨_, rfl, HT2.out _ _⟩, HB2.out⟩
end Go.Proofs.YtelglcakekgdeaaGreatDoor
