/- SnapAlone: the walk. -/
import Derived.Test.YtelglcakekgdeaaA27
import Derived.Test.YtelglcakekgdeaaA28
import Derived.Test.YtelglcakekgdeaaA26
namespace Go.Proofs.Ytelglcakekgdeaa
set_option linter.unusedVariables false
set_option linter.unusedSimpArgs false
open Go.RowKit Go.Joins

/-- The blocks that M allows, of those that are. -/
def In (M : Nat → Prop) (w : World) : Nat → Prop := fun b => b < w.heap.size ∧ M b
/-- A slice of rules that can be read, in blocks that M allows. -/
def RM (w : World) (M : Nat → Prop) (y : Value) (U : List Ru) : Prop := RN w (In M w) y U
/-- A slice of texts that can be read, in blocks that M allows. -/
def TM (w : World) (M : Nat → Prop) (y : Value) (l : List (List UInt8)) : Prop := TX w (In M w) y l
theorem STexts.same {w w' : World} {N : Nat → Prop} {A : Option Addr} {L : List (List UInt8)} (h : STexts w N A L) (hs : ∀ b, N b → w'.heap[b]? = w.heap[b]?) : STexts w' N A L := by
  intro k hk
  obtain ⟨ad, e, h1, h2⟩ := h k hk
  refine ⟨ad, e, h1, (World.cell?_of_block ?_).trans h2⟩
  rw [add_block]
  exact hs _ h1
theorem TX.same {w w' : World} {N : Nat → Prop} {y : Value} {l : List (List UInt8)} (h : TX w N y l) (hs : ∀ b, N b → w'.heap[b]? = w.heap[b]?) : TX w' N y l := by
  obtain ⟨A, c, e, h1, h2⟩ := h
  exact ⟨A, c, e, h1.same hs, h2⟩
theorem TX.imp {w : World} {N M : Nat → Prop} {y : Value} {l : List (List UInt8)} (h : TX w N y l) (hs : ∀ b, N b → M b) : TX w M y l := by
  obtain ⟨A, c, e, h1, h2⟩ := h
  exact ⟨A, c, e, h1.imp hs, h2⟩
section
variable {w w' : World} {M : Nat → Prop} {y : Value} {U : List Ru} {l : List (List UInt8)} {g : Nat}
theorem RM.up (h : RM w M y U) (hb : Below w.heap.size w w') : RM w' M y U :=
  (RN.same h fun b hB => hb.block b hB.1).imp fun b hB => ⟨Nat.lt_of_lt_of_le hB.1 hb.size, hB.2⟩
theorem RM.only (h : RM w M y U) (ho : Onl g w w') (hg : ¬ M g) : RM w' M y U :=
  (RN.same h fun b hB => ho.block b hB.1 (fun e => hg (e ▸ hB.2))).imp fun b hB => ⟨Nat.lt_of_lt_of_le hB.1 ho.size, hB.2⟩
theorem RM.rv (h : RM w M y U) : RV w y U := RN.rv h fun b hB => hB.1
theorem RM.imp {M2 : Nat → Prop} (h : RM w M y U) (hm : ∀ b, b < w.heap.size → M b → M2 b) : RM w M2 y U := RN.imp h fun b hB => ⟨hB.1, hm b hB.1 hB.2⟩
theorem RM.of_rv (h : RV w y U) (hb : Below w.heap.size w w') (hM : ∀ b, b < w.heap.size → M b) : RM w' M y U :=
  (RN.same h.rn fun b hB => hb.block b hB).imp fun b hB => ⟨Nat.lt_of_lt_of_le hB hb.size, hM b hB⟩
theorem RM.none (w : World) (M : Nat → Prop) : RM w M (.slice none 0 0) [] := ⟨Option.none, 0, rfl, GX.nil _ _ _, fun u hu => (by cases hu), fun _ => rfl, Nat.le_refl _, by simp⟩
theorem TM.up (h : TM w M y l) (hb : Below w.heap.size w w') : TM w' M y l :=
  (TX.same h fun b hB => hb.block b hB.1).imp fun b hB => ⟨Nat.lt_of_lt_of_le hB.1 hb.size, hB.2⟩
theorem TM.only (h : TM w M y l) (ho : Onl g w w') (hg : ¬ M g) : TM w' M y l :=
  (TX.same h fun b hB => ho.block b hB.1 (fun e => hg (e ▸ hB.2))).imp fun b hB => ⟨Nat.lt_of_lt_of_le hB.1 ho.size, hB.2⟩
theorem TM.tx (h : TM w M y l) : TX w (· < w.heap.size) y l := TX.imp h fun b hB => hB.1
theorem TM.imp {M2 : Nat → Prop} (h : TM w M y l) (hm : ∀ b, b < w.heap.size → M b → M2 b) : TM w M2 y l := TX.imp h fun b hB => ⟨hB.1, hm b hB.1 hB.2⟩
theorem TM.of_tx (h : TX w (· < w.heap.size) y l) (hb : Below w.heap.size w w') (hM : ∀ b, b < w.heap.size → M b) : TM w' M y l :=
  (TX.same h fun b hB => hb.block b hB).imp fun b hB => ⟨Nat.lt_of_lt_of_le hB hb.size, hM b hB⟩
end
/-- A table that can be read, in blocks that M allows. -/
def TN (w : World) (M : Nat → Prop) (t : Value) (T : Tt) : Prop := ∃ y V, t = .agg #[.int .i64 T.1, y, .string (bs T.2.1)] ∧ RM w M y V ∧ V.map Ru.sem = T.2.2
/-- What a push answers. -/
def pushZ (l : List (List UInt8)) (t1 : Int) (X : Tt) : Int := if wholeB X.1 X.2.1 X.2.2 l = false then 2 else if X.1 < t1 then 13 else 0
/-- What is so of each table that is held. -/
def okT (T : Tt) : Prop := 0 ≤ T.1 ∧ T.1 ≤ 1099511627776 ∧ T.2.1.length ≤ 140737488351232 ∧ T.2.2.length ≤ 16 ∧ ∀ r ∈ T.2.2, okRs r ∧ r.ps.length ≤ 4
theorem okT_no : okT noT := ⟨by decide, by decide, by simp [noT], by simp [noT], fun r hr => (by simp [noT] at hr)⟩
theorem wholeB_ok {v : Int} {f : List UInt8} {U : List Rs} {l : List (List UInt8)} (h : wholeB v f U l = true) : badV v = false ∧ chkC (chkR · l) f U = 0 := by
  rw [wholeB, Bool.and_eq_true] at h
  have h1 := of_decide_eq_true h.1
  have h2 : compT v f U l = (0, (compT v f U l).2) := by rw [← h1]
  exact (compT_ok h2).2
theorem okT_whole {v : Int} {f : List UInt8} {U : List Rs} {l : List (List UInt8)} (h : wholeB v f U l = true) (hf : f.length ≤ 140737488351232) (hs : ∀ r ∈ U, okRs r) : 1 ≤ v ∧ okT (v, f, U) := by
  obtain ⟨h1, h2⟩ := wholeB_ok h
  rw [badV, Bool.or_eq_false_iff] at h1
  have h3 := of_decide_eq_false h1.1
  have h4 := of_decide_eq_false h1.2
  obtain ⟨-, h5, h6⟩ := chkC_ok h2
  exact ⟨by omega, by show 0 ≤ v; omega, by show v ≤ _; omega, hf, h5, fun r hr => ⟨hs r hr, chkR_ps (h6 r hr)⟩⟩
theorem pushZ_ok {l : List (List UInt8)} {t1 : Int} {X : Tt} (h : pushZ l t1 X = 0) : wholeB X.1 X.2.1 X.2.2 l = true ∧ t1 ≤ X.1 := by
  unfold pushZ at h
  split at h
  · exact absurd h (by decide)
  · rename_i h1
    split at h
    · exact absurd h (by decide)
    · exact ⟨by simpa using h1, by omega⟩
/-- A variable that holds a holder's cells. -/
def BHo (w : World) (g : Nat) (ny : Value) (v : Int) (ry : Value) (f : List UInt8) (tk rf : Nat) : Prop := Bk w g 49 #[ny, .int .i64 v, ry, .string (bs f), .int .i64 (tk : Int), .int .i64 (rf : Int)]
theorem BHo.cells {w : World} {g : Nat} {ny : Value} {v : Int} {ry : Value} {f : List UInt8} {tk rf : Nat} (k : BHo w g ny v ry f tk rf) : w.cell? ⟨g, 0, none⟩ = some ny ∧ w.cell? ⟨g, 1, none⟩ = some (.int .i64 v) ∧ w.cell? ⟨g, 2, none⟩ = some ry ∧ w.cell? ⟨g, 3, none⟩ = some (.string (bs f)) ∧ w.cell? ⟨g, 4, none⟩ = some (.int .i64 (tk : Int)) ∧ w.cell? ⟨g, 5, none⟩ = some (.int .i64 (rf : Int)) := ⟨Bk.cell k 0, Bk.cell k 1, Bk.cell k 2, Bk.cell k 3, Bk.cell k 4, Bk.cell k 5⟩
theorem BHo.froz {w : World} {g : Nat} {ny : Value} {v : Int} {ry : Value} {f : List UInt8} {tk rf : Nat} (k : BHo w g ny v ry f tk rf) (i : Nat) : w.frozen? ⟨g, i, none⟩ = false := Bk.frozen k i
theorem BHo.up {w w' : World} {g : Nat} {ny : Value} {v : Int} {ry : Value} {f : List UInt8} {tk rf : Nat} (k : BHo w g ny v ry f tk rf) (hb : Below w.heap.size w w') : BHo w' g ny v ry f tk rf := Bk.up k hb
theorem Bk.only {w w' : World} {g g2 : Nat} {t : TypeId} {cs : Array Value} (k : Bk w g t cs) (ho : Onl g2 w w') (hn : g ≠ g2) : Bk w' g t cs := (ho.block g k.lt hn).trans k
/-- A holder: what it holds, how many it took, how many it refused. -/
def HO (M : Nat → Prop) (w : World) (g : Nat) (l : List (List UInt8)) (T : Tt) (tk rf : Nat) : Prop := ¬ M g ∧ okT T ∧ tk + rf ≤ 1000000 ∧ ∃ ny ry V, BHo w g ny T.1 ry T.2.1 tk rf ∧ TM w M ny l ∧ RM w M ry V ∧ V.map Ru.sem = T.2.2
section
variable {w w' : World} {M : Nat → Prop} {g g2 : Nat} {l : List (List UInt8)} {T : Tt} {tk rf : Nat}
theorem HO.up (h : HO M w g l T tk rf) (hb : Below w.heap.size w w') : HO M w' g l T tk rf := by
  obtain ⟨h0, h1, h2, ny, ry, V, k0, k1, k2, k3⟩ := h
  exact ⟨h0, h1, h2, ny, ry, V, k0.up hb, k1.up hb, k2.up hb, k3⟩
theorem HO.only (h : HO M w g l T tk rf) (ho : Onl g2 w w') (hg : ¬ M g2) (hn : g ≠ g2) : HO M w' g l T tk rf := by
  obtain ⟨h0, h1, h2, ny, ry, V, k0, k1, k2, k3⟩ := h
  exact ⟨h0, h1, h2, ny, ry, V, Bk.only k0 ho hn, k1.only ho hg, k2.only ho hg, k3⟩
theorem HO.lt (h : HO M w g l T tk rf) : g < w.heap.size := by
  obtain ⟨h0, h1, h2, ny, ry, V, k0, k1, k2, k3⟩ := h
  exact Bk.lt k0
theorem HO.imp {M2 : Nat → Prop} (h : HO M w g l T tk rf) (hg : ¬ M2 g) (hm : ∀ b, b < w.heap.size → M b → M2 b) : HO M2 w g l T tk rf := by
  obtain ⟨h0, h1, h2, ny, ry, V, k0, k1, k2, k3⟩ := h
  exact ⟨hg, h1, h2, ny, ry, V, k0, k1.imp hm, k2.imp hm, k3⟩
theorem TN.up {t : Value} (h : TN w M t T) (hb : Below w.heap.size w w') : TN w' M t T := by
  obtain ⟨y, V, e, h1, h2⟩ := h
  exact ⟨y, V, e, h1.up hb, h2⟩
theorem TN.only {t : Value} (h : TN w M t T) (ho : Onl g2 w w') (hg : ¬ M g2) : TN w' M t T := by
  obtain ⟨y, V, e, h1, h2⟩ := h
  exact ⟨y, V, e, h1.only ho hg, h2⟩
theorem TN.none (w : World) (M : Nat → Prop) : TN w M (.agg #[.int .i64 0, .slice none 0 0, .string (bs [])]) noT := ⟨_, [], rfl, RM.none w M, rfl⟩
end
def encS1 (s : List UInt8) : List Value := [.string (bs s)]
theorem encS1_len (s : List UInt8) : (encS1 s).length = 1 := rfl
theorem rowS1 : RowT Try.prog encS1 1 22 9 (.string ByteArray.empty) 16 where
  ht := Try.underlying22
  inf := by kernel_rfl
  hzs := rfl
  k0 := by decide
  hk := fun _ => rfl
  h1 := fun x u hu => by
    simp [encS1] at hu
    subst hu; rfl
  hb := by decide
theorem gx_of_stx {w : World} {N : Nat → Prop} {A : Option Addr} {L : List (List UInt8)} (h : STexts w N A L) : GX encS1 1 w N A L := by
  intro i hi
  obtain ⟨ad, e, h1, h2⟩ := h i hi
  obtain ⟨ad0, e0, -, h20⟩ := h 0 (by omega)
  obtain rfl : ad = ad0 := by rw [e] at e0; injection e0
  have hp2 := plain_of_cell h20
  simp only [Addr.add, if_true] at hp2
  refine ⟨ad.block, ad.off, by rw [e]; exact congrArg some hp2, h1, fun j hj => ?_⟩
  obtain rfl : j = 0 := by omega
  rw [hp2, Addr.add_lit] at h2
  rw [show ad.off + (i * 1 + 0) = ad.off + i by omega, h2]
  rfl
theorem stx_of_gx {w : World} {N : Nat → Prop} {A : Option Addr} {L : List (List UInt8)} (h : GX encS1 1 w N A L) : STexts w N A L := by
  intro i hi
  obtain ⟨b, o, e, h1, h2⟩ := h i hi
  refine ⟨⟨b, o, none⟩, e, h1, ?_⟩
  have := h2 0 (by omega)
  rw [show i * 1 + 0 = i by omega] at this
  rw [Addr.add_lit, this]
  rfl
end Go.Proofs.Ytelglcakekgdeaa
namespace Go.Proofs.Ytelglcakekgdeaa
set_option linter.unusedVariables false
set_option linter.unusedSimpArgs false
open Go.RowKit Go.Joins

set_option maxRecDepth 100000 in
set_option maxHeartbeats 4000000 in
theorem cloneS_any (A : Option Addr) (c : Nat) (l : List (List UInt8)) (w : World) (h1 : STexts w (· < w.heap.size) A l) (hl : l.length ≤ 1000000) :
    Calls Try.prog 14 #[.slice A l.length c] w fun e w' => ∃ v, e = .returned v ∧ GB encS1 1 9 w' w.heap.size v l ∧ Below w.heap.size w w' := by
  have heq := eqnil 22 9 Try.underlying22
  rcases A with _ | ad
  · have hL0 : l = [] := by
      rcases l with _ | ⟨p, r⟩
      · rfl
      · obtain ⟨b, e, _⟩ := h1 0 (by simp)
        cases e
    subst hL0
    go_enter Try.func14, Try.ntmps14
    go_wp2_with fail
    go_returns
    exact ⟨_, rfl, GB.nil _ _, Below.refl _ _⟩
  · have hb0 := enew w (.cells #[] 9)
    have hown0 : GB encS1 1 9 (w.alloc (.cells #[] 9)) w.heap.size (.slice (some ⟨w.heap.size, 0, none⟩) 0 0) [] := by
      have := World.ownsRow_lit (e := 9) (size := 1) w #[] 0 (Nat.le_refl _) (by unfold maxLen; omega) (by simp)
      simpa [GB, gvals] using this
    have H0 := hid (And.intro hb0 (And.intro hown0 ((gx_of_stx h1).up hb0)))
    clear hb0 hown0 h1
    go_enter Try.func14, Try.ntmps14
    go_wp2_with (at_builtin; refine wpList_append_gx (W0 := w) rowS1 rfl _ _ rfl w.heap.size (.slice (some ⟨w.heap.size, 0, none⟩) 0 0) [] l (some ad) c _ rfl H0.out.2.1 rfl H0.out.2.2 (fun h => by cases h) (by simp; omega) H0.out.1 (Nat.le_refl _) ?_)
    intro v1 w1 hown1 hbel1 _
    have H1 := hid (And.intro hown1 hbel1)
    clear hown1 hbel1
    go_wp2_with fail
    go_returns
    exact ⟨_, rfl, H1.out.1, H1.out.2⟩
set_option maxRecDepth 100000 in
set_option maxHeartbeats 4000000 in
theorem snew_any (ny : Value) (l : List (List UInt8)) (w : World) (hn : TX w (· < w.heap.size) ny l) (hl : l.length ≤ 1000000) :
    Calls Try.prog 5 #[ny] w fun e w' => ∃ g, e = .returned (.pointer (some ⟨g, 0, none⟩)) ∧ w.heap.size ≤ g ∧ HO (fun b => w.heap.size ≤ b ∧ b ≠ g) w' g l noT 0 0 ∧ Below w.heap.size w w' := by
  obtain ⟨A, c, rfl, h1, h3, h4⟩ := hn
  have c0 : (ByteArray.mk #[]) = bs [] := rfl
  have HC := hid (cloneS_any A c l w h1 hl)
  have H4 := hid h4
  clear h1 h3 h4
  go_enter Try.func5, Try.ntmps5
  go_wp2_with fail
  refine HC.out.mono ?_
  rintro e w1 ⟨v1, rfl, hown, hb⟩
  obtain ⟨A1, c1, rfl, hgx, hA, hlc, hcm⟩ := GB.reads encS1_len hown
  have H1 := hid (And.intro hgx (And.intro (Nat.le_trans hlc hcm) hb))
  have hnew := Bk.new w1 49 #[.slice A1 l.length c1, .int .i64 0, .slice none 0 0, .string (bs []), .int .i64 0, .int .i64 0]
  have HN := hid hnew
  clear hown hgx hA hlc hcm hb hnew
  go_wp2_with fail
  go_returns
  obtain ⟨hgx, hcm, hb⟩ := H1.out
  have hb1 := enew w1 (.cells #[.slice A1 l.length c1, .int .i64 0, .slice none 0 0, .string (bs []), .int .i64 0, .int .i64 0] 49)
  refine ⟨_, rfl, hb.size, ⟨fun h => h.2 rfl, okT_no, by omega, _, _, [], HN.out, ?_, RM.none _ _, rfl⟩, estep hb hb1⟩
  refine TM.up (w := w1) ⟨A1, c1, rfl, (stx_of_gx hgx).imp fun b hB => ⟨hB.2, hB.1, fun e => ?_⟩, hcm, H4.out⟩ hb1
  have := hB.2
  omega
set_option maxRecDepth 100000 in
set_option maxHeartbeats 4000000 in
theorem sversion_any (g : Nat) (v : Int) (w : World) (h : w.cell? ⟨g, 1, none⟩ = some (.int .i64 v)) (h1 : 0 ≤ v) (h2 : v ≤ 1099511627776) :
    Calls Try.prog 10 #[.pointer (some ⟨g, 0, none⟩)] w fun e w' => e = .returned (.int .i64 v) ∧ Below w.heap.size w w' := by
  have H := hid h
  clear h
  go_enter Try.func10, Try.ntmps10
  go_wp2_with fail
  refine (aload_any _ v _ H.out).mono ?_
  rintro e w' ⟨rfl, rfl⟩
  go_wp2_with fail
  go_returns
  exact ⟨rfl, Below.refl _ _⟩
set_option maxRecDepth 100000 in
set_option maxHeartbeats 4000000 in
theorem staken_any (g : Nat) (v : Int) (w : World) (h : w.cell? ⟨g, 4, none⟩ = some (.int .i64 v)) (h1 : 0 ≤ v) (h2 : v ≤ 1099511627776) :
    Calls Try.prog 11 #[.pointer (some ⟨g, 0, none⟩)] w fun e w' => e = .returned (.int .i64 v) ∧ Below w.heap.size w w' := by
  have H := hid h
  clear h
  go_enter Try.func11, Try.ntmps11
  go_wp2_with fail
  refine (ncount_any _ v _ H.out (by omega) (by omega)).mono ?_
  rintro e w' ⟨rfl, rfl⟩
  go_wp2_with fail
  go_returns
  exact ⟨rfl, Below.refl _ _⟩
set_option maxRecDepth 100000 in
set_option maxHeartbeats 4000000 in
theorem srefused_any (g : Nat) (v : Int) (w : World) (h : w.cell? ⟨g, 5, none⟩ = some (.int .i64 v)) (h1 : 0 ≤ v) (h2 : v ≤ 1099511627776) :
    Calls Try.prog 12 #[.pointer (some ⟨g, 0, none⟩)] w fun e w' => e = .returned (.int .i64 v) ∧ Below w.heap.size w w' := by
  have H := hid h
  clear h
  go_enter Try.func12, Try.ntmps12
  go_wp2_with fail
  refine (ncount_any _ v _ H.out (by omega) (by omega)).mono ?_
  rintro e w' ⟨rfl, rfl⟩
  go_wp2_with fail
  go_returns
  exact ⟨rfl, Below.refl _ _⟩
set_option maxRecDepth 100000 in
set_option maxHeartbeats 8000000 in
theorem copied_in (N : Nat → Prop) (y : Value) (U : List Ru) (w : World) (hy : RN w N y U) (hN : ∀ b, N b → b < w.heap.size) (h40 : U.length ≤ 1000000) (hps : ∀ u ∈ U, u.ps.length ≤ 1000000) :
    Calls Try.prog 18 #[y] w fun e w' => ∃ v V, e = .returned v ∧ (RN w' (fun b => (w.heap.size ≤ b ∧ b < w'.heap.size) ∨ N b) v V ∧ V.map Ru.sem = U.map Ru.sem) ∧ Below w.heap.size w w' := by
  obtain ⟨A, c, rfl, hx, hp, hA, hlc, hl9⟩ := hy
  have HCL := hid (cloneR_any A c U w (hx.imp hN) hA (by omega))
  have HN := hid hN
  have HP := hid hp
  have HPS := hid hps
  clear hx hp hA hps hN
  go_enter Try.func18, Try.ntmps18
  go_wp2_with fail
  refine HCL.out.mono ?_
  rintro e w1 ⟨v1, rfl, hown, hb1⟩
  rcases GB.form encR_len hown with ⟨rfl, rfl⟩ | ⟨g, cap, rfl, hg1, hg2, hg3, hg4, hg5⟩
  · have HB1 := hid hb1
    clear hown hb1
    go_wp2_with fail
    go_loopg [9] 1 (fun g1 vi wr => vi = .int .i64 0 ∧ wr = w1)
    case atStart => exact ⟨rfl, rfl⟩
    case round =>
      obtain ⟨rfl, rfl⟩ := hrel
      go_wp2_with fail
      go_returns
      exact ⟨_, [], rfl, ⟨⟨none, 0, rfl, GX.nil _ _ _, (fun u hu => by cases hu), fun _ => rfl, Nat.le_refl _, by simp⟩, rfl⟩, HB1.out⟩
  · have hGW : GW encR 10 w1 g 0 U := ⟨hg2, fun t ht => by rw [Nat.zero_add]; exact hg5 t ht⟩
    have hRP : RP w1 (fun b => b < w1.heap.size ∧ b ≠ g ∧ (w.heap.size ≤ b ∨ N b)) U := (HP.out.same fun b hb => hb1.block b (HN.out b hb)).imp fun b hb => ⟨Nat.lt_of_lt_of_le (HN.out b hb) hb1.size, by have := HN.out b hb; omega, Or.inr hb⟩
    have HB1 := hid hb1
    have HG := hid (And.intro hg1 (And.intro hg3 hg4))
    have HST := hid (And.intro hGW hRP)
    clear hown hb1 hg1 hg3 hg4 hg5 hGW hRP hg2
    generalize hnU : U.length = n at *
    have HNU := hid hnU
    clear hnU
    go_wp2_with fail
    go_loopg [9] n (fun g1 vi wr => ∃ (i : Nat) (C : List Ru), vi = .int .i64 i ∧ i ≤ n ∧ n - i ≤ g1 ∧ Hid (C.length = n ∧ C.map Ru.sem = U.map Ru.sem ∧ GW encR 10 wr g 0 C ∧ RP wr (fun b => b < wr.heap.size ∧ b ≠ g ∧ (w.heap.size ≤ b ∨ N b)) C ∧ Below w.heap.size w wr))
    case atStart => exact ⟨0, U, rfl, by omega, by omega, ⟨HNU.out, rfl, HST.out.1, HST.out.2, HB1.out⟩⟩
    case round =>
      obtain ⟨i, C, rfl, hin, hgk, HI⟩ := hrel
      by_cases hlt : i < n
      · have hltz : (i : Int) < (n : Int) := by omega
        have hi0 : (0 : Int) ≤ (i : Int) := by omega
        obtain ⟨f1, f2, f3, f4, f5⟩ := HI.out
        have hiC : i < C.length := by omega
        obtain ⟨u, hu⟩ : ∃ u, C[i]? = some u := ⟨_, List.getElem?_eq_getElem hiC⟩
        have humem : u ∈ C := List.mem_of_getElem? hu
        have hps2 : u.ps.length ≤ 1000000 := by
          have h1 : u.sem ∈ C.map Ru.sem := List.mem_map.2 ⟨u, humem, rfl⟩
          rw [f2] at h1
          obtain ⟨u', hu', he⟩ := List.mem_map.1 h1
          have := HPS.out u' hu'
          have e2 : u'.ps = u.ps := congrArg Rs.ps he
          rwa [e2] at this
        have hcell : wr.cell? ⟨g, i * 10 + 1, none⟩ = some (.slice u.xa u.xn u.xc) := by
          have h1 := f3.2 (i * 10 + 1) (idx_lt (k := 10) hiC (by omega))
          rw [Nat.zero_add] at h1
          have h2 := gvals_at encR 10 encR_len C i hiC 1 (by omega)
          rw [h1.1, h2]
          obtain ⟨_, rfl⟩ := List.getElem?_eq_some_iff.1 hu
          rfl
        have hfz : wr.frozen? ⟨g, i * 10 + 1, none⟩ = false := by
          have h1 := f3.2 (i * 10 + 1) (idx_lt (k := 10) hiC (by omega))
          rw [Nat.zero_add] at h1
          exact h1.2
        have hcp := cloneP_any u.x u.ps wr ((f4 u humem).imp fun b hb => hb.1) hps2
        have HCP := hid hcp
        have HU := hid (And.intro hu humem)
        have HF := hid (And.intro f1 (And.intro f2 (And.intro f3 (And.intro f4 f5))))
        have hgs := f3.1
        clear f1 f2 f3 f4 f5 hiC hu humem hps2 hcp HI
        unfold Ru.x at HCP
        go_wp2_with fail
        refine HCP.out.mono ?_
        rintro e w2 ⟨v2, rfl, hown2, hb2⟩
        obtain ⟨A2, c2, rfl, hgx2, hA2, hlc2, hcm2⟩ := GB.reads encP_len hown2
        have hcell2 : w2.cell? ⟨g, i * 10 + 1, none⟩ = some (.slice u.xa u.xn u.xc) := (hb2.cell (p := ⟨g, i * 10 + 1, none⟩) hgs).trans hcell
        have hfz2 : w2.frozen? ⟨g, i * 10 + 1, none⟩ = false := (hb2.frozen (p := ⟨g, i * 10 + 1, none⟩) hgs).trans hfz
        have H2 := hid (And.intro hgx2 (And.intro hA2 (And.intro hlc2 (And.intro hcm2 hb2))))
        clear hown2 hgx2 hA2 hlc2 hcm2 hb2 hcell hfz
        go_wp2_with fail
        go_roundg (n - (i + 1))
        case measure => omega
        case rel =>
          obtain ⟨f1, f2, f3, f4, f5⟩ := HF.out
          obtain ⟨hu, humem⟩ := HU.out
          obtain ⟨hgx2, hA2, hlc2, hcm2, hb2⟩ := H2.out
          have hg2 : GW encR 10 w2 g 0 C := f3.same (hb2.block g f3.1) hb2.size
          have hsz := hb2.size
          have hkeep : ∀ b, b ≠ g → (w2.setCell ⟨g, i * 10 + 1, none⟩ (.slice A2 u.ps.length c2)).heap[b]? = w2.heap[b]? := fun b hb => Below.heap_setCell _ _ _ b hb
          refine ⟨i + 1, C.set i (u.with_ A2 u.ps.length c2), by go_num, by omega, by omega, ⟨by simp; exact f1, ?_, hg2.cell1 hu A2 u.ps.length c2, fun z hz => ?_, ?_⟩⟩
          · rw [List.map_set, Ru.with_sem, ← f2]
            have : (C.map Ru.sem)[i]? = some u.sem := by rw [List.getElem?_map, hu]; rfl
            obtain ⟨h1, h2⟩ := List.getElem?_eq_some_iff.1 this
            rw [← h2, List.set_getElem_self]
          · rw [World.size_setCell]
            rcases List.mem_or_eq_of_mem_set hz with hz | rfl
            · have h1 := (f4 z hz).same (w' := w2) fun b hb => hb2.block b hb.1
              exact (h1.imp (M := fun b => b < w2.heap.size ∧ b ≠ g ∧ (w.heap.size ≤ b ∨ N b)) fun b hb => ⟨Nat.lt_of_lt_of_le hb.1 hsz, hb.2⟩).same fun b hb => hkeep b hb.2.1
            · refine ⟨A2, c2, rfl, ?_, hA2, hlc2, by unfold maxLen at hcm2; show u.ps.length ≤ _; omega⟩
              have h1 : PX w2 (fun b => b < w2.heap.size ∧ b ≠ g ∧ (w.heap.size ≤ b ∨ N b)) A2 u.ps := (hgx2.imp fun b hb => ⟨hb.2, by have := f3.1; have := hb.1; omega, Or.inl (Nat.le_trans f5.size hb.1)⟩).px
              exact h1.same fun b hb => hkeep b hb.2.1
          · exact (f5.trans (hb2.mono (by have := f5.size; omega))).setCell (by have := HG.out.1; exact this) _
      · obtain rfl : i = n := by omega
        have hltz : ¬ (i : Int) < (i : Int) := by omega
        obtain ⟨f1, f2, f3, f4, f5⟩ := HI.out
        have HF := hid (And.intro f1 (And.intro f2 (And.intro f3 (And.intro f4 f5))))
        clear f1 f2 f3 f4 f5 HI
        go_wp2_with fail
        go_returns
        obtain ⟨f1, f2, f3, f4, f5⟩ := HF.out
        refine ⟨_, rfl, ⟨C, ⟨some ⟨g, 0, none⟩, cap, by rw [f1]; rfl, ?_, ?_, fun h => (by cases h), by rw [f1]; have := HG.out.2.1; exact this, by rw [f1]; omega⟩, f2⟩, f5⟩
        · intro j hj
          refine ⟨g, 0, rfl, Or.inl ⟨HG.out.1, f3.1⟩, fun q hq => ?_⟩
          have h1 := f3.2 (j * 10 + q) (idx_lt (k := 10) hj hq)
          rw [h1.1]
          exact gvals_at encR 10 encR_len _ j hj q hq
        · exact f4.imp fun b hb => hb.2.2.elim (fun h => Or.inl ⟨h, hb.1⟩) Or.inr

set_option maxRecDepth 100000 in
set_option maxHeartbeats 8000000 in
theorem scheck_any (M : Nat → Prop) (g : Nat) (l : List (List UInt8)) (T : Tt) (tk rf : Nat) (v : Int) (y : Value) (f : List UInt8) (U : List Ru) (w : World) (h : HO M w g l T tk rf) (hy : RV w y U) (hs : ∀ u ∈ U, okRs u.sem) (hf : f.length ≤ 140737488351232) {z : Int} (H : Hid (pushZ l T.1 (v, f, U.map Ru.sem) = z)) :
    Calls Try.prog 16 #[.pointer (some ⟨g, 0, none⟩), .agg #[.int .i64 v, y, .string (bs f)]] w fun e w' => e = .returned (.int .i64 z) ∧ Below w.heap.size w w' := by
  have hnot := enot
  obtain ⟨hM, hT, hc, ny, ry, V, k0, k1, k2, k3⟩ := h
  have hb1 := enew w (.cells #[.int .i64 v, y, .string (bs f)] 30)
  have ht0 := BT.new w v y f
  have HK := hid (k0.up hb1)
  have HN := hid (k1.up hb1).tx
  have HY := hid (hy.up hb1)
  have HB := hid hb1
  have HT := hid hT
  obtain ⟨zw, hzw⟩ : ∃ b, wholeB v f (U.map Ru.sem) l = b := ⟨_, rfl⟩
  have HZ := hid (show z = if zw = false then 2 else if v < T.1 then 13 else 0 by rw [← H.out, ← hzw]; rfl)
  have HW := hid (fun (w2 : World) (h1 : RV w2 y U) (h2 : TX w2 (· < w2.heap.size) ny l) => whole_any v y f U ny l w2 h1 hs hf h2 (hid hzw))
  clear k0 k1 k2 k3 hy hs hf hT hc hb1 hzw H hM
  go_enter Try.func16, Try.ntmps16
  go_upto_region 1 with (fail)
  generalize w.alloc (.cells #[.int .i64 v, y, .string (bs f)] 30) = v0 at *
  obtain ⟨t0, t1, t2⟩ := ht0.cells
  obtain ⟨a0, a1, a2, a3, a4, a5⟩ := HK.out.cells
  have T0 := BW.cell t0
  have T1 := BW.cell t1
  have T2 := BW.cell t2
  have A0 := BW.cell a0
  clear t0 t1 t2 a0 a1 a2 a3 a4 a5
  refine wp_region_bw (by kernel_rfl) (by kernel_rfl) ?_
  repeat (go_big_quiet_step ((go_at_call 24; exact calls_bw (HW.out _ (HY.out.up (BW.h _)) (tx_up HN.out (BW.h _))))))
  refine wpQuiet_nil ?_
  rintro _ ⟨pq, rfl⟩
  clear T0 T1 T2 A0
  have HB2 := hid (estep HB.out pq.h)
  have ht2 := ht0.up pq.h
  have hk2 := HK.out.up pq.h
  cases zw with
  | false =>
    have HZ2 := hid (show z = 2 from HZ.out)
    clear ht0 ht2 hk2
    go_wp2_with fail
    go_returns
    exact ⟨by rw [HZ2.out]; rfl, HB2.out⟩
  | true =>
    have HZ2 := hid (show z = if v < T.1 then 13 else 0 from HZ.out)
    clear ht0
    generalize pq.w = v2 at *
    obtain ⟨t0, t1, t2⟩ := ht2.cells
    obtain ⟨a0, a1, a2, a3, a4, a5⟩ := hk2.cells
    have T0 := BW.cell t0
    have HV := hid (fun (p : BW v2) => sversion_any g T.1 p.w (BW.cell a1 p) HT.out.1 HT.out.2.1)
    clear t0 t1 t2 a0 a1 a2 a3 a4 a5 ht2 hk2
    obtain ⟨t, ht⟩ : ∃ t, T.1 = t := ⟨_, rfl⟩
    rw [ht] at HV HZ2
    by_cases hlt : v < t
    · have hd : decide (v < t) = true := decide_eq_true hlt
      have HZ3 := hid (show z = 13 by rw [HZ2.out, if_pos hlt])
      clear hlt ht
      go_upto_region 3 with (fail)
      refine wp_region_bw (by kernel_rfl) (by kernel_rfl) ?_
      repeat (go_big_quiet_step ((go_at_call 10; exact calls_bw (HV.out _))))
      refine wpQuiet_nil ?_
      rintro _ ⟨pr, rfl⟩
      have HB3 := hid (estep HB2.out pr.h)
      clear T0
      go_wp2_with fail
      go_returns
      exact ⟨by rw [HZ3.out]; rfl, HB3.out⟩
    · have hd : decide (v < t) = false := decide_eq_false hlt
      have HZ3 := hid (show z = 0 by rw [HZ2.out, if_neg hlt])
      clear hlt ht
      go_upto_region 3 with (fail)
      refine wp_region_bw (by kernel_rfl) (by kernel_rfl) ?_
      repeat (go_big_quiet_step ((go_at_call 10; exact calls_bw (HV.out _))))
      refine wpQuiet_nil ?_
      rintro _ ⟨pr, rfl⟩
      have HB3 := hid (estep HB2.out pr.h)
      clear T0
      go_wp2_with fail
      go_returns
      exact ⟨by rw [HZ3.out]; rfl, HB3.out⟩
end Go.Proofs.Ytelglcakekgdeaa
namespace Go.Proofs.Ytelglcakekgdeaa
set_option linter.unusedVariables false
set_option linter.unusedSimpArgs false
open Go.RowKit Go.Joins

theorem okT_small {T : Tt} {V : List Ru} (h : okT T) (hV : V.map Ru.sem = T.2.2) : V.length ≤ 16 ∧ (∀ u ∈ V, u.ps.length ≤ 4) ∧ ∀ u ∈ V, okRs u.sem := by
  obtain ⟨-, -, -, h4, h5⟩ := h
  rw [← hV] at h4 h5
  refine ⟨by simpa using h4, fun u hu => (h5 u.sem (List.mem_map.2 ⟨u, hu, rfl⟩)).2, fun u hu => (h5 u.sem (List.mem_map.2 ⟨u, hu, rfl⟩)).1⟩
theorem keepHo0 {w v w' : World} {g : Nat} {ny : Value} {x : Int} {ry : Value} {f : List UInt8} {tk rf : Nat} (k : BHo v g ny x ry f tk rf) (hb : Below w.heap.size w v) (hz : Below v.heap.size v w') : w'.cell? ⟨g, 2, none⟩ = some ry ∧ w'.cell? ⟨g, 3, none⟩ = some (.string (bs f)) ∧ Below w.heap.size w w' := by
  obtain ⟨-, -, q2, q3, -⟩ := (k.up hz).cells
  exact ⟨q2, q3, estep hb hz⟩
theorem keepHo3 {w v w' : World} {g : Nat} {ny : Value} {x : Int} {ry : Value} {f : List UInt8} {tk rf : Nat} (k : BHo v g ny x ry f tk rf) (hb : Below w.heap.size w v) (hz : Below v.heap.size v w') (h : Nat) (hh : w.heap.size ≤ h) (hne : h ≠ g) (a b c : Value) : (((w'.setCell ⟨h, 0, none⟩ a).setCell ⟨h, 1, none⟩ b).setCell ⟨h, 2, none⟩ c).cell? ⟨g, 2, none⟩ = some ry ∧ (((w'.setCell ⟨h, 0, none⟩ a).setCell ⟨h, 1, none⟩ b).setCell ⟨h, 2, none⟩ c).cell? ⟨g, 3, none⟩ = some (.string (bs f)) ∧ Below w.heap.size w (((w'.setCell ⟨h, 0, none⟩ a).setCell ⟨h, 1, none⟩ b).setCell ⟨h, 2, none⟩ c) := by
  obtain ⟨-, -, q2, q3, -⟩ := (k.up hz).cells
  have hx : ∀ (x : World) (i j : Nat) (u : Value), (x.setCell ⟨h, i, none⟩ u).cell? ⟨g, j, none⟩ = x.cell? ⟨g, j, none⟩ := fun x i j u => World.cell?_setCell_other x ⟨h, i, none⟩ ⟨g, j, none⟩ u (by intro e; injection e with e1; exact hne e1)
  refine ⟨?_, ?_, below_set3 (estep hb hz) h hh a b c⟩
  · rw [hx, hx, hx]; exact q2
  · rw [hx, hx, hx]; exact q3
theorem rn_put3 {w : World} {N : Nat → Prop} {y : Value} {V : List Ru} (h : RN w N y V) (g : Nat) (hg : ∀ b, N b → b ≠ g) (a b c : Value) : RN (((w.setCell ⟨g, 0, none⟩ a).setCell ⟨g, 1, none⟩ b).setCell ⟨g, 2, none⟩ c) N y V :=
  h.same fun k hk => by rw [Below.heap_setCell _ _ _ k (hg k hk), Below.heap_setCell _ _ _ k (hg k hk), Below.heap_setCell _ _ _ k (hg k hk)]
set_option maxRecDepth 100000 in
set_option maxHeartbeats 8000000 in
theorem sget_any (M : Nat → Prop) (g : Nat) (l : List (List UInt8)) (T : Tt) (tk rf : Nat) (w : World) (h : HO M w g l T tk rf) (hM : ∀ b, w.heap.size ≤ b → M b) :
    Calls Try.prog 9 #[.pointer (some ⟨g, 0, none⟩)] w fun e w' => (∃ t, e = .returned t ∧ TN w' M t T) ∧ Below w.heap.size w w' := by
  have c3 : (ByteArray.mk #[]) = bs [] := rfl
  obtain ⟨hM0, hT, hc, ny, ry, V, k0, k1, k2, k3⟩ := h
  obtain ⟨hV1, hV2, -⟩ := okT_small hT k3
  obtain ⟨v, f, X⟩ := T
  simp only at k0 k3
  have hgl : g < w.heap.size := Bk.lt k0
  have hgn : w.heap.size ≠ g := by omega
  have hgg : w.heap.size ≤ w.heap.size := Nat.le_refl _
  have hb1 := enew w (.cells #[.int .i64 0, .slice none 0 0, .string (bs [])] 30)
  have ht0 := BT.new w 0 (.slice none 0 0) []
  have HK := hid (k0.up hb1)
  have HB := hid hb1
  have HC := hid (fun (w2 : World) (h : Below w.heap.size w w2) => copied_in (In M w) ry V w2 (RN.same k2 fun b hb => h.block b hb.1) (fun b hb => Nat.lt_of_lt_of_le hb.1 h.size) (by omega) (fun u hu => by have := hV2 u hu; omega))
  have HT := hid hT
  have HE := hid k3
  have HMM := hid hM
  have hsz : w.heap.size < (w.alloc (.cells #[.int .i64 0, .slice none 0 0, .string (bs [])] 30)).heap.size := by simp
  clear k0 k1 k2 k3 hT hc hM0 hV1 hV2 hM
  go_enter Try.func9, Try.ntmps9
  go_upto_region 3 with (fail)
  generalize w.alloc (.cells #[.int .i64 0, .slice none 0 0, .string (bs [])] 30) = v0 at *
  obtain ⟨a0, a1, a2, a3, a4, a5⟩ := HK.out.cells
  obtain ⟨t0, t1, t2⟩ := ht0.cells
  obtain ⟨z0, z1, z2⟩ := ht0.froz
  have HT0 := hid ht0
  have HV := hid (fun (w2 : World) (hb : Below v0.heap.size v0 w2) => sversion_any g v w2 ((HK.out.up hb).cells.2.1) HT.out.1 HT.out.2.1)
  have HN : Hid (∀ (w2 w3 : World), v0.heap.size ≤ w2.heap.size → w2.heap.size ≤ w3.heap.size → ∀ b, ((w2.heap.size ≤ b ∧ b < w3.heap.size) ∨ In M w b) → b ≠ w.heap.size ∧ b < w3.heap.size ∧ M b) := hid fun w2 w3 h1 h2 b hb => by
    rcases hb with hb | hb
    · exact ⟨by omega, hb.2, HMM.out b (by omega)⟩
    · exact ⟨by have := hb.1; omega, by have := hb.1; omega, hb.2⟩
  clear ht0 a0 a1 a4 a5
  have hz : Below v0.heap.size v0 v0.drew := (Below.refl _ _).drew
  go_region_held3 (fun w' => w'.cell? ⟨g, 2, none⟩ = some ry ∧ w'.cell? ⟨g, 3, none⟩ = some (.string (bs f)) ∧ Below w.heap.size w w') (first | (with_reducible exact keepHo0 HK.out HB.out hz) | (with_reducible exact keepHo0 HK.out HB.out (hz.trans (Below.mono (by assumption) hz.size))) | (with_reducible exact keepHo3 HK.out HB.out hz _ hgg hgn _ _ _)) (first
    | (go_at_call 10
       ((with_reducible refine (HV.out _ hz).mono ?_); rintro e w4 ⟨rfl, hy4⟩)
       have hz := hz.trans (hy4.mono hz.size))
    | (go_at_call 18
       ((with_reducible refine (HC.out _ (estep HB.out hz)).mono ?_); rintro e w5 ⟨y1, V1, rfl, ⟨hrv1, hvm1⟩, hy5⟩)
       obtain ⟨A1, c1, rfl, -⟩ := id hrv1
       have hzs := hz.size
       have hzt := hy5.size
       have hz := hz.trans (hy5.mono hz.size)
       have ht5 := HT0.out.up hz
       obtain ⟨t0, t1, t2⟩ := ht5.cells
       obtain ⟨z0, z1, z2⟩ := ht5.froz))
  all_goals
    obtain ⟨a0, a1, a2⟩ := (ht5.set3 v (.slice A1 V1.length c1) f).cells
    have HB3 := hid (below_set3 (estep HB.out hz) w.heap.size hgg (.int .i64 v) (.slice A1 V1.length c1) (.string (bs f)))
    have HA := hid (And.intro a0 (And.intro a1 a2))
    clear a0 a1 a2
    go_wp2_with fail
    (try simp only [Exit.inBlock, Exit.then])
    refine bodyPost_ret (v := .agg #[.int .i64 v, .slice A1 V1.length c1, .string (bs f)]) (by simp [results, Try.results9, go_sem, HA.out.1, HA.out.2.1, HA.out.2.2]; try rfl) rfl ?_
    refine ⟨⟨_, rfl, _, V1, rfl, ?_, hvm1.trans HE.out⟩, HB3.out⟩
    refine (rn_put3 hrv1 w.heap.size (fun b hb => (HN.out _ _ hzs hzt b hb).1) _ _ _).imp fun b hb => ⟨?_, (HN.out _ _ hzs hzt b hb).2.2⟩
    rw [World.size_setCell, World.size_setCell, World.size_setCell]
    exact (HN.out _ _ hzs hzt b hb).2.1
end Go.Proofs.Ytelglcakekgdeaa
namespace Go.Proofs.Ytelglcakekgdeaa
set_option linter.unusedVariables false
set_option linter.unusedSimpArgs false
open Go.RowKit Go.Joins

theorem BHo.set5 {w : World} {g : Nat} {ny : Value} {v : Int} {ry : Value} {f : List UInt8} {tk rf : Nat} (k : BHo w g ny v ry f tk rf) (x : Nat) : BHo (w.setCell ⟨g, 5, none⟩ (.int .i64 (x : Int))) g ny v ry f tk x := by
  have := Bk.set_ k 5 (.int .i64 (x : Int))
  exact this
theorem BHo.set4 {w : World} {g : Nat} {ny : Value} {v : Int} {ry : Value} {f : List UInt8} {tk rf : Nat} (k : BHo w g ny v ry f tk rf) (x : Nat) : BHo (w.setCell ⟨g, 4, none⟩ (.int .i64 (x : Int))) g ny v ry f x rf := by
  have := Bk.set_ k 4 (.int .i64 (x : Int))
  exact this
theorem BHo.set1 {w : World} {g : Nat} {ny : Value} {v : Int} {ry : Value} {f : List UInt8} {tk rf : Nat} (k : BHo w g ny v ry f tk rf) (x : Int) : BHo (w.setCell ⟨g, 1, none⟩ (.int .i64 x)) g ny x ry f tk rf := by
  have := Bk.set_ k 1 (.int .i64 x)
  exact this
theorem BHo.set2 {w : World} {g : Nat} {ny : Value} {v : Int} {ry : Value} {f : List UInt8} {tk rf : Nat} (k : BHo w g ny v ry f tk rf) (x : Value) : BHo (w.setCell ⟨g, 2, none⟩ x) g ny v x f tk rf := by
  have := Bk.set_ k 2 x
  exact this
theorem BHo.set3 {w : World} {g : Nat} {ny : Value} {v : Int} {ry : Value} {f : List UInt8} {tk rf : Nat} (k : BHo w g ny v ry f tk rf) (x : List UInt8) : BHo (w.setCell ⟨g, 3, none⟩ (.string (bs x))) g ny v ry x tk rf := by
  have := Bk.set_ k 3 (.string (bs x))
  exact this
theorem BHo.drew {w : World} {g : Nat} {ny : Value} {v : Int} {ry : Value} {f : List UInt8} {tk rf : Nat} (k : BHo w g ny v ry f tk rf) : BHo w.drew g ny v ry f tk rf := k
theorem HO.set5 {M : Nat → Prop} {w : World} {g : Nat} {l : List (List UInt8)} {T : Tt} {tk rf : Nat} (h : HO M w g l T tk rf) (hc : tk + (rf + 1) ≤ 1000000) : HO M (w.setCell ⟨g, 5, none⟩ (.int .i64 ((rf + 1 : Nat) : Int))) g l T tk (rf + 1) := by
  obtain ⟨h0, h1, h2, ny, ry, V, k0, k1, k2, k3⟩ := h
  have ho : Onl g w (w.setCell ⟨g, 5, none⟩ (.int .i64 ((rf + 1 : Nat) : Int))) := (Onl.refl _ _).set _ _
  exact ⟨h0, h1, hc, ny, ry, V, k0.set5 _, k1.only ho h0, k2.only ho h0, k3⟩
theorem cadd_one (a : Addr) (x : Nat) (w : World) (h : w.cell? a = some (.int .i64 (x : Int))) (hz : w.frozen? a = false) (hx : x + 1 ≤ 1099511627776) :
    Calls Try.prog 17 #[.pointer (some a), .int .i64 1] w fun e w' => e = .returned (.tuple #[]) ∧ w' = w.setCell a (.int .i64 ((x + 1 : Nat) : Int)) := nadd_any a x 1 w h hz hx
theorem HO.cells {M : Nat → Prop} {w : World} {g : Nat} {l : List (List UInt8)} {T : Tt} {tk rf : Nat} (h : HO M w g l T tk rf) : w.cell? ⟨g, 1, none⟩ = some (.int .i64 T.1) ∧ w.cell? ⟨g, 4, none⟩ = some (.int .i64 (tk : Int)) ∧ w.cell? ⟨g, 5, none⟩ = some (.int .i64 (rf : Int)) ∧ ∀ i, w.frozen? ⟨g, i, none⟩ = false := by
  obtain ⟨h0, h1, h2, ny, ry, V, k0, k1, k2, k3⟩ := h
  exact ⟨k0.cells.2.1, k0.cells.2.2.2.2.1, k0.cells.2.2.2.2.2, k0.froz⟩
set_option maxRecDepth 100000 in
set_option maxHeartbeats 8000000 in
theorem push_no (M : Nat → Prop) (g : Nat) (l : List (List UInt8)) (T : Tt) (tk rf : Nat) (v : Int) (y : Value) (f : List UInt8) (U : List Ru) (w : World) (h : HO M w g l T tk rf) (hc : tk + (rf + 1) ≤ 1000000) (hy : RV w y U) (hs : ∀ u ∈ U, okRs u.sem) (hf : f.length ≤ 140737488351232) {z : Int} (hz : z ≠ 0) (H : Hid (pushZ l T.1 (v, f, U.map Ru.sem) = z)) :
    Calls Try.prog 7 #[.pointer (some ⟨g, 0, none⟩), .agg #[.int .i64 v, y, .string (bs f)]] w fun e w' => e = .returned (.int .i64 z) ∧ HO M w' g l T tk (rf + 1) ∧ Onl g w w' := by
  have hb1 := enew w (.cells #[.int .i64 v, y, .string (bs f)] 30)
  have ht0 := BT.new w v y f
  have HH := hid (h.up hb1)
  have HB := hid hb1
  have HCK := hid (fun (w2 : World) (h1 : HO M w2 g l T tk rf) (h2 : RV w2 y U) => scheck_any M g l T tk rf v y f U w2 h1 h2 hs hf H)
  have HY := hid (hy.up hb1)
  have HX := hid hc
  have hz1 : (z != 0) = true := by simpa using hz
  have hz2 : decide (z = 0) = false := decide_eq_false hz
  have hz3 : (!decide (z = 0)) = true := by rw [hz2]; rfl
  clear h hc hy hs hf hz H hb1
  go_enter Try.func7, Try.ntmps7
  go_upto_region 1 with (fail)
  generalize w.alloc (.cells #[.int .i64 v, y, .string (bs f)] 30) = v0 at *
  obtain ⟨t0, t1, t2⟩ := ht0.cells
  go_wp2_with fail
  refine (HCK.out _ HH.out HY.out).mono ?_
  rintro e w1 ⟨rfl, hb2⟩
  have HH1 := hid (HH.out.up hb2)
  have HB1 := hid (estep HB.out hb2)
  clear t0 t1 t2 ht0 hb2
  have HA := hid (cadd_one ⟨g, 5, none⟩ rf w1 HH1.out.cells.2.2.1 (HH1.out.cells.2.2.2 5) (by have := HX.out; omega))
  go_wp2_with fail
  refine HA.out.mono ?_
  rintro e w2 ⟨rfl, rfl⟩
  go_wp2_with fail
  go_returns
  exact ⟨rfl, HH1.out.set5 HX.out, (Onl.of_below HB1.out (Nat.le_refl _)).set _ _⟩
end Go.Proofs.Ytelglcakekgdeaa
namespace Go.Proofs.Ytelglcakekgdeaa
set_option linter.unusedVariables false
set_option linter.unusedSimpArgs false
open Go.RowKit Go.Joins

theorem keepP0 {w1 w' : World} {b g : Nat} {v : Int} {y : Value} {f : List UInt8} (k : BT w1 b v y f) (hbg : b ≠ g) (hz : Onl g w1 w') : w'.cell? ⟨b, 1, none⟩ = some y ∧ w'.cell? ⟨b, 2, none⟩ = some (.string (bs f)) ∧ Onl g w1 w' := by
  obtain ⟨q0, q1, q2⟩ := BT.cells (Bk.only k hz hbg)
  exact ⟨q1, q2, hz⟩
theorem keepQ {w : World} {b g i : Nat} {x u : Value} (hbg : b ≠ g) (t0 : w.cell? ⟨b, 0, none⟩ = some x) : (w.setCell ⟨g, i, none⟩ u).cell? ⟨b, 0, none⟩ = some x :=
  (World.cell?_setCell_other w ⟨g, i, none⟩ ⟨b, 0, none⟩ u (by intro e; injection e with e1; exact hbg e1.symm)).trans t0
theorem keepQd {w : World} {b g i : Nat} {x u : Value} (hbg : b ≠ g) (t0 : w.drew.cell? ⟨b, 0, none⟩ = some x) : (w.setCell ⟨g, i, none⟩ u).drew.cell? ⟨b, 0, none⟩ = some x := keepQ (w := w) hbg t0
set_option maxRecDepth 100000 in
set_option maxHeartbeats 16000000 in
theorem push_ok (M : Nat → Prop) (g : Nat) (l : List (List UInt8)) (T : Tt) (tk rf : Nat) (v : Int) (y : Value) (f : List UInt8) (U : List Ru) (w : World) (h : HO M w g l T tk rf) (hM : ∀ b, w.heap.size ≤ b → M b) (hc : (tk + 1) + rf ≤ 1000000) (hy : RM w M y U) (hs : ∀ u ∈ U, okRs u.sem) (hf : f.length ≤ 140737488351232) (H : Hid (pushZ l T.1 (v, f, U.map Ru.sem) = 0)) :
    Calls Try.prog 7 #[.pointer (some ⟨g, 0, none⟩), .agg #[.int .i64 v, y, .string (bs f)]] w fun e w' => e = .returned (.int .i64 0) ∧ HO M w' g l (v, f, U.map Ru.sem) (tk + 1) rf ∧ Onl g w w' := by
  obtain ⟨YA, YC, ey, -⟩ := id hy
  subst ey
  have hgl := h.lt
  have hb1 := enew w (.cells #[.int .i64 v, .slice YA U.length YC, .string (bs f)] 30)
  have ht0 := BT.new w v (.slice YA U.length YC) f
  have HH := hid (h.up hb1)
  have HB := hid hb1
  have HCK := hid (fun (w2 : World) (h1 : HO M w2 g l T tk rf) (h2 : RV w2 (.slice YA U.length YC) U) => scheck_any M g l T tk rf v (.slice YA U.length YC) f U w2 h1 h2 hs hf H)
  have HY := hid (hy.up hb1)
  have HX := hid hc
  obtain ⟨hwh, -⟩ := pushZ_ok H.out
  have hok := okT_whole (U := U.map Ru.sem) hwh hf (fun r hr => by
    obtain ⟨u, hu, rfl⟩ := List.mem_map.1 hr
    exact hs u hu)
  have HOK := hid hok.2
  have hsm := okT_small (V := U) hok.2 rfl
  have HSM := hid hsm
  have HMM := hid hM
  have hbg : w.heap.size ≠ g := by omega
  clear h hc hy hs hf H hb1 hwh hok hsm hM
  generalize hnU : U.length = n at *
  have HNU := hid hnU
  clear hnU
  go_enter Try.func7, Try.ntmps7
  go_upto_region 1 with (fail)
  generalize w.alloc (.cells #[.int .i64 v, .slice YA n YC, .string (bs f)] 30) = v0 at *
  obtain ⟨t0, t1, t2⟩ := ht0.cells
  go_wp2_with fail
  refine (HCK.out _ HH.out HY.out.rv).mono ?_
  rintro e w1 ⟨rfl, hb2⟩
  obtain ⟨hM0, hT, hc0, ny, ry, V, k0, k1, k2, k3⟩ := HH.out.up hb2
  have hy1 := HY.out.up hb2
  have ht1 := ht0.up hb2
  have HB1 := hid (estep HB.out hb2)
  clear t0 t1 t2 hb2 ht0 HCK
  have hsz1 : w.heap.size ≤ w1.heap.size := HB1.out.size
  have HC := hid (fun (w2 : World) (ho : Onl g w1 w2) => copied_in (In M w1) (.slice YA n YC) U w2 (RN.same hy1 fun b hb => ho.block b hb.1 (fun e => hM0 (e ▸ hb.2))) (fun b hb => Nat.lt_of_lt_of_le hb.1 ho.size) (by have := HSM.out.1; have := HNU.out; omega) (fun u hu => by have := HSM.out.2.1 u hu; omega))
  have HT1 := hid ht1
  have HK1 := hid k0
  have HN1 := hid k1
  have HMg := hid hM0
  go_upto_region 7 with (fail)
  obtain ⟨t0, t1, t2⟩ := ht1.cells
  obtain ⟨a0, a1, a2, a3, a4, a5⟩ := k0.cells
  have z2 := k0.froz 2
  have z3 := k0.froz 3
  have hz : Onl g w1 w1.drew := (Onl.refl _ _).drew
  have hk : BHo w1.drew g ny T.1 ry T.2.1 tk rf := k0.drew
  clear hM0 hT hc0 k0 k1 k2 k3 hy1 ht1 a0 a1 a4 a5 t0
  go_region_held3 (fun w' => w'.cell? ⟨w.heap.size, 1, none⟩ = some (.slice YA n YC) ∧ w'.cell? ⟨w.heap.size, 2, none⟩ = some (.string (bs f)) ∧ Onl g w1 w') (first | (with_reducible exact keepP0 HT1.out hbg hz) | (with_reducible exact keepP0 HT1.out hbg hz5) | (with_reducible exact keepP0 HT1.out hbg (hz5.set _ _)) | (with_reducible exact keepP0 HT1.out hbg ((hz5.set _ _).set _ _))) (first
    | (go_at_call 18
       ((with_reducible refine (HC.out _ hz).mono ?_); rintro e w5 ⟨y1, V1, rfl, ⟨hrv1, hvm1⟩, hy5⟩)
       obtain ⟨A1, c1, rfl, -⟩ := id hrv1
       have hzs := hz.size
       have hzt := hy5.size
       have hz5 := hz.up hy5
       have hk5 := hk.up hy5
       clear a2 a3 z2 z3
       obtain ⟨-, -, a2, a3, -, -⟩ := hk5.cells
       have z2 := hk5.froz 2
       have z3 := hk5.froz 3))
  have hz6 : Onl g w1 ((w5.setCell ⟨g, 2, none⟩ (.slice A1 V1.length c1)).setCell ⟨g, 3, none⟩ (.string (bs f))) := (hz5.set _ _).set _ _
  have hk6 := (hk5.set2 (.slice A1 V1.length c1)).set3 f
  have hm6 : RM ((w5.setCell ⟨g, 2, none⟩ (.slice A1 V1.length c1)).setCell ⟨g, 3, none⟩ (.string (bs f))) M (.slice A1 V1.length c1) V1 := by
    refine (hrv1.same fun b hb => ?_).imp fun b hb => ?_
    · have hne : b ≠ g := by
        rcases hb with hb | hb
        · have := hk.lt
          omega
        · exact fun e => HMg.out (e ▸ hb.2)
      rw [Below.heap_setCell _ _ _ b hne, Below.heap_setCell _ _ _ b hne]
    · refine ⟨by rw [World.size_setCell, World.size_setCell]; rcases hb with hb | hb; exact hb.2; have := hb.1; exact Nat.lt_of_lt_of_le this hz5.size, ?_⟩
      rcases hb with hb | hb
      · exact HMM.out b (by have := hz.size; omega)
      · exact hb.2
  generalize (w5.setCell ⟨g, 2, none⟩ (.slice A1 V1.length c1)).setCell ⟨g, 3, none⟩ (.string (bs f)) = w6 at *
  have ht6 := Bk.only HT1.out hz6 hbg
  have HZ6 := hid hz6
  have HK6 := hid hk6
  have HM6 := hid hm6
  have HV6 := hid hvm1
  clear hz6 hk6 hm6 hvm1 hrv1 hzs hzt hz5 hk5 hy5 a2 a3 z2 z3 t1 t2 hz hk
  go_upto_region 8 with (fail)
  have t0 : w6.drew.cell? ⟨w.heap.size, 0, none⟩ = some (.int .i64 v) := (BT.cells ht6).1
  have a1 : w6.drew.cell? ⟨g, 1, none⟩ = some (.int .i64 T.1) := HK6.out.cells.2.1
  have z1 : w6.drew.frozen? ⟨g, 1, none⟩ = false := HK6.out.froz 1
  have hst := hid (fun (w2 : World) (h1 : w2.cell? ⟨g, 1, none⟩ = some (.int .i64 T.1)) (h2 : w2.frozen? ⟨g, 1, none⟩ = false) => astore_any ⟨g, 1, none⟩ (.int .i64 T.1) v w2 h1 h2)
  go_region_held3 (fun w' => w'.cell? ⟨w.heap.size, 0, none⟩ = some (.int .i64 v)) (first | (with_reducible assumption) | (with_reducible exact keepQ hbg t0) | (with_reducible exact keepQd hbg t0)) (first
    | (go_at_call 19
       ((with_reducible refine (hst.out _ (by assumption) (by assumption)).mono ?_); rintro e w7 ⟨rfl, rfl⟩)))
  have h7 : BHo ((w6.setCell ⟨g, 1, none⟩ (.int .i64 v)).drew) g ny v (.slice A1 V1.length c1) f tk rf := (HK6.out.set1 v).drew
  have o7 : Onl g w1 ((w6.setCell ⟨g, 1, none⟩ (.int .i64 v)).drew) := (HZ6.out.set _ _).drew
  have m7 : RM ((w6.setCell ⟨g, 1, none⟩ (.int .i64 v)).drew) M (.slice A1 V1.length c1) V1 := HM6.out.only (((Onl.refl g w6).set _ _).drew) HMg.out
  have H7 := hid (And.intro h7 (And.intro o7 m7))
  clear h7 o7 m7 t0 a1 z1 ht6 HK6 HZ6 HM6 hst
  generalize (w6.setCell ⟨g, 1, none⟩ (.int .i64 v)).drew = w7 at *
  have HA := hid (cadd_one ⟨g, 4, none⟩ tk w7 H7.out.1.cells.2.2.2.2.1 (H7.out.1.froz 4) (by have := HX.out; omega))
  go_wp2_with fail
  refine HA.out.mono ?_
  rintro e w8 ⟨rfl, rfl⟩
  go_wp2_with fail
  go_returns
  obtain ⟨k7, o7, m7⟩ := H7.out
  have o8 := o7.set 4 (.int .i64 ((tk + 1 : Nat) : Int))
  exact ⟨rfl, ⟨HMg.out, HOK.out, HX.out, ny, _, V1, k7.set4 _, HN1.out.only o8 HMg.out, m7.only ((Onl.refl _ _).set _ _) HMg.out, HV6.out⟩, (Onl.of_below HB1.out (Nat.le_refl _)).trans o8⟩
end Go.Proofs.Ytelglcakekgdeaa
namespace Go.Proofs.Ytelglcakekgdeaa
set_option linter.unusedVariables false
set_option linter.unusedSimpArgs false
open Go.RowKit Go.Joins

section
variable {w w' : World} {g : Nat} {ny : Value} {v : Int} {y : Value} {f : List UInt8} {tk rf : Int}
theorem Bk.set_far {t : TypeId} {cs : Array Value} {g' : Nat} (k : Bk w g t cs) (hg : g ≠ g') (i : Nat) (x : Value) : Bk (w.setCell ⟨g', i, none⟩ x) g t cs := by
  unfold Bk at k ⊢
  rw [Below.heap_setCell _ _ _ _ hg]; exact k
theorem below_put6 {B : Nat} (h : Below B w w') (g : Nat) (hg : B ≤ g) (a0 a1 a2 a3 a4 a5 : Value) : Below B w ((((((w'.setCell ⟨g, 0, none⟩ a0).setCell ⟨g, 1, none⟩ a1).setCell ⟨g, 2, none⟩ a2).setCell ⟨g, 3, none⟩ a3).setCell ⟨g, 4, none⟩ a4).setCell ⟨g, 5, none⟩ a5) :=
  (((((h.setCell hg _).setCell hg _).setCell hg _).setCell hg _).setCell hg _).setCell hg _
theorem below_put3 {B : Nat} (h : Below B w w') (g : Nat) (hg : B ≤ g) (a1 a2 a3 : Value) : Below B w (((w'.setCell ⟨g, 1, none⟩ a1).setCell ⟨g, 2, none⟩ a2).setCell ⟨g, 3, none⟩ a3) :=
  ((h.setCell hg _).setCell hg _).setCell hg _
end
end Go.Proofs.Ytelglcakekgdeaa
namespace Go.Proofs.Ytelglcakekgdeaa
set_option linter.unusedVariables false
set_option linter.unusedSimpArgs false
open Go.RowKit Go.Joins

set_option maxRecDepth 100000 in
set_option maxHeartbeats 4000000 in
theorem push_nil (v : Int) (A : Option Addr) (n c : Nat) (f : List UInt8) (w : World) :
    Calls Try.prog 7 #[.pointer none, .agg #[.int .i64 v, .slice A n c, .string (bs f)]] w fun e w' => e = .returned (.int .i64 1) ∧ Below w.heap.size w w' := by
  have hb1 := hid (enew w (.cells #[.int .i64 v, .slice A n c, .string (bs f)] 30))
  go_enter Try.func7, Try.ntmps7
  go_wp2_with fail
  go_returns
  exact ⟨rfl, hb1.out⟩
set_option maxRecDepth 100000 in
set_option maxHeartbeats 4000000 in
theorem get_nil (w : World) :
    Calls Try.prog 9 #[.pointer none] w fun e w' => e = .returned (.agg #[.int .i64 0, .slice none 0 0, .string (bs [])]) ∧ Below w.heap.size w w' := by
  have c3 : (ByteArray.mk #[]) = bs [] := rfl
  have hb1 := hid (enew w (.cells #[.int .i64 0, .slice none 0 0, .string (bs [])] 30))
  have ht0 := BT.new w 0 (.slice none 0 0) []
  obtain ⟨t0, t1, t2⟩ := ht0.cells
  obtain ⟨z0, z1, z2⟩ := ht0.froz
  obtain ⟨a0, a1, a2⟩ := (ht0.set3 0 (.slice none 0 0) []).cells
  have HA := hid (And.intro a0 (And.intro a1 a2))
  have HB := hid (below_set3 hb1.out w.heap.size (Nat.le_refl _) (.int .i64 0) (.slice none 0 0) (.string (bs [])))
  clear a0 a1 a2 ht0
  go_enter Try.func9, Try.ntmps9
  go_wp2_with fail
  (try simp only [Exit.inBlock, Exit.then])
  refine bodyPost_ret (v := .agg #[.int .i64 0, .slice none 0 0, .string (bs [])]) (by simp [results, Try.results9, go_sem, HA.out.1, HA.out.2.1, HA.out.2.2]; try rfl) rfl ?_
  exact ⟨rfl, hb1.out⟩
set_option maxRecDepth 100000 in
theorem version_nil (w : World) :
    Calls Try.prog 10 #[.pointer none] w fun e w' => e = .returned (.int .i64 0) ∧ Below w.heap.size w w' := by
  go_enter Try.func10, Try.ntmps10
  go_wp2_with fail
  go_returns
  exact ⟨rfl, Below.refl _ _⟩
set_option maxRecDepth 100000 in
theorem taken_nil (w : World) :
    Calls Try.prog 11 #[.pointer none] w fun e w' => e = .returned (.int .i64 0) ∧ Below w.heap.size w w' := by
  go_enter Try.func11, Try.ntmps11
  go_wp2_with fail
  go_returns
  exact ⟨rfl, Below.refl _ _⟩
set_option maxRecDepth 100000 in
theorem refused_nil (w : World) :
    Calls Try.prog 12 #[.pointer none] w fun e w' => e = .returned (.int .i64 0) ∧ Below w.heap.size w w' := by
  go_enter Try.func12, Try.ntmps12
  go_wp2_with fail
  go_returns
  exact ⟨rfl, Below.refl _ _⟩
set_option maxRecDepth 100000 in
set_option maxHeartbeats 4000000 in
theorem nothing17_any (w : World) : Calls Try.prog 13 #[] w fun e w' => e = .returned (.bool true) ∧ Below w.heap.size w w' := by
  have hnot := enot
  have c3 : (ByteArray.mk #[]) = bs [] := rfl
  go_enter Try.func13, Try.ntmps13
  go_wp2_with fail
  refine (push_nil _ _ _ _ _ _).mono ?_
  rintro e w1 ⟨rfl, hb1⟩
  have H1 := hid hb1
  clear hb1
  go_wp2_with fail
  refine (get_nil _).mono ?_
  rintro e w2 ⟨rfl, hb2⟩
  have H2 := hid (estep H1.out hb2)
  clear hb2
  go_wp2_with fail
  refine (rtsame_tv 0 [] _ _ [] [] w2 rfl (rv_none w2) (rv_none w2) (by simp)).mono ?_
  rintro e w3 ⟨rfl, hb3⟩
  have H3 := hid (estep H2.out hb3)
  clear hb3
  go_wp2_with fail
  refine (version_nil _).mono ?_
  rintro e w4 ⟨rfl, hb4⟩
  have H4 := hid (estep H3.out hb4)
  clear hb4
  go_wp2_with fail
  refine (taken_nil _).mono ?_
  rintro e w5 ⟨rfl, hb5⟩
  have H5 := hid (estep H4.out hb5)
  clear hb5
  go_wp2_with fail
  refine (refused_nil _).mono ?_
  rintro e w6 ⟨rfl, hb6⟩
  have H6 := hid (estep H5.out hb6)
  clear hb6
  go_wp2_with fail
  go_returns
  exact ⟨rfl, H6.out⟩
def kT (a : List UInt8) : Ru := ⟨0, none, 0, 0, [], a, 0, 0, 0, 0, 0, [], 0⟩
theorem rm_kT {w : World} {g : Nat} {M : Nat → Prop} (a : List UInt8) (h : Bk w g 39 #[.int .i64 0, .slice none 0 0, .string (bs a), .int .i64 0, .int .i64 0, .int .i64 0, .int .i64 0, .int .i64 0, .string (bs []), .int .i64 0]) (hM : M g) : RM w M (.slice (some ⟨g, 0, none⟩) 1 1) [kT a] := by
  refine ⟨some ⟨g, 0, none⟩, 1, rfl, (GX.one (x := kT a) h rfl).imp fun b hb => ⟨by rw [hb]; exact h.lt, by rw [hb]; exact hM⟩, fun u hu => ?_, fun h => (by cases h), by simp, by simp⟩
  obtain rfl : u = kT a := by simpa using hu
  exact PV.nil _ _
theorem kT_ok (a : List UInt8) (h : a.length ≤ 1000) : ∀ u ∈ [kT a], okRs u.sem := fun u hu => by
  obtain rfl : u = kT a := by simpa using hu
  exact ⟨by simp [smallP, kT, Ru.sem], by simp [kT, Ru.sem]; omega, by simp [kT, Ru.sem], by simp [kT, Ru.sem]⟩
theorem k17_1 : pushZ [[97]] 0 (2, [], [kT [97]].map Ru.sem) = 0 := by decide +kernel
theorem k17_2 : pushZ [[97]] 2 (1, [], ([] : List Ru).map Ru.sem) = 13 := by decide +kernel
theorem k17_3 : pushZ [[97]] 2 (3, [], [kT [98]].map Ru.sem) = 2 := by decide +kernel
theorem keepK {v w' : World} {b : Nat} {x : Int} {y : Value} {f : List UInt8} (k : BT v b x y f) (hz : Below v.heap.size v w') : w'.cell? ⟨b, 0, none⟩ = some (.int .i64 x) ∧ w'.cell? ⟨b, 1, none⟩ = some y ∧ w'.cell? ⟨b, 2, none⟩ = some (.string (bs f)) ∧ Below v.heap.size v w' := by
  obtain ⟨q0, q1, q2⟩ := (k.up hz).cells
  exact ⟨q0, q1, q2, hz⟩
set_option maxRecDepth 100000 in
set_option maxHeartbeats 16000000 in
theorem known17_any (w : World) : Calls Try.prog 4 #[] w fun e w' => e = .returned (.bool true) ∧ Below w.heap.size w w' := by
  have hnot := enot
  have c0 : (ByteArray.mk #[]) = bs [] := rfl
  have c1 : (ByteArray.mk #[97]) = bs [97] := rfl
  have c2 : (ByteArray.mk #[98]) = bs [98] := rfl
  have hb0 := enew w (.cells #[.string (bs [97])] 9)
  have htx := tx_one w 9 [97] (by simp)
  have HB0 := hid hb0
  have HNW := hid (snew_any _ [[97]] _ htx (by simp))
  clear hb0 htx
  go_enter Try.func4, Try.ntmps4
  go_wp2_with fail
  refine HNW.out.mono ?_
  rintro e w1 ⟨g, rfl, hg, hH, hb1⟩
  generalize hM : (fun b => (w.alloc (.cells #[.string (bs [97])] 9)).heap.size ≤ b ∧ b ≠ g) = M at hH
  have HMI : Hid (∀ b, w1.heap.size ≤ b → M b) := hid fun b hb => by
    rw [← hM]
    have h1 := hb1.size
    have h2 := hH.lt
    exact ⟨by omega, by omega⟩
  have HB1 := hid (estep HB0.out hb1)
  have HGL := hid (And.intro hH.lt (show w.heap.size ≤ g by have := hg; simp at this; omega))
  have HH1 := hid hH
  clear hM HNW HB0 hb1 hg hH
  have HV1 : Hid (Calls Try.prog 10 #[.pointer (some ⟨g, 0, none⟩)] w1 fun e w' => e = .returned (.int .i64 0) ∧ Below w1.heap.size w1 w') := hid (sversion_any g 0 w1 HH1.out.cells.1 (by omega) (by omega))
  go_wp2_with fail
  refine HV1.out.mono ?_
  rintro e w2 ⟨rfl, hb2⟩
  have HB2 := hid (estep HB1.out hb2)
  have HB12 := hid hb2
  have HG := hid (sget_any M g [[97]] noT 0 0 w2 (HH1.out.up hb2) (fun b hb => HMI.out b (by have := hb2.size; omega)))
  clear hb2 HV1 HB1
  go_wp2_with fail
  refine HG.out.mono ?_
  rintro e w3 ⟨⟨t, rfl, hTN⟩, hb3⟩
  obtain ⟨y3, V3, ht3, hm3, -⟩ := hTN
  have ht3' : t = .agg #[.int .i64 0, y3, .string (bs [])] := ht3
  subst ht3'
  obtain ⟨A3, cc3, rfl, -⟩ := hm3
  clear ht3
  generalize V3.length = n3 at *
  have hfld : ∀ w : World, (Instr.field 30 (.agg #[.int .i64 0, .slice A3 n3 cc3, .string (bs [])]) 0).run Try.prog w = .ok (.int .i64 0) w := fun w => by rfl
  have HB3 := hid (estep HB2.out hb3)
  have HB13 := hid (estep HB12.out hb3)
  have HH3 := hid (HH1.out.up HB13.out)
  clear hb3 HB2 HB12 HG
  have hd0 : noT.1 = 0 := rfl
  have hba := enew w3 (.cells #[.int .i64 0, .slice none 0 0, .string (bs [97]), .int .i64 0, .int .i64 0, .int .i64 0, .int .i64 0, .int .i64 0, .string (bs []), .int .i64 0] 39)
  have hra := Bk.new w3 39 #[.int .i64 0, .slice none 0 0, .string (bs [97]), .int .i64 0, .int .i64 0, .int .i64 0, .int .i64 0, .int .i64 0, .string (bs []), .int .i64 0]
  have hsa : (w3.alloc (.cells #[.int .i64 0, .slice none 0 0, .string (bs [97]), .int .i64 0, .int .i64 0, .int .i64 0, .int .i64 0, .int .i64 0, .string (bs []), .int .i64 0] 39)).heap.size = w3.heap.size + 1 := by simp
  have hbt := enew (w3.alloc (.cells #[.int .i64 0, .slice none 0 0, .string (bs [97]), .int .i64 0, .int .i64 0, .int .i64 0, .int .i64 0, .int .i64 0, .string (bs []), .int .i64 0] 39)) (.cells #[.int .i64 2, .slice (some ⟨w3.heap.size, 0, none⟩) 1 1, .string (bs [])] 30)
  have ht5 := BT.new (w3.alloc (.cells #[.int .i64 0, .slice none 0 0, .string (bs [97]), .int .i64 0, .int .i64 0, .int .i64 0, .int .i64 0, .int .i64 0, .string (bs []), .int .i64 0] 39)) 2 (.slice (some ⟨w3.heap.size, 0, none⟩) 1 1) []
  rw [hsa] at ht5
  have hb35 := estep hba hbt
  have hra5 := hra.up hbt
  have HRA := hid hra5
  have HH5 := hid (HH3.out.up hb35)
  have HB5 := hid (estep HB3.out hb35)
  have HT5 := hid ht5
  have HS5 := hid (And.intro hb35.size HB13.out.size)
  clear hba hra hsa hbt hb35 hra5 HB3 HH3 ht5
  go_upto_region 5 with (fail)
  generalize (w3.alloc (.cells #[.int .i64 0, .slice none 0 0, .string (bs [97]), .int .i64 0, .int .i64 0, .int .i64 0, .int .i64 0, .int .i64 0, .string (bs []), .int .i64 0] 39)).alloc (.cells #[.int .i64 2, .slice (some ⟨w3.heap.size, 0, none⟩) 1 1, .string (bs [])] 30) = v5 at *
  have HMy := hid (rm_kT [97] HRA.out (HMI.out w3.heap.size (by have := HS5.out.2; omega)))
  have HP1 := hid (push_ok M g [[97]] noT 0 0 2 _ [] [kT [97]] v5 HH5.out (fun b hb => HMI.out b (by have := HS5.out; omega)) (by omega) HMy.out (kT_ok _ (by simp)) (by simp) (hid k17_1))
  obtain ⟨t0, t1, t2⟩ := HT5.out.cells
  go_wp2_with fail
  refine HP1.out.mono ?_
  rintro e w6 ⟨rfl, hH6, ho6⟩
  have hbg : w3.heap.size + 1 ≠ g := by have := HS5.out.2; have := HGL.out.1; omega
  have HT6 := hid (Bk.only HT5.out ho6 hbg)
  have HM6 := hid (HMy.out.only ho6 hH6.1)
  have HO6 := hid ho6
  have HH6 := hid hH6
  clear t0 t1 t2 hH6 ho6 HP1 HT5 HMy HRA HH5
  have HP2 := hid (push_no M g [[97]] (2, [], [kT [97]].map Ru.sem) (0 + 1) 0 1 (.slice none 0 0) [] [] w6 HH6.out (by omega) (rv_none _) (fun u hu => by cases hu) (by simp) (by decide) (hid k17_2))
  go_wp2_with fail
  refine HP2.out.mono ?_
  rintro e w7 ⟨rfl, hH7, ho7⟩
  have hbb := enew w7 (.cells #[.int .i64 0, .slice none 0 0, .string (bs [98]), .int .i64 0, .int .i64 0, .int .i64 0, .int .i64 0, .int .i64 0, .string (bs []), .int .i64 0] 39)
  have hrb := rm_kT (M := fun _ => True) [98] (Bk.new w7 39 #[.int .i64 0, .slice none 0 0, .string (bs [98]), .int .i64 0, .int .i64 0, .int .i64 0, .int .i64 0, .int .i64 0, .string (bs []), .int .i64 0]) trivial
  have HP3 := hid (push_no M g [[97]] (2, [], [kT [97]].map Ru.sem) (0 + 1) (0 + 1) 3 _ [] [kT [98]] _ (hH7.up hbb) (by omega) hrb.rv (kT_ok _ (by simp)) (by simp) (by decide) (hid k17_3))
  have HO8 := hid ((HO6.out.trans ho7).up hbb)
  have HT8 := hid (Bk.only HT6.out (ho7.up hbb) hbg)
  have HM8 := hid (HM6.out.only (ho7.up hbb) hH7.1)
  clear hbb hrb ho7 hH7 HP2 HO6 HH6 HT6 HM6
  go_wp2_with fail
  refine HP3.out.mono ?_
  rintro e w9 ⟨rfl, hH9, ho9⟩
  have HO9 := hid (HO8.out.trans ho9)
  have HT9 : Hid (BT w9 (w3.heap.size + 1) 2 (.slice (some ⟨w3.heap.size, 0, none⟩) 1 1) []) := hid (Bk.only HT8.out ho9 hbg)
  have HM9 := hid (HM8.out.only ho9 hH9.1)
  have HH9 := hid hH9
  clear ho9 hH9 HP3 HO8 HT8 HM8
  have HB9 := hid (Onl.below HB5.out HO9.out (g := g) HGL.out.2 HB5.out.size)
  have hM9 : Hid (∀ b, w9.heap.size ≤ b → M b) := hid fun b hb => HMI.out b (by have := HS5.out; have := HO9.out.size; omega)
  go_upto_region 6 with (fail)
  obtain ⟨t0, t1, t2⟩ := BT.cells HT9.out
  have HVE : Hid (∀ w2, Below w9.heap.size w9 w2 → Calls Try.prog 10 #[.pointer (some ⟨g, 0, none⟩)] w2 fun e w' => e = .returned (.int .i64 2) ∧ Below w2.heap.size w2 w') := hid fun w2 hb => sversion_any g 2 w2 (HH9.out.up hb).cells.1 (by omega) (by omega)
  have HTA : Hid (∀ w2, Below w9.heap.size w9 w2 → Calls Try.prog 11 #[.pointer (some ⟨g, 0, none⟩)] w2 fun e w' => e = .returned (.int .i64 1) ∧ Below w2.heap.size w2 w') := hid fun w2 hb => staken_any g 1 w2 (HH9.out.up hb).cells.2.1 (by omega) (by omega)
  have HRE : Hid (∀ w2, Below w9.heap.size w9 w2 → Calls Try.prog 12 #[.pointer (some ⟨g, 0, none⟩)] w2 fun e w' => e = .returned (.int .i64 2) ∧ Below w2.heap.size w2 w') := hid fun w2 hb => srefused_any g 2 w2 (HH9.out.up hb).cells.2.2.1 (by omega) (by omega)
  have HGE : Hid (∀ w2, Below w9.heap.size w9 w2 → Calls Try.prog 9 #[.pointer (some ⟨g, 0, none⟩)] w2 fun e w' => (∃ t, e = .returned t ∧ TN w' M t (2, [], [kT [97]].map Ru.sem)) ∧ Below w2.heap.size w2 w') := hid fun w2 hb => sget_any M g [[97]] _ _ _ w2 (HH9.out.up hb) (fun b hb2 => hM9.out b (by have := hb.size; omega))
  have HSA : Hid (∀ (w2 : World) (A4 : Option Addr) (c4 : Nat) (V4 : List Ru), Below w9.heap.size w9 w2 → RM w2 M (.slice A4 V4.length c4) V4 → V4.map Ru.sem = [kT [97]].map Ru.sem → Calls Try.prog 8 #[.agg #[.int .i64 2, .slice A4 V4.length c4, .string (bs [])], .agg #[.int .i64 2, .slice (some ⟨w3.heap.size, 0, none⟩) 1 1, .string (bs [])]] w2 fun e w' => e = .returned (.bool true) ∧ Below w2.heap.size w2 w') := hid fun w2 A4 c4 V4 hb h1 h2 => rtsame_tv 2 [] _ _ V4 [kT [97]] w2 h2 h1.rv (HM9.out.up hb).rv (by have := congrArg List.length h2; simp at this; omega)
  have hz : Below w9.heap.size w9 w9.drew := (Below.refl _ _).drew
  go_region_held3 (fun w' => w'.cell? ⟨w3.heap.size + 1, 0, none⟩ = some (.int .i64 2) ∧ w'.cell? ⟨w3.heap.size + 1, 1, none⟩ = some (.slice (some ⟨w3.heap.size, 0, none⟩) 1 1) ∧ w'.cell? ⟨w3.heap.size + 1, 2, none⟩ = some (.string (bs [])) ∧ Below w9.heap.size w9 w') (first | (with_reducible exact keepK HT9.out hz) | (with_reducible exact keepK HT9.out (hz.trans (Below.mono (by assumption) hz.size)))) (first
    | (go_at_call 10
       ((with_reducible refine (HVE.out _ hz).mono ?_); rintro e wa ⟨rfl, hy⟩)
       have hz := hz.trans (hy.mono hz.size))
    | (go_at_call 9
       ((with_reducible refine (HGE.out _ hz).mono ?_); rintro e wa ⟨⟨t, rfl, hTN⟩, hy⟩)
       obtain ⟨y4, V4, ht4, hm4, hs4⟩ := hTN
       have ht4' : t = .agg #[.int .i64 2, y4, .string (bs [])] := ht4
       subst ht4'
       obtain ⟨A4, cc4, rfl, -⟩ := id hm4
       clear ht4
       have hz := hz.trans (hy.mono hz.size))
    | (go_at_call 8
       ((with_reducible refine (HSA.out _ _ _ _ hz hm4 hs4).mono ?_); rintro e wa ⟨rfl, hy⟩)
       have hz := hz.trans (hy.mono hz.size))
    | (go_at_call 11
       ((with_reducible refine (HTA.out _ hz).mono ?_); rintro e wa ⟨rfl, hy⟩)
       have hz := hz.trans (hy.mono hz.size))
    | (go_at_call 12
       ((with_reducible refine (HRE.out _ hz).mono ?_); rintro e wa ⟨rfl, hy⟩)
       have hz := hz.trans (hy.mono hz.size))
    | (go_at_call 13
       ((with_reducible refine (nothing17_any _).mono ?_); rintro e wa ⟨rfl, hy⟩)
       have hz := hz.trans (hy.mono hz.size)))
  all_goals
    go_wp2_with fail
    go_returns
    exact ⟨rfl, estep HB9.out hz⟩
end Go.Proofs.Ytelglcakekgdeaa
namespace Go.Proofs.Ytelglcakekgdeaa
set_option linter.unusedVariables false
set_option linter.unusedSimpArgs false
open Go.RowKit Go.Joins

def Tu.sem (t : Tu) : Tt := (t.v, t.f, t.U.map Ru.sem)
/-- What a push comes to. -/
def Stp (l : List (List UInt8)) (T : Tt) (tk rf : Nat) (t : Tu) (z : Int) (T' : Tt) (tk' rf' : Nat) : Prop :=
  pushZ l T.1 t.sem = z ∧ (z = 0 → T' = t.sem ∧ tk' = tk + 1 ∧ rf' = rf) ∧ (z ≠ 0 → T' = T ∧ tk' = tk ∧ rf' = rf + 1)
theorem stp_any (l : List (List UInt8)) (T : Tt) (tk rf : Nat) (t : Tu) : ∃ z T' tk' rf', Stp l T tk rf t z T' tk' rf' := by
  by_cases h : pushZ l T.1 t.sem = 0
  · exact ⟨_, t.sem, tk + 1, rf, rfl, fun _ => ⟨rfl, rfl, rfl⟩, fun hn => absurd h hn⟩
  · exact ⟨_, T, tk, rf + 1, rfl, fun hn => absurd hn h, fun _ => ⟨rfl, rfl, rfl⟩⟩
theorem Stp.sum {l : List (List UInt8)} {T : Tt} {tk rf : Nat} {t : Tu} {z : Int} {T' : Tt} {tk' rf' : Nat} (h : Stp l T tk rf t z T' tk' rf') : tk' + rf' = tk + rf + 1 := by
  by_cases hz : z = 0
  · obtain ⟨-, h1, h2⟩ := h.2.1 hz
    omega
  · obtain ⟨-, h1, h2⟩ := h.2.2 hz
    omega
theorem push_stp {M : Nat → Prop} {g : Nat} {l : List (List UInt8)} {T : Tt} {tk rf : Nat} {t : Tu} {z : Int} {T' : Tt} {tk' rf' : Nat} (H : Stp l T tk rf t z T' tk' rf') (w : World) (h : HO M w g l T tk rf) (hM : ∀ b, w.heap.size ≤ b → M b) (hc : tk + rf + 1 ≤ 1000000) (hy : RM w M t.y t.U) (hok : okTu t) :
    Calls Try.prog 7 #[.pointer (some ⟨g, 0, none⟩), .agg #[.int .i64 t.v, .slice t.ya t.yn t.yc, .string (bs t.f)]] w fun e w' => e = .returned (.int .i64 z) ∧ HO M w' g l T' tk' rf' ∧ Onl g w w' := by
  obtain ⟨h0, h1, h2⟩ := H
  by_cases hz : z = 0
  · subst hz
    obtain ⟨rfl, rfl, rfl⟩ := h1 rfl
    exact push_ok M g l T tk rf' t.v t.y t.f t.U w h hM (by omega) hy hok.1 hok.2 (hid h0)
  · obtain ⟨rfl, rfl, rfl⟩ := h2 hz
    exact push_no M g l T' tk' rf t.v t.y t.f t.U w h (by omega) hy.rv hok.1 hok.2 hz (hid h0)
end Go.Proofs.Ytelglcakekgdeaa
namespace Go.Proofs.Ytelglcakekgdeaa
set_option linter.unusedVariables false
set_option linter.unusedSimpArgs false
open Go.RowKit Go.Joins

/-- What SnapAlone's loop knows. -/
structure AL (l : List (List UInt8)) (w wr : World) (g xg : Nat) (i : Nat) (T : Tt) (tk rf : Nat) : Prop where
  ho : HO (fun b => b ≠ g ∧ b ≠ xg) wr g l T tk rf
  hx : HO (fun b => b ≠ g ∧ b ≠ xg) wr xg l T tk 0
  sum : tk + rf = i
  bel : Below w.heap.size w wr
set_option maxRecDepth 100000 in
set_option maxHeartbeats 32000000 in
theorem snapAlone_walk (ny : Value) (l : List (List UInt8)) (x : Value) (L : List Tu) (m : ∀ t ∈ L, okTu t) (w : World) (hn : TX w (· < w.heap.size) ny l) (hx : TS w x L) :
    Calls Try.prog 3 #[ny, x] w fun e w' => e = .returned (.bool true) ∧ Below w.heap.size w w' := by
  have hnot := enot
  have c3 : (ByteArray.mk #[]) = bs [] := rfl
  obtain ⟨nA, nc, rfl, hn1, hn2, hn3⟩ := id hn
  obtain ⟨A, c, rfl, hgx, hrv, hl9⟩ := id hx
  by_cases h20 : l.length ≤ 20
  rotate_left
  · have hd : decide ((20 : Int) < ((l.length : Nat) : Int)) = true := decide_eq_true (by omega)
    go_enter Try.func3, Try.ntmps3
    go_wp2_with fail
    refine (known17_any _).mono ?_
    rintro e w1 ⟨rfl, hb1⟩
    go_wp2_with fail
    go_returns
    exact ⟨rfl, hb1⟩
  have hd : decide ((20 : Int) < ((l.length : Nat) : Int)) = false := decide_eq_false (by omega)
  by_cases h30 : L.length ≤ 30
  rotate_left
  · have hd2 : decide ((30 : Int) < ((L.length : Nat) : Int)) = true := decide_eq_true (by omega)
    go_enter Try.func3, Try.ntmps3
    go_wp2_with fail
    refine (known17_any _).mono ?_
    rintro e w1 ⟨rfl, hb1⟩
    go_wp2_with fail
    go_returns
    exact ⟨rfl, hb1⟩
  have hd2 : decide ((30 : Int) < ((L.length : Nat) : Int)) = false := decide_eq_false (by omega)
  have HNW := hid (snew_any (.slice nA l.length nc) l w hn (by omega))
  have H0 := hid (And.intro hn hx)
  have HM := hid m
  have HNL := hid h20
  have HLL := hid h30
  clear hn hx hn1 hn2 hn3 hgx hrv hl9 m h20 h30
  generalize hnl : l.length = nl at *
  generalize hnL : L.length = n at *
  have HN := hid (And.intro hnl hnL)
  clear hnl hnL
  go_enter Try.func3, Try.ntmps3
  go_wp2_with fail
  refine HNW.out.mono ?_
  rintro e w1 ⟨g, rfl, hg, hH, hb1⟩
  have HH1 := hid hH
  have HB1 := hid hb1
  have HNW2 := hid (snew_any (.slice nA nl nc) l w1 (tx_up H0.out.1 hb1) (by have := HN.out.1; have := HNL.out; omega))
  clear hH hb1 HNW
  go_wp2_with fail
  refine HNW2.out.mono ?_
  rintro e w2 ⟨xg, rfl, hxg, hX, hb2⟩
  have HGX : Hid (w.heap.size ≤ g ∧ w.heap.size ≤ xg ∧ g < xg) := hid ⟨hg, by have := HB1.out.size; omega, by have := HH1.out.lt; omega⟩
  have hH1 : HO (fun b => b ≠ g ∧ b ≠ xg) w1 g l noT 0 0 := HH1.out.imp (fun h => h.1 rfl) fun b hb h => ⟨h.2, by omega⟩
  have hX1 : HO (fun b => b ≠ g ∧ b ≠ xg) w2 xg l noT 0 0 := hX.imp (fun h => h.2 rfl) fun b hb h => ⟨by have := HH1.out.lt; have := h.1; omega, h.2⟩
  have HST : Hid (AL l w w2 g xg 0 noT 0 0) := hid ⟨hH1.up hb2, hX1, rfl, estep HB1.out hb2⟩
  clear hH1 hX1 hX hb2 HNW2 hg hxg
  generalize w2 = v1 at *
  go_wp2_with fail
  go_loopg [7] n (fun g1 vi wr => ∃ (i : Nat) (T1 : Int) (T2 : List UInt8) (T3 : List Rs) (tk rf : Nat), vi = .int .i64 i ∧ i ≤ n ∧ n - i ≤ g1 ∧ Hid (AL l w wr g xg i (T1, T2, T3) tk rf))
  case atStart => exact ⟨0, 0, [], [], 0, 0, rfl, by omega, by omega, HST⟩
  case round =>
    obtain ⟨i, T1, T2, T3, tk, rf, rfl, hin, hgk, HP⟩ := hrel
    by_cases hlt : i < n
    · have hltz : (i : Int) < (n : Int) := by omega
      have hltd : decide ((i : Int) < (n : Int)) = true := decide_eq_true hltz
      have hi0 : (0 : Int) ≤ (i : Int) := by omega
      have hiL : i < L.length := by have := HN.out.2; omega
      obtain ⟨t, ht⟩ : ∃ t, L[i]? = some t := ⟨_, List.getElem?_eq_getElem hiL⟩
      have htm : t ∈ L := List.mem_of_getElem? ht
      have HOK := hid (HM.out t htm)
      obtain ⟨A', c', e', hgx, hrv, -⟩ := H0.out.2.up HP.out.bel
      injection e' with eA en ec
      subst eA
      clear en ec
      obtain ⟨bb, oo, rfl, -, -⟩ := hgx i hiL
      have HBB : Hid (bb < w.heap.size) := hid (by
        obtain ⟨A2, c2, e3, hg0, -⟩ := H0.out.2
        injection e3 with e4
        obtain ⟨b5, o5, e5, h5, -⟩ := hg0 i hiL
        rw [← e4] at e5
        injection e5 with e5
        injection e5 with e6
        rw [e6]
        exact h5)
      obtain ⟨e0, e1, e2⟩ := tu_cell hgx ht
      obtain ⟨zf, hzf⟩ : ∃ z, fewC t.f (t.U.map Ru.sem) = z := ⟨_, rfl⟩
      have HF : Hid (Calls Try.prog 6 #[.agg #[.int .i64 t.v, .slice t.ya t.yn t.yc, .string (bs t.f)]] wr fun e w' => e = .returned (.bool zf) ∧ Below wr.heap.size wr w') := hid (tfew_any t.v t.y t.f t.U wr (hrv t htm) HOK.out.1 HOK.out.2 (hid hzf))
      have HRV : Hid (RV wr t.y t.U) := hid (hrv t htm)
      have HRM : Hid (RM wr (fun b => b ≠ g ∧ b ≠ xg) t.y t.U) := hid (by
        obtain ⟨A2, c2, e3, -, hrv0, -⟩ := H0.out.2
        exact RM.of_rv (hrv0 t htm) HP.out.bel fun b hb => ⟨by have := HGX.out.1; omega, by have := HGX.out.2.1; omega⟩)
      clear hgx hrv hzf ht htm hiL
      go_wp2_with fail
      refine HF.out.mono ?_
      rintro e w2 ⟨rfl, hb2⟩
      have e0' := (hb2.cell (lt_of_cell e0)).trans e0
      have e1' := (hb2.cell (lt_of_cell e1)).trans e1
      have e2' := (hb2.cell (lt_of_cell e2)).trans e2
      have HB2 := hid hb2
      clear e0 e1 e2 hb2 HF
      cases zf with
      | false =>
        go_wp2_with fail
        refine (known17_any _).mono ?_
        rintro e w3 ⟨rfl, hb3⟩
        go_wp2_with fail
        go_returns
        exact ⟨rfl, estep HP.out.bel (estep HB2.out hb3)⟩
      | true =>
        obtain ⟨z, T', tk', rf', hS⟩ := stp_any l (T1, T2, T3) tk rf t
        obtain ⟨T1', T2', T3'⟩ := T'
        have HS := hid hS
        have HPU := hid (push_stp hS w2 (HP.out.ho.up HB2.out) (fun b hb => ⟨by have := HP.out.ho.lt; have := HB2.out.size; omega, by have := HP.out.hx.lt; have := HB2.out.size; omega⟩) (by have := HP.out.sum; have := HLL.out; omega) (HRM.out.up HB2.out) HOK.out)
        clear hS
        have hbg : bb ≠ g := by have := HBB.out; have := HGX.out.1; omega
        have hxgn : xg ≠ g := by have := HGX.out.2.2; omega
        have hadd : IntKind.i64.wrap ((i : Int) + 1) = (i : Int) + 1 := IntWalk.i64_in _ (by have := HLL.out; omega)
        by_cases hz : z = 0
        · subst hz
          obtain ⟨hT, rfl, rfl⟩ := HS.out.2.1 rfl
          have HSX : Hid (Stp l (T1, T2, T3) tk 0 t 0 (T1', T2', T3') (tk + 1) 0) := hid ⟨HS.out.1, fun _ => ⟨hT, rfl, rfl⟩, fun h => absurd rfl h⟩
          clear HS hT
          go_wp2_with fail
          refine HPU.out.mono ?_
          rintro e w3 ⟨rfl, hH3, ho3⟩
          have hx3 : HO (fun b => b ≠ g ∧ b ≠ xg) w3 xg l (T1, T2, T3) tk 0 := (HP.out.hx.up HB2.out).only ho3 (fun h => h.1 rfl) hxgn
          have HPX := hid (push_stp HSX.out w3 hx3 (fun b hb => ⟨by have := hH3.lt; omega, by have := hx3.lt; omega⟩) (by have := HP.out.sum; have := HLL.out; omega) ((HRM.out.up HB2.out).only ho3 (fun h => h.1 rfl)) HOK.out)
          have e0 := (World.cell?_of_block (ho3.block bb (lt_of_cell e0') hbg)).trans e0'
          have e1 := (World.cell?_of_block (ho3.block bb (lt_of_cell e1') hbg)).trans e1'
          have e2 := (World.cell?_of_block (ho3.block bb (lt_of_cell e2') hbg)).trans e2'
          have HH3 := hid hH3
          have HB3 := hid (Onl.below (estep HP.out.bel HB2.out) ho3 HGX.out.1 (estep HP.out.bel HB2.out).size)
          clear e0' e1' e2' ho3 hH3 hx3 HPU
          go_wp2_with fail
          refine HPX.out.mono ?_
          rintro e w4 ⟨rfl, hX4, ho4⟩
          have HP4 : Hid (AL l w w4 g xg (i + 1) (T1', T2', T3') (tk + 1) rf') := hid ⟨HH3.out.only ho4 (fun h => h.2 rfl) (fun h => hxgn h.symm), hX4, by have := HP.out.sum; omega, Onl.below HB3.out ho4 HGX.out.2.1 HB3.out.size⟩
          clear hX4 ho4 HPX HH3 HB3 e0 e1 e2
          go_wp2_with fail
          go_roundg (n - (i + 1))
          case measure => omega
          case rel => exact ⟨i + 1, T1', T2', T3', tk + 1, rf', by first | rfl | go_num | (simp), by omega, by omega, HP4⟩
        · obtain ⟨hT, rfl, rfl⟩ := HS.out.2.2 hz
          obtain ⟨f1, f2⟩ := Prod.mk.inj hT
          obtain ⟨f2, f3⟩ := Prod.mk.inj f2
          subst f1 f2 f3
          have hz1 : (z == 0) = false := by simpa using hz
          have hz2 : decide (z = 0) = false := decide_eq_false hz
          clear HS hT hz
          go_wp2_with fail
          refine HPU.out.mono ?_
          rintro e w3 ⟨rfl, hH3, ho3⟩
          have HP4 : Hid (AL l w w3 g xg (i + 1) (T1', T2', T3') tk' (rf + 1)) := hid ⟨hH3, (HP.out.hx.up HB2.out).only ho3 (fun h => h.1 rfl) hxgn, by have := HP.out.sum; omega, Onl.below (estep HP.out.bel HB2.out) ho3 HGX.out.1 (estep HP.out.bel HB2.out).size⟩
          clear hH3 ho3 HPU e0' e1' e2'
          go_wp2_with fail
          go_roundg (n - (i + 1))
          case measure => omega
          case rel => exact ⟨i + 1, T1', T2', T3', tk', rf + 1, by first | rfl | go_num | (simp), by omega, by omega, HP4⟩
    · obtain rfl : i = n := by omega
      have hltd : decide ((i : Int) < (i : Int)) = false := by simp
      have hM : Hid (∀ w2, Below wr.heap.size wr w2 → ∀ b, w2.heap.size ≤ b → b ≠ g ∧ b ≠ xg) := hid fun w2 hb b hb2 => ⟨by have := HP.out.ho.lt; have := hb.size; omega, by have := HP.out.hx.lt; have := hb.size; omega⟩
      have HTO := hid HP.out.ho.2.1
      have HGA := hid (fun (w2 : World) (hb : Below wr.heap.size wr w2) => sget_any _ g l _ _ _ w2 (HP.out.ho.up hb) (hM.out w2 hb))
      have HGB := hid (fun (w2 : World) (hb : Below wr.heap.size wr w2) => sget_any _ xg l _ _ _ w2 (HP.out.hx.up hb) (hM.out w2 hb))
      have HVA : Hid (∀ w2, Below wr.heap.size wr w2 → Calls Try.prog 10 #[.pointer (some ⟨g, 0, none⟩)] w2 fun e w' => e = .returned (.int .i64 T1) ∧ Below w2.heap.size w2 w') := hid fun w2 hb => sversion_any g T1 w2 (HP.out.ho.up hb).cells.1 HTO.out.1 HTO.out.2.1
      have HVB : Hid (∀ w2, Below wr.heap.size wr w2 → Calls Try.prog 10 #[.pointer (some ⟨xg, 0, none⟩)] w2 fun e w' => e = .returned (.int .i64 T1) ∧ Below w2.heap.size w2 w') := hid fun w2 hb => sversion_any xg T1 w2 (HP.out.hx.up hb).cells.1 HTO.out.1 HTO.out.2.1
      have HTA : Hid (∀ w2, Below wr.heap.size wr w2 → Calls Try.prog 11 #[.pointer (some ⟨g, 0, none⟩)] w2 fun e w' => e = .returned (.int .i64 (tk : Int)) ∧ Below w2.heap.size w2 w') := hid fun w2 hb => staken_any g tk w2 (HP.out.ho.up hb).cells.2.1 (by omega) (by have := HP.out.ho.2.2.1; omega)
      have HTB : Hid (∀ w2, Below wr.heap.size wr w2 → Calls Try.prog 11 #[.pointer (some ⟨xg, 0, none⟩)] w2 fun e w' => e = .returned (.int .i64 (tk : Int)) ∧ Below w2.heap.size w2 w') := hid fun w2 hb => staken_any xg tk w2 (HP.out.hx.up hb).cells.2.1 (by omega) (by have := HP.out.hx.2.2.1; omega)
      have HRB : Hid (∀ w2, Below wr.heap.size wr w2 → Calls Try.prog 12 #[.pointer (some ⟨xg, 0, none⟩)] w2 fun e w' => e = .returned (.int .i64 0) ∧ Below w2.heap.size w2 w') := hid fun w2 hb => srefused_any xg 0 w2 (HP.out.hx.up hb).cells.2.2.1 (by omega) (by omega)
      go_wp2_with fail
      refine (HGA.out _ (Below.refl _ _)).mono ?_
      rintro e w3 ⟨⟨t3, rfl, hTN⟩, hb3⟩
      obtain ⟨y3, V3, ht3, hm3, hs3⟩ := hTN
      have ht3' : t3 = .agg #[.int .i64 T1, y3, .string (bs T2)] := ht3
      subst ht3'
      obtain ⟨A3, cc3, rfl, -⟩ := id hm3
      have HB3 := hid hb3
      have HM3 := hid (And.intro hm3 hs3)
      clear hb3 ht3 hm3 hs3
      go_wp2_with fail
      refine (HGB.out _ HB3.out).mono ?_
      rintro e w4 ⟨⟨t4, rfl, hTN⟩, hb4⟩
      obtain ⟨y4, V4, ht4, hm4, hs4⟩ := hTN
      have ht4' : t4 = .agg #[.int .i64 T1, y4, .string (bs T2)] := ht4
      subst ht4'
      obtain ⟨A4, cc4, rfl, -⟩ := id hm4
      have HB4 := hid (estep HB3.out hb4)
      have HSA := hid (rtsame_tv T1 T2 (.slice A3 V3.length cc3) (.slice A4 V4.length cc4) V3 V4 w4 (HM3.out.2.trans hs4.symm) (HM3.out.1.up hb4).rv hm4.rv (by have := (okT_small HTO.out HM3.out.2).1; omega))
      clear hb4 ht4 hm4 hs4
      go_wp2_with fail
      refine HSA.out.mono ?_
      rintro e w5 ⟨rfl, hb5⟩
      have HB5 := hid (estep HB4.out hb5)
      clear hb5
      go_wp2_with fail
      refine (HVA.out _ HB5.out).mono ?_
      rintro e w6 ⟨rfl, hb6⟩
      have HB6 := hid (estep HB5.out hb6)
      clear hb6
      go_wp2_with fail
      refine (HVB.out _ HB6.out).mono ?_
      rintro e w7 ⟨rfl, hb7⟩
      have HB7 := hid (estep HB6.out hb7)
      clear hb7
      go_wp2_with fail
      refine (HTA.out _ HB7.out).mono ?_
      rintro e w8 ⟨rfl, hb8⟩
      have HB8 := hid (estep HB7.out hb8)
      clear hb8
      go_wp2_with fail
      refine (HTB.out _ HB8.out).mono ?_
      rintro e w9 ⟨rfl, hb9⟩
      have HB9 := hid (estep HB8.out hb9)
      clear hb9
      go_wp2_with fail
      refine (HRB.out _ HB9.out).mono ?_
      rintro e wa ⟨rfl, hba⟩
      have HBA := hid (estep HB9.out hba)
      clear hba
      go_wp2_with fail
      refine (known17_any _).mono ?_
      rintro e wb ⟨rfl, hbb⟩
      go_wp2_with fail
      go_returns
      exact ⟨rfl, estep HP.out.bel (estep HBA.out hbb)⟩
end Go.Proofs.Ytelglcakekgdeaa
