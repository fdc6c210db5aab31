/- Texts put together: Ev Ea Eb Ec Ed Ee Eg. -/
import Derived.Test.YtelglcakekgdeaaGreatDoorG02
import Derived.Test.YtelglcakekgdeaaGreatDoorG09
import Derived.Test.YtelglcakekgdeaaGreatDoorG14
import Derived.Handy
import Derived.Deep.Cut
import Derived.Deep.RegionHeld3
import Derived.Laws.EntriesVeiled
namespace Go.Proofs.YtelglcakekgdeaaGreatDoor
set_option linter.unusedVariables false
set_option linter.unusedSimpArgs false
open Go.RowKit Go.Joins

theorem enew (w : World) (o : Obj) : Below w.heap.size w (w.alloc o) := (Below.refl _ _).alloc (Nat.le_refl _) _
theorem estep {a b c : World} (h : Below a.heap.size a b) (k : Below b.heap.size b c) : Below a.heap.size a c := h.trans (k.mono h.size)
theorem enot (x : Bool) (w : World) : (Op.unary .not (.bool x)).run Tryz.prog w = .ok (.bool (!x)) w := rfl
/-- A block of cells. -/
def Bk (w : World) (g : Nat) (t : TypeId) (cs : Array Value) : Prop := w.heap[g]? = some (.cells cs t (0, 0))
section
variable {w w' : World} {g : Nat} {t : TypeId} {cs : Array Value}
theorem Bk.lt (h : Bk w g t cs) : g < w.heap.size := by
  rcases Nat.lt_or_ge g w.heap.size with hlt | hge
  · exact hlt
  · unfold Bk at h; rw [Array.getElem?_eq_none hge] at h; cases h
theorem Bk.cell (h : Bk w g t cs) (i : Nat) : w.cell? ⟨g, i, none⟩ = cs[i]? := cell_of_row w g i cs t (0, 0) h
theorem Bk.frozen (h : Bk w g t cs) (i : Nat) : w.frozen? ⟨g, i, none⟩ = false := by
  unfold Bk at h
  simp [World.frozen?, h]
theorem Bk.new (w : World) (t : TypeId) (cs : Array Value) : Bk (w.alloc (.cells cs t)) w.heap.size t cs := heap_alloc_new w _
theorem Bk.drew (h : Bk w g t cs) : Bk w.drew g t cs := h
theorem Bk.alloc (h : Bk w g t cs) (o : Obj) : Bk (w.alloc o) g t cs := (Below.heap_alloc w o g h.lt).trans h
theorem Bk.set_ (h : Bk w g t cs) (i : Nat) (u : Value) : Bk (w.setCell ⟨g, i, none⟩ u) g t (cs.setIfInBounds i u) := by
  unfold Bk at h ⊢
  simp [World.setCell, Array.getElem?_modify, h]
theorem Bk.below {B : Nat} (h : Bk w g t cs) (hb : Below B w w') (hg : g < B) : Bk w' g t cs := (hb.block g hg).trans h
theorem Bk.up (h : Bk w g t cs) (hb : Below w.heap.size w w') : Bk w' g t cs := h.below hb h.lt
end
/-- A variable that holds a request. -/
def BQ (w : World) (g : Nat) (m h p : List UInt8) (x : Value) (b : List UInt8) : Prop := Bk w g 125 #[.string (bs m), .string (bs h), .string (bs p), x, .string (bs b)]
theorem BQ.new (w : World) (m h p : List UInt8) (x : Value) (b : List UInt8) : BQ (w.alloc (.cells #[.string (bs m), .string (bs h), .string (bs p), x, .string (bs b)] 125)) w.heap.size m h p x b := Bk.new _ _ _
theorem BQ.up {w w' : World} {g : Nat} {m h p b : List UInt8} {x : Value} (k : BQ w g m h p x b) (hb : Below w.heap.size w w') : BQ w' g m h p x b := Bk.up k hb
theorem BQ.cells {w : World} {g : Nat} {m h p b : List UInt8} {x : Value} (k : BQ w g m h p x b) : w.cell? ⟨g, 0, none⟩ = some (.string (bs m)) ∧ w.cell? ⟨g, 1, none⟩ = some (.string (bs h)) ∧ w.cell? ⟨g, 2, none⟩ = some (.string (bs p)) ∧ w.cell? ⟨g, 3, none⟩ = some x ∧ w.cell? ⟨g, 4, none⟩ = some (.string (bs b)) := ⟨Bk.cell k 0, Bk.cell k 1, Bk.cell k 2, Bk.cell k 3, Bk.cell k 4⟩
/-- A variable that holds a predicate. -/
def BP (w : World) (g : Nat) (k : Int) (n v : List UInt8) : Prop := Bk w g 83 #[.int .i64 k, .string (bs n), .string (bs v)]
theorem BP.new (w : World) (k : Int) (n v : List UInt8) : BP (w.alloc (.cells #[.int .i64 k, .string (bs n), .string (bs v)] 83)) w.heap.size k n v := Bk.new _ _ _
theorem BP.up {w w' : World} {g : Nat} {k : Int} {n v : List UInt8} (h : BP w g k n v) (hb : Below w.heap.size w w') : BP w' g k n v := Bk.up h hb
theorem BP.cells {w : World} {g : Nat} {k : Int} {n v : List UInt8} (h : BP w g k n v) : w.cell? ⟨g, 0, none⟩ = some (.int .i64 k) ∧ w.cell? ⟨g, 1, none⟩ = some (.string (bs n)) ∧ w.cell? ⟨g, 2, none⟩ = some (.string (bs v)) := ⟨Bk.cell h 0, Bk.cell h 1, Bk.cell h 2⟩
/-- A slice of headers, as a value that can be read. -/
def HV (w : World) (x : Value) (L : List Hd) : Prop := ∃ A c, x = .slice A L.length c ∧ HReads w (· < w.heap.size) A L
theorem HV.up {w w' : World} {x : Value} {L : List Hd} (h : HV w x L) (hb : Below w.heap.size w w') : HV w' x L := by
  obtain ⟨A, c, e, h1⟩ := h
  exact ⟨A, c, e, h1.later' hb⟩
/-- The cells of a slice of predicates, in a block that N allows. -/
def PX (w : World) (N : Nat → Prop) (A : Option Addr) (L : List Pd) : Prop :=
  ∀ k (h : k < L.length), ∃ b o, A = some ⟨b, o, none⟩ ∧ N b ∧ w.cell? ⟨b, o + k * 3, none⟩ = some (.int .i64 L[k].k) ∧ w.cell? ⟨b, o + k * 3 + 1, none⟩ = some (.string (bs L[k].n)) ∧ w.cell? ⟨b, o + k * 3 + 2, none⟩ = some (.string (bs L[k].v))
theorem PX.imp {w : World} {N M : Nat → Prop} {A : Option Addr} {L : List Pd} (h : PX w N A L) (hn : ∀ b, N b → M b) : PX w M A L := by
  intro k hk
  obtain ⟨b, o, e, h1, h2⟩ := h k hk
  exact ⟨b, o, e, hn _ h1, h2⟩
theorem PX.same {w w' : World} {N : Nat → Prop} {A : Option Addr} {L : List Pd} (h : PX w N A L) (hs : ∀ b, N b → w'.heap[b]? = w.heap[b]?) : PX w' N A L := by
  intro k hk
  obtain ⟨b, o, e, h1, c0, c1, c2⟩ := h k hk
  have hx : ∀ i, w'.cell? ⟨b, i, none⟩ = w.cell? ⟨b, i, none⟩ := fun i => World.cell?_of_block (hs b h1)
  exact ⟨b, o, e, h1, (hx _).trans c0, (hx _).trans c1, (hx _).trans c2⟩
theorem PX.up {w w' : World} {A : Option Addr} {L : List Pd} (h : PX w (· < w.heap.size) A L) (hb : Below w.heap.size w w') : PX w' (· < w'.heap.size) A L :=
  (h.same fun b hB => hb.block b hB).imp fun b hB => Nat.lt_of_lt_of_le hB hb.size
theorem PX.nil (w : World) (N : Nat → Prop) (A : Option Addr) : PX w N A [] := fun k hk => absurd hk (by simp)
/-- A slice of predicates, as a value that can be read. -/
def PV (w : World) (N : Nat → Prop) (x : Value) (L : List Pd) : Prop := ∃ A c, x = .slice A L.length c ∧ PX w N A L ∧ (A = none → c = 0) ∧ L.length ≤ c ∧ L.length ≤ 9223372036854775807
theorem PV.imp {w : World} {N M : Nat → Prop} {x : Value} {L : List Pd} (h : PV w N x L) (hn : ∀ b, N b → M b) : PV w M x L := by
  obtain ⟨A, c, e, h1, h2⟩ := h
  exact ⟨A, c, e, h1.imp hn, h2⟩
theorem PV.same {w w' : World} {N : Nat → Prop} {x : Value} {L : List Pd} (h : PV w N x L) (hs : ∀ b, N b → w'.heap[b]? = w.heap[b]?) : PV w' N x L := by
  obtain ⟨A, c, e, h1, h2⟩ := h
  exact ⟨A, c, e, h1.same hs, h2⟩
theorem PV.up {w w' : World} {x : Value} {L : List Pd} (h : PV w (· < w.heap.size) x L) (hb : Below w.heap.size w w') : PV w' (· < w'.heap.size) x L := by
  obtain ⟨A, c, e, h1, h2⟩ := h
  exact ⟨A, c, e, h1.up hb, h2⟩
theorem PV.nil (w : World) (N : Nat → Prop) : PV w N (.slice none 0 0) [] := ⟨none, 0, rfl, PX.nil _ _ _, fun _ => rfl, Nat.le_refl _, by simp⟩
end Go.Proofs.YtelglcakekgdeaaGreatDoor
namespace Go.Proofs.YtelglcakekgdeaaGreatDoor
set_option linter.unusedVariables false
set_option linter.unusedSimpArgs false
open Go.RowKit Go.Joins

theorem eprefix_any (s p : List UInt8) (w : World) :
    Calls Tryz.prog 109 #[.string (bs s), .string (bs p)] w fun e w' => e = .returned (.bool (List.isPrefixOf p s)) ∧ w = w' :=
  (Tryz.strings_HasPrefix (bs s) (bs p) w).mono fun e w' ⟨a, b⟩ => ⟨by rw [bs_data, bs_data] at a; exact a, b.symm⟩
set_option maxHeartbeats 1600000 in
theorem hasMethod_any (m h p b : List UInt8) (x : Value) (k : Int) (n v : List UInt8) (w : World) :
    Calls Tryz.prog 90 #[.agg #[.string (bs m), .string (bs h), .string (bs p), x, .string (bs b)], .agg #[.int .i64 k, .string (bs n), .string (bs v)]] w fun e w' => e = .returned (.bool (m == v)) ∧ Below w.heap.size w w' := by
  have hb := estep (enew w (.cells #[.string (bs m), .string (bs h), .string (bs p), x, .string (bs b)] 125)) (enew _ (.cells #[.int .i64 k, .string (bs n), .string (bs v)] 83))
  go_enter Tryz.func90, Tryz.ntmps90
  go_wp2_with fail
  go_ret
  exact ⟨rfl, hb⟩
set_option maxHeartbeats 1600000 in
theorem hasHost_any (m h p b : List UInt8) (x : Value) (k : Int) (n v : List UInt8) (w : World) :
    Calls Tryz.prog 92 #[.agg #[.string (bs m), .string (bs h), .string (bs p), x, .string (bs b)], .agg #[.int .i64 k, .string (bs n), .string (bs v)]] w fun e w' => e = .returned (.bool (h == v)) ∧ Below w.heap.size w w' := by
  have hb := estep (enew w (.cells #[.string (bs m), .string (bs h), .string (bs p), x, .string (bs b)] 125)) (enew _ (.cells #[.int .i64 k, .string (bs n), .string (bs v)] 83))
  go_enter Tryz.func92, Tryz.ntmps92
  go_wp2_with fail
  go_ret
  exact ⟨rfl, hb⟩
set_option maxHeartbeats 1600000 in
theorem hasPath_any (m h p b : List UInt8) (x : Value) (k : Int) (n v : List UInt8) (w : World) :
    Calls Tryz.prog 94 #[.agg #[.string (bs m), .string (bs h), .string (bs p), x, .string (bs b)], .agg #[.int .i64 k, .string (bs n), .string (bs v)]] w fun e w' => e = .returned (.bool (p == v)) ∧ Below w.heap.size w w' := by
  have hb := estep (enew w (.cells #[.string (bs m), .string (bs h), .string (bs p), x, .string (bs b)] 125)) (enew _ (.cells #[.int .i64 k, .string (bs n), .string (bs v)] 83))
  go_enter Tryz.func94, Tryz.ntmps94
  go_wp2_with fail
  go_ret
  exact ⟨rfl, hb⟩
set_option maxHeartbeats 1600000 in
theorem hasPrefix_any (m h p b : List UInt8) (x : Value) (k : Int) (n v : List UInt8) (w : World) :
    Calls Tryz.prog 95 #[.agg #[.string (bs m), .string (bs h), .string (bs p), x, .string (bs b)], .agg #[.int .i64 k, .string (bs n), .string (bs v)]] w fun e w' => e = .returned (.bool (List.isPrefixOf v p)) ∧ Below w.heap.size w w' := by
  have hb := estep (enew w (.cells #[.string (bs m), .string (bs h), .string (bs p), x, .string (bs b)] 125)) (enew _ (.cells #[.int .i64 k, .string (bs n), .string (bs v)] 83))
  go_enter Tryz.func95, Tryz.ntmps95
  go_wp2_with fail
  refine (eprefix_any p v _).mono ?_
  rintro e w1 ⟨rfl, rfl⟩
  go_wp2_with fail
  go_ret
  exact ⟨rfl, hb⟩
/-- Where a header stands. -/
def idxV (L : List Hd) (n v : List UInt8) : Int := if L.findIdx ((n, v) == ·) < L.length then (L.findIdx ((n, v) == ·) : Int) else -1
theorem idxV_ge (L : List Hd) (n v : List UInt8) : decide (0 ≤ idxV L n v) = memH L n v := by
  unfold memH
  rw [Bool.eq_iff_iff, decide_eq_true_eq, List.contains_iff_mem, idxV]
  constructor
  · intro h
    by_cases h1 : L.findIdx ((n, v) == ·) < L.length
    · have := List.findIdx_getElem (w := h1)
      have e : (n, v) = L[L.findIdx ((n, v) == ·)] := by simpa using this
      rw [e]; exact List.getElem_mem _
    · rw [if_neg h1] at h; omega
  · intro h
    have : L.findIdx ((n, v) == ·) < L.length := List.findIdx_lt_length_of_exists ⟨(n, v), h, by simp⟩
    rw [if_pos this]; omega
theorem sameHd_beq (x y : Hd) : sameHd x y = (x == y) := by
  unfold sameHd
  rw [Bool.eq_iff_iff]; simp
set_option maxRecDepth 100000 in
set_option maxHeartbeats 2000000 in
theorem indexHd_any (A : Option Addr) (cap : Nat) (L : List Hd) (n v : List UInt8) (w : World) (hR : HReads w (· < w.heap.size) A L) (hl : L.length ≤ 9223372036854775807) :
    Calls Tryz.prog 121 #[.slice A L.length cap, .agg #[.string (bs n), .string (bs v)]] w fun e w' => e = .returned (.int .i64 (idxV L n v)) ∧ Below w.heap.size w w' := by
  have hb0 := enew w (.cells #[.string (bs n), .string (bs v)] 149)
  have hs0 := Bk.new w 149 #[.string (bs n), .string (bs v)]
  have HR := hid (hR.later' hb0)
  clear hR
  go_enter Tryz.func121, Tryz.ntmps121
  go_upto_region 1 with (fail)
  generalize w.alloc (.cells #[.string (bs n), .string (bs v)] 149) = v0 at *
  have HB0 := hid hb0
  have HS0 := hid hs0
  clear hb0 hs0
  go_wp2_with fail
  go_loopw [8] (fun i wr => ∃ k : Nat, k ≤ L.length ∧ i = .int .i64 k ∧ Hid ((∀ j (h : j < L.length), j < k → ((n, v) == L[j]) = false) ∧ Below v0.heap.size v0 wr)) (fun i _ => L.length - (intOf i).toNat)
  case atStart => exact ⟨0, by omega, rfl, hid ⟨fun j h h' => absurd h' (by omega), Below.refl _ _⟩⟩
  case round =>
    obtain ⟨k, hk, rfl, HK⟩ := hrel
    by_cases hlt : k < L.length
    · obtain ⟨bb, o, rfl, hB, hc0, hc1⟩ := (HR.out.below HK.out.2) k hlt
      have HN := hid (show ∀ j (h : j < L.length), j = k → L[j] = L[k] from fun j h e => by subst e; rfl)
      have HI := hid (show ((n, v) == L[k]) = true → L.findIdx ((n, v) == ·) = k from fun he => findIdx_hit ((n, v) == ·) L k hlt HK.out.1 he)
      have q0 : wr.cell? ⟨w.heap.size, 0, none⟩ = some (.string (bs n)) := Bk.cell (HS0.out.up HK.out.2) 0
      have q1 : wr.cell? ⟨w.heap.size, 1, none⟩ = some (.string (bs v)) := Bk.cell (HS0.out.up HK.out.2) 1
      generalize L[k] = y at *
      obtain ⟨y0, y1⟩ := y
      have hi0 : (0 : Int) ≤ (k : Int) := by omega
      have hi1 : (k : Int) < (L.length : Int) := by omega
      have hg1 : ∀ (a b : Operand) (xs ys : Array Value) (w : World), (eqGuard .eql 149 a b (.agg xs) (.agg ys)).run Tryz.prog w = .ok () w := fun a b xs ys w => hd_guard .eql a b xs ys w
      have hg2 : ∀ w : World, (binOp .eql 149 (.agg #[.string (bs n), .string (bs v)]) (.agg #[.string (bs y0), .string (bs y1)])).run Tryz.prog w = .ok (.bool (sameHd (n, v) (y0, y1))) w := fun w => hd_eql w (n, v) (y0, y1)
      cases hs : sameHd (n, v) (y0, y1)
      · have HS := hid (show ((n, v) == ((y0, y1) : Hd)) = false by rw [← sameHd_beq]; exact hs)
        rw [hs] at hg2
        clear hs
        go_wp2_with fail
        go_quiet (fail)
        go_wp2_with fail
        go_roundw
        case rel => exact ⟨k + 1, by omega, by go_num, hid ⟨fun j h h' => by
          by_cases e : j = k
          · rw [HN.out j h e]; exact HS.out
          · exact HK.out.1 j h (by omega), below_drewN HK.out.2 _⟩⟩
        case measure => simp [intOf]; omega
      · have HS := hid (show ((n, v) == ((y0, y1) : Hd)) = true by rw [← sameHd_beq]; exact hs)
        rw [hs] at hg2
        clear hs
        go_wp2_with fail
        go_quiet (fail)
        go_wp2_with fail
        go_ret
        exact ⟨by rw [idxV, HI.out HS.out, if_pos hlt]; rfl, estep HB0.out (below_drewN HK.out.2 _)⟩
    · obtain rfl : k = L.length := by omega
      have HI := hid (findIdx_miss ((n, v) == ·) L fun j hj => HK.out.1 j hj hj)
      go_wp2_with fail
      go_ret
      exact ⟨by rw [idxV, HI.out, if_neg (by omega)]; rfl, estep HB0.out HK.out.2⟩
set_option maxHeartbeats 1600000 in
theorem containsHd_any (A : Option Addr) (cap : Nat) (L : List Hd) (n v : List UInt8) (w : World) (hR : HReads w (· < w.heap.size) A L) (hl : L.length ≤ 9223372036854775807) :
    Calls Tryz.prog 111 #[.slice A L.length cap, .agg #[.string (bs n), .string (bs v)]] w fun e w' => e = .returned (.bool (memH L n v)) ∧ Below w.heap.size w w' := by
  have hb0 := enew w (.cells #[.string (bs n), .string (bs v)] 149)
  have HX := hid (indexHd_any A cap L n v _ (hR.later' hb0) hl)
  have HG := hid (idxV_ge L n v)
  clear hR
  go_enter Tryz.func111, Tryz.ntmps111
  go_wp2_with fail
  refine HX.out.mono ?_
  rintro e w1 ⟨rfl, hb1⟩
  go_wp2_with fail
  go_ret
  exact ⟨by rw [← HG.out]; rfl, estep hb0 hb1⟩
set_option maxHeartbeats 1600000 in
theorem hasHead_any (m h p b : List UInt8) (x : Value) (L : List Hd) (k : Int) (n v : List UInt8) (w : World) (hx : HV w x L) (hl : L.length ≤ 1000000) :
    Calls Tryz.prog 97 #[.agg #[.string (bs m), .string (bs h), .string (bs p), x, .string (bs b)], .agg #[.int .i64 k, .string (bs n), .string (bs v)]] w fun e w' => e = .returned (.bool (memH L n v)) ∧ Below w.heap.size w w' := by
  have hb := estep (enew w (.cells #[.string (bs m), .string (bs h), .string (bs p), x, .string (bs b)] 125)) (enew _ (.cells #[.int .i64 k, .string (bs n), .string (bs v)] 83))
  obtain ⟨A, c, rfl, hR⟩ := hx
  have HX := hid (fun w2 (hR2 : HReads w2 (· < w2.heap.size) A L) => containsHd_any A c L n v w2 hR2 (by omega))
  have HR := hid (hR.later' hb)
  clear hR
  go_enter Tryz.func97, Tryz.ntmps97
  go_wp2_with fail
  refine (HX.out _ HR.out).mono ?_
  rintro e w1 ⟨rfl, hb1⟩
  go_wp2_with fail
  go_ret
  exact ⟨rfl, estep hb hb1⟩
set_option maxHeartbeats 1600000 in
theorem hasName_any (m h p b : List UInt8) (x : Value) (L : List Hd) (k : Int) (n v : List UInt8) (w : World) (hx : HV w x L) (hl : L.length ≤ 1000000) :
    Calls Tryz.prog 98 #[.agg #[.string (bs m), .string (bs h), .string (bs p), x, .string (bs b)], .agg #[.int .i64 k, .string (bs n), .string (bs v)]] w fun e w' => e = .returned (.bool (getH L n).2) ∧ Below w.heap.size w w' := by
  have hb := estep (enew w (.cells #[.string (bs m), .string (bs h), .string (bs p), x, .string (bs b)] 125)) (enew _ (.cells #[.int .i64 k, .string (bs n), .string (bs v)] 83))
  obtain ⟨A, c, rfl, hR⟩ := hx
  obtain ⟨g1, g2, hg⟩ : ∃ a b, getH L n = (a, b) := ⟨_, _, rfl⟩
  have HX := hid (fun w2 (hR2 : HReads w2 (· < w2.heap.size) A L) => hget_any A c L n w2 hR2 hl)
  rw [hg] at HX
  rw [hg]
  clear hg
  have HR := hid (hR.later' hb)
  clear hR
  go_enter Tryz.func98, Tryz.ntmps98
  go_wp2_with fail
  refine (HX.out _ HR.out).mono ?_
  rintro e w1 ⟨rfl, hb1⟩
  go_wp2_with fail
  go_ret
  exact ⟨rfl, estep hb hb1⟩
end Go.Proofs.YtelglcakekgdeaaGreatDoor
namespace Go.Proofs.YtelglcakekgdeaaGreatDoor
set_option linter.unusedVariables false
set_option linter.unusedSimpArgs false
open Go.RowKit Go.Joins

def pdv (k : Int) (n v : List UInt8) : Value := .agg #[.int .i64 k, .string (bs n), .string (bs v)]
/-- What a function does that gives a new request what a predicate asks for. -/
def GiveC (G : Nat) (k : Int) (n v : List UInt8) (m' h' p' : List UInt8) (L' : List Hd) : Prop :=
  ∀ (w : World) (g : Nat), BQ w g [65] [97] [47] (.slice none 0 0) [] →
    Calls Tryz.prog G #[.pointer (some ⟨g, 0, none⟩), .agg #[.int .i64 k, .string (bs n), .string (bs v)]] w fun e w' => e = .returned (.tuple #[]) ∧ ∃ x, BQ w' g m' h' p' x [] ∧ HV w' x L' ∧ Below g w w'
set_option maxHeartbeats 1600000 in
theorem giveMethod_any (k : Int) (n v : List UInt8) : GiveC 89 k n v v [97] [47] [] := by
  intro w g hq
  have hb0 := enew w (.cells #[.int .i64 k, .string (bs n), .string (bs v)] 83)
  have hp0 := BP.new w k n v
  have hq0 := hq.up hb0
  have hgl := Bk.lt hq
  go_enter Tryz.func89, Tryz.ntmps89
  go_upto_region 1 with (fail)
  generalize w.alloc (.cells #[.int .i64 k, .string (bs n), .string (bs v)] 83) = v0 at *
  obtain ⟨k0, k1, k2⟩ := hp0.cells
  obtain ⟨q0, q1, q2, q3, q4⟩ := hq0.cells
  have f0 := Bk.frozen hq0 0
  have HQ := hid hq0
  have HB := hid hb0
  clear hq0 hb0 hp0 hq
  go_wp2_with fail
  go_end0
  exact ⟨rfl, _, Bk.set_ HQ.out 0 (.string (bs v)), ⟨none, 0, rfl, fun j hj => absurd hj (by simp)⟩, (HB.out.mono (Nat.le_of_lt hgl)).setCell (Nat.le_refl g) _⟩
set_option maxHeartbeats 1600000 in
theorem giveHost_any (k : Int) (n v : List UInt8) : GiveC 91 k n v [65] v [47] [] := by
  intro w g hq
  have hb0 := enew w (.cells #[.int .i64 k, .string (bs n), .string (bs v)] 83)
  have hp0 := BP.new w k n v
  have hq0 := hq.up hb0
  have hgl := Bk.lt hq
  go_enter Tryz.func91, Tryz.ntmps91
  go_upto_region 1 with (fail)
  generalize w.alloc (.cells #[.int .i64 k, .string (bs n), .string (bs v)] 83) = v0 at *
  obtain ⟨k0, k1, k2⟩ := hp0.cells
  obtain ⟨q0, q1, q2, q3, q4⟩ := hq0.cells
  have f1 := Bk.frozen hq0 1
  have HQ := hid hq0
  have HB := hid hb0
  clear hq0 hb0 hp0 hq
  go_wp2_with fail
  go_end0
  exact ⟨rfl, _, Bk.set_ HQ.out 1 (.string (bs v)), ⟨none, 0, rfl, fun j hj => absurd hj (by simp)⟩, (HB.out.mono (Nat.le_of_lt hgl)).setCell (Nat.le_refl g) _⟩
set_option maxHeartbeats 1600000 in
theorem givePath_any (k : Int) (n v : List UInt8) : GiveC 93 k n v [65] [97] v [] := by
  intro w g hq
  have hb0 := enew w (.cells #[.int .i64 k, .string (bs n), .string (bs v)] 83)
  have hp0 := BP.new w k n v
  have hq0 := hq.up hb0
  have hgl := Bk.lt hq
  go_enter Tryz.func93, Tryz.ntmps93
  go_upto_region 1 with (fail)
  generalize w.alloc (.cells #[.int .i64 k, .string (bs n), .string (bs v)] 83) = v0 at *
  obtain ⟨k0, k1, k2⟩ := hp0.cells
  obtain ⟨q0, q1, q2, q3, q4⟩ := hq0.cells
  have f2 := Bk.frozen hq0 2
  have HQ := hid hq0
  have HB := hid hb0
  clear hq0 hb0 hp0 hq
  go_wp2_with fail
  go_end0
  exact ⟨rfl, _, Bk.set_ HQ.out 2 (.string (bs v)), ⟨none, 0, rfl, fun j hj => absurd hj (by simp)⟩, (HB.out.mono (Nat.le_of_lt hgl)).setCell (Nat.le_refl g) _⟩
theorem HReads.same {w w' : World} {N : Nat → Prop} {A : Option Addr} {L : List Hd} (h : HReads w N A L) (hs : ∀ b, N b → w'.heap[b]? = w.heap[b]?) : HReads w' N A L := by
  intro k hk
  obtain ⟨b, o, e, h1, c0, c1⟩ := h k hk
  have hx : ∀ i, w'.cell? ⟨b, i, none⟩ = w.cell? ⟨b, i, none⟩ := fun i => World.cell?_of_block (hs b h1)
  exact ⟨b, o, e, h1, (hx _).trans c0, (hx _).trans c1⟩
theorem add_one (n v : List UInt8) (w : World) :
    Calls Tryz.prog 110 #[.slice none 0 0, .string (bs n), .string (bs v)] w fun e w' => ∃ A c, e = .returned (.slice A 1 c) ∧ HReads w' (fun b => w.heap.size ≤ b ∧ b < w'.heap.size) A [(n, v)] ∧ Below w.heap.size w w' :=
  (hadd_any none 0 [] n v w (fun j hj => absurd hj (by simp)) (fun _ => rfl) (by simp)).mono fun e w' ⟨r, h1, h2, h3⟩ => by
    obtain ⟨A, c, rfl, h4⟩ := HB.reads h2
    exact ⟨A, c, h1, h4, h3⟩
set_option maxRecDepth 100000 in
set_option maxHeartbeats 4000000 in
theorem giveHead_any (k : Int) (n v : List UInt8) : GiveC 96 k n v [65] [97] [47] [(n, v)] := by
  intro w g hq
  have hb0 := enew w (.cells #[.int .i64 k, .string (bs n), .string (bs v)] 83)
  have hp0 := BP.new w k n v
  have hq0 := hq.up hb0
  have hgl := Bk.lt hq
  have HADD := hid (fun w2 => add_one n v w2)
  go_enter Tryz.func96, Tryz.ntmps96
  go_upto_region 1 with (fail)
  generalize w.alloc (.cells #[.int .i64 k, .string (bs n), .string (bs v)] 83) = v0 at *
  obtain ⟨k0, k1, k2⟩ := hp0.cells
  obtain ⟨q0, q1, q2, q3, q4⟩ := hq0.cells
  have f3 := Bk.frozen hq0 3
  have hgl2 := Bk.lt hq0
  have HQ := hid hq0
  have HB := hid hb0
  clear hq0 hb0 hp0 hq
  go_region_with (go_at_call 110; refine (HADD.out _).mono ?_; rintro e w9 ⟨A, c, rfl, hr, hb9⟩; have z3 : w9.cell? ⟨g, 3, none⟩ = some (.slice none 0 0) := (hb9.cell (p := ⟨g, 3, none⟩) hgl2).trans q3; have y3 : w9.frozen? ⟨g, 3, none⟩ = false := (hb9.frozen (p := ⟨g, 3, none⟩) hgl2).trans f3)
  all_goals
    have hb9 : Below v0.heap.size v0 w9 := (Below.refl _ v0).drew.trans hb9
    go_wp2_with fail
    go_end0
    refine ⟨rfl, .slice A 1 c, Bk.set_ (Bk.up HQ.out hb9) 3 _, ⟨A, c, rfl, ((hr.same fun b hb => Below.heap_setCell _ _ _ b (by have h1 : v0.heap.size ≤ b := hb.1; show b ≠ g; omega)).imp fun b hb => by show b < _; rw [World.size_setCell]; exact hb.2)⟩, ?_⟩
    exact ((HB.out.mono (Nat.le_of_lt hgl)).trans (hb9.mono (Nat.le_of_lt hgl2))).setCell (Nat.le_refl g) _

/-- Whether one has what is asked for. -/
def HasC (H : Nat) (k : Int) : Prop :=
  (∀ args w, (callFunc H args).run Tryz.prog w = .ok (.enter H args) w) ∧ ∀ (m h p b : List UInt8) (x : Value) (L : List Hd) (n v : List UInt8) (w : World), HV w x L → L.length ≤ 1000000 →
    Calls Tryz.prog H #[.agg #[.string (bs m), .string (bs h), .string (bs p), x, .string (bs b)], .agg #[.int .i64 k, .string (bs n), .string (bs v)]] w fun e w' => e = .returned (.bool (mE k n v m h p L)) ∧ Below w.heap.size w w'
def giveS (k : Int) (n v : List UInt8) : List UInt8 × List UInt8 × List UInt8 × List Hd :=
  if k = 1 then (v, [97], [47], []) else if k = 2 then ([65], v, [47], []) else if k = 3 ∨ k = 4 then ([65], [97], v, []) else ([65], [97], [47], [(n, v)])
def ndK (k : Int) : Bool := decide (k = 5 ∨ k = 6)
def vlK (k : Int) : Bool := decide (k ≠ 6)
def GiveD (G : Nat) (k : Int) : Prop :=
  (∀ args w, (callFunc G args).run Tryz.prog w = .ok (.enter G args) w) ∧ ∀ n v, GiveC G k n v (giveS k n v).1 (giveS k n v).2.1 (giveS k n v).2.2.1 (giveS k n v).2.2.2
theorem kind1_has : HasC 90 1 := ⟨fun _ _ => by kernel_rfl, fun m h p b x L n v w hx hl => hasMethod_any m h p b x 1 n v w⟩
theorem kind1_give : GiveD 89 1 := ⟨fun _ _ => by kernel_rfl, fun n v => giveMethod_any 1 n v⟩
set_option maxHeartbeats 1600000 in
theorem kind1_any (w : World) :
    Calls Tryz.prog 80 #[.int .i64 1] w fun e w' => e = .returned (.tuple #[.agg #[.bool false, .bool true, .func (.func 89) #[] #[], .func (.func 90) #[] #[]], .bool true]) ∧ Below w.heap.size w w' := by
  have hb0 := enew w (.cells #[.bool false, .bool true, .func (.func 89) #[] #[], .func (.func 90) #[] #[]] 120)
  go_enter Tryz.func80, Tryz.ntmps80
  go_wp2_with fail
  go_returns
  exact ⟨rfl, hb0⟩
theorem kind2_has : HasC 92 2 := ⟨fun _ _ => by kernel_rfl, fun m h p b x L n v w hx hl => hasHost_any m h p b x 2 n v w⟩
theorem kind2_give : GiveD 91 2 := ⟨fun _ _ => by kernel_rfl, fun n v => giveHost_any 2 n v⟩
set_option maxHeartbeats 1600000 in
theorem kind2_any (w : World) :
    Calls Tryz.prog 80 #[.int .i64 2] w fun e w' => e = .returned (.tuple #[.agg #[.bool false, .bool true, .func (.func 91) #[] #[], .func (.func 92) #[] #[]], .bool true]) ∧ Below w.heap.size w w' := by
  have hb0 := enew w (.cells #[.bool false, .bool true, .func (.func 91) #[] #[], .func (.func 92) #[] #[]] 120)
  go_enter Tryz.func80, Tryz.ntmps80
  go_wp2_with fail
  go_returns
  exact ⟨rfl, hb0⟩
theorem kind3_has : HasC 94 3 := ⟨fun _ _ => by kernel_rfl, fun m h p b x L n v w hx hl => hasPath_any m h p b x 3 n v w⟩
theorem kind3_give : GiveD 93 3 := ⟨fun _ _ => by kernel_rfl, fun n v => givePath_any 3 n v⟩
set_option maxHeartbeats 1600000 in
theorem kind3_any (w : World) :
    Calls Tryz.prog 80 #[.int .i64 3] w fun e w' => e = .returned (.tuple #[.agg #[.bool false, .bool true, .func (.func 93) #[] #[], .func (.func 94) #[] #[]], .bool true]) ∧ Below w.heap.size w w' := by
  have hb0 := enew w (.cells #[.bool false, .bool true, .func (.func 93) #[] #[], .func (.func 94) #[] #[]] 120)
  go_enter Tryz.func80, Tryz.ntmps80
  go_wp2_with fail
  go_returns
  exact ⟨rfl, hb0⟩
theorem kind4_has : HasC 95 4 := ⟨fun _ _ => by kernel_rfl, fun m h p b x L n v w hx hl => hasPrefix_any m h p b x 4 n v w⟩
theorem kind4_give : GiveD 93 4 := ⟨fun _ _ => by kernel_rfl, fun n v => givePath_any 4 n v⟩
set_option maxHeartbeats 1600000 in
theorem kind4_any (w : World) :
    Calls Tryz.prog 80 #[.int .i64 4] w fun e w' => e = .returned (.tuple #[.agg #[.bool false, .bool true, .func (.func 93) #[] #[], .func (.func 95) #[] #[]], .bool true]) ∧ Below w.heap.size w w' := by
  have hb0 := enew w (.cells #[.bool false, .bool true, .func (.func 93) #[] #[], .func (.func 95) #[] #[]] 120)
  go_enter Tryz.func80, Tryz.ntmps80
  go_wp2_with fail
  go_returns
  exact ⟨rfl, hb0⟩
theorem kind5_has : HasC 97 5 := ⟨fun _ _ => by kernel_rfl, fun m h p b x L n v w hx hl => hasHead_any m h p b x L 5 n v w hx hl⟩
theorem kind5_give : GiveD 96 5 := ⟨fun _ _ => by kernel_rfl, fun n v => giveHead_any 5 n v⟩
set_option maxHeartbeats 1600000 in
theorem kind5_any (w : World) :
    Calls Tryz.prog 80 #[.int .i64 5] w fun e w' => e = .returned (.tuple #[.agg #[.bool true, .bool true, .func (.func 96) #[] #[], .func (.func 97) #[] #[]], .bool true]) ∧ Below w.heap.size w w' := by
  have hb0 := enew w (.cells #[.bool true, .bool true, .func (.func 96) #[] #[], .func (.func 97) #[] #[]] 120)
  go_enter Tryz.func80, Tryz.ntmps80
  go_wp2_with fail
  go_returns
  exact ⟨rfl, hb0⟩
theorem kind6_has : HasC 98 6 := ⟨fun _ _ => by kernel_rfl, fun m h p b x L n v w hx hl => hasName_any m h p b x L 6 n v w hx hl⟩
theorem kind6_give : GiveD 96 6 := ⟨fun _ _ => by kernel_rfl, fun n v => giveHead_any 6 n v⟩
set_option maxHeartbeats 1600000 in
theorem kind6_any (w : World) :
    Calls Tryz.prog 80 #[.int .i64 6] w fun e w' => e = .returned (.tuple #[.agg #[.bool true, .bool false, .func (.func 96) #[] #[], .func (.func 98) #[] #[]], .bool true]) ∧ Below w.heap.size w w' := by
  have hb0 := enew w (.cells #[.bool true, .bool false, .func (.func 96) #[] #[], .func (.func 98) #[] #[]] 120)
  go_enter Tryz.func80, Tryz.ntmps80
  go_wp2_with fail
  go_returns
  exact ⟨rfl, hb0⟩
end Go.Proofs.YtelglcakekgdeaaGreatDoor
namespace Go.Proofs.YtelglcakekgdeaaGreatDoor
set_option linter.unusedVariables false
set_option linter.unusedSimpArgs false
open Go.RowKit Go.Joins

theorem kindof_any (k : Int) (w : World) (h1 : 1 ≤ k) (h6 : k ≤ 6) :
    Calls Tryz.prog 80 #[.int .i64 k] w fun e w' => ∃ G H, (e = .returned (.tuple #[.agg #[.bool (ndK k), .bool (vlK k), .func (.func G) #[] #[], .func (.func H) #[] #[]], .bool true]) ∧ Below w.heap.size w w') ∧ GiveD G k ∧ HasC H k := by
  have hk : k = 1 ∨ k = 2 ∨ k = 3 ∨ k = 4 ∨ k = 5 ∨ k = 6 := by omega
  rcases hk with rfl | rfl | rfl | rfl | rfl | rfl
  · exact (kind1_any w).mono fun e w' h => ⟨_, _, h, kind1_give, kind1_has⟩
  · exact (kind2_any w).mono fun e w' h => ⟨_, _, h, kind2_give, kind2_has⟩
  · exact (kind3_any w).mono fun e w' h => ⟨_, _, h, kind3_give, kind3_has⟩
  · exact (kind4_any w).mono fun e w' h => ⟨_, _, h, kind4_give, kind4_has⟩
  · exact (kind5_any w).mono fun e w' h => ⟨_, _, h, kind5_give, kind5_has⟩
  · exact (kind6_any w).mono fun e w' h => ⟨_, _, h, kind6_give, kind6_has⟩
theorem mE_no {k : Int} (h : ¬ (1 ≤ k ∧ k ≤ 6)) (n v m hh p : List UInt8) (L : List Hd) : mE k n v m hh p L = false := by
  unfold mE
  rw [if_neg (by omega), if_neg (by omega), if_neg (by omega), if_neg (by omega), if_neg (by omega), if_neg (by omega)]
theorem cE_no {k : Int} (h : ¬ (1 ≤ k ∧ k ≤ 6)) (n v : List UInt8) : cE k n v = 2 := by
  unfold cE
  rw [if_neg (by omega), if_neg (by omega), if_neg (by omega), if_neg (by omega), if_neg (by omega), if_neg (by omega)]
set_option maxHeartbeats 1600000 in
theorem kindno_any (k : Int) (w : World) (h : ¬ (1 ≤ k ∧ k ≤ 6)) :
    Calls Tryz.prog 80 #[.int .i64 k] w fun e w' => e = .returned (.tuple #[.agg #[.bool false, .bool false, .nilFunc, .nilFunc], .bool false]) ∧ Below w.heap.size w w' := by
  have hb0 := enew w (.cells #[.bool false, .bool false, .nilFunc, .nilFunc] 120)
  have e1 : (k == 1) = false := by rw [beq_eq_false_iff_ne]; omega
  have e2 : (k == 2) = false := by rw [beq_eq_false_iff_ne]; omega
  have e3 : (k == 3) = false := by rw [beq_eq_false_iff_ne]; omega
  have e4 : (k == 4) = false := by rw [beq_eq_false_iff_ne]; omega
  have e5 : (k == 5) = false := by rw [beq_eq_false_iff_ne]; omega
  have e6 : (k == 6) = false := by rw [beq_eq_false_iff_ne]; omega
  go_enter Tryz.func80, Tryz.ntmps80
  go_wp2_with fail
  go_returns
  exact ⟨rfl, hb0⟩
end Go.Proofs.YtelglcakekgdeaaGreatDoor
namespace Go.Proofs.YtelglcakekgdeaaGreatDoor
set_option linter.unusedVariables false
set_option linter.unusedSimpArgs false
open Go.RowKit Go.Joins

theorem given_chk {k : Int} (h1 : 1 ≤ k) (h6 : k ≤ 6) (n v : List UInt8) :
    cE k n v = if (ndK k = false ∧ n ≠ []) ∨ (vlK k = false ∧ v ≠ []) then 2 else chkQ (giveS k n v).1 (giveS k n v).2.1 (giveS k n v).2.2.1 (giveS k n v).2.2.2 [] := by
  have m1 : methodB [65] = true := by decide
  have n1 : nameB [97] = true := by decide
  have p1 : pathB [47] = true := by decide
  have t0 : tailChk [] [] = 0 := by decide
  have v0 : valueB [] = true := by decide
  have t1 : ∀ n v, tailChk [(n, v)] [] = if nameB n = false then 7 else if valueB v = false then 15 else 0 := fun n v => by
    have : checkS [(n, v)] = if nameB n = false then 7 else if valueB v = false then 15 else 0 := by
      rw [checkS, if_neg (by simp), faultS, faultS]
    unfold tailChk
    rw [this]
    cases nameB n <;> cases valueB v <;> simp
  have hk : k = 1 ∨ k = 2 ∨ k = 3 ∨ k = 4 ∨ k = 5 ∨ k = 6 := by omega
  rcases hk with rfl | rfl | rfl | rfl | rfl | rfl
  · by_cases hn : n = [] <;> simp [cE, ndK, vlK, giveS, chkQ, hn, m1, n1, p1, t0]
  · by_cases hn : n = [] <;> simp [cE, ndK, vlK, giveS, chkQ, hn, m1, n1, p1, t0]
  · by_cases hn : n = [] <;> simp [cE, ndK, vlK, giveS, chkQ, hn, m1, n1, p1, t0]
  · by_cases hn : n = [] <;> simp [cE, ndK, vlK, giveS, chkQ, hn, m1, n1, p1, t0]
  · simp only [cE, ndK, vlK, giveS, chkQ, m1, n1, p1]
    cases h1 : nameB n <;> cases h2 : valueB v <;> simp [t1, h1, h2, m1, n1, p1]
  · simp only [cE, ndK, vlK, giveS, chkQ, m1, n1, p1]
    by_cases hv : v = []
    · subst hv
      cases h1 : nameB n <;> simp [t1, h1, v0, m1, n1, p1]
    · simp [hv]
theorem qcheck_hv (m h p : List UInt8) (x : Value) (L : List Hd) (w : World) (hx : HV w x L) (hl : L.length ≤ 1) (hs : ∀ h ∈ L, h.1.length ≤ 140737488351232 ∧ h.2.length ≤ 140737488351232)
    (hm : m.length ≤ 140737488351232) (hh : h.length ≤ 140737488351232) (hp : p.length ≤ 140737488351232) {z : Int} (H : Hid (chkQ m h p L [] = z)) :
    Calls Tryz.prog 81 #[.agg #[.string (bs m), .string (bs h), .string (bs p), x, .string (bs [])]] w fun e w' => e = .returned (.int .i64 z) ∧ Below w.heap.size w w' := by
  obtain ⟨A, c, rfl, hR⟩ := hx
  rw [← H.out]
  exact check_any m h p A c L [] w hR (by omega) hs hm hh hp (by simp)
theorem giveS_small {k : Int} {n v m h p : List UInt8} {L : List Hd} (hg : giveS k n v = (m, h, p, L)) (hn : n.length ≤ 140737488351232) (hv : v.length ≤ 140737488351232) :
    L.length ≤ 1 ∧ (∀ h ∈ L, h.1.length ≤ 140737488351232 ∧ h.2.length ≤ 140737488351232) ∧ m.length ≤ 140737488351232 ∧ h.length ≤ 140737488351232 ∧ p.length ≤ 140737488351232 := by
  unfold giveS at hg
  split at hg
  · simp only [Prod.mk.injEq] at hg
    obtain ⟨rfl, rfl, rfl, rfl⟩ := hg
    exact ⟨by simp, by simp, hv, by simp, by simp⟩
  · split at hg
    · simp only [Prod.mk.injEq] at hg
      obtain ⟨rfl, rfl, rfl, rfl⟩ := hg
      exact ⟨by simp, by simp, by simp, hv, by simp⟩
    · split at hg
      · simp only [Prod.mk.injEq] at hg
        obtain ⟨rfl, rfl, rfl, rfl⟩ := hg
        exact ⟨by simp, by simp, by simp, by simp, hv⟩
      · simp only [Prod.mk.injEq] at hg
        obtain ⟨rfl, rfl, rfl, rfl⟩ := hg
        exact ⟨by simp, by simpa using ⟨hn, hv⟩, by simp, by simp, by simp⟩
set_option maxRecDepth 100000 in
set_option maxHeartbeats 8000000 in
theorem pcheck_any (k : Int) (n v : List UInt8) (w : World) (hn : n.length ≤ 140737488351232) (hv : v.length ≤ 140737488351232) {z : Int} (H : Hid (cE k n v = z)) :
    Calls Tryz.prog 62 #[.agg #[.int .i64 k, .string (bs n), .string (bs v)]] w fun e w' => e = .returned (.int .i64 z) ∧ Below w.heap.size w w' := by
  have hnot := enot
  have hb0 := enew w (.cells #[.int .i64 k, .string (bs n), .string (bs v)] 83)
  have hp0 := BP.new w k n v
  by_cases hk : 1 ≤ k ∧ k ≤ 6
  · have HC := hid (given_chk hk.1 hk.2 n v)
    have HK := hid (fun w2 => kindof_any k w2 hk.1 hk.2)
    obtain ⟨m', h', p', L', hg⟩ : ∃ a b c d, giveS k n v = (a, b, c, d) := ⟨_, _, _, _, rfl⟩
    rw [hg] at HC
    simp only at HC
    have HS := hid (giveS_small hg hn hv)
    have HG := hid hg
    clear hk hg
    have HQ := hid (fun w2 x (hx : HV w2 x L') (zz : Int) (hzz : Hid (chkQ m' h' p' L' [] = zz)) => qcheck_hv m' h' p' x L' w2 hx HS.out.1 HS.out.2.1 HS.out.2.2.1 HS.out.2.2.2.1 HS.out.2.2.2.2 hzz)
    by_cases hn0 : n = []
    · subst hn0
      by_cases hv0 : v = []
      · subst hv0
        cases hnd : ndK k <;> cases hvl : vlK k
        · skip
          have HZ := hid (show chkQ m' h' p' L' [] = z by rw [← H.out, HC.out, if_neg]; rintro (⟨a, b⟩ | ⟨a, b⟩); exact b rfl; exact b rfl)
          clear H HC
          try clear hv0
          try clear hn0
          have HND := hid hnd
          have HVL := hid hvl
          clear hnd hvl
          go_enter Tryz.func62, Tryz.ntmps62
          go_upto_region 1 with (fail)
          generalize w.alloc (.cells #[.int .i64 k, .string (bs []), .string (bs [])] 83) = v0 at *
          obtain ⟨k0, k1, k2⟩ := hp0.cells
          go_wp2_with fail
          refine (HK.out _).mono ?_
          rintro e w1 ⟨G, F, ⟨rfl, hb1⟩, hG, -⟩
          rw [HND.out, HVL.out]
          obtain ⟨eg, hGG⟩ := hG
          have HGG := hid (hGG [] [])
          clear hGG
          have hb2 := estep hb1 (enew w1 (.cells #[.bool false, .bool false, .func (.func G) #[] #[], .func (.func F) #[] #[]] 120))
          have hk2 := Bk.new w1 120 #[.bool false, .bool false, .func (.func G) #[] #[], .func (.func F) #[] #[]]
          have hp2 := hp0.up hb2
          have hb3 := estep hb0 hb2
          clear hb0 hb1 hb2 hp0 k0 k1 k2
          go_upto_region 2 with (fail)
          generalize w1.alloc (.cells #[.bool false, .bool false, .func (.func G) #[] #[], .func (.func F) #[] #[]] 120) = v2 at *
          obtain ⟨k0, k1, k2⟩ := hp2.cells
          have s0 : v2.cell? ⟨w1.heap.size, 0, none⟩ = some (.bool false) := Bk.cell hk2 0
          have s1 : v2.cell? ⟨w1.heap.size, 1, none⟩ = some (.bool false) := Bk.cell hk2 1
          have s2 : v2.cell? ⟨w1.heap.size, 2, none⟩ = some (.func (.func G) #[] #[]) := Bk.cell hk2 2
          go_upto_region 5 with (fail)
          have hq3 := BQ.new v2 [65] [97] [47] (.slice none 0 0) []
          have hp3 := hp2.up (enew v2 (.cells #[.string (bs [65]), .string (bs [97]), .string (bs [47]), .slice none 0 0, .string (bs [])] 125))
          have hk3 := hk2.up (enew v2 (.cells #[.string (bs [65]), .string (bs [97]), .string (bs [47]), .slice none 0 0, .string (bs [])] 125))
          have hb4 := estep hb3 (enew v2 (.cells #[.string (bs [65]), .string (bs [97]), .string (bs [47]), .slice none 0 0, .string (bs [])] 125))
          have hsz := hb3.size; have hsz2 := (enew v2 (.cells #[.string (bs [65]), .string (bs [97]), .string (bs [47]), .slice none 0 0, .string (bs [])] 125)).size
          clear hp2 hk2 hb3 k0 k1 k2 s0 s1 s2
          have c1 : (ByteArray.mk #[65]) = bs [65] := rfl
          have c2 : (ByteArray.mk #[97]) = bs [97] := rfl
          have c3 : (ByteArray.mk #[47]) = bs [47] := rfl
          have c4 : (ByteArray.mk #[]) = bs [] := rfl
          try rw [c1, c2, c3, c4]
          try simp only [c1, c2, c3]
          generalize v2.alloc (.cells #[.string (bs [65]), .string (bs [97]), .string (bs [47]), .slice none 0 0, .string (bs [])] 125) = v3 at *
          obtain ⟨k0, k1, k2⟩ := hp3.cells
          have s2 : v3.cell? ⟨w1.heap.size, 2, none⟩ = some (.func (.func G) #[] #[]) := Bk.cell hk3 2
          have HG2 := HGG.out
          rw [HG.out] at HG2
          simp only at HG2
          have HG3 := hid (HG2 _ _ hq3)
          clear HG2
          have HLT := hid (show w.heap.size ≤ v2.heap.size by omega)
          clear hq3
          go_wp2_with fail
          refine HG3.out.mono ?_
          rintro e w4 ⟨rfl, x', hq4, hx4, hb5⟩
          have hb6 := hb4.trans (hb5.mono HLT.out)
          obtain ⟨q0, q1, q2, q3, q4⟩ := hq4.cells
          clear hb4 hb5 k0 k1 k2 s2 hp3 hk3 hq4
          go_wp2_with fail
          refine (HQ.out _ x' hx4 z HZ).mono ?_
          rintro e w5 ⟨rfl, hb7⟩
          go_wp2_with fail
          go_returns
          exact ⟨rfl, estep hb6 hb7⟩
        · skip
          have HZ := hid (show chkQ m' h' p' L' [] = z by rw [← H.out, HC.out, if_neg]; rintro (⟨a, b⟩ | ⟨a, b⟩); exact b rfl; exact b rfl)
          clear H HC
          try clear hv0
          try clear hn0
          have HND := hid hnd
          have HVL := hid hvl
          clear hnd hvl
          go_enter Tryz.func62, Tryz.ntmps62
          go_upto_region 1 with (fail)
          generalize w.alloc (.cells #[.int .i64 k, .string (bs []), .string (bs [])] 83) = v0 at *
          obtain ⟨k0, k1, k2⟩ := hp0.cells
          go_wp2_with fail
          refine (HK.out _).mono ?_
          rintro e w1 ⟨G, F, ⟨rfl, hb1⟩, hG, -⟩
          rw [HND.out, HVL.out]
          obtain ⟨eg, hGG⟩ := hG
          have HGG := hid (hGG [] [])
          clear hGG
          have hb2 := estep hb1 (enew w1 (.cells #[.bool false, .bool true, .func (.func G) #[] #[], .func (.func F) #[] #[]] 120))
          have hk2 := Bk.new w1 120 #[.bool false, .bool true, .func (.func G) #[] #[], .func (.func F) #[] #[]]
          have hp2 := hp0.up hb2
          have hb3 := estep hb0 hb2
          clear hb0 hb1 hb2 hp0 k0 k1 k2
          go_upto_region 2 with (fail)
          generalize w1.alloc (.cells #[.bool false, .bool true, .func (.func G) #[] #[], .func (.func F) #[] #[]] 120) = v2 at *
          obtain ⟨k0, k1, k2⟩ := hp2.cells
          have s0 : v2.cell? ⟨w1.heap.size, 0, none⟩ = some (.bool false) := Bk.cell hk2 0
          have s1 : v2.cell? ⟨w1.heap.size, 1, none⟩ = some (.bool true) := Bk.cell hk2 1
          have s2 : v2.cell? ⟨w1.heap.size, 2, none⟩ = some (.func (.func G) #[] #[]) := Bk.cell hk2 2
          go_upto_region 5 with (fail)
          have hq3 := BQ.new v2 [65] [97] [47] (.slice none 0 0) []
          have hp3 := hp2.up (enew v2 (.cells #[.string (bs [65]), .string (bs [97]), .string (bs [47]), .slice none 0 0, .string (bs [])] 125))
          have hk3 := hk2.up (enew v2 (.cells #[.string (bs [65]), .string (bs [97]), .string (bs [47]), .slice none 0 0, .string (bs [])] 125))
          have hb4 := estep hb3 (enew v2 (.cells #[.string (bs [65]), .string (bs [97]), .string (bs [47]), .slice none 0 0, .string (bs [])] 125))
          have hsz := hb3.size; have hsz2 := (enew v2 (.cells #[.string (bs [65]), .string (bs [97]), .string (bs [47]), .slice none 0 0, .string (bs [])] 125)).size
          clear hp2 hk2 hb3 k0 k1 k2 s0 s1 s2
          have c1 : (ByteArray.mk #[65]) = bs [65] := rfl
          have c2 : (ByteArray.mk #[97]) = bs [97] := rfl
          have c3 : (ByteArray.mk #[47]) = bs [47] := rfl
          have c4 : (ByteArray.mk #[]) = bs [] := rfl
          try rw [c1, c2, c3, c4]
          try simp only [c1, c2, c3]
          generalize v2.alloc (.cells #[.string (bs [65]), .string (bs [97]), .string (bs [47]), .slice none 0 0, .string (bs [])] 125) = v3 at *
          obtain ⟨k0, k1, k2⟩ := hp3.cells
          have s2 : v3.cell? ⟨w1.heap.size, 2, none⟩ = some (.func (.func G) #[] #[]) := Bk.cell hk3 2
          have HG2 := HGG.out
          rw [HG.out] at HG2
          simp only at HG2
          have HG3 := hid (HG2 _ _ hq3)
          clear HG2
          have HLT := hid (show w.heap.size ≤ v2.heap.size by omega)
          clear hq3
          go_wp2_with fail
          refine HG3.out.mono ?_
          rintro e w4 ⟨rfl, x', hq4, hx4, hb5⟩
          have hb6 := hb4.trans (hb5.mono HLT.out)
          obtain ⟨q0, q1, q2, q3, q4⟩ := hq4.cells
          clear hb4 hb5 k0 k1 k2 s2 hp3 hk3 hq4
          go_wp2_with fail
          refine (HQ.out _ x' hx4 z HZ).mono ?_
          rintro e w5 ⟨rfl, hb7⟩
          go_wp2_with fail
          go_returns
          exact ⟨rfl, estep hb6 hb7⟩
        · skip
          have HZ := hid (show chkQ m' h' p' L' [] = z by rw [← H.out, HC.out, if_neg]; rintro (⟨a, b⟩ | ⟨a, b⟩); exact b rfl; exact b rfl)
          clear H HC
          try clear hv0
          try clear hn0
          have HND := hid hnd
          have HVL := hid hvl
          clear hnd hvl
          go_enter Tryz.func62, Tryz.ntmps62
          go_upto_region 1 with (fail)
          generalize w.alloc (.cells #[.int .i64 k, .string (bs []), .string (bs [])] 83) = v0 at *
          obtain ⟨k0, k1, k2⟩ := hp0.cells
          go_wp2_with fail
          refine (HK.out _).mono ?_
          rintro e w1 ⟨G, F, ⟨rfl, hb1⟩, hG, -⟩
          rw [HND.out, HVL.out]
          obtain ⟨eg, hGG⟩ := hG
          have HGG := hid (hGG [] [])
          clear hGG
          have hb2 := estep hb1 (enew w1 (.cells #[.bool true, .bool false, .func (.func G) #[] #[], .func (.func F) #[] #[]] 120))
          have hk2 := Bk.new w1 120 #[.bool true, .bool false, .func (.func G) #[] #[], .func (.func F) #[] #[]]
          have hp2 := hp0.up hb2
          have hb3 := estep hb0 hb2
          clear hb0 hb1 hb2 hp0 k0 k1 k2
          go_upto_region 2 with (fail)
          generalize w1.alloc (.cells #[.bool true, .bool false, .func (.func G) #[] #[], .func (.func F) #[] #[]] 120) = v2 at *
          obtain ⟨k0, k1, k2⟩ := hp2.cells
          have s0 : v2.cell? ⟨w1.heap.size, 0, none⟩ = some (.bool true) := Bk.cell hk2 0
          have s1 : v2.cell? ⟨w1.heap.size, 1, none⟩ = some (.bool false) := Bk.cell hk2 1
          have s2 : v2.cell? ⟨w1.heap.size, 2, none⟩ = some (.func (.func G) #[] #[]) := Bk.cell hk2 2
          go_upto_region 5 with (fail)
          have hq3 := BQ.new v2 [65] [97] [47] (.slice none 0 0) []
          have hp3 := hp2.up (enew v2 (.cells #[.string (bs [65]), .string (bs [97]), .string (bs [47]), .slice none 0 0, .string (bs [])] 125))
          have hk3 := hk2.up (enew v2 (.cells #[.string (bs [65]), .string (bs [97]), .string (bs [47]), .slice none 0 0, .string (bs [])] 125))
          have hb4 := estep hb3 (enew v2 (.cells #[.string (bs [65]), .string (bs [97]), .string (bs [47]), .slice none 0 0, .string (bs [])] 125))
          have hsz := hb3.size; have hsz2 := (enew v2 (.cells #[.string (bs [65]), .string (bs [97]), .string (bs [47]), .slice none 0 0, .string (bs [])] 125)).size
          clear hp2 hk2 hb3 k0 k1 k2 s0 s1 s2
          have c1 : (ByteArray.mk #[65]) = bs [65] := rfl
          have c2 : (ByteArray.mk #[97]) = bs [97] := rfl
          have c3 : (ByteArray.mk #[47]) = bs [47] := rfl
          have c4 : (ByteArray.mk #[]) = bs [] := rfl
          try rw [c1, c2, c3, c4]
          try simp only [c1, c2, c3]
          generalize v2.alloc (.cells #[.string (bs [65]), .string (bs [97]), .string (bs [47]), .slice none 0 0, .string (bs [])] 125) = v3 at *
          obtain ⟨k0, k1, k2⟩ := hp3.cells
          have s2 : v3.cell? ⟨w1.heap.size, 2, none⟩ = some (.func (.func G) #[] #[]) := Bk.cell hk3 2
          have HG2 := HGG.out
          rw [HG.out] at HG2
          simp only at HG2
          have HG3 := hid (HG2 _ _ hq3)
          clear HG2
          have HLT := hid (show w.heap.size ≤ v2.heap.size by omega)
          clear hq3
          go_wp2_with fail
          refine HG3.out.mono ?_
          rintro e w4 ⟨rfl, x', hq4, hx4, hb5⟩
          have hb6 := hb4.trans (hb5.mono HLT.out)
          obtain ⟨q0, q1, q2, q3, q4⟩ := hq4.cells
          clear hb4 hb5 k0 k1 k2 s2 hp3 hk3 hq4
          go_wp2_with fail
          refine (HQ.out _ x' hx4 z HZ).mono ?_
          rintro e w5 ⟨rfl, hb7⟩
          go_wp2_with fail
          go_returns
          exact ⟨rfl, estep hb6 hb7⟩
        · skip
          have HZ := hid (show chkQ m' h' p' L' [] = z by rw [← H.out, HC.out, if_neg]; rintro (⟨a, b⟩ | ⟨a, b⟩); exact b rfl; exact b rfl)
          clear H HC
          try clear hv0
          try clear hn0
          have HND := hid hnd
          have HVL := hid hvl
          clear hnd hvl
          go_enter Tryz.func62, Tryz.ntmps62
          go_upto_region 1 with (fail)
          generalize w.alloc (.cells #[.int .i64 k, .string (bs []), .string (bs [])] 83) = v0 at *
          obtain ⟨k0, k1, k2⟩ := hp0.cells
          go_wp2_with fail
          refine (HK.out _).mono ?_
          rintro e w1 ⟨G, F, ⟨rfl, hb1⟩, hG, -⟩
          rw [HND.out, HVL.out]
          obtain ⟨eg, hGG⟩ := hG
          have HGG := hid (hGG [] [])
          clear hGG
          have hb2 := estep hb1 (enew w1 (.cells #[.bool true, .bool true, .func (.func G) #[] #[], .func (.func F) #[] #[]] 120))
          have hk2 := Bk.new w1 120 #[.bool true, .bool true, .func (.func G) #[] #[], .func (.func F) #[] #[]]
          have hp2 := hp0.up hb2
          have hb3 := estep hb0 hb2
          clear hb0 hb1 hb2 hp0 k0 k1 k2
          go_upto_region 2 with (fail)
          generalize w1.alloc (.cells #[.bool true, .bool true, .func (.func G) #[] #[], .func (.func F) #[] #[]] 120) = v2 at *
          obtain ⟨k0, k1, k2⟩ := hp2.cells
          have s0 : v2.cell? ⟨w1.heap.size, 0, none⟩ = some (.bool true) := Bk.cell hk2 0
          have s1 : v2.cell? ⟨w1.heap.size, 1, none⟩ = some (.bool true) := Bk.cell hk2 1
          have s2 : v2.cell? ⟨w1.heap.size, 2, none⟩ = some (.func (.func G) #[] #[]) := Bk.cell hk2 2
          go_upto_region 5 with (fail)
          have hq3 := BQ.new v2 [65] [97] [47] (.slice none 0 0) []
          have hp3 := hp2.up (enew v2 (.cells #[.string (bs [65]), .string (bs [97]), .string (bs [47]), .slice none 0 0, .string (bs [])] 125))
          have hk3 := hk2.up (enew v2 (.cells #[.string (bs [65]), .string (bs [97]), .string (bs [47]), .slice none 0 0, .string (bs [])] 125))
          have hb4 := estep hb3 (enew v2 (.cells #[.string (bs [65]), .string (bs [97]), .string (bs [47]), .slice none 0 0, .string (bs [])] 125))
          have hsz := hb3.size; have hsz2 := (enew v2 (.cells #[.string (bs [65]), .string (bs [97]), .string (bs [47]), .slice none 0 0, .string (bs [])] 125)).size
          clear hp2 hk2 hb3 k0 k1 k2 s0 s1 s2
          have c1 : (ByteArray.mk #[65]) = bs [65] := rfl
          have c2 : (ByteArray.mk #[97]) = bs [97] := rfl
          have c3 : (ByteArray.mk #[47]) = bs [47] := rfl
          have c4 : (ByteArray.mk #[]) = bs [] := rfl
          try rw [c1, c2, c3, c4]
          try simp only [c1, c2, c3]
          generalize v2.alloc (.cells #[.string (bs [65]), .string (bs [97]), .string (bs [47]), .slice none 0 0, .string (bs [])] 125) = v3 at *
          obtain ⟨k0, k1, k2⟩ := hp3.cells
          have s2 : v3.cell? ⟨w1.heap.size, 2, none⟩ = some (.func (.func G) #[] #[]) := Bk.cell hk3 2
          have HG2 := HGG.out
          rw [HG.out] at HG2
          simp only at HG2
          have HG3 := hid (HG2 _ _ hq3)
          clear HG2
          have HLT := hid (show w.heap.size ≤ v2.heap.size by omega)
          clear hq3
          go_wp2_with fail
          refine HG3.out.mono ?_
          rintro e w4 ⟨rfl, x', hq4, hx4, hb5⟩
          have hb6 := hb4.trans (hb5.mono HLT.out)
          obtain ⟨q0, q1, q2, q3, q4⟩ := hq4.cells
          clear hb4 hb5 k0 k1 k2 s2 hp3 hk3 hq4
          go_wp2_with fail
          refine (HQ.out _ x' hx4 z HZ).mono ?_
          rintro e w5 ⟨rfl, hb7⟩
          go_wp2_with fail
          go_returns
          exact ⟨rfl, estep hb6 hb7⟩
      · have hvb : (v == []) = false := by simpa using hv0
        have hvb2 : (v != []) = true := by simpa using hv0
        cases hnd : ndK k <;> cases hvl : vlK k
        · skip
          have HZ := hid (show z = 2 by rw [← H.out, HC.out, if_pos (Or.inr ⟨hvl, hv0⟩)])
          clear H HC
          try clear hv0
          try clear hn0
          have HND := hid hnd
          have HVL := hid hvl
          clear hnd hvl
          go_enter Tryz.func62, Tryz.ntmps62
          go_upto_region 1 with (fail)
          generalize w.alloc (.cells #[.int .i64 k, .string (bs []), .string (bs v)] 83) = v0 at *
          obtain ⟨k0, k1, k2⟩ := hp0.cells
          go_wp2_with fail
          refine (HK.out _).mono ?_
          rintro e w1 ⟨G, F, ⟨rfl, hb1⟩, hG, -⟩
          rw [HND.out, HVL.out]
          obtain ⟨eg, hGG⟩ := hG
          have HGG := hid (hGG [] v)
          clear hGG
          have hb2 := estep hb1 (enew w1 (.cells #[.bool false, .bool false, .func (.func G) #[] #[], .func (.func F) #[] #[]] 120))
          have hk2 := Bk.new w1 120 #[.bool false, .bool false, .func (.func G) #[] #[], .func (.func F) #[] #[]]
          have hp2 := hp0.up hb2
          have hb3 := estep hb0 hb2
          clear hb0 hb1 hb2 hp0 k0 k1 k2
          go_upto_region 2 with (fail)
          generalize w1.alloc (.cells #[.bool false, .bool false, .func (.func G) #[] #[], .func (.func F) #[] #[]] 120) = v2 at *
          obtain ⟨k0, k1, k2⟩ := hp2.cells
          have s0 : v2.cell? ⟨w1.heap.size, 0, none⟩ = some (.bool false) := Bk.cell hk2 0
          have s1 : v2.cell? ⟨w1.heap.size, 1, none⟩ = some (.bool false) := Bk.cell hk2 1
          have s2 : v2.cell? ⟨w1.heap.size, 2, none⟩ = some (.func (.func G) #[] #[]) := Bk.cell hk2 2
          go_wp2_with fail
          go_returns
          exact ⟨by rw [HZ.out]; rfl, hb3⟩
        · skip
          have HZ := hid (show chkQ m' h' p' L' [] = z by rw [← H.out, HC.out, if_neg]; rintro (⟨a, b⟩ | ⟨a, b⟩); exact b rfl; rw [hvl] at a; cases a)
          clear H HC
          try clear hv0
          try clear hn0
          have HND := hid hnd
          have HVL := hid hvl
          clear hnd hvl
          go_enter Tryz.func62, Tryz.ntmps62
          go_upto_region 1 with (fail)
          generalize w.alloc (.cells #[.int .i64 k, .string (bs []), .string (bs v)] 83) = v0 at *
          obtain ⟨k0, k1, k2⟩ := hp0.cells
          go_wp2_with fail
          refine (HK.out _).mono ?_
          rintro e w1 ⟨G, F, ⟨rfl, hb1⟩, hG, -⟩
          rw [HND.out, HVL.out]
          obtain ⟨eg, hGG⟩ := hG
          have HGG := hid (hGG [] v)
          clear hGG
          have hb2 := estep hb1 (enew w1 (.cells #[.bool false, .bool true, .func (.func G) #[] #[], .func (.func F) #[] #[]] 120))
          have hk2 := Bk.new w1 120 #[.bool false, .bool true, .func (.func G) #[] #[], .func (.func F) #[] #[]]
          have hp2 := hp0.up hb2
          have hb3 := estep hb0 hb2
          clear hb0 hb1 hb2 hp0 k0 k1 k2
          go_upto_region 2 with (fail)
          generalize w1.alloc (.cells #[.bool false, .bool true, .func (.func G) #[] #[], .func (.func F) #[] #[]] 120) = v2 at *
          obtain ⟨k0, k1, k2⟩ := hp2.cells
          have s0 : v2.cell? ⟨w1.heap.size, 0, none⟩ = some (.bool false) := Bk.cell hk2 0
          have s1 : v2.cell? ⟨w1.heap.size, 1, none⟩ = some (.bool true) := Bk.cell hk2 1
          have s2 : v2.cell? ⟨w1.heap.size, 2, none⟩ = some (.func (.func G) #[] #[]) := Bk.cell hk2 2
          go_upto_region 5 with (fail)
          have hq3 := BQ.new v2 [65] [97] [47] (.slice none 0 0) []
          have hp3 := hp2.up (enew v2 (.cells #[.string (bs [65]), .string (bs [97]), .string (bs [47]), .slice none 0 0, .string (bs [])] 125))
          have hk3 := hk2.up (enew v2 (.cells #[.string (bs [65]), .string (bs [97]), .string (bs [47]), .slice none 0 0, .string (bs [])] 125))
          have hb4 := estep hb3 (enew v2 (.cells #[.string (bs [65]), .string (bs [97]), .string (bs [47]), .slice none 0 0, .string (bs [])] 125))
          have hsz := hb3.size; have hsz2 := (enew v2 (.cells #[.string (bs [65]), .string (bs [97]), .string (bs [47]), .slice none 0 0, .string (bs [])] 125)).size
          clear hp2 hk2 hb3 k0 k1 k2 s0 s1 s2
          have c1 : (ByteArray.mk #[65]) = bs [65] := rfl
          have c2 : (ByteArray.mk #[97]) = bs [97] := rfl
          have c3 : (ByteArray.mk #[47]) = bs [47] := rfl
          have c4 : (ByteArray.mk #[]) = bs [] := rfl
          try rw [c1, c2, c3, c4]
          try simp only [c1, c2, c3]
          generalize v2.alloc (.cells #[.string (bs [65]), .string (bs [97]), .string (bs [47]), .slice none 0 0, .string (bs [])] 125) = v3 at *
          obtain ⟨k0, k1, k2⟩ := hp3.cells
          have s2 : v3.cell? ⟨w1.heap.size, 2, none⟩ = some (.func (.func G) #[] #[]) := Bk.cell hk3 2
          have HG2 := HGG.out
          rw [HG.out] at HG2
          simp only at HG2
          have HG3 := hid (HG2 _ _ hq3)
          clear HG2
          have HLT := hid (show w.heap.size ≤ v2.heap.size by omega)
          clear hq3
          go_wp2_with fail
          refine HG3.out.mono ?_
          rintro e w4 ⟨rfl, x', hq4, hx4, hb5⟩
          have hb6 := hb4.trans (hb5.mono HLT.out)
          obtain ⟨q0, q1, q2, q3, q4⟩ := hq4.cells
          clear hb4 hb5 k0 k1 k2 s2 hp3 hk3 hq4
          go_wp2_with fail
          refine (HQ.out _ x' hx4 z HZ).mono ?_
          rintro e w5 ⟨rfl, hb7⟩
          go_wp2_with fail
          go_returns
          exact ⟨rfl, estep hb6 hb7⟩
        · skip
          have HZ := hid (show z = 2 by rw [← H.out, HC.out, if_pos (Or.inr ⟨hvl, hv0⟩)])
          clear H HC
          try clear hv0
          try clear hn0
          have HND := hid hnd
          have HVL := hid hvl
          clear hnd hvl
          go_enter Tryz.func62, Tryz.ntmps62
          go_upto_region 1 with (fail)
          generalize w.alloc (.cells #[.int .i64 k, .string (bs []), .string (bs v)] 83) = v0 at *
          obtain ⟨k0, k1, k2⟩ := hp0.cells
          go_wp2_with fail
          refine (HK.out _).mono ?_
          rintro e w1 ⟨G, F, ⟨rfl, hb1⟩, hG, -⟩
          rw [HND.out, HVL.out]
          obtain ⟨eg, hGG⟩ := hG
          have HGG := hid (hGG [] v)
          clear hGG
          have hb2 := estep hb1 (enew w1 (.cells #[.bool true, .bool false, .func (.func G) #[] #[], .func (.func F) #[] #[]] 120))
          have hk2 := Bk.new w1 120 #[.bool true, .bool false, .func (.func G) #[] #[], .func (.func F) #[] #[]]
          have hp2 := hp0.up hb2
          have hb3 := estep hb0 hb2
          clear hb0 hb1 hb2 hp0 k0 k1 k2
          go_upto_region 2 with (fail)
          generalize w1.alloc (.cells #[.bool true, .bool false, .func (.func G) #[] #[], .func (.func F) #[] #[]] 120) = v2 at *
          obtain ⟨k0, k1, k2⟩ := hp2.cells
          have s0 : v2.cell? ⟨w1.heap.size, 0, none⟩ = some (.bool true) := Bk.cell hk2 0
          have s1 : v2.cell? ⟨w1.heap.size, 1, none⟩ = some (.bool false) := Bk.cell hk2 1
          have s2 : v2.cell? ⟨w1.heap.size, 2, none⟩ = some (.func (.func G) #[] #[]) := Bk.cell hk2 2
          go_wp2_with fail
          go_returns
          exact ⟨by rw [HZ.out]; rfl, hb3⟩
        · skip
          have HZ := hid (show chkQ m' h' p' L' [] = z by rw [← H.out, HC.out, if_neg]; rintro (⟨a, b⟩ | ⟨a, b⟩); exact b rfl; rw [hvl] at a; cases a)
          clear H HC
          try clear hv0
          try clear hn0
          have HND := hid hnd
          have HVL := hid hvl
          clear hnd hvl
          go_enter Tryz.func62, Tryz.ntmps62
          go_upto_region 1 with (fail)
          generalize w.alloc (.cells #[.int .i64 k, .string (bs []), .string (bs v)] 83) = v0 at *
          obtain ⟨k0, k1, k2⟩ := hp0.cells
          go_wp2_with fail
          refine (HK.out _).mono ?_
          rintro e w1 ⟨G, F, ⟨rfl, hb1⟩, hG, -⟩
          rw [HND.out, HVL.out]
          obtain ⟨eg, hGG⟩ := hG
          have HGG := hid (hGG [] v)
          clear hGG
          have hb2 := estep hb1 (enew w1 (.cells #[.bool true, .bool true, .func (.func G) #[] #[], .func (.func F) #[] #[]] 120))
          have hk2 := Bk.new w1 120 #[.bool true, .bool true, .func (.func G) #[] #[], .func (.func F) #[] #[]]
          have hp2 := hp0.up hb2
          have hb3 := estep hb0 hb2
          clear hb0 hb1 hb2 hp0 k0 k1 k2
          go_upto_region 2 with (fail)
          generalize w1.alloc (.cells #[.bool true, .bool true, .func (.func G) #[] #[], .func (.func F) #[] #[]] 120) = v2 at *
          obtain ⟨k0, k1, k2⟩ := hp2.cells
          have s0 : v2.cell? ⟨w1.heap.size, 0, none⟩ = some (.bool true) := Bk.cell hk2 0
          have s1 : v2.cell? ⟨w1.heap.size, 1, none⟩ = some (.bool true) := Bk.cell hk2 1
          have s2 : v2.cell? ⟨w1.heap.size, 2, none⟩ = some (.func (.func G) #[] #[]) := Bk.cell hk2 2
          go_upto_region 5 with (fail)
          have hq3 := BQ.new v2 [65] [97] [47] (.slice none 0 0) []
          have hp3 := hp2.up (enew v2 (.cells #[.string (bs [65]), .string (bs [97]), .string (bs [47]), .slice none 0 0, .string (bs [])] 125))
          have hk3 := hk2.up (enew v2 (.cells #[.string (bs [65]), .string (bs [97]), .string (bs [47]), .slice none 0 0, .string (bs [])] 125))
          have hb4 := estep hb3 (enew v2 (.cells #[.string (bs [65]), .string (bs [97]), .string (bs [47]), .slice none 0 0, .string (bs [])] 125))
          have hsz := hb3.size; have hsz2 := (enew v2 (.cells #[.string (bs [65]), .string (bs [97]), .string (bs [47]), .slice none 0 0, .string (bs [])] 125)).size
          clear hp2 hk2 hb3 k0 k1 k2 s0 s1 s2
          have c1 : (ByteArray.mk #[65]) = bs [65] := rfl
          have c2 : (ByteArray.mk #[97]) = bs [97] := rfl
          have c3 : (ByteArray.mk #[47]) = bs [47] := rfl
          have c4 : (ByteArray.mk #[]) = bs [] := rfl
          try rw [c1, c2, c3, c4]
          try simp only [c1, c2, c3]
          generalize v2.alloc (.cells #[.string (bs [65]), .string (bs [97]), .string (bs [47]), .slice none 0 0, .string (bs [])] 125) = v3 at *
          obtain ⟨k0, k1, k2⟩ := hp3.cells
          have s2 : v3.cell? ⟨w1.heap.size, 2, none⟩ = some (.func (.func G) #[] #[]) := Bk.cell hk3 2
          have HG2 := HGG.out
          rw [HG.out] at HG2
          simp only at HG2
          have HG3 := hid (HG2 _ _ hq3)
          clear HG2
          have HLT := hid (show w.heap.size ≤ v2.heap.size by omega)
          clear hq3
          go_wp2_with fail
          refine HG3.out.mono ?_
          rintro e w4 ⟨rfl, x', hq4, hx4, hb5⟩
          have hb6 := hb4.trans (hb5.mono HLT.out)
          obtain ⟨q0, q1, q2, q3, q4⟩ := hq4.cells
          clear hb4 hb5 k0 k1 k2 s2 hp3 hk3 hq4
          go_wp2_with fail
          refine (HQ.out _ x' hx4 z HZ).mono ?_
          rintro e w5 ⟨rfl, hb7⟩
          go_wp2_with fail
          go_returns
          exact ⟨rfl, estep hb6 hb7⟩
    · have hnb : (n == []) = false := by simpa using hn0
      have hnb2 : (n != []) = true := by simpa using hn0
      by_cases hv0 : v = []
      · subst hv0
        cases hnd : ndK k <;> cases hvl : vlK k
        · skip
          have HZ := hid (show z = 2 by rw [← H.out, HC.out, if_pos (Or.inl ⟨hnd, hn0⟩)])
          clear H HC
          try clear hv0
          try clear hn0
          have HND := hid hnd
          have HVL := hid hvl
          clear hnd hvl
          go_enter Tryz.func62, Tryz.ntmps62
          go_upto_region 1 with (fail)
          generalize w.alloc (.cells #[.int .i64 k, .string (bs n), .string (bs [])] 83) = v0 at *
          obtain ⟨k0, k1, k2⟩ := hp0.cells
          go_wp2_with fail
          refine (HK.out _).mono ?_
          rintro e w1 ⟨G, F, ⟨rfl, hb1⟩, hG, -⟩
          rw [HND.out, HVL.out]
          obtain ⟨eg, hGG⟩ := hG
          have HGG := hid (hGG n [])
          clear hGG
          have hb2 := estep hb1 (enew w1 (.cells #[.bool false, .bool false, .func (.func G) #[] #[], .func (.func F) #[] #[]] 120))
          have hk2 := Bk.new w1 120 #[.bool false, .bool false, .func (.func G) #[] #[], .func (.func F) #[] #[]]
          have hp2 := hp0.up hb2
          have hb3 := estep hb0 hb2
          clear hb0 hb1 hb2 hp0 k0 k1 k2
          go_upto_region 2 with (fail)
          generalize w1.alloc (.cells #[.bool false, .bool false, .func (.func G) #[] #[], .func (.func F) #[] #[]] 120) = v2 at *
          obtain ⟨k0, k1, k2⟩ := hp2.cells
          have s0 : v2.cell? ⟨w1.heap.size, 0, none⟩ = some (.bool false) := Bk.cell hk2 0
          have s1 : v2.cell? ⟨w1.heap.size, 1, none⟩ = some (.bool false) := Bk.cell hk2 1
          have s2 : v2.cell? ⟨w1.heap.size, 2, none⟩ = some (.func (.func G) #[] #[]) := Bk.cell hk2 2
          go_wp2_with fail
          go_returns
          exact ⟨by rw [HZ.out]; rfl, hb3⟩
        · skip
          have HZ := hid (show z = 2 by rw [← H.out, HC.out, if_pos (Or.inl ⟨hnd, hn0⟩)])
          clear H HC
          try clear hv0
          try clear hn0
          have HND := hid hnd
          have HVL := hid hvl
          clear hnd hvl
          go_enter Tryz.func62, Tryz.ntmps62
          go_upto_region 1 with (fail)
          generalize w.alloc (.cells #[.int .i64 k, .string (bs n), .string (bs [])] 83) = v0 at *
          obtain ⟨k0, k1, k2⟩ := hp0.cells
          go_wp2_with fail
          refine (HK.out _).mono ?_
          rintro e w1 ⟨G, F, ⟨rfl, hb1⟩, hG, -⟩
          rw [HND.out, HVL.out]
          obtain ⟨eg, hGG⟩ := hG
          have HGG := hid (hGG n [])
          clear hGG
          have hb2 := estep hb1 (enew w1 (.cells #[.bool false, .bool true, .func (.func G) #[] #[], .func (.func F) #[] #[]] 120))
          have hk2 := Bk.new w1 120 #[.bool false, .bool true, .func (.func G) #[] #[], .func (.func F) #[] #[]]
          have hp2 := hp0.up hb2
          have hb3 := estep hb0 hb2
          clear hb0 hb1 hb2 hp0 k0 k1 k2
          go_upto_region 2 with (fail)
          generalize w1.alloc (.cells #[.bool false, .bool true, .func (.func G) #[] #[], .func (.func F) #[] #[]] 120) = v2 at *
          obtain ⟨k0, k1, k2⟩ := hp2.cells
          have s0 : v2.cell? ⟨w1.heap.size, 0, none⟩ = some (.bool false) := Bk.cell hk2 0
          have s1 : v2.cell? ⟨w1.heap.size, 1, none⟩ = some (.bool true) := Bk.cell hk2 1
          have s2 : v2.cell? ⟨w1.heap.size, 2, none⟩ = some (.func (.func G) #[] #[]) := Bk.cell hk2 2
          go_wp2_with fail
          go_returns
          exact ⟨by rw [HZ.out]; rfl, hb3⟩
        · skip
          have HZ := hid (show chkQ m' h' p' L' [] = z by rw [← H.out, HC.out, if_neg]; rintro (⟨a, b⟩ | ⟨a, b⟩); rw [hnd] at a; cases a; exact b rfl)
          clear H HC
          try clear hv0
          try clear hn0
          have HND := hid hnd
          have HVL := hid hvl
          clear hnd hvl
          go_enter Tryz.func62, Tryz.ntmps62
          go_upto_region 1 with (fail)
          generalize w.alloc (.cells #[.int .i64 k, .string (bs n), .string (bs [])] 83) = v0 at *
          obtain ⟨k0, k1, k2⟩ := hp0.cells
          go_wp2_with fail
          refine (HK.out _).mono ?_
          rintro e w1 ⟨G, F, ⟨rfl, hb1⟩, hG, -⟩
          rw [HND.out, HVL.out]
          obtain ⟨eg, hGG⟩ := hG
          have HGG := hid (hGG n [])
          clear hGG
          have hb2 := estep hb1 (enew w1 (.cells #[.bool true, .bool false, .func (.func G) #[] #[], .func (.func F) #[] #[]] 120))
          have hk2 := Bk.new w1 120 #[.bool true, .bool false, .func (.func G) #[] #[], .func (.func F) #[] #[]]
          have hp2 := hp0.up hb2
          have hb3 := estep hb0 hb2
          clear hb0 hb1 hb2 hp0 k0 k1 k2
          go_upto_region 2 with (fail)
          generalize w1.alloc (.cells #[.bool true, .bool false, .func (.func G) #[] #[], .func (.func F) #[] #[]] 120) = v2 at *
          obtain ⟨k0, k1, k2⟩ := hp2.cells
          have s0 : v2.cell? ⟨w1.heap.size, 0, none⟩ = some (.bool true) := Bk.cell hk2 0
          have s1 : v2.cell? ⟨w1.heap.size, 1, none⟩ = some (.bool false) := Bk.cell hk2 1
          have s2 : v2.cell? ⟨w1.heap.size, 2, none⟩ = some (.func (.func G) #[] #[]) := Bk.cell hk2 2
          go_upto_region 5 with (fail)
          have hq3 := BQ.new v2 [65] [97] [47] (.slice none 0 0) []
          have hp3 := hp2.up (enew v2 (.cells #[.string (bs [65]), .string (bs [97]), .string (bs [47]), .slice none 0 0, .string (bs [])] 125))
          have hk3 := hk2.up (enew v2 (.cells #[.string (bs [65]), .string (bs [97]), .string (bs [47]), .slice none 0 0, .string (bs [])] 125))
          have hb4 := estep hb3 (enew v2 (.cells #[.string (bs [65]), .string (bs [97]), .string (bs [47]), .slice none 0 0, .string (bs [])] 125))
          have hsz := hb3.size; have hsz2 := (enew v2 (.cells #[.string (bs [65]), .string (bs [97]), .string (bs [47]), .slice none 0 0, .string (bs [])] 125)).size
          clear hp2 hk2 hb3 k0 k1 k2 s0 s1 s2
          have c1 : (ByteArray.mk #[65]) = bs [65] := rfl
          have c2 : (ByteArray.mk #[97]) = bs [97] := rfl
          have c3 : (ByteArray.mk #[47]) = bs [47] := rfl
          have c4 : (ByteArray.mk #[]) = bs [] := rfl
          try rw [c1, c2, c3, c4]
          try simp only [c1, c2, c3]
          generalize v2.alloc (.cells #[.string (bs [65]), .string (bs [97]), .string (bs [47]), .slice none 0 0, .string (bs [])] 125) = v3 at *
          obtain ⟨k0, k1, k2⟩ := hp3.cells
          have s2 : v3.cell? ⟨w1.heap.size, 2, none⟩ = some (.func (.func G) #[] #[]) := Bk.cell hk3 2
          have HG2 := HGG.out
          rw [HG.out] at HG2
          simp only at HG2
          have HG3 := hid (HG2 _ _ hq3)
          clear HG2
          have HLT := hid (show w.heap.size ≤ v2.heap.size by omega)
          clear hq3
          go_wp2_with fail
          refine HG3.out.mono ?_
          rintro e w4 ⟨rfl, x', hq4, hx4, hb5⟩
          have hb6 := hb4.trans (hb5.mono HLT.out)
          obtain ⟨q0, q1, q2, q3, q4⟩ := hq4.cells
          clear hb4 hb5 k0 k1 k2 s2 hp3 hk3 hq4
          go_wp2_with fail
          refine (HQ.out _ x' hx4 z HZ).mono ?_
          rintro e w5 ⟨rfl, hb7⟩
          go_wp2_with fail
          go_returns
          exact ⟨rfl, estep hb6 hb7⟩
        · skip
          have HZ := hid (show chkQ m' h' p' L' [] = z by rw [← H.out, HC.out, if_neg]; rintro (⟨a, b⟩ | ⟨a, b⟩); rw [hnd] at a; cases a; exact b rfl)
          clear H HC
          try clear hv0
          try clear hn0
          have HND := hid hnd
          have HVL := hid hvl
          clear hnd hvl
          go_enter Tryz.func62, Tryz.ntmps62
          go_upto_region 1 with (fail)
          generalize w.alloc (.cells #[.int .i64 k, .string (bs n), .string (bs [])] 83) = v0 at *
          obtain ⟨k0, k1, k2⟩ := hp0.cells
          go_wp2_with fail
          refine (HK.out _).mono ?_
          rintro e w1 ⟨G, F, ⟨rfl, hb1⟩, hG, -⟩
          rw [HND.out, HVL.out]
          obtain ⟨eg, hGG⟩ := hG
          have HGG := hid (hGG n [])
          clear hGG
          have hb2 := estep hb1 (enew w1 (.cells #[.bool true, .bool true, .func (.func G) #[] #[], .func (.func F) #[] #[]] 120))
          have hk2 := Bk.new w1 120 #[.bool true, .bool true, .func (.func G) #[] #[], .func (.func F) #[] #[]]
          have hp2 := hp0.up hb2
          have hb3 := estep hb0 hb2
          clear hb0 hb1 hb2 hp0 k0 k1 k2
          go_upto_region 2 with (fail)
          generalize w1.alloc (.cells #[.bool true, .bool true, .func (.func G) #[] #[], .func (.func F) #[] #[]] 120) = v2 at *
          obtain ⟨k0, k1, k2⟩ := hp2.cells
          have s0 : v2.cell? ⟨w1.heap.size, 0, none⟩ = some (.bool true) := Bk.cell hk2 0
          have s1 : v2.cell? ⟨w1.heap.size, 1, none⟩ = some (.bool true) := Bk.cell hk2 1
          have s2 : v2.cell? ⟨w1.heap.size, 2, none⟩ = some (.func (.func G) #[] #[]) := Bk.cell hk2 2
          go_upto_region 5 with (fail)
          have hq3 := BQ.new v2 [65] [97] [47] (.slice none 0 0) []
          have hp3 := hp2.up (enew v2 (.cells #[.string (bs [65]), .string (bs [97]), .string (bs [47]), .slice none 0 0, .string (bs [])] 125))
          have hk3 := hk2.up (enew v2 (.cells #[.string (bs [65]), .string (bs [97]), .string (bs [47]), .slice none 0 0, .string (bs [])] 125))
          have hb4 := estep hb3 (enew v2 (.cells #[.string (bs [65]), .string (bs [97]), .string (bs [47]), .slice none 0 0, .string (bs [])] 125))
          have hsz := hb3.size; have hsz2 := (enew v2 (.cells #[.string (bs [65]), .string (bs [97]), .string (bs [47]), .slice none 0 0, .string (bs [])] 125)).size
          clear hp2 hk2 hb3 k0 k1 k2 s0 s1 s2
          have c1 : (ByteArray.mk #[65]) = bs [65] := rfl
          have c2 : (ByteArray.mk #[97]) = bs [97] := rfl
          have c3 : (ByteArray.mk #[47]) = bs [47] := rfl
          have c4 : (ByteArray.mk #[]) = bs [] := rfl
          try rw [c1, c2, c3, c4]
          try simp only [c1, c2, c3]
          generalize v2.alloc (.cells #[.string (bs [65]), .string (bs [97]), .string (bs [47]), .slice none 0 0, .string (bs [])] 125) = v3 at *
          obtain ⟨k0, k1, k2⟩ := hp3.cells
          have s2 : v3.cell? ⟨w1.heap.size, 2, none⟩ = some (.func (.func G) #[] #[]) := Bk.cell hk3 2
          have HG2 := HGG.out
          rw [HG.out] at HG2
          simp only at HG2
          have HG3 := hid (HG2 _ _ hq3)
          clear HG2
          have HLT := hid (show w.heap.size ≤ v2.heap.size by omega)
          clear hq3
          go_wp2_with fail
          refine HG3.out.mono ?_
          rintro e w4 ⟨rfl, x', hq4, hx4, hb5⟩
          have hb6 := hb4.trans (hb5.mono HLT.out)
          obtain ⟨q0, q1, q2, q3, q4⟩ := hq4.cells
          clear hb4 hb5 k0 k1 k2 s2 hp3 hk3 hq4
          go_wp2_with fail
          refine (HQ.out _ x' hx4 z HZ).mono ?_
          rintro e w5 ⟨rfl, hb7⟩
          go_wp2_with fail
          go_returns
          exact ⟨rfl, estep hb6 hb7⟩
      · have hvb : (v == []) = false := by simpa using hv0
        have hvb2 : (v != []) = true := by simpa using hv0
        cases hnd : ndK k <;> cases hvl : vlK k
        · skip
          have HZ := hid (show z = 2 by rw [← H.out, HC.out, if_pos (Or.inl ⟨hnd, hn0⟩)])
          clear H HC
          try clear hv0
          try clear hn0
          have HND := hid hnd
          have HVL := hid hvl
          clear hnd hvl
          go_enter Tryz.func62, Tryz.ntmps62
          go_upto_region 1 with (fail)
          generalize w.alloc (.cells #[.int .i64 k, .string (bs n), .string (bs v)] 83) = v0 at *
          obtain ⟨k0, k1, k2⟩ := hp0.cells
          go_wp2_with fail
          refine (HK.out _).mono ?_
          rintro e w1 ⟨G, F, ⟨rfl, hb1⟩, hG, -⟩
          rw [HND.out, HVL.out]
          obtain ⟨eg, hGG⟩ := hG
          have HGG := hid (hGG n v)
          clear hGG
          have hb2 := estep hb1 (enew w1 (.cells #[.bool false, .bool false, .func (.func G) #[] #[], .func (.func F) #[] #[]] 120))
          have hk2 := Bk.new w1 120 #[.bool false, .bool false, .func (.func G) #[] #[], .func (.func F) #[] #[]]
          have hp2 := hp0.up hb2
          have hb3 := estep hb0 hb2
          clear hb0 hb1 hb2 hp0 k0 k1 k2
          go_upto_region 2 with (fail)
          generalize w1.alloc (.cells #[.bool false, .bool false, .func (.func G) #[] #[], .func (.func F) #[] #[]] 120) = v2 at *
          obtain ⟨k0, k1, k2⟩ := hp2.cells
          have s0 : v2.cell? ⟨w1.heap.size, 0, none⟩ = some (.bool false) := Bk.cell hk2 0
          have s1 : v2.cell? ⟨w1.heap.size, 1, none⟩ = some (.bool false) := Bk.cell hk2 1
          have s2 : v2.cell? ⟨w1.heap.size, 2, none⟩ = some (.func (.func G) #[] #[]) := Bk.cell hk2 2
          go_wp2_with fail
          go_returns
          exact ⟨by rw [HZ.out]; rfl, hb3⟩
        · skip
          have HZ := hid (show z = 2 by rw [← H.out, HC.out, if_pos (Or.inl ⟨hnd, hn0⟩)])
          clear H HC
          try clear hv0
          try clear hn0
          have HND := hid hnd
          have HVL := hid hvl
          clear hnd hvl
          go_enter Tryz.func62, Tryz.ntmps62
          go_upto_region 1 with (fail)
          generalize w.alloc (.cells #[.int .i64 k, .string (bs n), .string (bs v)] 83) = v0 at *
          obtain ⟨k0, k1, k2⟩ := hp0.cells
          go_wp2_with fail
          refine (HK.out _).mono ?_
          rintro e w1 ⟨G, F, ⟨rfl, hb1⟩, hG, -⟩
          rw [HND.out, HVL.out]
          obtain ⟨eg, hGG⟩ := hG
          have HGG := hid (hGG n v)
          clear hGG
          have hb2 := estep hb1 (enew w1 (.cells #[.bool false, .bool true, .func (.func G) #[] #[], .func (.func F) #[] #[]] 120))
          have hk2 := Bk.new w1 120 #[.bool false, .bool true, .func (.func G) #[] #[], .func (.func F) #[] #[]]
          have hp2 := hp0.up hb2
          have hb3 := estep hb0 hb2
          clear hb0 hb1 hb2 hp0 k0 k1 k2
          go_upto_region 2 with (fail)
          generalize w1.alloc (.cells #[.bool false, .bool true, .func (.func G) #[] #[], .func (.func F) #[] #[]] 120) = v2 at *
          obtain ⟨k0, k1, k2⟩ := hp2.cells
          have s0 : v2.cell? ⟨w1.heap.size, 0, none⟩ = some (.bool false) := Bk.cell hk2 0
          have s1 : v2.cell? ⟨w1.heap.size, 1, none⟩ = some (.bool true) := Bk.cell hk2 1
          have s2 : v2.cell? ⟨w1.heap.size, 2, none⟩ = some (.func (.func G) #[] #[]) := Bk.cell hk2 2
          go_wp2_with fail
          go_returns
          exact ⟨by rw [HZ.out]; rfl, hb3⟩
        · skip
          have HZ := hid (show z = 2 by rw [← H.out, HC.out, if_pos (Or.inr ⟨hvl, hv0⟩)])
          clear H HC
          try clear hv0
          try clear hn0
          have HND := hid hnd
          have HVL := hid hvl
          clear hnd hvl
          go_enter Tryz.func62, Tryz.ntmps62
          go_upto_region 1 with (fail)
          generalize w.alloc (.cells #[.int .i64 k, .string (bs n), .string (bs v)] 83) = v0 at *
          obtain ⟨k0, k1, k2⟩ := hp0.cells
          go_wp2_with fail
          refine (HK.out _).mono ?_
          rintro e w1 ⟨G, F, ⟨rfl, hb1⟩, hG, -⟩
          rw [HND.out, HVL.out]
          obtain ⟨eg, hGG⟩ := hG
          have HGG := hid (hGG n v)
          clear hGG
          have hb2 := estep hb1 (enew w1 (.cells #[.bool true, .bool false, .func (.func G) #[] #[], .func (.func F) #[] #[]] 120))
          have hk2 := Bk.new w1 120 #[.bool true, .bool false, .func (.func G) #[] #[], .func (.func F) #[] #[]]
          have hp2 := hp0.up hb2
          have hb3 := estep hb0 hb2
          clear hb0 hb1 hb2 hp0 k0 k1 k2
          go_upto_region 2 with (fail)
          generalize w1.alloc (.cells #[.bool true, .bool false, .func (.func G) #[] #[], .func (.func F) #[] #[]] 120) = v2 at *
          obtain ⟨k0, k1, k2⟩ := hp2.cells
          have s0 : v2.cell? ⟨w1.heap.size, 0, none⟩ = some (.bool true) := Bk.cell hk2 0
          have s1 : v2.cell? ⟨w1.heap.size, 1, none⟩ = some (.bool false) := Bk.cell hk2 1
          have s2 : v2.cell? ⟨w1.heap.size, 2, none⟩ = some (.func (.func G) #[] #[]) := Bk.cell hk2 2
          go_wp2_with fail
          go_returns
          exact ⟨by rw [HZ.out]; rfl, hb3⟩
        · skip
          have HZ := hid (show chkQ m' h' p' L' [] = z by rw [← H.out, HC.out, if_neg]; rintro (⟨a, b⟩ | ⟨a, b⟩); rw [hnd] at a; cases a; rw [hvl] at a; cases a)
          clear H HC
          try clear hv0
          try clear hn0
          have HND := hid hnd
          have HVL := hid hvl
          clear hnd hvl
          go_enter Tryz.func62, Tryz.ntmps62
          go_upto_region 1 with (fail)
          generalize w.alloc (.cells #[.int .i64 k, .string (bs n), .string (bs v)] 83) = v0 at *
          obtain ⟨k0, k1, k2⟩ := hp0.cells
          go_wp2_with fail
          refine (HK.out _).mono ?_
          rintro e w1 ⟨G, F, ⟨rfl, hb1⟩, hG, -⟩
          rw [HND.out, HVL.out]
          obtain ⟨eg, hGG⟩ := hG
          have HGG := hid (hGG n v)
          clear hGG
          have hb2 := estep hb1 (enew w1 (.cells #[.bool true, .bool true, .func (.func G) #[] #[], .func (.func F) #[] #[]] 120))
          have hk2 := Bk.new w1 120 #[.bool true, .bool true, .func (.func G) #[] #[], .func (.func F) #[] #[]]
          have hp2 := hp0.up hb2
          have hb3 := estep hb0 hb2
          clear hb0 hb1 hb2 hp0 k0 k1 k2
          go_upto_region 2 with (fail)
          generalize w1.alloc (.cells #[.bool true, .bool true, .func (.func G) #[] #[], .func (.func F) #[] #[]] 120) = v2 at *
          obtain ⟨k0, k1, k2⟩ := hp2.cells
          have s0 : v2.cell? ⟨w1.heap.size, 0, none⟩ = some (.bool true) := Bk.cell hk2 0
          have s1 : v2.cell? ⟨w1.heap.size, 1, none⟩ = some (.bool true) := Bk.cell hk2 1
          have s2 : v2.cell? ⟨w1.heap.size, 2, none⟩ = some (.func (.func G) #[] #[]) := Bk.cell hk2 2
          go_upto_region 5 with (fail)
          have hq3 := BQ.new v2 [65] [97] [47] (.slice none 0 0) []
          have hp3 := hp2.up (enew v2 (.cells #[.string (bs [65]), .string (bs [97]), .string (bs [47]), .slice none 0 0, .string (bs [])] 125))
          have hk3 := hk2.up (enew v2 (.cells #[.string (bs [65]), .string (bs [97]), .string (bs [47]), .slice none 0 0, .string (bs [])] 125))
          have hb4 := estep hb3 (enew v2 (.cells #[.string (bs [65]), .string (bs [97]), .string (bs [47]), .slice none 0 0, .string (bs [])] 125))
          have hsz := hb3.size; have hsz2 := (enew v2 (.cells #[.string (bs [65]), .string (bs [97]), .string (bs [47]), .slice none 0 0, .string (bs [])] 125)).size
          clear hp2 hk2 hb3 k0 k1 k2 s0 s1 s2
          have c1 : (ByteArray.mk #[65]) = bs [65] := rfl
          have c2 : (ByteArray.mk #[97]) = bs [97] := rfl
          have c3 : (ByteArray.mk #[47]) = bs [47] := rfl
          have c4 : (ByteArray.mk #[]) = bs [] := rfl
          try rw [c1, c2, c3, c4]
          try simp only [c1, c2, c3]
          generalize v2.alloc (.cells #[.string (bs [65]), .string (bs [97]), .string (bs [47]), .slice none 0 0, .string (bs [])] 125) = v3 at *
          obtain ⟨k0, k1, k2⟩ := hp3.cells
          have s2 : v3.cell? ⟨w1.heap.size, 2, none⟩ = some (.func (.func G) #[] #[]) := Bk.cell hk3 2
          have HG2 := HGG.out
          rw [HG.out] at HG2
          simp only at HG2
          have HG3 := hid (HG2 _ _ hq3)
          clear HG2
          have HLT := hid (show w.heap.size ≤ v2.heap.size by omega)
          clear hq3
          go_wp2_with fail
          refine HG3.out.mono ?_
          rintro e w4 ⟨rfl, x', hq4, hx4, hb5⟩
          have hb6 := hb4.trans (hb5.mono HLT.out)
          obtain ⟨q0, q1, q2, q3, q4⟩ := hq4.cells
          clear hb4 hb5 k0 k1 k2 s2 hp3 hk3 hq4
          go_wp2_with fail
          refine (HQ.out _ x' hx4 z HZ).mono ?_
          rintro e w5 ⟨rfl, hb7⟩
          go_wp2_with fail
          go_returns
          exact ⟨rfl, estep hb6 hb7⟩
  · have HK := hid (fun w2 => kindno_any k w2 hk)
    have HZ := hid (show z = 2 by rw [← H.out]; exact cE_no hk _ _)
    clear hk H
    go_enter Tryz.func62, Tryz.ntmps62
    go_upto_region 1 with (fail)
    generalize w.alloc (.cells #[.int .i64 k, .string (bs n), .string (bs v)] 83) = v0 at *
    obtain ⟨k0, k1, k2⟩ := hp0.cells
    go_wp2_with fail
    refine (HK.out _).mono ?_
    rintro e w1 ⟨rfl, hb1⟩
    have hb3 := estep hb0 (estep hb1 (enew w1 (.cells #[.bool false, .bool false, .nilFunc, .nilFunc] 120)))
    clear k0 k1 k2
    go_wp2_with fail
    go_returns
    exact ⟨by rw [HZ.out]; rfl, hb3⟩
end Go.Proofs.YtelglcakekgdeaaGreatDoor
namespace Go.Proofs.YtelglcakekgdeaaGreatDoor
set_option linter.unusedVariables false
set_option linter.unusedSimpArgs false
open Go.RowKit Go.Joins

set_option maxRecDepth 100000 in
set_option maxHeartbeats 4000000 in
theorem rpcheck1_any (n v : List UInt8) (w : World) (hn : n.length ≤ 140737488351232) (hv : v.length ≤ 140737488351232) {z : Int} (H : Hid (cE 1 n v = z)) :
    Calls Tryz.prog 55 #[.agg #[.int .i64 1, .string (bs n), .string (bs v)]] w fun e w' => e = .returned (.int .i64 z) ∧ Below w.heap.size w w' := by
  have hnot := enot
  by_cases hn0 : n = []
  · subst hn0
    cases hb : methodB v
    · have HM := hid (fun w2 => rmethod_any v w2 hv)
      rw [hb] at HM
      have HB := hid hb
      clear hb
      have HZ := hid (show z = 3 by rw [← H.out]; simp [cE, HB.out])
      clear H
      have hb0 := enew w (.cells #[.int .i64 1, .string (bs []), .string (bs v)] 83)
      have hp0 := BP.new w 1 [] v
      go_enter Tryz.func55, Tryz.ntmps55
      go_upto_region 1 with (fail)
      generalize w.alloc (.cells #[.int .i64 1, .string (bs []), .string (bs v)] 83) = v0 at *
      obtain ⟨k0, k1, k2⟩ := hp0.cells
      go_wp2_with fail
      refine (HM.out _).mono ?_
      rintro e w1 ⟨rfl, rfl⟩
      go_wp2_with fail
      go_returns
      exact ⟨by rw [HZ.out]; rfl, hb0⟩
    · have HM := hid (fun w2 => rmethod_any v w2 hv)
      rw [hb] at HM
      have HB := hid hb
      clear hb
      have HZ := hid (show z = 0 by rw [← H.out]; simp [cE, HB.out])
      clear H
      have hb0 := enew w (.cells #[.int .i64 1, .string (bs []), .string (bs v)] 83)
      have hp0 := BP.new w 1 [] v
      go_enter Tryz.func55, Tryz.ntmps55
      go_upto_region 1 with (fail)
      generalize w.alloc (.cells #[.int .i64 1, .string (bs []), .string (bs v)] 83) = v0 at *
      obtain ⟨k0, k1, k2⟩ := hp0.cells
      go_wp2_with fail
      refine (HM.out _).mono ?_
      rintro e w1 ⟨rfl, rfl⟩
      go_wp2_with fail
      go_returns
      exact ⟨by rw [HZ.out]; rfl, hb0⟩
  · have hnb : (n == []) = false := by simpa using hn0
    have HN := hid hn0
    clear hn0
    have HZ := hid (show z = 2 by rw [← H.out]; simp [cE, HN.out])
    clear H
    have hb0 := enew w (.cells #[.int .i64 1, .string (bs n), .string (bs v)] 83)
    have hp0 := BP.new w 1 n v
    go_enter Tryz.func55, Tryz.ntmps55
    go_upto_region 1 with (fail)
    generalize w.alloc (.cells #[.int .i64 1, .string (bs n), .string (bs v)] 83) = v0 at *
    obtain ⟨k0, k1, k2⟩ := hp0.cells
    go_wp2_with fail
    go_returns
    exact ⟨by rw [HZ.out]; rfl, hb0⟩
set_option maxRecDepth 100000 in
set_option maxHeartbeats 4000000 in
theorem rpcheck2_any (n v : List UInt8) (w : World) (hn : n.length ≤ 140737488351232) (hv : v.length ≤ 140737488351232) {z : Int} (H : Hid (cE 2 n v = z)) :
    Calls Tryz.prog 55 #[.agg #[.int .i64 2, .string (bs n), .string (bs v)]] w fun e w' => e = .returned (.int .i64 z) ∧ Below w.heap.size w w' := by
  have hnot := enot
  by_cases hn0 : n = []
  · subst hn0
    cases hb : nameB v
    · have HM := hid (fun w2 => rname_any v w2 hv)
      rw [hb] at HM
      have HB := hid hb
      clear hb
      have HZ := hid (show z = 7 by rw [← H.out]; simp [cE, HB.out])
      clear H
      have hb0 := enew w (.cells #[.int .i64 2, .string (bs []), .string (bs v)] 83)
      have hp0 := BP.new w 2 [] v
      go_enter Tryz.func55, Tryz.ntmps55
      go_upto_region 1 with (fail)
      generalize w.alloc (.cells #[.int .i64 2, .string (bs []), .string (bs v)] 83) = v0 at *
      obtain ⟨k0, k1, k2⟩ := hp0.cells
      go_wp2_with fail
      refine (HM.out _).mono ?_
      rintro e w1 ⟨rfl, rfl⟩
      go_wp2_with fail
      go_returns
      exact ⟨by rw [HZ.out]; rfl, hb0⟩
    · have HM := hid (fun w2 => rname_any v w2 hv)
      rw [hb] at HM
      have HB := hid hb
      clear hb
      have HZ := hid (show z = 0 by rw [← H.out]; simp [cE, HB.out])
      clear H
      have hb0 := enew w (.cells #[.int .i64 2, .string (bs []), .string (bs v)] 83)
      have hp0 := BP.new w 2 [] v
      go_enter Tryz.func55, Tryz.ntmps55
      go_upto_region 1 with (fail)
      generalize w.alloc (.cells #[.int .i64 2, .string (bs []), .string (bs v)] 83) = v0 at *
      obtain ⟨k0, k1, k2⟩ := hp0.cells
      go_wp2_with fail
      refine (HM.out _).mono ?_
      rintro e w1 ⟨rfl, rfl⟩
      go_wp2_with fail
      go_returns
      exact ⟨by rw [HZ.out]; rfl, hb0⟩
  · have hnb : (n == []) = false := by simpa using hn0
    have HN := hid hn0
    clear hn0
    have HZ := hid (show z = 2 by rw [← H.out]; simp [cE, HN.out])
    clear H
    have hb0 := enew w (.cells #[.int .i64 2, .string (bs n), .string (bs v)] 83)
    have hp0 := BP.new w 2 n v
    go_enter Tryz.func55, Tryz.ntmps55
    go_upto_region 1 with (fail)
    generalize w.alloc (.cells #[.int .i64 2, .string (bs n), .string (bs v)] 83) = v0 at *
    obtain ⟨k0, k1, k2⟩ := hp0.cells
    go_wp2_with fail
    go_returns
    exact ⟨by rw [HZ.out]; rfl, hb0⟩
set_option maxRecDepth 100000 in
set_option maxHeartbeats 4000000 in
theorem rpcheck3_any (n v : List UInt8) (w : World) (hn : n.length ≤ 140737488351232) (hv : v.length ≤ 140737488351232) {z : Int} (H : Hid (cE 3 n v = z)) :
    Calls Tryz.prog 55 #[.agg #[.int .i64 3, .string (bs n), .string (bs v)]] w fun e w' => e = .returned (.int .i64 z) ∧ Below w.heap.size w w' := by
  have hnot := enot
  by_cases hn0 : n = []
  · subst hn0
    cases hb : pathB v
    · have HM := hid (fun w2 => rpath_any v w2 hv)
      rw [hb] at HM
      have HB := hid hb
      clear hb
      have HZ := hid (show z = 12 by rw [← H.out]; simp [cE, HB.out])
      clear H
      have hb0 := enew w (.cells #[.int .i64 3, .string (bs []), .string (bs v)] 83)
      have hp0 := BP.new w 3 [] v
      go_enter Tryz.func55, Tryz.ntmps55
      go_upto_region 1 with (fail)
      generalize w.alloc (.cells #[.int .i64 3, .string (bs []), .string (bs v)] 83) = v0 at *
      obtain ⟨k0, k1, k2⟩ := hp0.cells
      go_wp2_with fail
      refine (HM.out _).mono ?_
      rintro e w1 ⟨rfl, rfl⟩
      go_wp2_with fail
      go_returns
      exact ⟨by rw [HZ.out]; rfl, hb0⟩
    · have HM := hid (fun w2 => rpath_any v w2 hv)
      rw [hb] at HM
      have HB := hid hb
      clear hb
      have HZ := hid (show z = 0 by rw [← H.out]; simp [cE, HB.out])
      clear H
      have hb0 := enew w (.cells #[.int .i64 3, .string (bs []), .string (bs v)] 83)
      have hp0 := BP.new w 3 [] v
      go_enter Tryz.func55, Tryz.ntmps55
      go_upto_region 1 with (fail)
      generalize w.alloc (.cells #[.int .i64 3, .string (bs []), .string (bs v)] 83) = v0 at *
      obtain ⟨k0, k1, k2⟩ := hp0.cells
      go_wp2_with fail
      refine (HM.out _).mono ?_
      rintro e w1 ⟨rfl, rfl⟩
      go_wp2_with fail
      go_returns
      exact ⟨by rw [HZ.out]; rfl, hb0⟩
  · have hnb : (n == []) = false := by simpa using hn0
    have HN := hid hn0
    clear hn0
    have HZ := hid (show z = 2 by rw [← H.out]; simp [cE, HN.out])
    clear H
    have hb0 := enew w (.cells #[.int .i64 3, .string (bs n), .string (bs v)] 83)
    have hp0 := BP.new w 3 n v
    go_enter Tryz.func55, Tryz.ntmps55
    go_upto_region 1 with (fail)
    generalize w.alloc (.cells #[.int .i64 3, .string (bs n), .string (bs v)] 83) = v0 at *
    obtain ⟨k0, k1, k2⟩ := hp0.cells
    go_wp2_with fail
    go_returns
    exact ⟨by rw [HZ.out]; rfl, hb0⟩
set_option maxRecDepth 100000 in
set_option maxHeartbeats 4000000 in
theorem rpcheck4_any (n v : List UInt8) (w : World) (hn : n.length ≤ 140737488351232) (hv : v.length ≤ 140737488351232) {z : Int} (H : Hid (cE 4 n v = z)) :
    Calls Tryz.prog 55 #[.agg #[.int .i64 4, .string (bs n), .string (bs v)]] w fun e w' => e = .returned (.int .i64 z) ∧ Below w.heap.size w w' := by
  have hnot := enot
  by_cases hn0 : n = []
  · subst hn0
    cases hb : pathB v
    · have HM := hid (fun w2 => rpath_any v w2 hv)
      rw [hb] at HM
      have HB := hid hb
      clear hb
      have HZ := hid (show z = 12 by rw [← H.out]; simp [cE, HB.out])
      clear H
      have hb0 := enew w (.cells #[.int .i64 4, .string (bs []), .string (bs v)] 83)
      have hp0 := BP.new w 4 [] v
      go_enter Tryz.func55, Tryz.ntmps55
      go_upto_region 1 with (fail)
      generalize w.alloc (.cells #[.int .i64 4, .string (bs []), .string (bs v)] 83) = v0 at *
      obtain ⟨k0, k1, k2⟩ := hp0.cells
      go_wp2_with fail
      refine (HM.out _).mono ?_
      rintro e w1 ⟨rfl, rfl⟩
      go_wp2_with fail
      go_returns
      exact ⟨by rw [HZ.out]; rfl, hb0⟩
    · have HM := hid (fun w2 => rpath_any v w2 hv)
      rw [hb] at HM
      have HB := hid hb
      clear hb
      have HZ := hid (show z = 0 by rw [← H.out]; simp [cE, HB.out])
      clear H
      have hb0 := enew w (.cells #[.int .i64 4, .string (bs []), .string (bs v)] 83)
      have hp0 := BP.new w 4 [] v
      go_enter Tryz.func55, Tryz.ntmps55
      go_upto_region 1 with (fail)
      generalize w.alloc (.cells #[.int .i64 4, .string (bs []), .string (bs v)] 83) = v0 at *
      obtain ⟨k0, k1, k2⟩ := hp0.cells
      go_wp2_with fail
      refine (HM.out _).mono ?_
      rintro e w1 ⟨rfl, rfl⟩
      go_wp2_with fail
      go_returns
      exact ⟨by rw [HZ.out]; rfl, hb0⟩
  · have hnb : (n == []) = false := by simpa using hn0
    have HN := hid hn0
    clear hn0
    have HZ := hid (show z = 2 by rw [← H.out]; simp [cE, HN.out])
    clear H
    have hb0 := enew w (.cells #[.int .i64 4, .string (bs n), .string (bs v)] 83)
    have hp0 := BP.new w 4 n v
    go_enter Tryz.func55, Tryz.ntmps55
    go_upto_region 1 with (fail)
    generalize w.alloc (.cells #[.int .i64 4, .string (bs n), .string (bs v)] 83) = v0 at *
    obtain ⟨k0, k1, k2⟩ := hp0.cells
    go_wp2_with fail
    go_returns
    exact ⟨by rw [HZ.out]; rfl, hb0⟩
set_option maxRecDepth 100000 in
set_option maxHeartbeats 4000000 in
theorem rpcheck5_any (n v : List UInt8) (w : World) (hn : n.length ≤ 140737488351232) (hv : v.length ≤ 140737488351232) {z : Int} (H : Hid (cE 5 n v = z)) :
    Calls Tryz.prog 55 #[.agg #[.int .i64 5, .string (bs n), .string (bs v)]] w fun e w' => e = .returned (.int .i64 z) ∧ Below w.heap.size w w' := by
  have hnot := enot
  have HM := hid (fun w2 => rname_any n w2 hn)
  have HV := hid (fun w2 => rvalue_any v w2 hv)
  cases hb : nameB n
  · have HB := hid hb
    rw [hb] at HM
    clear hb
    have HZ := hid (show z = 7 by rw [← H.out]; simp [cE, HB.out])
    clear H
    have hb0 := enew w (.cells #[.int .i64 5, .string (bs n), .string (bs v)] 83)
    have hp0 := BP.new w 5 n v
    go_enter Tryz.func55, Tryz.ntmps55
    go_upto_region 1 with (fail)
    generalize w.alloc (.cells #[.int .i64 5, .string (bs n), .string (bs v)] 83) = v0 at *
    obtain ⟨k0, k1, k2⟩ := hp0.cells
    go_wp2_with fail
    refine (HM.out _).mono ?_
    rintro e w1 ⟨rfl, rfl⟩
    go_wp2_with fail
    go_returns
    exact ⟨by rw [HZ.out]; rfl, hb0⟩
  · have HB := hid hb
    rw [hb] at HM
    clear hb
    cases hc : valueB v
    · have HC := hid hc
      rw [hc] at HV
      clear hc
      have HZ := hid (show z = 15 by rw [← H.out]; simp [cE, HB.out, HC.out])
      clear H
      have hb0 := enew w (.cells #[.int .i64 5, .string (bs n), .string (bs v)] 83)
      have hp0 := BP.new w 5 n v
      go_enter Tryz.func55, Tryz.ntmps55
      go_upto_region 1 with (fail)
      generalize w.alloc (.cells #[.int .i64 5, .string (bs n), .string (bs v)] 83) = v0 at *
      obtain ⟨k0, k1, k2⟩ := hp0.cells
      go_wp2_with fail
      refine (HM.out _).mono ?_
      rintro e w1 ⟨rfl, rfl⟩
      go_wp2_with fail
      refine (HV.out _).mono ?_
      rintro e w1 ⟨rfl, rfl⟩
      go_wp2_with fail
      go_returns
      exact ⟨by rw [HZ.out]; rfl, hb0⟩
    · have HC := hid hc
      rw [hc] at HV
      clear hc
      have HZ := hid (show z = 0 by rw [← H.out]; simp [cE, HB.out, HC.out])
      clear H
      have hb0 := enew w (.cells #[.int .i64 5, .string (bs n), .string (bs v)] 83)
      have hp0 := BP.new w 5 n v
      go_enter Tryz.func55, Tryz.ntmps55
      go_upto_region 1 with (fail)
      generalize w.alloc (.cells #[.int .i64 5, .string (bs n), .string (bs v)] 83) = v0 at *
      obtain ⟨k0, k1, k2⟩ := hp0.cells
      go_wp2_with fail
      refine (HM.out _).mono ?_
      rintro e w1 ⟨rfl, rfl⟩
      go_wp2_with fail
      refine (HV.out _).mono ?_
      rintro e w1 ⟨rfl, rfl⟩
      go_wp2_with fail
      go_returns
      exact ⟨by rw [HZ.out]; rfl, hb0⟩
set_option maxRecDepth 100000 in
set_option maxHeartbeats 4000000 in
theorem rpcheck6_any (n v : List UInt8) (w : World) (hn : n.length ≤ 140737488351232) (hv : v.length ≤ 140737488351232) {z : Int} (H : Hid (cE 6 n v = z)) :
    Calls Tryz.prog 55 #[.agg #[.int .i64 6, .string (bs n), .string (bs v)]] w fun e w' => e = .returned (.int .i64 z) ∧ Below w.heap.size w w' := by
  have hnot := enot
  by_cases hv0 : v = []
  · subst hv0
    have HM := hid (fun w2 => rname_any n w2 hn)
    cases hb : nameB n
    · have HB := hid hb
      rw [hb] at HM
      clear hb
      have HZ := hid (show z = 7 by rw [← H.out]; simp [cE, HB.out])
      clear H
      have hb0 := enew w (.cells #[.int .i64 6, .string (bs n), .string (bs [])] 83)
      have hp0 := BP.new w 6 n []
      go_enter Tryz.func55, Tryz.ntmps55
      go_upto_region 1 with (fail)
      generalize w.alloc (.cells #[.int .i64 6, .string (bs n), .string (bs [])] 83) = v0 at *
      obtain ⟨k0, k1, k2⟩ := hp0.cells
      go_wp2_with fail
      refine (HM.out _).mono ?_
      rintro e w1 ⟨rfl, rfl⟩
      go_wp2_with fail
      go_returns
      exact ⟨by rw [HZ.out]; rfl, hb0⟩
    · have HB := hid hb
      rw [hb] at HM
      clear hb
      have HZ := hid (show z = 0 by rw [← H.out]; simp [cE, HB.out])
      clear H
      have hb0 := enew w (.cells #[.int .i64 6, .string (bs n), .string (bs [])] 83)
      have hp0 := BP.new w 6 n []
      go_enter Tryz.func55, Tryz.ntmps55
      go_upto_region 1 with (fail)
      generalize w.alloc (.cells #[.int .i64 6, .string (bs n), .string (bs [])] 83) = v0 at *
      obtain ⟨k0, k1, k2⟩ := hp0.cells
      go_wp2_with fail
      refine (HM.out _).mono ?_
      rintro e w1 ⟨rfl, rfl⟩
      go_wp2_with fail
      go_returns
      exact ⟨by rw [HZ.out]; rfl, hb0⟩
  · have hvb : (v == []) = false := by simpa using hv0
    have HN := hid hv0
    clear hv0
    have HZ := hid (show z = 2 by rw [← H.out]; simp [cE, HN.out])
    clear H
    have hb0 := enew w (.cells #[.int .i64 6, .string (bs n), .string (bs v)] 83)
    have hp0 := BP.new w 6 n v
    go_enter Tryz.func55, Tryz.ntmps55
    go_upto_region 1 with (fail)
    generalize w.alloc (.cells #[.int .i64 6, .string (bs n), .string (bs v)] 83) = v0 at *
    obtain ⟨k0, k1, k2⟩ := hp0.cells
    go_wp2_with fail
    go_returns
    exact ⟨by rw [HZ.out]; rfl, hb0⟩
theorem cE_no' {k : Int} (h : ¬ (1 ≤ k ∧ k ≤ 6)) (n v : List UInt8) : cE k n v = 2 := by
  unfold cE
  rw [if_neg (by omega), if_neg (by omega), if_neg (by omega), if_neg (by omega), if_neg (by omega), if_neg (by omega)]
set_option maxRecDepth 100000 in
set_option maxHeartbeats 4000000 in
theorem rpcheckno_any (k : Int) (n v : List UInt8) (w : World) (h : ¬ (1 ≤ k ∧ k ≤ 6)) {z : Int} (H : Hid (cE k n v = z)) :
    Calls Tryz.prog 55 #[.agg #[.int .i64 k, .string (bs n), .string (bs v)]] w fun e w' => e = .returned (.int .i64 z) ∧ Below w.heap.size w w' := by
  have hnot := enot
  by_cases h1 : k < 1
  ·
    have HZ := hid (show z = 2 by rw [← H.out]; exact cE_no' h _ _)
    clear H
    have hb0 := enew w (.cells #[.int .i64 k, .string (bs n), .string (bs v)] 83)
    have hp0 := BP.new w k n v
    go_enter Tryz.func55, Tryz.ntmps55
    go_upto_region 1 with (fail)
    generalize w.alloc (.cells #[.int .i64 k, .string (bs n), .string (bs v)] 83) = v0 at *
    obtain ⟨k0, k1, k2⟩ := hp0.cells
    go_wp2_with fail
    go_returns
    exact ⟨by rw [HZ.out]; rfl, hb0⟩
  · have h6 : 6 < k := by omega
    have HZ := hid (show z = 2 by rw [← H.out]; exact cE_no' h _ _)
    clear H
    have hb0 := enew w (.cells #[.int .i64 k, .string (bs n), .string (bs v)] 83)
    have hp0 := BP.new w k n v
    go_enter Tryz.func55, Tryz.ntmps55
    go_upto_region 1 with (fail)
    generalize w.alloc (.cells #[.int .i64 k, .string (bs n), .string (bs v)] 83) = v0 at *
    obtain ⟨k0, k1, k2⟩ := hp0.cells
    go_wp2_with fail
    go_returns
    exact ⟨by rw [HZ.out]; rfl, hb0⟩
theorem rpcheck_any (k : Int) (n v : List UInt8) (w : World) (hn : n.length ≤ 140737488351232) (hv : v.length ≤ 140737488351232) {z : Int} (H : Hid (cE k n v = z)) :
    Calls Tryz.prog 55 #[.agg #[.int .i64 k, .string (bs n), .string (bs v)]] w fun e w' => e = .returned (.int .i64 z) ∧ Below w.heap.size w w' := by
  by_cases h : 1 ≤ k ∧ k ≤ 6
  · have hk : k = 1 ∨ k = 2 ∨ k = 3 ∨ k = 4 ∨ k = 5 ∨ k = 6 := by omega
    rcases hk with rfl | rfl | rfl | rfl | rfl | rfl
    · exact rpcheck1_any n v w hn hv H
    · exact rpcheck2_any n v w hn hv H
    · exact rpcheck3_any n v w hn hv H
    · exact rpcheck4_any n v w hn hv H
    · exact rpcheck5_any n v w hn hv H
    · exact rpcheck6_any n v w hn hv H
  · exact rpcheckno_any k n v w h H
end Go.Proofs.YtelglcakekgdeaaGreatDoor
namespace Go.Proofs.YtelglcakekgdeaaGreatDoor
set_option linter.unusedVariables false
set_option linter.unusedSimpArgs false
open Go.RowKit Go.Joins

/-- Whether a request is small enough to be worked on. -/
def fewR (m h p : List UInt8) (L : List Hd) (b : List UInt8) : Bool := decide (m.length + h.length + p.length + b.length ≤ 2000) && (decide (L.length ≤ 40) && L.all fun h => decide (h.1.length + h.2.length ≤ 400))
theorem fewR_len {m h p : List UInt8} {L : List Hd} {b : List UInt8} (hf : fewR m h p L b = true) : L.length ≤ 40 := by
  simp [fewR] at hf; exact hf.2.1
end Go.Proofs.YtelglcakekgdeaaGreatDoor
