/- Texts put together: Ev Ea Eb Ec Ed Ee Eg Eo. -/
import Derived.Test.YtgkegpdmidcmoaaG02
import Derived.Test.YtgkegpdmidcmoaaG09
import Derived.Test.YtgkegpdmidcmoaaG13
import Derived.Handy
import Derived.Deep.Cut
import Derived.Deep.RegionHeld3
import Derived.Laws.EntriesVeiled
import Derived.Test.YtgkegpdmidcmoaaG06
namespace Go.Proofs.Ytgkegpdmidcmoaa
set_option linter.unusedVariables false
set_option linter.unusedSimpArgs false
open Go.RowKit Go.Joins

theorem enew (w : World) (o : Obj) : Below w.heap.size w (w.alloc o) := (Below.refl _ _).alloc (Nat.le_refl _) _
theorem estep {a b c : World} (h : Below a.heap.size a b) (k : Below b.heap.size b c) : Below a.heap.size a c := h.trans (k.mono h.size)
theorem enot (x : Bool) (w : World) : (Op.unary .not (.bool x)).run Try.prog w = .ok (.bool (!x)) w := rfl
/-- A block of cells. -/
def Bk (w : World) (g : Nat) (t : TypeId) (cs : Array Value) : Prop := w.heap[g]? = some (.cells cs t (0, 0))
section
variable {w w' : World} {g : Nat} {t : TypeId} {cs : Array Value}
theorem Bk.lt (h : Bk w g t cs) : g < w.heap.size := by
  rcases Nat.lt_or_ge g w.heap.size with hlt | hge
  · exact hlt
  · unfold Bk at h; rw [Array.getElem?_eq_none hge] at h; cases h
theorem Bk.cell (h : Bk w g t cs) (i : Nat) : w.cell? ⟨g, i, none⟩ = cs[i]? := cell_of_row w g i cs t (0, 0) h
theorem Bk.frozen (h : Bk w g t cs) (i : Nat) : w.frozen? ⟨g, i, none⟩ = false := by
  unfold Bk at h
  simp [World.frozen?, h]
theorem Bk.new (w : World) (t : TypeId) (cs : Array Value) : Bk (w.alloc (.cells cs t)) w.heap.size t cs := heap_alloc_new w _
theorem Bk.drew (h : Bk w g t cs) : Bk w.drew g t cs := h
theorem Bk.alloc (h : Bk w g t cs) (o : Obj) : Bk (w.alloc o) g t cs := (Below.heap_alloc w o g h.lt).trans h
theorem Bk.set_ (h : Bk w g t cs) (i : Nat) (u : Value) : Bk (w.setCell ⟨g, i, none⟩ u) g t (cs.setIfInBounds i u) := by
  unfold Bk at h ⊢
  simp [World.setCell, Array.getElem?_modify, h]
theorem Bk.below {B : Nat} (h : Bk w g t cs) (hb : Below B w w') (hg : g < B) : Bk w' g t cs := (hb.block g hg).trans h
theorem Bk.up (h : Bk w g t cs) (hb : Below w.heap.size w w') : Bk w' g t cs := h.below hb h.lt
end
/-- A variable that holds a request. -/
def BQ (w : World) (g : Nat) (m h p : List UInt8) (x : Value) (b : List UInt8) : Prop := Bk w g 36 #[.string (bs m), .string (bs h), .string (bs p), x, .string (bs b)]
theorem BQ.new (w : World) (m h p : List UInt8) (x : Value) (b : List UInt8) : BQ (w.alloc (.cells #[.string (bs m), .string (bs h), .string (bs p), x, .string (bs b)] 36)) w.heap.size m h p x b := Bk.new _ _ _
theorem BQ.up {w w' : World} {g : Nat} {m h p b : List UInt8} {x : Value} (k : BQ w g m h p x b) (hb : Below w.heap.size w w') : BQ w' g m h p x b := Bk.up k hb
theorem BQ.cells {w : World} {g : Nat} {m h p b : List UInt8} {x : Value} (k : BQ w g m h p x b) : w.cell? ⟨g, 0, none⟩ = some (.string (bs m)) ∧ w.cell? ⟨g, 1, none⟩ = some (.string (bs h)) ∧ w.cell? ⟨g, 2, none⟩ = some (.string (bs p)) ∧ w.cell? ⟨g, 3, none⟩ = some x ∧ w.cell? ⟨g, 4, none⟩ = some (.string (bs b)) := ⟨Bk.cell k 0, Bk.cell k 1, Bk.cell k 2, Bk.cell k 3, Bk.cell k 4⟩
/-- A variable that holds a predicate. -/
def BP (w : World) (g : Nat) (k : Int) (n v : List UInt8) : Prop := Bk w g 69 #[.int .i64 k, .string (bs n), .string (bs v)]
theorem BP.new (w : World) (k : Int) (n v : List UInt8) : BP (w.alloc (.cells #[.int .i64 k, .string (bs n), .string (bs v)] 69)) w.heap.size k n v := Bk.new _ _ _
theorem BP.up {w w' : World} {g : Nat} {k : Int} {n v : List UInt8} (h : BP w g k n v) (hb : Below w.heap.size w w') : BP w' g k n v := Bk.up h hb
theorem BP.cells {w : World} {g : Nat} {k : Int} {n v : List UInt8} (h : BP w g k n v) : w.cell? ⟨g, 0, none⟩ = some (.int .i64 k) ∧ w.cell? ⟨g, 1, none⟩ = some (.string (bs n)) ∧ w.cell? ⟨g, 2, none⟩ = some (.string (bs v)) := ⟨Bk.cell h 0, Bk.cell h 1, Bk.cell h 2⟩
/-- A slice of headers, as a value that can be read. -/
def HV (w : World) (x : Value) (L : List Hd) : Prop := ∃ A c, x = .slice A L.length c ∧ HReads w (· < w.heap.size) A L
theorem HV.up {w w' : World} {x : Value} {L : List Hd} (h : HV w x L) (hb : Below w.heap.size w w') : HV w' x L := by
  obtain ⟨A, c, e, h1⟩ := h
  exact ⟨A, c, e, h1.later' hb⟩
/-- The cells of a slice of predicates, in a block that N allows. -/
def PX (w : World) (N : Nat → Prop) (A : Option Addr) (L : List Pd) : Prop :=
  ∀ k (h : k < L.length), ∃ b o, A = some ⟨b, o, none⟩ ∧ N b ∧ w.cell? ⟨b, o + k * 3, none⟩ = some (.int .i64 L[k].k) ∧ w.cell? ⟨b, o + k * 3 + 1, none⟩ = some (.string (bs L[k].n)) ∧ w.cell? ⟨b, o + k * 3 + 2, none⟩ = some (.string (bs L[k].v))
theorem PX.imp {w : World} {N M : Nat → Prop} {A : Option Addr} {L : List Pd} (h : PX w N A L) (hn : ∀ b, N b → M b) : PX w M A L := by
  intro k hk
  obtain ⟨b, o, e, h1, h2⟩ := h k hk
  exact ⟨b, o, e, hn _ h1, h2⟩
theorem PX.same {w w' : World} {N : Nat → Prop} {A : Option Addr} {L : List Pd} (h : PX w N A L) (hs : ∀ b, N b → w'.heap[b]? = w.heap[b]?) : PX w' N A L := by
  intro k hk
  obtain ⟨b, o, e, h1, c0, c1, c2⟩ := h k hk
  have hx : ∀ i, w'.cell? ⟨b, i, none⟩ = w.cell? ⟨b, i, none⟩ := fun i => World.cell?_of_block (hs b h1)
  exact ⟨b, o, e, h1, (hx _).trans c0, (hx _).trans c1, (hx _).trans c2⟩
theorem PX.up {w w' : World} {A : Option Addr} {L : List Pd} (h : PX w (· < w.heap.size) A L) (hb : Below w.heap.size w w') : PX w' (· < w'.heap.size) A L :=
  (h.same fun b hB => hb.block b hB).imp fun b hB => Nat.lt_of_lt_of_le hB hb.size
theorem PX.nil (w : World) (N : Nat → Prop) (A : Option Addr) : PX w N A [] := fun k hk => absurd hk (by simp)
/-- A slice of predicates, as a value that can be read. -/
def PV (w : World) (N : Nat → Prop) (x : Value) (L : List Pd) : Prop := ∃ A c, x = .slice A L.length c ∧ PX w N A L ∧ (A = none → c = 0) ∧ L.length ≤ c ∧ L.length ≤ 9223372036854775807
theorem PV.imp {w : World} {N M : Nat → Prop} {x : Value} {L : List Pd} (h : PV w N x L) (hn : ∀ b, N b → M b) : PV w M x L := by
  obtain ⟨A, c, e, h1, h2⟩ := h
  exact ⟨A, c, e, h1.imp hn, h2⟩
theorem PV.same {w w' : World} {N : Nat → Prop} {x : Value} {L : List Pd} (h : PV w N x L) (hs : ∀ b, N b → w'.heap[b]? = w.heap[b]?) : PV w' N x L := by
  obtain ⟨A, c, e, h1, h2⟩ := h
  exact ⟨A, c, e, h1.same hs, h2⟩
theorem PV.up {w w' : World} {x : Value} {L : List Pd} (h : PV w (· < w.heap.size) x L) (hb : Below w.heap.size w w') : PV w' (· < w'.heap.size) x L := by
  obtain ⟨A, c, e, h1, h2⟩ := h
  exact ⟨A, c, e, h1.up hb, h2⟩
theorem PV.nil (w : World) (N : Nat → Prop) : PV w N (.slice none 0 0) [] := ⟨none, 0, rfl, PX.nil _ _ _, fun _ => rfl, Nat.le_refl _, by simp⟩
end Go.Proofs.Ytgkegpdmidcmoaa
namespace Go.Proofs.Ytgkegpdmidcmoaa
set_option linter.unusedVariables false
set_option linter.unusedSimpArgs false
open Go.RowKit Go.Joins

theorem eprefix_any (s p : List UInt8) (w : World) :
    Calls Try.prog 57 #[.string (bs s), .string (bs p)] w fun e w' => e = .returned (.bool (List.isPrefixOf p s)) ∧ w = w' :=
  (Try.strings_HasPrefix (bs s) (bs p) w).mono fun e w' ⟨a, b⟩ => ⟨by rw [bs_data, bs_data] at a; exact a, b.symm⟩
set_option maxHeartbeats 1600000 in
theorem hasMethod_any (m h p b : List UInt8) (x : Value) (k : Int) (n v : List UInt8) (w : World) :
    Calls Try.prog 48 #[.agg #[.string (bs m), .string (bs h), .string (bs p), x, .string (bs b)], .agg #[.int .i64 k, .string (bs n), .string (bs v)]] w fun e w' => e = .returned (.bool (m == v)) ∧ Below w.heap.size w w' := by
  have hb := estep (enew w (.cells #[.string (bs m), .string (bs h), .string (bs p), x, .string (bs b)] 36)) (enew _ (.cells #[.int .i64 k, .string (bs n), .string (bs v)] 69))
  go_enter Try.func48, Try.ntmps48
  go_wp2_with fail
  go_ret
  exact ⟨rfl, hb⟩
set_option maxHeartbeats 1600000 in
theorem hasHost_any (m h p b : List UInt8) (x : Value) (k : Int) (n v : List UInt8) (w : World) :
    Calls Try.prog 50 #[.agg #[.string (bs m), .string (bs h), .string (bs p), x, .string (bs b)], .agg #[.int .i64 k, .string (bs n), .string (bs v)]] w fun e w' => e = .returned (.bool (h == v)) ∧ Below w.heap.size w w' := by
  have hb := estep (enew w (.cells #[.string (bs m), .string (bs h), .string (bs p), x, .string (bs b)] 36)) (enew _ (.cells #[.int .i64 k, .string (bs n), .string (bs v)] 69))
  go_enter Try.func50, Try.ntmps50
  go_wp2_with fail
  go_ret
  exact ⟨rfl, hb⟩
set_option maxHeartbeats 1600000 in
theorem hasPath_any (m h p b : List UInt8) (x : Value) (k : Int) (n v : List UInt8) (w : World) :
    Calls Try.prog 52 #[.agg #[.string (bs m), .string (bs h), .string (bs p), x, .string (bs b)], .agg #[.int .i64 k, .string (bs n), .string (bs v)]] w fun e w' => e = .returned (.bool (p == v)) ∧ Below w.heap.size w w' := by
  have hb := estep (enew w (.cells #[.string (bs m), .string (bs h), .string (bs p), x, .string (bs b)] 36)) (enew _ (.cells #[.int .i64 k, .string (bs n), .string (bs v)] 69))
  go_enter Try.func52, Try.ntmps52
  go_wp2_with fail
  go_ret
  exact ⟨rfl, hb⟩
set_option maxHeartbeats 1600000 in
theorem hasPrefix_any (m h p b : List UInt8) (x : Value) (k : Int) (n v : List UInt8) (w : World) :
    Calls Try.prog 53 #[.agg #[.string (bs m), .string (bs h), .string (bs p), x, .string (bs b)], .agg #[.int .i64 k, .string (bs n), .string (bs v)]] w fun e w' => e = .returned (.bool (List.isPrefixOf v p)) ∧ Below w.heap.size w w' := by
  have hb := estep (enew w (.cells #[.string (bs m), .string (bs h), .string (bs p), x, .string (bs b)] 36)) (enew _ (.cells #[.int .i64 k, .string (bs n), .string (bs v)] 69))
  go_enter Try.func53, Try.ntmps53
  go_wp2_with fail
  refine (eprefix_any p v _).mono ?_
  rintro e w1 ⟨rfl, rfl⟩
  go_wp2_with fail
  go_ret
  exact ⟨rfl, hb⟩
/-- Where a header stands. -/
def idxV (L : List Hd) (n v : List UInt8) : Int := if L.findIdx ((n, v) == ·) < L.length then (L.findIdx ((n, v) == ·) : Int) else -1
theorem idxV_ge (L : List Hd) (n v : List UInt8) : decide (0 ≤ idxV L n v) = memH L n v := by
  unfold memH
  rw [Bool.eq_iff_iff, decide_eq_true_eq, List.contains_iff_mem, idxV]
  constructor
  · intro h
    by_cases h1 : L.findIdx ((n, v) == ·) < L.length
    · have := List.findIdx_getElem (w := h1)
      have e : (n, v) = L[L.findIdx ((n, v) == ·)] := by simpa using this
      rw [e]; exact List.getElem_mem _
    · rw [if_neg h1] at h; omega
  · intro h
    have : L.findIdx ((n, v) == ·) < L.length := List.findIdx_lt_length_of_exists ⟨(n, v), h, by simp⟩
    rw [if_pos this]; omega
theorem sameHd_beq (x y : Hd) : sameHd x y = (x == y) := by
  unfold sameHd
  rw [Bool.eq_iff_iff]; simp
set_option maxRecDepth 100000 in
set_option maxHeartbeats 2000000 in
theorem indexHd_any (A : Option Addr) (cap : Nat) (L : List Hd) (n v : List UInt8) (w : World) (hR : HReads w (· < w.heap.size) A L) (hl : L.length ≤ 9223372036854775807) :
    Calls Try.prog 62 #[.slice A L.length cap, .agg #[.string (bs n), .string (bs v)]] w fun e w' => e = .returned (.int .i64 (idxV L n v)) ∧ Below w.heap.size w w' := by
  have hb0 := enew w (.cells #[.string (bs n), .string (bs v)] 55)
  have hs0 := Bk.new w 55 #[.string (bs n), .string (bs v)]
  have HR := hid (hR.later' hb0)
  clear hR
  go_enter Try.func62, Try.ntmps62
  go_upto_region 1 with (fail)
  generalize w.alloc (.cells #[.string (bs n), .string (bs v)] 55) = v0 at *
  have HB0 := hid hb0
  have HS0 := hid hs0
  clear hb0 hs0
  go_wp2_with fail
  go_loopw [8] (fun i wr => ∃ k : Nat, k ≤ L.length ∧ i = .int .i64 k ∧ Hid ((∀ j (h : j < L.length), j < k → ((n, v) == L[j]) = false) ∧ Below v0.heap.size v0 wr)) (fun i _ => L.length - (intOf i).toNat)
  case atStart => exact ⟨0, by omega, rfl, hid ⟨fun j h h' => absurd h' (by omega), Below.refl _ _⟩⟩
  case round =>
    obtain ⟨k, hk, rfl, HK⟩ := hrel
    by_cases hlt : k < L.length
    · obtain ⟨bb, o, rfl, hB, hc0, hc1⟩ := (HR.out.below HK.out.2) k hlt
      have HN := hid (show ∀ j (h : j < L.length), j = k → L[j] = L[k] from fun j h e => by subst e; rfl)
      have HI := hid (show ((n, v) == L[k]) = true → L.findIdx ((n, v) == ·) = k from fun he => findIdx_hit ((n, v) == ·) L k hlt HK.out.1 he)
      have q0 : wr.cell? ⟨w.heap.size, 0, none⟩ = some (.string (bs n)) := Bk.cell (HS0.out.up HK.out.2) 0
      have q1 : wr.cell? ⟨w.heap.size, 1, none⟩ = some (.string (bs v)) := Bk.cell (HS0.out.up HK.out.2) 1
      generalize L[k] = y at *
      obtain ⟨y0, y1⟩ := y
      have hi0 : (0 : Int) ≤ (k : Int) := by omega
      have hi1 : (k : Int) < (L.length : Int) := by omega
      have hg1 : ∀ (a b : Operand) (xs ys : Array Value) (w : World), (eqGuard .eql 55 a b (.agg xs) (.agg ys)).run Try.prog w = .ok () w := fun a b xs ys w => hd_guard .eql a b xs ys w
      have hg2 : ∀ w : World, (binOp .eql 55 (.agg #[.string (bs n), .string (bs v)]) (.agg #[.string (bs y0), .string (bs y1)])).run Try.prog w = .ok (.bool (sameHd (n, v) (y0, y1))) w := fun w => hd_eql w (n, v) (y0, y1)
      cases hs : sameHd (n, v) (y0, y1)
      · have HS := hid (show ((n, v) == ((y0, y1) : Hd)) = false by rw [← sameHd_beq]; exact hs)
        rw [hs] at hg2
        clear hs
        go_wp2_with fail
        go_quiet (fail)
        go_wp2_with fail
        go_roundw
        case rel => exact ⟨k + 1, by omega, by go_num, hid ⟨fun j h h' => by
          by_cases e : j = k
          · rw [HN.out j h e]; exact HS.out
          · exact HK.out.1 j h (by omega), below_drewN HK.out.2 _⟩⟩
        case measure => simp [intOf]; omega
      · have HS := hid (show ((n, v) == ((y0, y1) : Hd)) = true by rw [← sameHd_beq]; exact hs)
        rw [hs] at hg2
        clear hs
        go_wp2_with fail
        go_quiet (fail)
        go_wp2_with fail
        go_ret
        exact ⟨by rw [idxV, HI.out HS.out, if_pos hlt]; rfl, estep HB0.out (below_drewN HK.out.2 _)⟩
    · obtain rfl : k = L.length := by omega
      have HI := hid (findIdx_miss ((n, v) == ·) L fun j hj => HK.out.1 j hj hj)
      go_wp2_with fail
      go_ret
      exact ⟨by rw [idxV, HI.out, if_neg (by omega)]; rfl, estep HB0.out HK.out.2⟩
set_option maxHeartbeats 1600000 in
theorem containsHd_any (A : Option Addr) (cap : Nat) (L : List Hd) (n v : List UInt8) (w : World) (hR : HReads w (· < w.heap.size) A L) (hl : L.length ≤ 9223372036854775807) :
    Calls Try.prog 59 #[.slice A L.length cap, .agg #[.string (bs n), .string (bs v)]] w fun e w' => e = .returned (.bool (memH L n v)) ∧ Below w.heap.size w w' := by
  have hb0 := enew w (.cells #[.string (bs n), .string (bs v)] 55)
  have HX := hid (indexHd_any A cap L n v _ (hR.later' hb0) hl)
  have HG := hid (idxV_ge L n v)
  clear hR
  go_enter Try.func59, Try.ntmps59
  go_wp2_with fail
  refine HX.out.mono ?_
  rintro e w1 ⟨rfl, hb1⟩
  go_wp2_with fail
  go_ret
  exact ⟨by rw [← HG.out]; rfl, estep hb0 hb1⟩
set_option maxHeartbeats 1600000 in
theorem hasHead_any (m h p b : List UInt8) (x : Value) (L : List Hd) (k : Int) (n v : List UInt8) (w : World) (hx : HV w x L) (hl : L.length ≤ 1000000) :
    Calls Try.prog 55 #[.agg #[.string (bs m), .string (bs h), .string (bs p), x, .string (bs b)], .agg #[.int .i64 k, .string (bs n), .string (bs v)]] w fun e w' => e = .returned (.bool (memH L n v)) ∧ Below w.heap.size w w' := by
  have hb := estep (enew w (.cells #[.string (bs m), .string (bs h), .string (bs p), x, .string (bs b)] 36)) (enew _ (.cells #[.int .i64 k, .string (bs n), .string (bs v)] 69))
  obtain ⟨A, c, rfl, hR⟩ := hx
  have HX := hid (fun w2 (hR2 : HReads w2 (· < w2.heap.size) A L) => containsHd_any A c L n v w2 hR2 (by omega))
  have HR := hid (hR.later' hb)
  clear hR
  go_enter Try.func55, Try.ntmps55
  go_wp2_with fail
  refine (HX.out _ HR.out).mono ?_
  rintro e w1 ⟨rfl, hb1⟩
  go_wp2_with fail
  go_ret
  exact ⟨rfl, estep hb hb1⟩
set_option maxHeartbeats 1600000 in
theorem hasName_any (m h p b : List UInt8) (x : Value) (L : List Hd) (k : Int) (n v : List UInt8) (w : World) (hx : HV w x L) (hl : L.length ≤ 1000000) :
    Calls Try.prog 56 #[.agg #[.string (bs m), .string (bs h), .string (bs p), x, .string (bs b)], .agg #[.int .i64 k, .string (bs n), .string (bs v)]] w fun e w' => e = .returned (.bool (getH L n).2) ∧ Below w.heap.size w w' := by
  have hb := estep (enew w (.cells #[.string (bs m), .string (bs h), .string (bs p), x, .string (bs b)] 36)) (enew _ (.cells #[.int .i64 k, .string (bs n), .string (bs v)] 69))
  obtain ⟨A, c, rfl, hR⟩ := hx
  obtain ⟨g1, g2, hg⟩ : ∃ a b, getH L n = (a, b) := ⟨_, _, rfl⟩
  have HX := hid (fun w2 (hR2 : HReads w2 (· < w2.heap.size) A L) => hget_any A c L n w2 hR2 hl)
  rw [hg] at HX
  rw [hg]
  clear hg
  have HR := hid (hR.later' hb)
  clear hR
  go_enter Try.func56, Try.ntmps56
  go_wp2_with fail
  refine (HX.out _ HR.out).mono ?_
  rintro e w1 ⟨rfl, hb1⟩
  go_wp2_with fail
  go_ret
  exact ⟨rfl, estep hb hb1⟩
end Go.Proofs.Ytgkegpdmidcmoaa
namespace Go.Proofs.Ytgkegpdmidcmoaa
set_option linter.unusedVariables false
set_option linter.unusedSimpArgs false
open Go.RowKit Go.Joins

def pdv (k : Int) (n v : List UInt8) : Value := .agg #[.int .i64 k, .string (bs n), .string (bs v)]
/-- What a function does that gives a new request what a predicate asks for. -/
def GiveC (G : Nat) (k : Int) (n v : List UInt8) (m' h' p' : List UInt8) (L' : List Hd) : Prop :=
  ∀ (w : World) (g : Nat), BQ w g [65] [97] [47] (.slice none 0 0) [] →
    Calls Try.prog G #[.pointer (some ⟨g, 0, none⟩), .agg #[.int .i64 k, .string (bs n), .string (bs v)]] w fun e w' => e = .returned (.tuple #[]) ∧ ∃ x, BQ w' g m' h' p' x [] ∧ HV w' x L' ∧ Below g w w'
set_option maxHeartbeats 1600000 in
theorem giveMethod_any (k : Int) (n v : List UInt8) : GiveC 47 k n v v [97] [47] [] := by
  intro w g hq
  have hb0 := enew w (.cells #[.int .i64 k, .string (bs n), .string (bs v)] 69)
  have hp0 := BP.new w k n v
  have hq0 := hq.up hb0
  have hgl := Bk.lt hq
  go_enter Try.func47, Try.ntmps47
  go_upto_region 1 with (fail)
  generalize w.alloc (.cells #[.int .i64 k, .string (bs n), .string (bs v)] 69) = v0 at *
  obtain ⟨k0, k1, k2⟩ := hp0.cells
  obtain ⟨q0, q1, q2, q3, q4⟩ := hq0.cells
  have f0 := Bk.frozen hq0 0
  have HQ := hid hq0
  have HB := hid hb0
  clear hq0 hb0 hp0 hq
  go_wp2_with fail
  go_end0
  exact ⟨rfl, _, Bk.set_ HQ.out 0 (.string (bs v)), ⟨none, 0, rfl, fun j hj => absurd hj (by simp)⟩, (HB.out.mono (Nat.le_of_lt hgl)).setCell (Nat.le_refl g) _⟩
set_option maxHeartbeats 1600000 in
theorem giveHost_any (k : Int) (n v : List UInt8) : GiveC 49 k n v [65] v [47] [] := by
  intro w g hq
  have hb0 := enew w (.cells #[.int .i64 k, .string (bs n), .string (bs v)] 69)
  have hp0 := BP.new w k n v
  have hq0 := hq.up hb0
  have hgl := Bk.lt hq
  go_enter Try.func49, Try.ntmps49
  go_upto_region 1 with (fail)
  generalize w.alloc (.cells #[.int .i64 k, .string (bs n), .string (bs v)] 69) = v0 at *
  obtain ⟨k0, k1, k2⟩ := hp0.cells
  obtain ⟨q0, q1, q2, q3, q4⟩ := hq0.cells
  have f1 := Bk.frozen hq0 1
  have HQ := hid hq0
  have HB := hid hb0
  clear hq0 hb0 hp0 hq
  go_wp2_with fail
  go_end0
  exact ⟨rfl, _, Bk.set_ HQ.out 1 (.string (bs v)), ⟨none, 0, rfl, fun j hj => absurd hj (by simp)⟩, (HB.out.mono (Nat.le_of_lt hgl)).setCell (Nat.le_refl g) _⟩
set_option maxHeartbeats 1600000 in
theorem givePath_any (k : Int) (n v : List UInt8) : GiveC 51 k n v [65] [97] v [] := by
  intro w g hq
  have hb0 := enew w (.cells #[.int .i64 k, .string (bs n), .string (bs v)] 69)
  have hp0 := BP.new w k n v
  have hq0 := hq.up hb0
  have hgl := Bk.lt hq
  go_enter Try.func51, Try.ntmps51
  go_upto_region 1 with (fail)
  generalize w.alloc (.cells #[.int .i64 k, .string (bs n), .string (bs v)] 69) = v0 at *
  obtain ⟨k0, k1, k2⟩ := hp0.cells
  obtain ⟨q0, q1, q2, q3, q4⟩ := hq0.cells
  have f2 := Bk.frozen hq0 2
  have HQ := hid hq0
  have HB := hid hb0
  clear hq0 hb0 hp0 hq
  go_wp2_with fail
  go_end0
  exact ⟨rfl, _, Bk.set_ HQ.out 2 (.string (bs v)), ⟨none, 0, rfl, fun j hj => absurd hj (by simp)⟩, (HB.out.mono (Nat.le_of_lt hgl)).setCell (Nat.le_refl g) _⟩
theorem HReads.same {w w' : World} {N : Nat → Prop} {A : Option Addr} {L : List Hd} (h : HReads w N A L) (hs : ∀ b, N b → w'.heap[b]? = w.heap[b]?) : HReads w' N A L := by
  intro k hk
  obtain ⟨b, o, e, h1, c0, c1⟩ := h k hk
  have hx : ∀ i, w'.cell? ⟨b, i, none⟩ = w.cell? ⟨b, i, none⟩ := fun i => World.cell?_of_block (hs b h1)
  exact ⟨b, o, e, h1, (hx _).trans c0, (hx _).trans c1⟩
theorem add_one (n v : List UInt8) (w : World) :
    Calls Try.prog 58 #[.slice none 0 0, .string (bs n), .string (bs v)] w fun e w' => ∃ A c, e = .returned (.slice A 1 c) ∧ HReads w' (fun b => w.heap.size ≤ b ∧ b < w'.heap.size) A [(n, v)] ∧ Below w.heap.size w w' :=
  (hadd_any none 0 [] n v w (fun j hj => absurd hj (by simp)) (fun _ => rfl) (by simp)).mono fun e w' ⟨r, h1, h2, h3⟩ => by
    obtain ⟨A, c, rfl, h4⟩ := HB.reads h2
    exact ⟨A, c, h1, h4, h3⟩
set_option maxRecDepth 100000 in
set_option maxHeartbeats 4000000 in
theorem giveHead_any (k : Int) (n v : List UInt8) : GiveC 54 k n v [65] [97] [47] [(n, v)] := by
  intro w g hq
  have hb0 := enew w (.cells #[.int .i64 k, .string (bs n), .string (bs v)] 69)
  have hp0 := BP.new w k n v
  have hq0 := hq.up hb0
  have hgl := Bk.lt hq
  have HADD := hid (fun w2 => add_one n v w2)
  go_enter Try.func54, Try.ntmps54
  go_upto_region 1 with (fail)
  generalize w.alloc (.cells #[.int .i64 k, .string (bs n), .string (bs v)] 69) = v0 at *
  obtain ⟨k0, k1, k2⟩ := hp0.cells
  obtain ⟨q0, q1, q2, q3, q4⟩ := hq0.cells
  have f3 := Bk.frozen hq0 3
  have hgl2 := Bk.lt hq0
  have HQ := hid hq0
  have HB := hid hb0
  clear hq0 hb0 hp0 hq
  go_region_with (go_at_call 58; refine (HADD.out _).mono ?_; rintro e w9 ⟨A, c, rfl, hr, hb9⟩; have z3 : w9.cell? ⟨g, 3, none⟩ = some (.slice none 0 0) := (hb9.cell (p := ⟨g, 3, none⟩) hgl2).trans q3; have y3 : w9.frozen? ⟨g, 3, none⟩ = false := (hb9.frozen (p := ⟨g, 3, none⟩) hgl2).trans f3)
  all_goals
    have hb9 : Below v0.heap.size v0 w9 := (Below.refl _ v0).drew.trans hb9
    go_wp2_with fail
    go_end0
    refine ⟨rfl, .slice A 1 c, Bk.set_ (Bk.up HQ.out hb9) 3 _, ⟨A, c, rfl, ((hr.same fun b hb => Below.heap_setCell _ _ _ b (by have h1 : v0.heap.size ≤ b := hb.1; show b ≠ g; omega)).imp fun b hb => by show b < _; rw [World.size_setCell]; exact hb.2)⟩, ?_⟩
    exact ((HB.out.mono (Nat.le_of_lt hgl)).trans (hb9.mono (Nat.le_of_lt hgl2))).setCell (Nat.le_refl g) _

/-- Whether one has what is asked for. -/
def HasC (H : Nat) (k : Int) : Prop :=
  (∀ args w, (callFunc H args).run Try.prog w = .ok (.enter H args) w) ∧ ∀ (m h p b : List UInt8) (x : Value) (L : List Hd) (n v : List UInt8) (w : World), HV w x L → L.length ≤ 1000000 →
    Calls Try.prog H #[.agg #[.string (bs m), .string (bs h), .string (bs p), x, .string (bs b)], .agg #[.int .i64 k, .string (bs n), .string (bs v)]] w fun e w' => e = .returned (.bool (mE k n v m h p L)) ∧ Below w.heap.size w w'
def giveS (k : Int) (n v : List UInt8) : List UInt8 × List UInt8 × List UInt8 × List Hd :=
  if k = 1 then (v, [97], [47], []) else if k = 2 then ([65], v, [47], []) else if k = 3 ∨ k = 4 then ([65], [97], v, []) else ([65], [97], [47], [(n, v)])
def ndK (k : Int) : Bool := decide (k = 5 ∨ k = 6)
def vlK (k : Int) : Bool := decide (k ≠ 6)
def GiveD (G : Nat) (k : Int) : Prop :=
  (∀ args w, (callFunc G args).run Try.prog w = .ok (.enter G args) w) ∧ ∀ n v, GiveC G k n v (giveS k n v).1 (giveS k n v).2.1 (giveS k n v).2.2.1 (giveS k n v).2.2.2
theorem kind1_has : HasC 48 1 := ⟨fun _ _ => by kernel_rfl, fun m h p b x L n v w hx hl => hasMethod_any m h p b x 1 n v w⟩
theorem kind1_give : GiveD 47 1 := ⟨fun _ _ => by kernel_rfl, fun n v => giveMethod_any 1 n v⟩
set_option maxHeartbeats 1600000 in
theorem kind1_any (w : World) :
    Calls Try.prog 46 #[.int .i64 1] w fun e w' => e = .returned (.tuple #[.agg #[.bool false, .bool true, .func (.func 47) #[] #[], .func (.func 48) #[] #[]], .bool true]) ∧ Below w.heap.size w w' := by
  have hb0 := enew w (.cells #[.bool false, .bool true, .func (.func 47) #[] #[], .func (.func 48) #[] #[]] 78)
  go_enter Try.func46, Try.ntmps46
  go_wp2_with fail
  go_returns
  exact ⟨rfl, hb0⟩
theorem kind2_has : HasC 50 2 := ⟨fun _ _ => by kernel_rfl, fun m h p b x L n v w hx hl => hasHost_any m h p b x 2 n v w⟩
theorem kind2_give : GiveD 49 2 := ⟨fun _ _ => by kernel_rfl, fun n v => giveHost_any 2 n v⟩
set_option maxHeartbeats 1600000 in
theorem kind2_any (w : World) :
    Calls Try.prog 46 #[.int .i64 2] w fun e w' => e = .returned (.tuple #[.agg #[.bool false, .bool true, .func (.func 49) #[] #[], .func (.func 50) #[] #[]], .bool true]) ∧ Below w.heap.size w w' := by
  have hb0 := enew w (.cells #[.bool false, .bool true, .func (.func 49) #[] #[], .func (.func 50) #[] #[]] 78)
  go_enter Try.func46, Try.ntmps46
  go_wp2_with fail
  go_returns
  exact ⟨rfl, hb0⟩
theorem kind3_has : HasC 52 3 := ⟨fun _ _ => by kernel_rfl, fun m h p b x L n v w hx hl => hasPath_any m h p b x 3 n v w⟩
theorem kind3_give : GiveD 51 3 := ⟨fun _ _ => by kernel_rfl, fun n v => givePath_any 3 n v⟩
set_option maxHeartbeats 1600000 in
theorem kind3_any (w : World) :
    Calls Try.prog 46 #[.int .i64 3] w fun e w' => e = .returned (.tuple #[.agg #[.bool false, .bool true, .func (.func 51) #[] #[], .func (.func 52) #[] #[]], .bool true]) ∧ Below w.heap.size w w' := by
  have hb0 := enew w (.cells #[.bool false, .bool true, .func (.func 51) #[] #[], .func (.func 52) #[] #[]] 78)
  go_enter Try.func46, Try.ntmps46
  go_wp2_with fail
  go_returns
  exact ⟨rfl, hb0⟩
theorem kind4_has : HasC 53 4 := ⟨fun _ _ => by kernel_rfl, fun m h p b x L n v w hx hl => hasPrefix_any m h p b x 4 n v w⟩
theorem kind4_give : GiveD 51 4 := ⟨fun _ _ => by kernel_rfl, fun n v => givePath_any 4 n v⟩
set_option maxHeartbeats 1600000 in
theorem kind4_any (w : World) :
    Calls Try.prog 46 #[.int .i64 4] w fun e w' => e = .returned (.tuple #[.agg #[.bool false, .bool true, .func (.func 51) #[] #[], .func (.func 53) #[] #[]], .bool true]) ∧ Below w.heap.size w w' := by
  have hb0 := enew w (.cells #[.bool false, .bool true, .func (.func 51) #[] #[], .func (.func 53) #[] #[]] 78)
  go_enter Try.func46, Try.ntmps46
  go_wp2_with fail
  go_returns
  exact ⟨rfl, hb0⟩
theorem kind5_has : HasC 55 5 := ⟨fun _ _ => by kernel_rfl, fun m h p b x L n v w hx hl => hasHead_any m h p b x L 5 n v w hx hl⟩
theorem kind5_give : GiveD 54 5 := ⟨fun _ _ => by kernel_rfl, fun n v => giveHead_any 5 n v⟩
set_option maxHeartbeats 1600000 in
theorem kind5_any (w : World) :
    Calls Try.prog 46 #[.int .i64 5] w fun e w' => e = .returned (.tuple #[.agg #[.bool true, .bool true, .func (.func 54) #[] #[], .func (.func 55) #[] #[]], .bool true]) ∧ Below w.heap.size w w' := by
  have hb0 := enew w (.cells #[.bool true, .bool true, .func (.func 54) #[] #[], .func (.func 55) #[] #[]] 78)
  go_enter Try.func46, Try.ntmps46
  go_wp2_with fail
  go_returns
  exact ⟨rfl, hb0⟩
theorem kind6_has : HasC 56 6 := ⟨fun _ _ => by kernel_rfl, fun m h p b x L n v w hx hl => hasName_any m h p b x L 6 n v w hx hl⟩
theorem kind6_give : GiveD 54 6 := ⟨fun _ _ => by kernel_rfl, fun n v => giveHead_any 6 n v⟩
set_option maxHeartbeats 1600000 in
theorem kind6_any (w : World) :
    Calls Try.prog 46 #[.int .i64 6] w fun e w' => e = .returned (.tuple #[.agg #[.bool true, .bool false, .func (.func 54) #[] #[], .func (.func 56) #[] #[]], .bool true]) ∧ Below w.heap.size w w' := by
  have hb0 := enew w (.cells #[.bool true, .bool false, .func (.func 54) #[] #[], .func (.func 56) #[] #[]] 78)
  go_enter Try.func46, Try.ntmps46
  go_wp2_with fail
  go_returns
  exact ⟨rfl, hb0⟩
end Go.Proofs.Ytgkegpdmidcmoaa
namespace Go.Proofs.Ytgkegpdmidcmoaa
set_option linter.unusedVariables false
set_option linter.unusedSimpArgs false
open Go.RowKit Go.Joins

theorem kindof_any (k : Int) (w : World) (h1 : 1 ≤ k) (h6 : k ≤ 6) :
    Calls Try.prog 46 #[.int .i64 k] w fun e w' => ∃ G H, (e = .returned (.tuple #[.agg #[.bool (ndK k), .bool (vlK k), .func (.func G) #[] #[], .func (.func H) #[] #[]], .bool true]) ∧ Below w.heap.size w w') ∧ GiveD G k ∧ HasC H k := by
  have hk : k = 1 ∨ k = 2 ∨ k = 3 ∨ k = 4 ∨ k = 5 ∨ k = 6 := by omega
  rcases hk with rfl | rfl | rfl | rfl | rfl | rfl
  · exact (kind1_any w).mono fun e w' h => ⟨_, _, h, kind1_give, kind1_has⟩
  · exact (kind2_any w).mono fun e w' h => ⟨_, _, h, kind2_give, kind2_has⟩
  · exact (kind3_any w).mono fun e w' h => ⟨_, _, h, kind3_give, kind3_has⟩
  · exact (kind4_any w).mono fun e w' h => ⟨_, _, h, kind4_give, kind4_has⟩
  · exact (kind5_any w).mono fun e w' h => ⟨_, _, h, kind5_give, kind5_has⟩
  · exact (kind6_any w).mono fun e w' h => ⟨_, _, h, kind6_give, kind6_has⟩
theorem mE_no {k : Int} (h : ¬ (1 ≤ k ∧ k ≤ 6)) (n v m hh p : List UInt8) (L : List Hd) : mE k n v m hh p L = false := by
  unfold mE
  rw [if_neg (by omega), if_neg (by omega), if_neg (by omega), if_neg (by omega), if_neg (by omega), if_neg (by omega)]
theorem cE_no {k : Int} (h : ¬ (1 ≤ k ∧ k ≤ 6)) (n v : List UInt8) : cE k n v = 2 := by
  unfold cE
  rw [if_neg (by omega), if_neg (by omega), if_neg (by omega), if_neg (by omega), if_neg (by omega), if_neg (by omega)]
set_option maxHeartbeats 1600000 in
theorem kindno_any (k : Int) (w : World) (h : ¬ (1 ≤ k ∧ k ≤ 6)) :
    Calls Try.prog 46 #[.int .i64 k] w fun e w' => e = .returned (.tuple #[.agg #[.bool false, .bool false, .nilFunc, .nilFunc], .bool false]) ∧ Below w.heap.size w w' := by
  have hb0 := enew w (.cells #[.bool false, .bool false, .nilFunc, .nilFunc] 78)
  have e1 : (k == 1) = false := by rw [beq_eq_false_iff_ne]; omega
  have e2 : (k == 2) = false := by rw [beq_eq_false_iff_ne]; omega
  have e3 : (k == 3) = false := by rw [beq_eq_false_iff_ne]; omega
  have e4 : (k == 4) = false := by rw [beq_eq_false_iff_ne]; omega
  have e5 : (k == 5) = false := by rw [beq_eq_false_iff_ne]; omega
  have e6 : (k == 6) = false := by rw [beq_eq_false_iff_ne]; omega
  go_enter Try.func46, Try.ntmps46
  go_wp2_with fail
  go_returns
  exact ⟨rfl, hb0⟩
set_option maxRecDepth 100000 in
set_option maxHeartbeats 4000000 in
theorem match_any (m h p b : List UInt8) (x : Value) (L : List Hd) (k : Int) (n v : List UInt8) (w : World) (hx : HV w x L) (hl : L.length ≤ 1000000) {z : Bool} (H : Hid (mE k n v m h p L = z)) :
    Calls Try.prog 45 #[.agg #[.int .i64 k, .string (bs n), .string (bs v)], .agg #[.string (bs m), .string (bs h), .string (bs p), x, .string (bs b)]] w fun e w' => e = .returned (.bool z) ∧ Below w.heap.size w w' := by
  have hb0 := estep (enew w (.cells #[.int .i64 k, .string (bs n), .string (bs v)] 69)) (enew _ (.cells #[.string (bs m), .string (bs h), .string (bs p), x, .string (bs b)] 36))
  have hp0 := (BP.new w k n v).up (enew _ (.cells #[.string (bs m), .string (bs h), .string (bs p), x, .string (bs b)] 36))
  have hq0 := BQ.new (w.alloc (.cells #[.int .i64 k, .string (bs n), .string (bs v)] 69)) m h p x b
  rw [World.size_alloc] at hq0
  have hx0 := hx.up hb0
  by_cases hk : 1 ≤ k ∧ k ≤ 6
  · have HK := hid (fun w2 => kindof_any k w2 hk.1 hk.2)
    clear hk
    go_enter Try.func45, Try.ntmps45
    go_upto_region 1 with (fail)
    generalize (w.alloc (.cells #[.int .i64 k, .string (bs n), .string (bs v)] 69)).alloc (.cells #[.string (bs m), .string (bs h), .string (bs p), x, .string (bs b)] 36) = v0 at *
    obtain ⟨k0, k1, k2⟩ := hp0.cells
    go_wp2_with fail
    refine (HK.out _).mono ?_
    rintro e w1 ⟨G, F, ⟨rfl, hb1⟩, -, hF⟩
    have hb2 := estep hb1 (enew w1 (.cells #[.bool (ndK k), .bool (vlK k), .func (.func G) #[] #[], .func (.func F) #[] #[]] 78))
    have hk2 := Bk.new w1 78 #[.bool (ndK k), .bool (vlK k), .func (.func G) #[] #[], .func (.func F) #[] #[]]
    have hp2 := hp0.up hb2
    have hq2 := hq0.up hb2
    have hx2 := hx0.up hb2
    have hb3 := estep hb0 hb2
    clear hb0 hb1 hb2 hp0 hq0 hx0 k0 k1 k2
    obtain ⟨eg, hFF⟩ := hF
    have HF := hid (fun w2 (h2 : HV w2 x L) => hFF m h p b x L n v w2 h2 hl)
    clear hFF
    go_upto_region 2 with (fail)
    generalize w1.alloc (.cells #[.bool (ndK k), .bool (vlK k), .func (.func G) #[] #[], .func (.func F) #[] #[]] 78) = v2 at *
    obtain ⟨k0, k1, k2⟩ := hp2.cells
    obtain ⟨q0, q1, q2, q3, q4⟩ := hq2.cells
    have s3 := Bk.cell hk2 3
    have e3 : (#[Value.bool (ndK k), .bool (vlK k), .func (.func G) #[] #[], .func (.func F) #[] #[]] : Array Value)[3]? = some (.func (.func F) #[] #[]) := rfl
    rw [e3] at s3
    clear e3
    go_wp2_with fail
    refine (HF.out _ hx2).mono ?_
    rintro e w3 ⟨rfl, hb4⟩
    go_wp2_with fail
    go_returns
    exact ⟨by rw [H.out]; rfl, estep hb3 hb4⟩
  · have HK := hid (fun w2 => kindno_any k w2 hk)
    have HZ := hid (show z = false by rw [← H.out]; exact mE_no hk _ _ _ _ _ _)
    clear hk H
    go_enter Try.func45, Try.ntmps45
    go_upto_region 1 with (fail)
    generalize (w.alloc (.cells #[.int .i64 k, .string (bs n), .string (bs v)] 69)).alloc (.cells #[.string (bs m), .string (bs h), .string (bs p), x, .string (bs b)] 36) = v0 at *
    obtain ⟨k0, k1, k2⟩ := hp0.cells
    go_wp2_with fail
    refine (HK.out _).mono ?_
    rintro e w1 ⟨rfl, hb1⟩
    have hb3 := estep hb0 (estep hb1 (enew w1 (.cells #[.bool false, .bool false, .nilFunc, .nilFunc] 78)))
    clear k0 k1 k2
    go_wp2_with fail
    go_returns
    exact ⟨by rw [HZ.out]; rfl, hb3⟩
set_option maxRecDepth 100000 in
set_option maxHeartbeats 4000000 in
theorem all_any (m h p b : List UInt8) (x : Value) (L : List Hd) (A : Option Addr) (c : Nat) (l : List Pd) (w : World) (hl : PX w (· < w.heap.size) A l) (hln : l.length ≤ 9223372036854775807) (hx : HV w x L) (hL : L.length ≤ 1000000) {z : Bool} (H : Hid (allE l m h p L = z)) :
    Calls Try.prog 43 #[.slice A l.length c, .agg #[.string (bs m), .string (bs h), .string (bs p), x, .string (bs b)]] w fun e w' => e = .returned (.bool z) ∧ Below w.heap.size w w' := by
  have hnot := enot
  have hb0 := enew w (.cells #[.string (bs m), .string (bs h), .string (bs p), x, .string (bs b)] 36)
  have hq0 := BQ.new w m h p x b
  have hx0 := hx.up hb0
  have HR := hid (hl.up hb0)
  clear hl hx
  go_enter Try.func43, Try.ntmps43
  go_upto_region 1 with (fail)
  generalize w.alloc (.cells #[.string (bs m), .string (bs h), .string (bs p), x, .string (bs b)] 36) = v0 at *
  have H0 := hid (And.intro hb0 (And.intro hq0 hx0))
  clear hb0 hq0 hx0
  go_wp2_with fail
  go_loopw [9] (fun i wr => ∃ k : Nat, k ≤ l.length ∧ i = .int .i64 k ∧ Hid (((l.take k).all fun e => mE e.k e.n e.v m h p L) = true ∧ Below v0.heap.size v0 wr)) (fun i _ => l.length - (intOf i).toNat)
  case atStart => exact ⟨0, by omega, rfl, hid ⟨rfl, Below.refl _ _⟩⟩
  case round =>
    obtain ⟨k, hk, rfl, HW⟩ := hrel
    by_cases hlt : k < l.length
    · obtain ⟨bb, o, rfl, hB, c0, c1, c2⟩ := (HR.out.up HW.out.2) k hlt
      have HT := hid (all_take' (fun e => mE e.k e.n e.v m h p L) l k hlt)
      have HF := hid (fun (hp : mE l[k].k l[k].n l[k].v m h p L = false) => all_false' (p := fun e => mE e.k e.n e.v m h p L) hlt hp)
      generalize l[k] = y at *
      obtain ⟨yk, yn, yv⟩ := y
      simp only at c0 c1 c2 HT HF
      have hki : decide ((k : Int) < ((l.length : Nat) : Int)) = true := by simp; omega
      have hb1 := estep HW.out.2 (enew wr (.cells #[.int .i64 yk, .string (bs yn), .string (bs yv)] 69))
      have hp1 := BP.new wr yk yn yv
      have hq1 := (H0.out.2.1.up HW.out.2).up (enew wr (.cells #[.int .i64 yk, .string (bs yn), .string (bs yv)] 69))
      have hx1 := (H0.out.2.2.up HW.out.2).up (enew wr (.cells #[.int .i64 yk, .string (bs yn), .string (bs yv)] 69))
      obtain ⟨zz, hz⟩ : ∃ zz, mE yk yn yv m h p L = zz := ⟨_, rfl⟩
      have HZ := hid hz
      have HM := hid (fun w2 (h2 : HV w2 x L) => match_any m h p b x L yk yn yv w2 h2 hL HZ)
      cases zz
      · have HE := hid (show allE l m h p L = false from HF.out hz)
        clear hz
        go_upto_region 4 with (fail)
        clear c0 c1 c2
        generalize wr.alloc (.cells #[.int .i64 yk, .string (bs yn), .string (bs yv)] 69) = v1 at *
        obtain ⟨c0, c1, c2⟩ := hp1.cells
        obtain ⟨q0, q1, q2, q3, q4⟩ := hq1.cells
        go_wp2_with fail
        refine (HM.out _ hx1).mono ?_
        rintro e w1 ⟨rfl, hb2⟩
        have hb3 := estep H0.out.1 (estep hb1 hb2)
        clear hb1 hb2 hp1 hq1 hx1 c0 c1 c2 q0 q1 q2 q3 q4
        go_wp2_with fail
        go_returns
        exact ⟨by rw [← H.out, HE.out]; rfl, hb3⟩
      · clear hz
        go_upto_region 4 with (fail)
        clear c0 c1 c2
        generalize wr.alloc (.cells #[.int .i64 yk, .string (bs yn), .string (bs yv)] 69) = v1 at *
        obtain ⟨c0, c1, c2⟩ := hp1.cells
        obtain ⟨q0, q1, q2, q3, q4⟩ := hq1.cells
        go_wp2_with fail
        refine (HM.out _ hx1).mono ?_
        rintro e w1 ⟨rfl, hb2⟩
        have hb3 := hid (estep hb1 hb2)
        clear hb1 hb2 hp1 hq1 hx1 c0 c1 c2 q0 q1 q2 q3 q4
        go_wp2_with fail
        go_roundw
        case rel => exact ⟨k + 1, by omega, by go_num, hid ⟨by rw [HT.out, HW.out.1, HZ.out]; rfl, hb3.out⟩⟩
        case measure => simp [intOf]; omega
    · obtain rfl : k = l.length := by omega
      have HE := hid (show allE l m h p L = true by have := HW.out.1; rw [List.take_length] at this; exact this)
      go_wp2_with fail
      go_returns
      exact ⟨by rw [← H.out, HE.out]; rfl, estep H0.out.1 HW.out.2⟩
end Go.Proofs.Ytgkegpdmidcmoaa
namespace Go.Proofs.Ytgkegpdmidcmoaa
set_option linter.unusedVariables false
set_option linter.unusedSimpArgs false
open Go.RowKit Go.Joins

theorem given_chk {k : Int} (h1 : 1 ≤ k) (h6 : k ≤ 6) (n v : List UInt8) :
    cE k n v = if (ndK k = false ∧ n ≠ []) ∨ (vlK k = false ∧ v ≠ []) then 2 else chkQ (giveS k n v).1 (giveS k n v).2.1 (giveS k n v).2.2.1 (giveS k n v).2.2.2 [] := by
  have m1 : methodB [65] = true := by decide
  have n1 : nameB [97] = true := by decide
  have p1 : pathB [47] = true := by decide
  have t0 : tailChk [] [] = 0 := by decide
  have v0 : valueB [] = true := by decide
  have t1 : ∀ n v, tailChk [(n, v)] [] = if nameB n = false then 7 else if valueB v = false then 15 else 0 := fun n v => by
    have : checkS [(n, v)] = if nameB n = false then 7 else if valueB v = false then 15 else 0 := by
      rw [checkS, if_neg (by simp), faultS, faultS]
    unfold tailChk
    rw [this]
    cases nameB n <;> cases valueB v <;> simp
  have hk : k = 1 ∨ k = 2 ∨ k = 3 ∨ k = 4 ∨ k = 5 ∨ k = 6 := by omega
  rcases hk with rfl | rfl | rfl | rfl | rfl | rfl
  · by_cases hn : n = [] <;> simp [cE, ndK, vlK, giveS, chkQ, hn, m1, n1, p1, t0]
  · by_cases hn : n = [] <;> simp [cE, ndK, vlK, giveS, chkQ, hn, m1, n1, p1, t0]
  · by_cases hn : n = [] <;> simp [cE, ndK, vlK, giveS, chkQ, hn, m1, n1, p1, t0]
  · by_cases hn : n = [] <;> simp [cE, ndK, vlK, giveS, chkQ, hn, m1, n1, p1, t0]
  · simp only [cE, ndK, vlK, giveS, chkQ, m1, n1, p1]
    cases h1 : nameB n <;> cases h2 : valueB v <;> simp [t1, h1, h2, m1, n1, p1]
  · simp only [cE, ndK, vlK, giveS, chkQ, m1, n1, p1]
    by_cases hv : v = []
    · subst hv
      cases h1 : nameB n <;> simp [t1, h1, v0, m1, n1, p1]
    · simp [hv]
theorem giveS_small {k : Int} {n v m h p : List UInt8} {L : List Hd} (hg : giveS k n v = (m, h, p, L)) (hn : n.length ≤ 140737488351232) (hv : v.length ≤ 140737488351232) :
    L.length ≤ 1 ∧ (∀ h ∈ L, h.1.length ≤ 140737488351232 ∧ h.2.length ≤ 140737488351232) ∧ m.length ≤ 140737488351232 ∧ h.length ≤ 140737488351232 ∧ p.length ≤ 140737488351232 := by
  unfold giveS at hg
  split at hg
  · simp only [Prod.mk.injEq] at hg
    obtain ⟨rfl, rfl, rfl, rfl⟩ := hg
    exact ⟨by simp, by simp, hv, by simp, by simp⟩
  · split at hg
    · simp only [Prod.mk.injEq] at hg
      obtain ⟨rfl, rfl, rfl, rfl⟩ := hg
      exact ⟨by simp, by simp, by simp, hv, by simp⟩
    · split at hg
      · simp only [Prod.mk.injEq] at hg
        obtain ⟨rfl, rfl, rfl, rfl⟩ := hg
        exact ⟨by simp, by simp, by simp, by simp, hv⟩
      · simp only [Prod.mk.injEq] at hg
        obtain ⟨rfl, rfl, rfl, rfl⟩ := hg
        exact ⟨by simp, by simpa using ⟨hn, hv⟩, by simp, by simp, by simp⟩
end Go.Proofs.Ytgkegpdmidcmoaa
namespace Go.Proofs.Ytgkegpdmidcmoaa
set_option linter.unusedVariables false
set_option linter.unusedSimpArgs false
open Go.RowKit Go.Joins

theorem cE_no' {k : Int} (h : ¬ (1 ≤ k ∧ k ≤ 6)) (n v : List UInt8) : cE k n v = 2 := by
  unfold cE
  rw [if_neg (by omega), if_neg (by omega), if_neg (by omega), if_neg (by omega), if_neg (by omega), if_neg (by omega)]
end Go.Proofs.Ytgkegpdmidcmoaa
namespace Go.Proofs.Ytgkegpdmidcmoaa
set_option linter.unusedVariables false
set_option linter.unusedSimpArgs false
open Go.RowKit Go.Joins

set_option maxRecDepth 100000 in
set_option maxHeartbeats 4000000 in
theorem pfew_any (A : Option Addr) (c : Nat) (l : List Pd) (w : World) (hl : PX w (· < w.heap.size) A l) (hln : l.length ≤ 9223372036854775807) (hsm : smallP l) {z : Bool} (H : Hid (fewP l = z)) :
    Calls Try.prog 34 #[.slice A l.length c] w fun e w' => e = .returned (.bool z) ∧ Below w.heap.size w w' := by
  have HR := hid hl
  have HSM := hid hsm
  clear hl hsm
  by_cases h20 : l.length ≤ 20
  · have HC := hid (show fewP l = l.all fun e => decide (e.n.length + e.v.length ≤ 400) by rw [fewP, decide_eq_true h20]; rfl)
    go_enter Try.func34, Try.ntmps34
    go_wp2_with fail
    go_loopw [3] (fun i wr => ∃ k : Nat, k ≤ l.length ∧ i = .int .i64 k ∧ Hid (((l.take k).all fun e => decide (e.n.length + e.v.length ≤ 400)) = true ∧ Below w.heap.size w wr)) (fun i _ => l.length - (intOf i).toNat)
    case atStart => exact ⟨0, by omega, rfl, hid ⟨rfl, Below.refl _ _⟩⟩
    case round =>
      obtain ⟨k, hk, rfl, HW⟩ := hrel
      by_cases hlt : k < l.length
      · obtain ⟨bb, o, rfl, hB, c0, c1, c2⟩ := (HR.out.up HW.out.2) k hlt
        have HT := hid (all_take' (fun e => decide (e.n.length + e.v.length ≤ 400)) l k hlt)
        have HF := hid (fun (hp : decide (l[k].n.length + l[k].v.length ≤ 400) = false) => all_false' (p := fun e => decide (e.n.length + e.v.length ≤ 400)) hlt hp)
        obtain ⟨hs0, hs1⟩ := HSM.out.at_ hlt
        generalize l[k] = y at *
        obtain ⟨yk, yn, yv⟩ := y
        simp only at c0 c1 c2 HT HF hs0 hs1
        have hi0 : (0 : Int) ≤ (k : Int) := by omega
        have hi1 : (k : Int) < (l.length : Int) := by omega
        have hadd : IntKind.i64.wrap ((yn.length : Int) + (yv.length : Int)) = (yn.length : Int) + (yv.length : Int) := IntWalk.i64_in _ (by omega)
        by_cases hle : yn.length + yv.length ≤ 400
        · have hd : decide ((400 : Int) < (yn.length : Int) + (yv.length : Int)) = false := decide_eq_false (by omega)
          go_wp2_with fail
          go_quiet (fail)
          go_wp2_with fail
          go_roundw
          case rel => exact ⟨k + 1, by omega, by go_num, hid ⟨by rw [HT.out, HW.out.1, decide_eq_true hle]; rfl, below_drewN HW.out.2 _⟩⟩
          case measure => simp [intOf]; omega
        · have hd : decide ((400 : Int) < (yn.length : Int) + (yv.length : Int)) = true := decide_eq_true (by omega)
          have HE := hid (show fewP l = false by rw [HC.out]; exact HF.out (decide_eq_false hle))
          go_wp2_with fail
          go_quiet (fail)
          go_wp2_with fail
          go_returns
          exact ⟨by rw [← H.out, HE.out]; rfl, below_drewN HW.out.2 _⟩
      · obtain rfl : k = l.length := by omega
        have HE := hid (show fewP l = true by rw [HC.out]; have := HW.out.1; rw [List.take_length] at this; exact this)
        go_wp2_with fail
        go_returns
        exact ⟨by rw [← H.out, HE.out]; rfl, HW.out.2⟩
  · have HC := hid (show fewP l = false by rw [fewP, decide_eq_false h20]; rfl)
    have hd : decide ((20 : Int) < ((l.length : Nat) : Int)) = true := decide_eq_true (by omega)
    go_enter Try.func34, Try.ntmps34
    go_wp2_with fail
    go_returns
    exact ⟨by rw [← H.out, HC.out]; rfl, Below.refl _ _⟩
/-- Whether a request is small enough to be worked on. -/
def fewR (m h p : List UInt8) (L : List Hd) (b : List UInt8) : Bool := decide (m.length + h.length + p.length + b.length ≤ 2000) && (decide (L.length ≤ 40) && L.all fun h => decide (h.1.length + h.2.length ≤ 400))
theorem fewR_len {m h p : List UInt8} {L : List Hd} {b : List UInt8} (hf : fewR m h p L b = true) : L.length ≤ 40 := by
  simp [fewR] at hf; exact hf.2.1
set_option maxRecDepth 100000 in
set_option maxHeartbeats 4000000 in
theorem rfew_any (m h p b : List UInt8) (x : Value) (L : List Hd) (w : World) (hx : HV w x L) (hl : L.length ≤ 9223372036854775807) (hs : ∀ h ∈ L, h.1.length ≤ 140737488351232 ∧ h.2.length ≤ 140737488351232)
    (hm : m.length ≤ 140737488351232) (hh : h.length ≤ 140737488351232) (hp : p.length ≤ 140737488351232) (hb : b.length ≤ 140737488351232) {z : Bool} (H : Hid (fewR m h p L b = z)) :
    Calls Try.prog 17 #[.agg #[.string (bs m), .string (bs h), .string (bs p), x, .string (bs b)]] w fun e w' => e = .returned (.bool z) ∧ Below w.heap.size w w' := by
  obtain ⟨A, cap, rfl, hR⟩ := hx
  have hal := enew w (.cells #[.string (bs m), .string (bs h), .string (bs p), .slice A L.length cap, .string (bs b)] 36)
  have hq0 := BQ.new w m h p (.slice A L.length cap) b
  have HR := hid (hR.later' hal)
  have HS := hid hs
  have HAL := hid hal
  clear hR hs hal
  have a1 : IntKind.i64.wrap ((m.length : Int) + (h.length : Int)) = (m.length : Int) + (h.length : Int) := IntWalk.i64_in _ (by omega)
  have a2 : IntKind.i64.wrap ((m.length : Int) + (h.length : Int) + (p.length : Int)) = (m.length : Int) + (h.length : Int) + (p.length : Int) := IntWalk.i64_in _ (by omega)
  have a3 : IntKind.i64.wrap ((m.length : Int) + (h.length : Int) + (p.length : Int) + (b.length : Int)) = (m.length : Int) + (h.length : Int) + (p.length : Int) + (b.length : Int) := IntWalk.i64_in _ (by omega)
  go_enter Try.func17, Try.ntmps17
  go_upto_region 1 with (fail)
  generalize w.alloc (.cells #[.string (bs m), .string (bs h), .string (bs p), .slice A L.length cap, .string (bs b)] 36) = v1 at *
  have HQ := hid hq0
  obtain ⟨q0, q1, q2, q3, q4⟩ := hq0.cells
  clear hq0
  by_cases h2 : (m.length : Int) + (h.length : Int) + (p.length : Int) + (b.length : Int) > 2000
  · have HC := hid (show fewR m h p L b = false by rw [fewR, decide_eq_false (by omega)]; rfl)
    go_wp2_with fail
    go_returns
    exact ⟨by rw [← H.out, HC.out]; rfl, HAL.out⟩
  · by_cases h4 : (L.length : Int) > 40
    · have HC := hid (show fewR m h p L b = false by rw [fewR, decide_eq_false (show ¬ L.length ≤ 40 by omega)]; simp)
      go_wp2_with fail
      go_returns
      exact ⟨by rw [← H.out, HC.out]; rfl, HAL.out⟩
    · have HC := hid (show fewR m h p L b = L.all fun h => decide (h.1.length + h.2.length ≤ 400) by rw [fewR, decide_eq_true (by omega), decide_eq_true (show L.length ≤ 40 by omega)]; rfl)
      go_wp2_with fail
      clear q0 q1 q2 q3 q4
      go_loopw [3] (fun i wr => ∃ k : Nat, k ≤ L.length ∧ i = .int .i64 k ∧ Hid (((L.take k).all fun h => decide (h.1.length + h.2.length ≤ 400)) = true ∧ Below v1.heap.size v1 wr)) (fun i _ => L.length - (intOf i).toNat)
      case atStart => exact ⟨0, by omega, rfl, hid ⟨rfl, Below.refl _ _⟩⟩
      case round =>
        obtain ⟨k, hk, rfl, HW⟩ := hrel
        obtain ⟨q0, q1, q2, q3, q4⟩ := (HQ.out.up HW.out.2).cells
        clear q0 q1 q2 q4
        by_cases hlt : k < L.length
        · obtain ⟨bb, o, rfl, hB, hc0, hc1⟩ := (HR.out.later' HW.out.2) k hlt
          have HT := hid (all_take' (fun h : Hd => decide (h.1.length + h.2.length ≤ 400)) L k hlt)
          have HF := hid (fun (hp : decide (L[k].1.length + L[k].2.length ≤ 400) = false) => all_false' (p := fun h : Hd => decide (h.1.length + h.2.length ≤ 400)) hlt hp)
          obtain ⟨hs0, hs1⟩ := HS.out _ (List.getElem_mem hlt)
          generalize L[k] = hh' at *
          obtain ⟨g0, g1⟩ := hh'
          have hz0 : g0.length ≤ 140737488351232 := hs0
          have hz1 : g1.length ≤ 140737488351232 := hs1
          clear hs0 hs1
          have hi0 : (0 : Int) ≤ (k : Int) := by omega
          have hi1 : (k : Int) < (L.length : Int) := by omega
          have hadd : IntKind.i64.wrap ((g0.length : Int) + (g1.length : Int)) = (g0.length : Int) + (g1.length : Int) := IntWalk.i64_in _ (by omega)
          by_cases hle : g0.length + g1.length ≤ 400
          · have hd : decide ((400 : Int) < (g0.length : Int) + (g1.length : Int)) = false := decide_eq_false (by omega)
            go_wp2_with fail
            go_quiet (fail)
            go_wp2_with fail
            go_roundw
            case rel => exact ⟨k + 1, by omega, by go_num, hid ⟨by rw [HT.out, HW.out.1]; simp [hle], below_drewN HW.out.2 _⟩⟩
            case measure => simp [intOf]; omega
          · have hd : decide ((400 : Int) < (g0.length : Int) + (g1.length : Int)) = true := decide_eq_true (by omega)
            have HE := hid (show fewR m h p L b = false by rw [HC.out]; exact HF.out (decide_eq_false hle))
            go_wp2_with fail
            go_quiet (fail)
            go_wp2_with fail
            go_returns
            exact ⟨by rw [← H.out, HE.out]; rfl, estep HAL.out (below_drewN HW.out.2 _)⟩
        · obtain rfl : k = L.length := by omega
          have HE := hid (show fewR m h p L b = true by rw [HC.out]; have := HW.out.1; rw [List.take_length] at this; exact this)
          go_wp2_with fail
          go_returns
          exact ⟨by rw [← H.out, HE.out]; rfl, estep HAL.out HW.out.2⟩
end Go.Proofs.Ytgkegpdmidcmoaa
namespace Go.Proofs.Ytgkegpdmidcmoaa
set_option linter.unusedVariables false
open Go.RowKit Go.ChangeShapes Go.WideShapes Go.Deep Go.Joins
section
variable {H : Type} {enc : TypeId × Value → H} {P : Program} {w : World} {base : Nat}

theorem esized_part {t : TypeId} {fs : Array Field} {ds : List (DataW H)} (h : Sized P t (.agg ds)) (hu : P.underlying t = some (.struct fs)) {j : Nat} {f : Field} {d : DataW H} (hf : fs.toList[j]? = some f) (hd : ds[j]? = some d) : Sized P f.type d := fun n hn => h n (by
  simp only [DataW.weights, hu]
  exact DataW.weights_mem_each (by rw [List.getElem?_map, hf]; rfl) hd n hn)
theorem earray5 {α : Type} {cs : Array α} (h : cs.size = 5) : ∃ c0 c1 c2 c3 c4, cs = #[c0, c1, c2, c3, c4] := by
  obtain ⟨l⟩ := cs
  match l, h with
  | [c0, c1, c2, c3, c4], _ => exact ⟨c0, c1, c2, c3, c4, rfl⟩
theorem eagg5 {spare : Nat → Bool} {held : Bool} {r : Reach} {b0 : Nat} {t : TypeId} {f0 f1 f2 f3 f4 : Field} {v : Value} {d : DataW H} {p : List MemPlace} (hs : P.underlying t = some (.struct #[f0, f1, f2, f3, f4])) (hone : oneCellFields P #[f0, f1, f2, f3, f4] = true) (hC : P.cellsOf t = 5)
    (hv : Value.okWide P w r b0 t v) (h : DataW.Trod enc P w base spare held t v d p) :
    ∃ (v0 v1 v2 v3 v4 : Value) (y0 y1 y2 y3 y4 : DataW H × List MemPlace) (n : Nat), v = .agg #[v0, v1, v2, v3, v4] ∧ d = .agg [y0.1, y1.1, y2.1, y3.1, y4.1] ∧
      DataW.trod enc P w base spare held n f0.type [v0] = some y0 ∧ DataW.trod enc P w base spare held n f1.type [v1] = some y1 ∧ DataW.trod enc P w base spare held n f2.type [v2] = some y2 ∧ DataW.trod enc P w base spare held n f3.type [v3] = some y3 ∧ DataW.trod enc P w base spare held n f4.type [v4] = some y4 := by
  obtain ⟨cs, rfl, hsz⟩ := okWide_struct hs hv
  obtain ⟨c0, c1, c2, c3, c4, rfl⟩ := earray5 (hsz.trans hC)
  obtain ⟨fuel, hf⟩ := h
  obtain ⟨xs, n, _, hx, hl, hlen, hg⟩ := DataW.trod_struct hs hf
  obtain ⟨o0, k0⟩ := hone_of hone 0 f0 rfl
  obtain ⟨o1, k1⟩ := hone_of hone 1 f1 rfl
  obtain ⟨o2, k2⟩ := hone_of hone 2 f2 rfl
  obtain ⟨o3, k3⟩ := hone_of hone 3 f3 rfl
  obtain ⟨o4, k4⟩ := hone_of hone 4 f4 rfl
  match xs, hlen with
  | [y0, y1, y2, y3, y4], _ =>
    simp only [Prod.mk.injEq] at hx
    have h0 := hg 0 f0 rfl
    have h1 := hg 1 f1 rfl
    have h2 := hg 2 f2 rfl
    have h3 := hg 3 f3 rfl
    have h4 := hg 4 f4 rfl
    exact ⟨c0, c1, c2, c3, c4, y0, y1, y2, y3, y4, n, rfl, hx.1, by simpa [Value.cells, o0, k0] using h0, by simpa [Value.cells, o1, k1] using h1, by simpa [Value.cells, o2, k2] using h2, by simpa [Value.cells, o3, k3] using h3, by simpa [Value.cells, o4, k4] using h4⟩
theorem open_QV {r : Reach} {b0 : Nat} {t q l e : TypeId} {f0 f1 f2 f3 f4 g0 g1 : Field} {v : Value} {d : DataW H} {p : List MemPlace} (hs : P.underlying t = some (.struct #[f0, f1, f2, f3, f4])) (hq : P.underlying q = some .string) (hl : P.underlying l = some (.slice e)) (he : P.underlying e = some (.struct #[g0, g1]))
    (hone : oneCellFields P #[f0, f1, f2, f3, f4] = true) (hC : P.cellsOf t = 5) (ce : P.cellsOf e = 2) (cq : P.cellsOf q = 1) (hg : g0.offset = 0 ∧ g1.offset = 1 ∧ g0.type = q ∧ g1.type = q) (hf : f0.type = q ∧ f1.type = q ∧ f2.type = q ∧ f3.type = l ∧ f4.type = q)
    (hz : Sized P t d) (hv : Value.okWide P w r b0 t v) (h : DataW.Trod enc P w base (fun _ => true) true t v d p) :
    ∃ (m h p : List UInt8) (x : Value) (L : List Hd) (b : List UInt8), v = .agg #[.string (bs m), .string (bs h), .string (bs p), x, .string (bs b)] ∧ HV w x L ∧ L.length ≤ 9223372036854775807 ∧ (∀ h ∈ L, h.1.length ≤ 140737488351232 ∧ h.2.length ≤ 140737488351232) ∧
      m.length ≤ 140737488351232 ∧ h.length ≤ 140737488351232 ∧ p.length ≤ 140737488351232 ∧ b.length ≤ 140737488351232 := by
  obtain ⟨v0, v1, v2, v3, v4, y0, y1, y2, y3, y4, n, rfl, rfl, h0, h1, h2, h3, h4⟩ := eagg5 hs hone hC hv h
  obtain ⟨e0, e1, e2, e3, e4⟩ := hf
  have z0 := esized_part hz hs (j := 0) rfl rfl
  have z1 := esized_part hz hs (j := 1) rfl rfl
  have z2 := esized_part hz hs (j := 2) rfl rfl
  have z3 := esized_part hz hs (j := 3) rfl rfl
  have z4 := esized_part hz hs (j := 4) rfl rfl
  rw [e0] at h0
  rw [e1] at h1
  rw [e2] at h2
  rw [e3] at h3 z3
  rw [e4] at h4
  obtain ⟨m, rfl, a0⟩ := str_of hq h0
  obtain ⟨hh, rfl, a1⟩ := str_of hq h1
  obtain ⟨pp, rfl, a2⟩ := str_of hq h2
  obtain ⟨b, rfl, a4⟩ := str_of hq h4
  obtain ⟨A', l', c', hc⟩ := slice_form hl h3
  simp only [List.cons.injEq, and_true] at hc
  subst hc
  obtain ⟨L, A, cap, e1', hR, _, hlc, hcm, hB⟩ := open_HX (p := y3.2) hl he hq ce cq hg z3 ⟨n, h3⟩
  rw [a0] at z0
  rw [a1] at z1
  rw [a2] at z2
  rw [a4] at z4
  exact ⟨m, hh, pp, _, L, b, rfl, ⟨A, cap, e1', hR⟩, by unfold maxLen at hcm; omega, hB, z0.str, z1.str, z2.str, z4.str⟩
/-- The types of a predicate, as the program has them. -/
structure PdT (P : Program) (t i u : TypeId) (f0 f1 f2 : Field) : Prop where
  ht : P.underlying t = some (.struct #[f0, f1, f2])
  hi : P.underlying i = some (.int .i64)
  hu : P.underlying u = some .string
  ci : P.cellsOf i = 1
  cu : P.cellsOf u = 1
  ct : P.cellsOf t = 3
  ty : f0.type = i ∧ f1.type = u ∧ f2.type = u
  off : f0.offset = 0 ∧ f1.offset = 1 ∧ f2.offset = 2
def okPd (e : Pd) : Prop := e.n.length ≤ 140737488351232 ∧ e.v.length ≤ 140737488351232
theorem pd_of {t i u : TypeId} {f0 f1 f2 : Field} (T : PdT P t i u f0 f1 f2) {sp : Nat → Bool} {hd : Bool} {fuel : Nat} {cs : List Value} {x : DataW H × List MemPlace}
    (h : DataW.trod enc P w base sp hd fuel t cs = some x) (hz : Sized P t x.1) : ∃ e : Pd, okPd e ∧ cs = [.int .i64 e.k, .string (bs e.n), .string (bs e.v)] := by
  obtain ⟨xs, n, _, hx, hl, hlen, hgg⟩ := DataW.trod_struct T.ht h
  rw [T.ct] at hl
  obtain ⟨t0, t1, t2⟩ := T.ty
  obtain ⟨o0, o1, o2⟩ := T.off
  match cs, hl, xs, hlen with
  | [c0, c1, c2], _, [y0, y1, y2], _ =>
    have h0 := hgg 0 f0 rfl
    have h1 := hgg 1 f1 rfl
    have h2 := hgg 2 f2 rfl
    rw [t0, o0, T.ci] at h0
    rw [t1, o1, T.cu] at h1
    rw [t2, o2, T.cu] at h2
    obtain ⟨a, ea, _, _⟩ := DataW.trod_int T.hi h0
    obtain ⟨n1, en, an⟩ := str_of T.hu h1
    obtain ⟨v1, ev, av⟩ := str_of T.hu h2
    rw [hx] at hz
    have z1 := esized_part hz T.ht (j := 1) (f := f1) (d := y1.1) rfl rfl
    have z2 := esized_part hz T.ht (j := 2) (f := f2) (d := y2.1) rfl rfl
    rw [an] at z1
    rw [av] at z2
    have ea2 : c0 = .int .i64 a := by simpa using ea
    exact ⟨⟨a, n1, v1⟩, ⟨z1.str, z2.str⟩, by rw [ea2, en, ev]⟩
theorem open_PD {r : Reach} {b0 : Nat} {t i u : TypeId} {f0 f1 f2 : Field} (T : PdT P t i u f0 f1 f2) {v : Value} {d : DataW H} {p : List MemPlace} (hz : Sized P t d) (hv : Value.okWide P w r b0 t v) (h : DataW.Trod enc P w base (fun _ => true) true t v d p) :
    ∃ e : Pd, v = .agg #[.int .i64 e.k, .string (bs e.n), .string (bs e.v)] ∧ okPd e := by
  obtain ⟨cs, rfl, _⟩ := okWide_struct T.ht hv
  obtain ⟨fuel, hf⟩ := h
  obtain ⟨e, he, hc⟩ := pd_of T (x := (d, p)) hf hz
  refine ⟨e, ?_, he⟩
  have : cs = #[.int .i64 e.k, .string (bs e.n), .string (bs e.v)] := by
    apply Array.toList_inj.1
    simpa [Value.cells] using hc
  rw [this]
theorem preds_of {ts t i u : TypeId} {f0 f1 f2 : Field} (T : PdT P t i u f0 f1 f2) (hts : P.underlying ts = some (.slice t)) {fuel : Nat} {cs : List Value} {x : DataW H × List MemPlace}
    (h : DataW.trod enc P w base (fun _ => true) true fuel ts cs = some x) (hz : Sized P ts x.1) :
    ∃ (v : Value) (L : List Pd), cs = [v] ∧ PV w (· < w.heap.size) v L ∧ ∀ e ∈ L, okPd e := by
  rcases open_slice hts h with ⟨h0, _⟩ | ⟨a, len, cap, m, n, D, Pl, hcs, _, hl, hm, hmm, hx0, hx⟩
  · exact ⟨.slice none 0 0, [], h0, PV.nil _ _, by simp⟩
  · simp only [if_true] at hmm
    subst hmm
    rw [hx0] at hz
    have each : ∀ i, i < len → ∃ s : Pd, okPd s ∧ ∃ cs', w.cells? base (a.add (i * 3)) 3 = some cs' ∧ cs' = [.int .i64 s.k, .string (bs s.n), .string (bs s.v)] := fun i hi => by
      obtain ⟨cs', h1, h2⟩ := hx i (by omega)
      rw [T.ct] at h1
      obtain ⟨s, hs, hc⟩ := pd_of T h2 (hz.elem hts (d := D i) (List.mem_map.2 ⟨i, List.mem_range.2 hi, rfl⟩))
      exact ⟨s, hs, cs', h1, hc⟩
    haveI : Inhabited Pd := ⟨⟨0, [], []⟩⟩
    obtain ⟨F, hF⟩ := choose_lt each
    have hlen : ((List.range len).map F).length = len := by simp
    refine ⟨.slice (some a) len m, (List.range len).map F, hcs, ⟨some a, m, by rw [hlen], (fun k hk => ?_), (fun h => by cases h), by rw [hlen]; exact hl, by rw [hlen]; unfold maxLen at hm; omega⟩, fun s hs => ?_⟩
    · rw [hlen] at hk
      obtain ⟨_, cs', h1, h2⟩ := hF k hk
      obtain ⟨_, hl', hcell⟩ := World.cells?_some h1
      have hz0 := hF 0 (by omega)
      obtain ⟨_, cs0, y1, y2⟩ := hz0
      obtain ⟨_, _, ycell⟩ := World.cells?_some y1
      have hc00 := ycell 0 (by omega)
      rw [y2] at hc00
      have hpl := plain_of_cell hc00
      simp only [Nat.zero_mul, Addr.add, if_true] at hpl
      have hat : ∀ j, j < 3 → w.cell? ⟨a.block, a.off + (k * 3 + j), none⟩ = cs'[j]? := fun j hj => by
        have := hcell j hj
        rw [hpl, add_add, Addr.add_lit] at this
        exact this
      rw [h2] at hat
      have hlt : a.block < w.heap.size := lt_of_cell (a := ⟨a.block, a.off + (k * 3 + 0), none⟩) (hat 0 (by omega))
      simp only [List.getElem_map, List.getElem_range]
      refine ⟨a.block, a.off, by rw [← hpl], hlt, ?_, ?_, ?_⟩
      · exact hat 0 (by omega)
      · rw [Nat.add_assoc]; exact hat 1 (by omega)
      · rw [Nat.add_assoc]; exact hat 2 (by omega)
    · obtain ⟨i, hi, rfl⟩ := List.mem_map.1 hs
      exact (hF i (List.mem_range.1 hi)).1
theorem open_PS {r : Reach} {b0 : Nat} {ts t i u : TypeId} {f0 f1 f2 : Field} (T : PdT P t i u f0 f1 f2) (hts : P.underlying ts = some (.slice t)) {v : Value} {d : DataW H} {p : List MemPlace} (hz : Sized P ts d) (hv : Value.okWide P w r b0 ts v) (h : DataW.Trod enc P w base (fun _ => true) true ts v d p) :
    ∃ L : List Pd, PV w (· < w.heap.size) v L ∧ smallP L := by
  obtain ⟨A, n, c, rfl⟩ := okWide_slice hts hv
  obtain ⟨fuel, hf⟩ := h
  obtain ⟨v', L, e, h1, h2⟩ := preds_of T hts (x := (d, p)) hf hz
  have e' : Value.slice A n c = v' := by simpa [Value.cells] using e
  rw [e']
  exact ⟨L, h1, h2⟩
end
end Go.Proofs.Ytgkegpdmidcmoaa
