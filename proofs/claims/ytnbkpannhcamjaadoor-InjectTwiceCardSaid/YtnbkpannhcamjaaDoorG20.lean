/- Texts put together: Ti Tj. -/
import Derived.Test.YtnbkpannhcamjaaDoorG19
import Derived.BigRegion
import Derived.Test.YtnbkpannhcamjaaDoorG18
namespace Go.Proofs.YtnbkpannhcamjaaDoor
set_option linter.unusedVariables false
set_option linter.unusedSimpArgs false
open Go.RowKit Go.Joins

end Go.Proofs.YtnbkpannhcamjaaDoor
namespace Go.Proofs.YtnbkpannhcamjaaDoor
set_option linter.unusedVariables false
set_option linter.unusedSimpArgs false
open Go.RowKit Go.Joins

/-- A slice of members, as a value that can be read. -/
def RD (w : World) (v : Value) (L : List Hd) : Prop :=
  ∃ A c, v = .slice A L.length c ∧ L.length ≤ c ∧ L.length ≤ 9223372036854775807 ∧ HReads w (· < w.heap.size) A L ∧ ∀ h ∈ L, h.1.length ≤ 140737488351232 ∧ h.2.length ≤ 140737488351232
theorem RD.up {w w' : World} {v : Value} {L : List Hd} (h : RD w v L) (hb : Below w.heap.size w w') : RD w' v L := by
  obtain ⟨A, c, e, h1, h2, h3, h4⟩ := h
  exact ⟨A, c, e, h1, h2, h3.up hb, h4⟩
theorem MB.rd {w : World} {base : Nat} {v : Value} {L : List Hd} (h : MB w base v L) (hl : L.length ≤ 1000000) (hs : ∀ h ∈ L, h.1.length ≤ 140737488351232 ∧ h.2.length ≤ 140737488351232) : RD w v L := by
  obtain ⟨A, c, e, h1, h2⟩ := h.form
  exact ⟨A, c, e, h1, by omega, h2, hs⟩
theorem HX.rd {w : World} {v : Value} {L : List Hd} (h : HX w (· < w.heap.size) v L) : RD w v L := by
  obtain ⟨A, c, e, h1, _, h2, h3, h4⟩ := h
  exact ⟨A, c, e, h2, by unfold maxLen at h3; omega, h1, h4⟩
theorem okM.rd {w : World} {base : Nat} {v : Value} {L : List Hd} (h : MB w base v L) (ho : okM L) : RD w v L :=
  h.rd (by have := ho.1; omega) fun m hm => by have := ho.2 m hm; omega
section
variable {v u : Value} {L K : List Hd}
theorem d_check (w : World) (h : RD w v L) {x : Int} (H : Hid (chkM [] L = x)) : Calls Tryd.prog 36 #[v] w fun e w' => e = .returned (.int .i64 x) ∧ Below w.heap.size w w' := by
  obtain ⟨A, c, rfl, h1, h2, h3, h4⟩ := h
  rw [← H.out]
  exact tcheck_any A c L w h3 h1 h2 h4
theorem d_write (w : World) (h : RD w v L) {t : List UInt8} {x : Int} (H : Hid (writeM L = (t, x))) : Calls Tryd.prog 23 #[v] w fun e w' => e = .returned (.tuple #[.string (bs t), .int .i64 x]) ∧ Below w.heap.size w w' := by
  obtain ⟨A, c, rfl, h1, h2, h3, h4⟩ := h
  have := twrite_any A c L w h3 h1 h2 h4
  rw [H.out] at this
  exact this
theorem d_get (w : World) (h : RD w v L) (k : List UInt8) {t : List UInt8} {x : Bool} (H : Hid (getM L k = (t, x))) : Calls Tryd.prog 59 #[v, .string (bs k)] w fun e w' => e = .returned (.tuple #[.string (bs t), .bool x]) ∧ Below w.heap.size w w' := by
  obtain ⟨A, c, rfl, h1, h2, h3, h4⟩ := h
  have := tget_any A c L k w h3 h2
  rw [H.out] at this
  exact this
theorem putM_small (L : List Hd) (k v : List UInt8) (hs : ∀ h ∈ L, h.1.length ≤ 140737488351232 ∧ h.2.length ≤ 140737488351232) (hk : k.length ≤ 140737488351232) (hv : v.length ≤ 140737488351232) :
    (putM L k v).1.length ≤ 1000000 ∧ ∀ h ∈ (putM L k v).1, h.1.length ≤ 140737488351232 ∧ h.2.length ≤ 140737488351232 := by
  unfold putM
  split
  · simp
  · split
    · simp
    · refine ⟨by have := List.length_take_le 32 ((k, v) :: L.filter fun h => !(h.1 == k)); simp only []; omega, fun m hm => ?_⟩
      rcases List.mem_cons.1 (List.mem_of_mem_take hm) with rfl | hm
      · exact ⟨hk, hv⟩
      · exact hs m (List.mem_filter.1 hm).1
theorem d_put (w : World) (h : RD w v L) (k q : List UInt8) (hk : k.length ≤ 140737488351232) (hq : q.length ≤ 140737488351232) {X : List Hd} {x : Int} (H : Hid (putM L k q = (X, x))) : Calls Tryd.prog 25 #[v, .string (bs k), .string (bs q)] w fun e w' => (∃ r, e = .returned (.tuple #[r, .int .i64 x]) ∧ RD w' r X) ∧ Below w.heap.size w w' := by
  obtain ⟨A, c, rfl, h1, h2, h3, h4⟩ := h
  refine (tput_any A c L k q w h3 h2 hk hq).mono fun e w' ⟨⟨r, a, b⟩, hb⟩ => ?_
  obtain ⟨s1, s2⟩ := putM_small L k q h4 hk hq
  rw [H.out] at a b s1 s2
  exact ⟨⟨r, a, b.rd s1 s2⟩, hb⟩
theorem readM_ok (s : List UInt8) : okM (readM s).1 := rdP_ok _ _ ⟨by simp, by simp⟩
theorem d_read (w : World) (s : List UInt8) (hs : s.length ≤ 90000) (E : EnvT w) {X : List Hd} {x : Int} (H : Hid (readM s = (X, x))) : Calls Tryd.prog 24 #[.string (bs s)] w fun e w' => (∃ r, e = .returned (.tuple #[r, .int .i64 x]) ∧ RD w' r X) ∧ Below w.heap.size w w' := by
  refine (tread_any s (by omega) w E).mono fun e w' ⟨⟨r, a, b⟩, hb⟩ => ?_
  have ho := readM_ok s
  rw [H.out] at a b ho
  exact ⟨⟨r, a, okM.rd b ho⟩, hb⟩
end
theorem RD.two (w : World) (a b c d : List UInt8) (ha : a.length ≤ 1000) (hb : b.length ≤ 1000) (hc : c.length ≤ 1000) (hd : d.length ≤ 1000) : RD (w.alloc (.cells #[.string (bs a), .string (bs b), .string (bs c), .string (bs d)] 77)) (.slice (some ⟨w.heap.size, 0, none⟩) 2 2) [(a, b), (c, d)] := by
  have h : MB (w.alloc (.cells #[.string (bs a), .string (bs b), .string (bs c), .string (bs d)] 77)) w.heap.size (.slice (some ⟨w.heap.size, 0, none⟩) 2 2) [(a, b), (c, d)] := World.ownsRow_lit w #[.string (bs a), .string (bs b), .string (bs c), .string (bs d)] 2 (Nat.le_refl _) (by decide) rfl
  refine h.rd (by simp) fun m hm => ?_
  simp at hm
  rcases hm with rfl | rfl
  · exact ⟨by simp only []; omega, by simp only []; omega⟩
  · exact ⟨by simp only []; omega, by simp only []; omega⟩
theorem RD.one (w : World) (a b : List UInt8) (ha : a.length ≤ 1000) (hb : b.length ≤ 1000) : RD (w.alloc (.cells #[.string (bs a), .string (bs b)] 77)) (.slice (some ⟨w.heap.size, 0, none⟩) 1 1) [(a, b)] := by
  refine (MB.one w w.heap.size (Nat.le_refl _) a b).rd (by simp) fun m hm => ?_
  simp at hm
  subst hm
  exact ⟨by simp only []; omega, by simp only []; omega⟩
theorem RD.nil (w : World) : RD w (.slice none 0 0) [] := ⟨none, 0, rfl, by simp, by simp, fun k hk => absurd hk (by simp), by simp⟩
end Go.Proofs.YtnbkpannhcamjaaDoor
