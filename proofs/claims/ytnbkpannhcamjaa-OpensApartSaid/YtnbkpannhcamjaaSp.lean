/- Plain facts: spans as bytes, read part by part. -/
import Derived.Test.YtnbkpannhcamjaaVq
import Derived.Test.YtnbkpannhcamjaaHp
namespace Go.Proofs.Ytnbkpannhcamjaa
set_option linter.unusedVariables false

structure Sp where
  hi : Nat
  lo : Nat
  id : Nat
  up : Nat
  name : List UInt8
  status : Int
  seq : Int
  kids : Int
  shade : Bool
  start : Int
  fin : Int
def sp0 : Sp := ⟨0, 0, 0, 0, [], 0, 0, 0, false, 0, 0⟩
def rngS (s : Sp) : Bool := decide (0 ≤ s.status ∧ s.status ≤ 599 ∧ 0 ≤ s.seq ∧ s.seq ≤ 63 ∧ 0 ≤ s.kids ∧ s.kids ≤ 64 ∧ 0 ≤ s.start ∧ s.start ≤ 1099511627776 ∧ s.start ≤ s.fin ∧ s.fin ≤ 1099511627776)
def chkS (s : Sp) : Int := if (s.hi = 0 ∧ s.lo = 0) ∨ s.id = 0 then 11 else if nameB s.name = false then 7 else if rngS s = false then 12 else 0
def shB (b : Bool) : List UInt8 := [if b = true then 1 else 0]
/-- A span's bytes. -/
def bytesS (s : Sp) : List UInt8 := be 8 s.hi ++ (be 8 s.lo ++ (be 8 s.id ++ (be 8 s.up ++ (textS s.name ++ (vput s.status.toNat ++ (vput s.seq.toNat ++ (vput s.kids.toNat ++ (shB s.shade ++ (vput s.start.toNat ++ vput (s.fin - s.start).toNat)))))))))
def writeS (s : Sp) : List UInt8 × Int := if chkS s = 0 then (bytesS s, 0) else ([], chkS s)
/-- A part that is read at a place, where there was no error yet. -/
def octP (l : List UInt8) (wd a e : Int) : Nat × Int × Int := if e ≠ 0 then (0, a, e) else if (getS l a wd).2 = 0 then ((getS l a wd).1, a + wd, 0) else ((getS l a wd).1, a, (getS l a wd).2)
def numP (l : List UInt8) (a e : Int) : Nat × Int × Int := if e ≠ 0 then (0, a, e) else if (vgetS l a).2.2 ≠ 0 then (0, a, (vgetS l a).2.2) else if 1099511627776 < (vgetS l a).1 then (0, a, 12) else ((vgetS l a).1, (vgetS l a).2.1, 0)
def namP (l : List UInt8) (a e : Int) : List UInt8 × Int × Int := if e ≠ 0 then ([], a, e) else if (takeS l a 32).2.2 ≠ 0 then ((takeS l a 32).1, a, (takeS l a 32).2.2) else ((takeS l a 32).1, (takeS l a 32).2.1, 0)
def shaP (l : List UInt8) (a e : Int) : Bool × Int × Int := if 1 < (octP l 1 a e).1 then (false, (octP l 1 a e).2.1, 3) else (decide ((octP l 1 a e).1 = 1), (octP l 1 a e).2.1, (octP l 1 a e).2.2)
theorem octP_err {l : List UInt8} {wd a e : Int} (h : e ≠ 0) : octP l wd a e = (0, a, e) := by rw [octP, if_pos h]
theorem numP_err {l : List UInt8} {a e : Int} (h : e ≠ 0) : numP l a e = (0, a, e) := by rw [numP, if_pos h]
theorem namP_err {l : List UInt8} {a e : Int} (h : e ≠ 0) : namP l a e = ([], a, e) := by rw [namP, if_pos h]
theorem shaP_err {l : List UInt8} {a e : Int} (h : e ≠ 0) : shaP l a e = (false, a, e) := by rw [shaP, octP_err h]; rfl
theorem numP_le (l : List UInt8) (a e : Int) : (numP l a e).1 ≤ 1099511627776 := by
  unfold numP
  split
  · simp
  · split
    · simp
    · split
      · simp
      · simp only []; omega
/-- All parts, one behind the other. -/
def runS (l : List UInt8) (a : Int) : Sp × Int × Int :=
  let p1 := octP l 8 a 0
  let p2 := octP l 8 p1.2.1 p1.2.2
  let p3 := octP l 8 p2.2.1 p2.2.2
  let p4 := octP l 8 p3.2.1 p3.2.2
  let p5 := namP l p4.2.1 p4.2.2
  let p6 := numP l p5.2.1 p5.2.2
  let p7 := numP l p6.2.1 p6.2.2
  let p8 := numP l p7.2.1 p7.2.2
  let p9 := shaP l p8.2.1 p8.2.2
  let p10 := numP l p9.2.1 p9.2.2
  let p11 := numP l p10.2.1 p10.2.2
  (⟨p1.1, p2.1, p3.1, p4.1, p5.1, p6.1, p7.1, p8.1, p9.1, p10.1, (p10.1 : Int) + p11.1⟩, p11.2.1, p11.2.2)
def readS (l : List UInt8) (a : Int) : Sp × Int × Int :=
  if (runS l a).2.2 ≠ 0 then (sp0, 0, (runS l a).2.2) else if chkS (runS l a).1 ≠ 0 then (sp0, 0, chkS (runS l a).1) else runS l a
theorem runS_eq {l : List UInt8} {a : Int} {hi lo id up st sq kd s0 s1 : Nat} {nm : List UInt8} {sh : Bool} {a1 a2 a3 a4 a5 a6 a7 a8 a9 a10 a11 e1 e2 e3 e4 e5 e6 e7 e8 e9 e10 e11 : Int}
    (h1 : octP l 8 a 0 = (hi, a1, e1)) (h2 : octP l 8 a1 e1 = (lo, a2, e2)) (h3 : octP l 8 a2 e2 = (id, a3, e3)) (h4 : octP l 8 a3 e3 = (up, a4, e4)) (h5 : namP l a4 e4 = (nm, a5, e5))
    (h6 : numP l a5 e5 = (st, a6, e6)) (h7 : numP l a6 e6 = (sq, a7, e7)) (h8 : numP l a7 e7 = (kd, a8, e8)) (h9 : shaP l a8 e8 = (sh, a9, e9)) (h10 : numP l a9 e9 = (s0, a10, e10)) (h11 : numP l a10 e10 = (s1, a11, e11)) :
    runS l a = (⟨hi, lo, id, up, nm, st, sq, kd, sh, s0, (s0 : Int) + s1⟩, a11, e11) := by
  simp only [runS, h1, h2, h3, h4, h5, h6, h7, h8, h9, h10, h11]
theorem readS_err {l : List UInt8} {a : Int} {s : Sp} {b e : Int} (h : runS l a = (s, b, e)) (he : e ≠ 0) : readS l a = (sp0, 0, e) := by rw [readS, h, if_pos he]
theorem readS_chk {l : List UInt8} {a : Int} {s : Sp} {b : Int} (h : runS l a = (s, b, 0)) (hc : chkS s ≠ 0) : readS l a = (sp0, 0, chkS s) := by rw [readS, h, if_neg (by simp), if_pos hc]
theorem readS_ok {l : List UInt8} {a : Int} {s : Sp} {b : Int} (h : runS l a = (s, b, 0)) (hc : chkS s = 0) : readS l a = (s, b, 0) := by rw [readS, h, if_neg (by simp), if_neg (by simpa using hc)]
/-- Forward: what stands at a place. -/
def At (l : List UInt8) (a : Int) (x : List UInt8) : Prop := 0 ≤ a ∧ a ≤ l.length ∧ l.drop a.toNat = x
theorem At.step {l : List UInt8} {a : Int} {p x : List UInt8} (h : At l a (p ++ x)) : At l (a + p.length) x := by
  obtain ⟨h0, h1, h2⟩ := h
  have hl := congrArg List.length h2
  rw [List.length_drop, List.length_append] at hl
  refine ⟨by omega, by omega, ?_⟩
  rw [show (a + p.length).toNat = a.toNat + p.length by omega, ← List.drop_drop, h2, List.drop_left]
theorem At.split {l : List UInt8} {a : Int} {x : List UInt8} (h : At l a x) : l = l.take a.toNat ++ x ∧ a = ((l.take a.toNat).length : Int) := by
  obtain ⟨h0, h1, h2⟩ := h
  refine ⟨by rw [← h2, List.take_append_drop], ?_⟩
  rw [List.length_take]; omega
theorem At.mk' (p x : List UInt8) : At (p ++ x) p.length x := ⟨by omega, by simp; omega, by rw [Int.toNat_natCast, List.drop_left]⟩
theorem pow8 : (256 : Nat) ^ 8 = 18446744073709551616 := by decide
theorem oct_at {l : List UInt8} {a : Int} {n wd : Nat} {x : List UInt8} (h : At l a (be wd n ++ x)) (h1 : 1 ≤ wd) (h8 : wd ≤ 8) (hn : n < 256 ^ wd) : octP l wd a 0 = (n, a + wd, 0) := by
  obtain ⟨e1, e2⟩ := h.split
  have hg := getS_putS n wd (l.take a.toNat) x h1 h8 (Nat.div_eq_of_lt hn)
  rw [List.append_assoc, ← e1, ← e2] at hg
  rw [octP, hg, if_neg (by simp), if_pos rfl]
theorem num_at {l : List UInt8} {a : Int} {n : Nat} {x : List UInt8} (h : At l a (vput n ++ x)) (hn : n ≤ 1099511627776) : numP l a 0 = (n, a + (vput n).length, 0) := by
  obtain ⟨e1, e2⟩ := h.split
  have hg := vgetS_vput n (l.take a.toNat) x (by omega)
  rw [← e1, ← e2] at hg
  have e3 : (((l.take a.toNat).length + (vput n).length : Nat) : Int) = a + (vput n).length := by omega
  rw [e3] at hg
  rw [numP, hg, if_neg (by simp), if_neg (by simp), if_neg (by simp only []; omega)]
theorem nam_at {l : List UInt8} {a : Int} {b : List UInt8} {x : List UInt8} (h : At l a (textS b ++ x)) (hb : b.length ≤ 32) : namP l a 0 = (b, a + (textS b).length, 0) := by
  have h' := h
  rw [textS, List.append_assoc] at h'
  obtain ⟨e1, e2⟩ := h'.split
  have hg := vgetS_vput b.length (l.take a.toNat) (b ++ x) (by omega)
  rw [← e1, ← e2] at hg
  have e3 : (((l.take a.toNat).length + (vput b.length).length : Nat) : Int) = a + (vput b.length).length := by omega
  rw [e3] at hg
  obtain ⟨k0, k1, k2⟩ := h'.step
  have hl := congrArg List.length k2
  rw [List.length_drop, List.length_append] at hl
  have ht : takeS l a 32 = (b, a + (textS b).length, 0) := by
    rw [takeS, hg]
    simp only
    rw [if_neg (by simp), if_neg (by omega), if_neg (by omega), k2, List.take_left, textS, List.length_append]
    refine Prod.ext rfl (Prod.ext ?_ rfl)
    simp only []; omega
  rw [namP, ht, if_neg (by simp), if_neg (by simp)]
theorem sha_at {l : List UInt8} {a : Int} {b : Bool} {x : List UInt8} (h : At l a (shB b ++ x)) : shaP l a 0 = (b, a + 1, 0) := by
  have e : shB b = be 1 (if b = true then 1 else 0) := by cases b <;> rfl
  rw [e] at h
  have ho := oct_at h (by omega) (by omega) (by cases b <;> decide)
  have ho' : octP l 1 a 0 = ((if b = true then 1 else 0), a + 1, 0) := ho
  rw [shaP, ho']
  cases b <;> simp
theorem chkS_ok {s : Sp} (h : chkS s = 0) : ¬ ((s.hi = 0 ∧ s.lo = 0) ∨ s.id = 0) ∧ nameB s.name = true ∧ rngS s = true := by
  unfold chkS at h
  split at h
  · omega
  · split at h
    · omega
    · split at h
      · omega
      · rename_i h1 h2 h3; exact ⟨h1, by simpa using h2, by simpa using h3⟩
theorem nameB_len {l : List UInt8} (h : nameB l = true) : l.length ≤ 32 := by
  simp only [nameB, Bool.and_eq_true, decide_eq_true_eq] at h
  exact h.2.1
/-- What a span's numbers of eight bytes may be. -/
def wideS (s : Sp) : Prop := s.hi < 18446744073709551616 ∧ s.lo < 18446744073709551616 ∧ s.id < 18446744073709551616 ∧ s.up < 18446744073709551616
theorem runS_at {l : List UInt8} {a : Int} {s : Sp} {x : List UInt8} (h : At l a (bytesS s ++ x)) (hc : chkS s = 0) (hw : wideS s) : runS l a = (s, a + (bytesS s).length, 0) := by
  obtain ⟨_, hn0, hr⟩ := chkS_ok hc
  have hn := nameB_len hn0
  clear hn0
  rw [rngS, decide_eq_true_eq] at hr
  obtain ⟨w1, w2, w3, w4⟩ := hw
  obtain ⟨hi, lo, id, up, name, status, seq, kids, shade, start, fin⟩ := s
  simp only at hn hr w1 w2 w3 w4
  obtain ⟨r1, r2, r3, r4, r5, r6, r7, r8, r9, r10⟩ := hr
  obtain ⟨st, rfl⟩ := Int.eq_ofNat_of_zero_le r1
  obtain ⟨sq, rfl⟩ := Int.eq_ofNat_of_zero_le r3
  obtain ⟨kd, rfl⟩ := Int.eq_ofNat_of_zero_le r5
  obtain ⟨s0, rfl⟩ := Int.eq_ofNat_of_zero_le r7
  obtain ⟨s1, rfl⟩ : ∃ s1 : Nat, fin = (s0 : Int) + s1 := ⟨(fin - s0).toNat, by omega⟩
  have hlen : (bytesS ⟨hi, lo, id, up, name, st, sq, kd, shade, s0, (s0 : Int) + s1⟩).length = 8 + 8 + 8 + 8 + (textS name).length + (vput st).length + (vput sq).length + (vput kd).length + 1 + (vput s0).length + (vput s1).length := by
    simp only [bytesS, List.length_append, be_length, shB, List.length_singleton, Int.toNat_natCast, show ((s0 : Int) + s1 - s0).toNat = s1 by omega]
    omega
  simp only [bytesS, List.append_assoc, Int.toNat_natCast, show ((s0 : Int) + s1 - s0).toNat = s1 by omega] at h
  have b8 : ∀ n, ((be 8 n).length : Int) = 8 := fun n => by rw [be_length]; rfl
  have g1 := oct_at h (by omega) (by omega) (by rw [pow8]; exact w1)
  have h := h.step
  rw [b8] at h
  have g2 := oct_at h (by omega) (by omega) (by rw [pow8]; exact w2)
  have h := h.step
  rw [b8] at h
  have g3 := oct_at h (by omega) (by omega) (by rw [pow8]; exact w3)
  have h := h.step
  rw [b8] at h
  have g4 := oct_at h (by omega) (by omega) (by rw [pow8]; exact w4)
  have h := h.step
  rw [b8] at h
  have g5 := nam_at h hn
  have h := h.step
  have g6 := num_at h (by omega)
  have h := h.step
  have g7 := num_at h (by omega)
  have h := h.step
  have g8 := num_at h (by omega)
  have h := h.step
  have g9 := sha_at h
  have h := h.step
  rw [show ((shB shade).length : Int) = 1 from rfl] at h
  have g10 := num_at h (by omega)
  have h := h.step
  have g11 := num_at h (by omega)
  rw [runS_eq g1 g2 g3 g4 g5 g6 g7 g8 g9 g10 g11, hlen]
  refine Prod.ext rfl (Prod.ext ?_ rfl)
  simp only []; omega
theorem readS_bytesS (p x : List UInt8) (s : Sp) (hc : chkS s = 0) (hw : wideS s) : readS (p ++ (bytesS s ++ x)) p.length = (s, ((p.length + (bytesS s).length : Nat) : Int), 0) := by
  rw [readS_ok (runS_at (At.mk' p _) hc hw) hc, Int.natCast_add]
/-- Backward: the bytes between two places. -/
def seg (l : List UInt8) (a b : Int) : List UInt8 := (l.drop a.toNat).take (b - a).toNat
theorem seg_append {l : List UInt8} {a b c : Int} (h0 : 0 ≤ a) (h1 : a ≤ b) (h2 : b ≤ c) : seg l a b ++ seg l b c = seg l a c := by
  unfold seg
  rw [show (c - a).toNat = (b - a).toNat + (c - b).toNat by omega, List.take_add, List.drop_drop, show a.toNat + (b - a).toNat = b.toNat by omega]
theorem be_val (l : List UInt8) : be l.length (val l) = l := by
  induction l using List.reverseRecOn' with
  | nil => rfl
  | snoc l c ih =>
    have hc := c.toNat_lt
    rw [List.length_append, List.length_singleton, val_snoc]
    show be l.length ((val l * 256 + c.toNat) / 256) ++ [UInt8.ofNat ((val l * 256 + c.toNat) % 256)] = l ++ [c]
    rw [show (val l * 256 + c.toNat) / 256 = val l by omega, show (val l * 256 + c.toNat) % 256 = c.toNat by omega, ih, UInt8.ofNat_toNat]
theorem oct_back {l : List UInt8} {a b : Int} {n wd : Nat} (h0 : 0 ≤ a) (h1 : 1 ≤ wd) (h8 : wd ≤ 8) (h : octP l wd a 0 = (n, b, 0)) : b = a + wd ∧ b ≤ l.length ∧ n < 256 ^ wd ∧ be wd n = seg l a b := by
  rw [octP, if_neg (by simp)] at h
  by_cases hs : (l.length : Int) - a < wd
  · rw [getS_short (by omega) hs, if_neg (by simp)] at h
    simp at h
  · rw [getS_ok (by omega) hs, if_pos rfl] at h
    simp only [Prod.mk.injEq] at h
    obtain ⟨rfl, rfl, _⟩ := h
    have hl : ((l.drop a.toNat).take wd).length = wd := by rw [List.length_take, List.length_drop]; omega
    rw [Int.toNat_natCast]
    refine ⟨rfl, by omega, ?_, ?_⟩
    · have := val_lt ((l.drop a.toNat).take wd); rwa [hl] at this
    · have := be_val ((l.drop a.toNat).take wd)
      rw [hl] at this
      rw [this, seg, show (a + (wd : Int) - a).toNat = wd by omega]
theorem vget_back {l : List UInt8} {a : Int} {n : Nat} {b : Int} (h : vgetS l a = (n, b, 0)) : 0 ≤ a ∧ a < b ∧ b ≤ l.length ∧ n < 18446744073709551616 ∧ vput n = seg l a b := by
  have hc := vgetS_cases l a
  rw [h] at hc
  simp at hc
  obtain ⟨h0, h1, h2, h3⟩ := hc
  obtain ⟨k, rfl⟩ := Int.eq_ofNat_of_zero_le h0
  have hk : k ≤ l.length := by omega
  obtain ⟨N, S, E, hv⟩ : ∃ N S E, vg 0 0 (l.drop k) = (N, S, E) := ⟨_, _, _, rfl⟩
  rw [vgetS_in hk hv] at h
  by_cases hE : E = 0
  · subst hE
    rw [if_pos rfl] at h
    simp only [Prod.mk.injEq] at h
    obtain ⟨rfl, rfl, _⟩ := h
    have h2' := vgetS_in (a := 0) (Nat.zero_le (l.drop k).length) (n := N) (s := S) (e := 0) (by rw [List.drop_zero]; exact hv)
    rw [if_pos rfl] at h2'
    obtain ⟨g1, _, _, g4⟩ := vgetS_back h2'
    refine ⟨h0, h1, h2, g1, ?_⟩
    rw [g4, seg, Int.toNat_natCast]
    congr 1; omega
  · rw [if_neg hE] at h
    simp only [Prod.mk.injEq] at h
    exact absurd h.2.2 hE
theorem num_back {l : List UInt8} {a b : Int} {n : Nat} (h : numP l a 0 = (n, b, 0)) : a ≤ b ∧ b ≤ l.length ∧ n ≤ 1099511627776 ∧ vput n = seg l a b := by
  rw [numP, if_neg (by simp)] at h
  obtain ⟨N, B, E, hv⟩ : ∃ N B E, vgetS l a = (N, B, E) := ⟨_, _, _, rfl⟩
  rw [hv] at h
  simp only at h
  split at h
  · rename_i hE; simp only [Prod.mk.injEq] at h; exact absurd h.2.2 hE
  · rename_i hE
    split at h
    · simp at h
    · simp only [Prod.mk.injEq] at h
      obtain ⟨rfl, rfl, _⟩ := h
      have : E = 0 := by simpa using hE
      subst this
      obtain ⟨g1, g2, g3, g4, g5⟩ := vget_back hv
      exact ⟨by omega, g3, by omega, g5⟩
theorem nam_back {l : List UInt8} {a b : Int} {n : List UInt8} (h : namP l a 0 = (n, b, 0)) : a ≤ b ∧ b ≤ l.length ∧ n.length ≤ 32 ∧ textS n = seg l a b := by
  rw [namP, if_neg (by simp)] at h
  obtain ⟨N, B, E, hv⟩ : ∃ N B E, vgetS l a = (N, B, E) := ⟨_, _, _, rfl⟩
  by_cases hE : E = 0
  · subst hE
    obtain ⟨g1, g2, g3, g4, g5⟩ := vget_back hv
    rw [takeS, hv] at h
    simp only at h
    rw [if_neg (show ¬ (0 : Int) ≠ 0 by simp)] at h
    by_cases h1 : (32 : Int) < 0 ∨ (32 : Int) < N
    · rw [if_pos h1] at h; simp at h
    · rw [if_neg h1] at h
      by_cases h2 : (l.length : Int) - B < N
      · rw [if_pos h2] at h; simp at h
      · rw [if_neg h2] at h
        simp only [ne_eq, not_true_eq_false, if_false, Prod.mk.injEq] at h
        obtain ⟨rfl, rfl, _⟩ := h
        have hl : ((l.drop B.toNat).take N).length = N := by rw [List.length_take, List.length_drop]; omega
        refine ⟨by omega, by omega, by omega, ?_⟩
        rw [textS, hl, g5, ← seg_append (l := l) (a := a) (b := B) (c := B + N) g1 (by omega) (by omega)]
        congr 1
        rw [seg]; congr 1; omega
  · rw [takeS, hv] at h
    simp only at h
    rw [if_pos hE, if_pos hE] at h
    simp only [Prod.mk.injEq] at h
    exact absurd h.2.2 hE
theorem sha_back {l : List UInt8} {a b : Int} {n : Bool} (h0 : 0 ≤ a) (h : shaP l a 0 = (n, b, 0)) : b = a + 1 ∧ b ≤ l.length ∧ shB n = seg l a b := by
  rw [shaP] at h
  obtain ⟨N, B, E, hv⟩ : ∃ N B E, octP l 1 a 0 = (N, B, E) := ⟨_, _, _, rfl⟩
  rw [hv] at h
  simp only at h
  split at h
  · simp at h
  · rename_i h1
    simp only [Prod.mk.injEq] at h
    obtain ⟨rfl, rfl, rfl⟩ := h
    obtain ⟨g1, g2, g3, g4⟩ := oct_back (wd := 1) h0 (by omega) (by omega) hv
    refine ⟨g1, g2, ?_⟩
    rw [← g4]
    have : N = 0 ∨ N = 1 := by omega
    rcases this with rfl | rfl <;> rfl
theorem octE {l : List UInt8} {wd a e b : Int} {n : Nat} (h : octP l wd a e = (n, b, 0)) : e = 0 := by
  by_cases he : e = 0
  · exact he
  · rw [octP_err he] at h; simp only [Prod.mk.injEq] at h; exact h.2.2
theorem numE {l : List UInt8} {a e b : Int} {n : Nat} (h : numP l a e = (n, b, 0)) : e = 0 := by
  by_cases he : e = 0
  · exact he
  · rw [numP_err he] at h; simp only [Prod.mk.injEq] at h; exact h.2.2
theorem namE {l : List UInt8} {a e b : Int} {n : List UInt8} (h : namP l a e = (n, b, 0)) : e = 0 := by
  by_cases he : e = 0
  · exact he
  · rw [namP_err he] at h; simp only [Prod.mk.injEq] at h; exact h.2.2
theorem shaE {l : List UInt8} {a e b : Int} {n : Bool} (h : shaP l a e = (n, b, 0)) : e = 0 := by
  by_cases he : e = 0
  · exact he
  · rw [shaP_err he] at h; simp only [Prod.mk.injEq] at h; exact h.2.2
theorem oct_neg {l : List UInt8} {a : Int} (h : a < 0) : octP l 8 a 0 = (0, a, 2) := by
  rw [octP, getS_arg (by omega), if_neg (by simp), if_neg (by simp)]
theorem runS_back {l : List UInt8} {a b : Int} {s : Sp} (h : runS l a = (s, b, 0)) : 0 ≤ a ∧ a ≤ b ∧ b ≤ l.length ∧ wideS s ∧ bytesS s = seg l a b := by
  obtain ⟨hi, a1, e1, h1⟩ : ∃ hi a1 e1, octP l 8 a 0 = (hi, a1, e1) := ⟨_, _, _, rfl⟩
  obtain ⟨lo, a2, e2, h2⟩ : ∃ x y z, octP l 8 a1 e1 = (x, y, z) := ⟨_, _, _, rfl⟩
  obtain ⟨id, a3, e3, h3⟩ : ∃ x y z, octP l 8 a2 e2 = (x, y, z) := ⟨_, _, _, rfl⟩
  obtain ⟨up, a4, e4, h4⟩ : ∃ x y z, octP l 8 a3 e3 = (x, y, z) := ⟨_, _, _, rfl⟩
  obtain ⟨nm, a5, e5, h5⟩ : ∃ x y z, namP l a4 e4 = (x, y, z) := ⟨_, _, _, rfl⟩
  obtain ⟨st, a6, e6, h6⟩ : ∃ x y z, numP l a5 e5 = (x, y, z) := ⟨_, _, _, rfl⟩
  obtain ⟨sq, a7, e7, h7⟩ : ∃ x y z, numP l a6 e6 = (x, y, z) := ⟨_, _, _, rfl⟩
  obtain ⟨kd, a8, e8, h8⟩ : ∃ x y z, numP l a7 e7 = (x, y, z) := ⟨_, _, _, rfl⟩
  obtain ⟨sh, a9, e9, h9⟩ : ∃ x y z, shaP l a8 e8 = (x, y, z) := ⟨_, _, _, rfl⟩
  obtain ⟨s0, a10, e10, h10⟩ : ∃ x y z, numP l a9 e9 = (x, y, z) := ⟨_, _, _, rfl⟩
  obtain ⟨s1, a11, e11, h11⟩ : ∃ x y z, numP l a10 e10 = (x, y, z) := ⟨_, _, _, rfl⟩
  rw [runS_eq h1 h2 h3 h4 h5 h6 h7 h8 h9 h10 h11] at h
  simp only [Prod.mk.injEq] at h
  obtain ⟨rfl, rfl, rfl⟩ := h
  obtain rfl := numE h11
  obtain rfl := numE h10
  obtain rfl := shaE h9
  obtain rfl := numE h8
  obtain rfl := numE h7
  obtain rfl := numE h6
  obtain rfl := namE h5
  obtain rfl := octE h4
  obtain rfl := octE h3
  obtain rfl := octE h2
  have h0 : 0 ≤ a := by
    by_cases h0 : a < 0
    · rw [oct_neg h0] at h1; simp at h1
    · omega
  obtain ⟨g1, g1', w1, q1⟩ := oct_back (wd := 8) h0 (by omega) (by omega) h1
  obtain ⟨g2, g2', w2, q2⟩ := oct_back (wd := 8) (by omega) (by omega) (by omega) h2
  obtain ⟨g3, g3', w3, q3⟩ := oct_back (wd := 8) (by omega) (by omega) (by omega) h3
  obtain ⟨g4, g4', w4, q4⟩ := oct_back (wd := 8) (by omega) (by omega) (by omega) h4
  obtain ⟨g5, g5', _, q5⟩ := nam_back h5
  obtain ⟨g6, g6', _, q6⟩ := num_back h6
  obtain ⟨g7, g7', _, q7⟩ := num_back h7
  obtain ⟨g8, g8', _, q8⟩ := num_back h8
  obtain ⟨g9, g9', q9⟩ := sha_back (by omega) h9
  obtain ⟨g10, g10', _, q10⟩ := num_back h10
  obtain ⟨g11, g11', _, q11⟩ := num_back h11
  rw [pow8] at w1 w2 w3 w4
  refine ⟨h0, by omega, g11', ⟨w1, w2, w3, w4⟩, ?_⟩
  simp only [bytesS, Int.toNat_natCast, show ((s0 : Int) + s1 - s0).toNat = s1 by omega]
  rw [q1, q2, q3, q4, q5, q6, q7, q8, q9, q10, q11]
  rw [seg_append (by omega) (by omega) (by omega), seg_append (by omega) (by omega) (by omega), seg_append (by omega) (by omega) (by omega), seg_append (by omega) (by omega) (by omega), seg_append (by omega) (by omega) (by omega), seg_append (by omega) (by omega) (by omega), seg_append (by omega) (by omega) (by omega), seg_append (by omega) (by omega) (by omega), seg_append (by omega) (by omega) (by omega), seg_append (by omega) (by omega) (by omega)]
theorem readS_back {l : List UInt8} {a b : Int} {s : Sp} (h : readS l a = (s, b, 0)) : 0 ≤ a ∧ a ≤ b ∧ b ≤ l.length ∧ wideS s ∧ chkS s = 0 ∧ bytesS s = seg l a b := by
  rw [readS] at h
  split at h
  · rename_i he; simp only [Prod.mk.injEq] at h; exact absurd h.2.2 he
  · split at h
    · rename_i hc; simp only [Prod.mk.injEq] at h; exact absurd h.2.2 hc
    · rename_i he hc
      obtain ⟨g1, g2, g3, g4, g5⟩ := runS_back h
      rw [h] at hc
      exact ⟨g1, g2, g3, g4, by simpa using hc, g5⟩
theorem bytesS_len (s : Sp) (h : chkS s = 0) : (bytesS s).length ≤ 150 ∧ 1 ≤ (bytesS s).length := by
  obtain ⟨_, hn, _⟩ := chkS_ok h
  have hn := nameB_len hn
  simp only [bytesS, List.length_append, be_length, shB, List.length_singleton, textS]
  have := vput_length_le s.name.length
  have := vput_length_le s.status.toNat
  have := vput_length_le s.seq.toNat
  have := vput_length_le s.kids.toNat
  have := vput_length_le s.start.toNat
  have := vput_length_le (s.fin - s.start).toNat
  omega
end Go.Proofs.Ytnbkpannhcamjaa
