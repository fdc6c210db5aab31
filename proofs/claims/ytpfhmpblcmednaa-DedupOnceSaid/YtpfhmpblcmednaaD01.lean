/- Texts put together: Plain Fp Hp Fq Vp Rt Nf. -/
import Derived.WalkKit
import Derived.WalkSpells
namespace Go.Proofs.Ytpfhmpblcmednaa
set_option linter.unusedVariables false
open Go Go.RowKit

theorem hid {p : Prop} (h : p) : Hid p := h
/-- A string of these bytes. -/
def bs (l : List UInt8) : ByteArray := ⟨l.toArray⟩
theorem bs_of (s : ByteArray) : s = bs s.data.toList := by cases s; simp [bs]
@[go_sem] theorem bs_toList (l : List UInt8) : (bs l).toList = l := ByteArray.toList_mk l
@[go_sem] theorem bs_data (l : List UInt8) : (bs l).data.toList = l := by simp [bs]
@[go_sem] theorem bs_size (l : List UInt8) : (bs l).size = l.length := by simp [bs, ByteArray.size]
@[go_sem] theorem bs_append (a b : List UInt8) : bs a ++ bs b = bs (a ++ b) := ByteArray.mk_append_mk a b
theorem bs_inj {a b : List UInt8} (h : bs a = bs b) : a = b := by have := congrArg (fun s : ByteArray => s.data.toList) h; simpa [bs] using this
theorem bs_extract (l : List UInt8) (a b : Nat) : (bs l).extract a b = bs ((l.drop a).take (b - a)) := ByteArray.extract_mk l a b

theorem List.reverseRecOn' {α : Type} {motive : List α → Prop} (l : List α) (nil : motive []) (snoc : ∀ l x, motive l → motive (l ++ [x])) : motive l := by
  have h : ∀ m : List α, motive m.reverse := by
    intro m
    induction m with
    | nil => simpa using nil
    | cons x m ih => rw [List.reverse_cons]; exact snoc _ _ ih
  have := h l.reverse
  simpa using this
/-- Cells of bytes: the bytes of n in the last k of wd places, 0 ahead. -/
def cellsOf (l : List UInt8) : Array Value := (l.map fun b => Value.int .u8 (b.toNat : Int)).toArray
def filled (wd : Nat) (l : List UInt8) : List UInt8 := List.replicate (wd - l.length) 0 ++ l
theorem filled_length {wd : Nat} {l : List UInt8} (h : l.length ≤ wd) : (filled wd l).length = wd := by simp [filled]; omega
theorem filled_set {wd : Nat} {l : List UInt8} (h : l.length < wd) (x : UInt8) : (filled wd l).set (wd - 1 - l.length) x = filled wd (x :: l) := by
  unfold filled
  rw [show wd - l.length = (wd - 1 - l.length) + 1 from by omega, List.replicate_succ', List.append_assoc, List.set_append_right _ _ (by simp)]
  simp [show wd - 1 - l.length = wd - (l.length + 1) from by omega]
theorem cellsOf_size (l : List UInt8) : (cellsOf l).size = l.length := by simp [cellsOf]
theorem cellsOf_at (l : List UInt8) (j : Nat) (h : j < l.length) : (cellsOf l)[j]? = some (.int .u8 (l[j].toNat : Int)) := by simp [cellsOf, h]
theorem cellsOf_set (l : List UInt8) (j : Nat) (x : UInt8) : (cellsOf l).setIfInBounds j (.int .u8 (x.toNat : Int)) = cellsOf (l.set j x) := by
  simp [cellsOf, List.map_set]
/-- The lowest k digits of n to the base b, the highest first, each as f says. -/
def bx (b : Nat) (f : Nat → UInt8) : Nat → Nat → List UInt8
  | 0, _ => []
  | k + 1, n => bx b f k (n / b) ++ [f (n % b)]
theorem bx_length (b : Nat) (f : Nat → UInt8) (k n : Nat) : (bx b f k n).length = k := by
  induction k generalizing n with
  | zero => rfl
  | succ k ih => simp [bx, ih]
theorem div_step (N k b : Nat) : N / b ^ k / b = N / b ^ (k + 1) := by rw [Nat.div_div_eq_div_mul, Nat.pow_succ]
theorem bx_cons (b : Nat) (f : Nat → UInt8) (k n : Nat) : bx b f (k + 1) n = f (n / b ^ k % b) :: bx b f k n := by
  induction k generalizing n with
  | zero => simp [bx]
  | succ k ih =>
    have h : bx b f (k + 1 + 1) n = bx b f (k + 1) (n / b) ++ [f (n % b)] := rfl
    rw [h, ih, Nat.div_div_eq_div_mul, show b * b ^ k = b ^ (k + 1) from by rw [Nat.pow_succ, Nat.mul_comm]]
    rfl
/-- A digit's sign. -/
def hexd (d : Nat) : UInt8 := if d < 10 then UInt8.ofNat (48 + d) else UInt8.ofNat (87 + d)
def be : Nat → Nat → List UInt8 := bx 256 UInt8.ofNat
def hx : Nat → Nat → List UInt8 := bx 16 hexd
theorem be_length (k n : Nat) : (be k n).length = k := bx_length _ _ _ _
theorem hx_length (k n : Nat) : (hx k n).length = k := bx_length _ _ _ _
theorem be_cons (k n : Nat) : be (k + 1) n = UInt8.ofNat (n / 256 ^ k % 256) :: be k n := bx_cons _ _ _ _
theorem hx_cons (k n : Nat) : hx (k + 1) n = hexd (n / 16 ^ k % 16) :: hx k n := bx_cons _ _ _ _
theorem be_zero (n : Nat) : be 0 n = [] := rfl
theorem hx_zero (n : Nat) : hx 0 n = [] := rfl
/-- Put, Hex, as the document says. -/
def putX (b : Nat) (f : Nat → UInt8) (most : Int) (n : Nat) (w : Int) : List UInt8 × Int :=
  if w < 1 ∨ most < w then ([], 2) else if n / b ^ w.toNat = 0 then (bx b f w.toNat n, 0) else ([], 12)
theorem putX_arg {b f most n w} (h : w < 1 ∨ most < w) : putX b f most n w = ([], 2) := by rw [putX, if_pos h]
theorem putX_ok {b f most n w} (h1 : 1 ≤ w) (h2 : w ≤ most) (h : n / b ^ w.toNat = 0) : putX b f most n w = (bx b f w.toNat n, 0) := by rw [putX, if_neg (by omega), if_pos h]
theorem putX_range {b f most n w} (h1 : 1 ≤ w) (h2 : w ≤ most) (h : ¬ n / b ^ w.toNat = 0) : putX b f most n w = ([], 12) := by rw [putX, if_neg (by omega), if_neg h]
def putS (n : Nat) (w : Int) : List UInt8 × Int := putX 256 UInt8.ofNat 8 n w
def hexS (n : Nat) (w : Int) : List UInt8 × Int := putX 16 hexd 16 n w
theorem fits_true {n c k : Nat} {b : Int} (hb : b = (c : Int) * (k : Int)) (h : n / (2 ^ c) ^ k = 0) : ((n : Int) / 2 ^ b.toNat == 0) = true := by
  subst hb
  rw [show ((c : Int) * (k : Int)).toNat = c * k from by rw [← Int.natCast_mul]; rfl, beq_iff_eq, show ((n : Int) / 2 ^ (c * k)) = ((n / 2 ^ (c * k) : Nat) : Int) from by simp, Nat.pow_mul, h]; rfl
theorem fits_false {n c k : Nat} {b : Int} (hb : b = (c : Int) * (k : Int)) (h : ¬ n / (2 ^ c) ^ k = 0) : ((n : Int) / 2 ^ b.toNat == 0) = false := by
  subst hb
  rw [show ((c : Int) * (k : Int)).toNat = c * k from by rw [← Int.natCast_mul]; rfl, beq_eq_false_iff_ne, show ((n : Int) / 2 ^ (c * k)) = ((n / 2 ^ (c * k) : Nat) : Int) from by simp, Nat.pow_mul]
  omega
theorem pair1 {α β : Type} {x : α × β} {a : α} {b : β} (h : x = (a, b)) : x.1 = a := by rw [h]
theorem pair2 {α β : Type} {x : α × β} {a : α} {b : β} (h : x = (a, b)) : x.2 = b := by rw [h]
theorem be_set (wd k n m : Nat) (h : k < wd) (hm : m = n / 256 ^ k) : (filled wd (be k n)).set (wd - 1 - k) (UInt8.ofNat (m % 256)) = filled wd (be (k + 1) n) := by
  rw [be_cons, ← hm]; have := filled_set (wd := wd) (l := be k n) (by rw [be_length]; exact h) (UInt8.ofNat (m % 256)); rwa [be_length] at this
theorem hx_set (wd k n m : Nat) (h : k < wd) (hm : m = n / 16 ^ k) : (filled wd (hx k n)).set (wd - 1 - k) (hexd (m % 16)) = filled wd (hx (k + 1) n) := by
  rw [hx_cons, ← hm]; have := filled_set (wd := wd) (l := hx k n) (by rw [hx_length]; exact h) (hexd (m % 16)); rwa [hx_length] at this
theorem u8_cast (m : Nat) : ((UInt8.ofNat (m % 256)).toNat : Int) = (m : Int) % 256 := by simp [UInt8.toNat_ofNat']
/-- The number of these bytes. -/
def val (l : List UInt8) : Nat := l.foldl (fun a c => a * 256 + c.toNat) 0
theorem val_snoc (l : List UInt8) (c : UInt8) : val (l ++ [c]) = val l * 256 + c.toNat := by simp [val]
theorem val_lt (l : List UInt8) : val l < 256 ^ l.length := by
  induction l using List.reverseRecOn' with
  | nil => simp [val]
  | snoc l c ih => rw [val_snoc, List.length_append, List.length_singleton, Nat.pow_succ]; have := c.toNat_lt; omega
/-- Get, as the document says. -/
def getS (l : List UInt8) (at' w : Int) : Nat × Int :=
  if w < 1 ∨ 8 < w ∨ at' < 0 then (0, 2) else if (l.length : Int) - at' < w then (0, 5) else (val ((l.drop at'.toNat).take w.toNat), 0)
theorem getS_arg {l at' w} (h : w < 1 ∨ 8 < w ∨ at' < 0) : getS l at' w = (0, 2) := by rw [getS, if_pos h]
theorem getS_short {l at' w} (h : ¬ (w < 1 ∨ 8 < w ∨ at' < 0)) (h2 : (l.length : Int) - at' < w) : getS l at' w = (0, 5) := by rw [getS, if_neg h, if_pos h2]
theorem getS_ok {l at' w} (h : ¬ (w < 1 ∨ 8 < w ∨ at' < 0)) (h2 : ¬ (l.length : Int) - at' < w) : getS l at' w = (val ((l.drop at'.toNat).take w.toNat), 0) := by rw [getS, if_neg h, if_neg h2]
theorem take_snoc (l : List UInt8) (k : Nat) (h : k < l.length) : l.take (k + 1) = l.take k ++ [l[k]] := by
  rw [List.take_succ_eq_append_getElem h]
theorem cut_snoc (l : List UInt8) (i k : Nat) (h : i + k < l.length) : (l.drop i).take (k + 1) = (l.drop i).take k ++ [l[i + k]] := by
  rw [take_snoc _ k (by simp; omega)]; simp
theorem or_add (a b : Nat) (k : Nat) (h : b < 2 ^ k) : (a * 2 ^ k) ||| b = a * 2 ^ k + b := by
  rw [Nat.mul_comm]; exact (Nat.two_pow_add_eq_or_of_lt h a).symm
/-- A digit's number. -/
def hexv (c : UInt8) : Option Nat := if 48 ≤ c.toNat ∧ c.toNat ≤ 57 then some (c.toNat - 48) else if 97 ≤ c.toNat ∧ c.toNat ≤ 102 then some (c.toNat - 87) else none
theorem hexv_lt {c : UInt8} {d : Nat} (h : hexv c = some d) : d < 16 := by
  unfold hexv at h; split at h
  · simp at h; omega
  · split at h
    · simp at h; omega
    · simp at h
def uh : Nat → List UInt8 → Option Nat
  | a, [] => some a
  | a, c :: r => match hexv c with
    | none => none
    | some d => uh (16 * a + d) r
/-- Unhex, as the document says. -/
def unhexS (l : List UInt8) : Nat × Int :=
  if l.length < 1 ∨ 16 < l.length then (0, 3) else match uh 0 l with | none => (0, 3) | some n => (n, 0)

@[go_sem] theorem bs_get (l : List UInt8) (i : Nat) (h : i < (bs l).size) : (bs l)[i]'h = l[i]'(by rwa [bs_size] at h) := rfl
theorem wrap_u64_nat (n : Nat) (h : n < 18446744073709551616) : IntKind.u64.wrap (n : Int) = n := IntWalk.u64_in _ (by omega)
theorem shlor8 (m b : Nat) (hm : m < 72057594037927936) (hb : b < 256) : bits .or .u64 (IntKind.u64.wrap ((m : Int) * 256)) (IntKind.u64.wrap (b : Int)) = ((m * 256 + b : Nat) : Int) := by
  rw [show (m : Int) * 256 = ((m * 256 : Nat) : Int) from by omega, wrap_u64_nat _ (by omega), wrap_u64_nat _ (by omega), u64_or_nat _ _ (by omega) (by omega), show m * 256 = m * 2 ^ 8 from rfl, or_add _ _ 8 hb]
theorem shlor4 (m b : Nat) (hm : m < 1152921504606846976) (hb : b < 16) : bits .or .u64 (IntKind.u64.wrap ((m : Int) * 16)) (b : Int) = ((m * 16 + b : Nat) : Int) := by
  rw [show (m : Int) * 16 = ((m * 16 : Nat) : Int) from by omega, wrap_u64_nat _ (by omega), u64_or_nat _ _ (by omega) (by omega), show m * 16 = m * 2 ^ 4 from rfl, or_add _ _ 4 hb]
theorem hexlit : ∀ d : Fin 16, (ByteArray.mk #[48, 49, 50, 51, 52, 53, 54, 55, 56, 57, 97, 98, 99, 100, 101, 102])[d.val]'(by have := d.isLt; simp [ByteArray.size]) = hexd d.val := by decide
theorem hexlit_at (d : Nat) (h : d < 16) (hz : d < (ByteArray.mk #[48, 49, 50, 51, 52, 53, 54, 55, 56, 57, 97, 98, 99, 100, 101, 102]).size) : (ByteArray.mk #[48, 49, 50, 51, 52, 53, 54, 55, 56, 57, 97, 98, 99, 100, 101, 102])[d]'hz = hexd d := hexlit ⟨d, h⟩
theorem val_cut_lt (l : List UInt8) (i k : Nat) (h : k ≤ 7) : val ((l.drop i).take k) < 72057594037927936 := by
  have h1 := val_lt ((l.drop i).take k)
  have h2 : ((l.drop i).take k).length ≤ 7 := Nat.le_trans (List.length_take_le _ _) h
  have h3 : 256 ^ ((l.drop i).take k).length ≤ 256 ^ 7 := Nat.pow_le_pow_right (by omega) h2
  omega
theorem uh_drop (l : List UInt8) (k a : Nat) (h : k < l.length) : uh a (l.drop k) = match hexv l[k] with | none => none | some d => uh (16 * a + d) (l.drop (k + 1)) := by
  rw [List.drop_eq_getElem_cons h]; rfl
theorem muladd256 (m b : Nat) (hm : m < 72057594037927936) (hb : b < 256) : IntKind.u64.wrap (256 * (m : Int) + IntKind.u64.wrap (b : Int)) = ((m * 256 + b : Nat) : Int) := by
  rw [wrap_u64_nat b (by omega), show 256 * (m : Int) + (b : Int) = ((m * 256 + b : Nat) : Int) from by omega, wrap_u64_nat _ (by omega)]
theorem wrap_div (m b : Nat) (hm : m < 18446744073709551616) : IntKind.u64.wrap ((m : Int) / (b : Int)) = ((m / b : Nat) : Int) := by
  rw [← Int.natCast_ediv, wrap_u64_nat _ (Nat.lt_of_le_of_lt (Nat.div_le_self _ _) hm)]
theorem div_lt {m n b : Nat} (h : m = n / b) (hn : n < 18446744073709551616) : m < 18446744073709551616 := by rw [h]; exact Nat.lt_of_le_of_lt (Nat.div_le_self _ _) hn
theorem hex_cut (d : Nat) (h : d < 16) : (ByteArray.mk #[48, 49, 50, 51, 52, 53, 54, 55, 56, 57, 97, 98, 99, 100, 101, 102]).extract d (d + 1) = bs [hexd d] := by
  have hs : (ByteArray.mk #[48, 49, 50, 51, 52, 53, 54, 55, 56, 57, 97, 98, 99, 100, 101, 102]) = bs [48, 49, 50, 51, 52, 53, 54, 55, 56, 57, 97, 98, 99, 100, 101, 102] := rfl
  rw [hs, bs_extract]
  have : ∀ d : Fin 16, (List.drop d.val ([48, 49, 50, 51, 52, 53, 54, 55, 56, 57, 97, 98, 99, 100, 101, 102] : List UInt8)).take (d.val + 1 - d.val) = [hexd d.val] := by decide
  rw [this ⟨d, h⟩]
theorem val_be (k n : Nat) : val (be k n) = n % 256 ^ k := by
  induction k generalizing n with
  | zero => simp [be, bx, val, Nat.mod_one]
  | succ k ih =>
    have h : be (k + 1) n = be k (n / 256) ++ [UInt8.ofNat (n % 256)] := rfl
    have hu : (UInt8.ofNat (n % 256)).toNat = n % 256 := by simp [UInt8.toNat_ofNat']
    rw [h, val_snoc, ih, hu, Nat.pow_succ, Nat.mul_comm (256 ^ k) 256, Nat.mod_mul]
    omega
theorem hexv_hexd : ∀ d : Fin 16, hexv (hexd d.val) = some d.val := by decide
theorem hexv_hexd' (d : Nat) (h : d < 16) : hexv (hexd d) = some d := hexv_hexd ⟨d, h⟩
theorem hexd_hexv : ∀ c : Fin 256, (hexv (UInt8.ofNat c.val)).map hexd = (hexv (UInt8.ofNat c.val)).map (fun _ => UInt8.ofNat c.val) := by decide +kernel
theorem hexd_of {c : UInt8} {d : Nat} (h : hexv c = some d) : hexd d = c := by
  have h1 := hexd_hexv ⟨c.toNat, c.toNat_lt⟩
  simp only [UInt8.ofNat_toNat, h, Option.map_some, Option.some.injEq] at h1
  exact h1
theorem uh_hx (k n a : Nat) : uh a (hx k n) = some (a * 16 ^ k + n % 16 ^ k) := by
  induction k generalizing n a with
  | zero => simp [hx, bx, uh, Nat.mod_one]
  | succ k ih =>
    rw [hx_cons]
    have hd : n / 16 ^ k % 16 < 16 := Nat.mod_lt _ (by omega)
    simp only [uh, hexv_hexd' _ hd, ih]
    rw [Nat.pow_succ, Nat.mod_mul (a := 16 ^ k) (b := 16), Nat.add_mul]
    congr 1
    rw [Nat.mul_comm (16 ^ k) (n / 16 ^ k % 16), Nat.mul_comm 16 a, Nat.mul_assoc, Nat.mul_comm 16]
    omega
theorem hx_uh (l : List UInt8) : ∀ (a m : Nat), uh a l = some m → m / 16 ^ l.length = a ∧ hx l.length m = l := by
  induction l with
  | nil => intro a m h; simp only [uh, Option.some.injEq] at h; subst h; simp [hx, bx]
  | cons c r ih =>
    intro a m h
    simp only [uh] at h
    cases hd : hexv c with
    | none => rw [hd] at h; simp at h
    | some d =>
      rw [hd] at h
      obtain ⟨h1, h2⟩ := ih _ _ h
      have h16 := hexv_lt hd
      rw [List.length_cons]
      refine ⟨?_, ?_⟩
      · rw [← div_step, h1]; omega
      · rw [hx_cons, h1, h2, show (16 * a + d) % 16 = d from by omega, hexd_of hd]
theorem mod_of_div {n m : Nat} (hm : 0 < m) (h : n / m = 0) : n % m = n := by
  rw [Nat.mod_eq_of_lt]
  rcases Nat.lt_or_ge n m with h' | h'
  · exact h'
  · have := Nat.div_pos h' hm; omega
theorem getS_putS (n wd : Nat) (a b : List UInt8) (h1 : 1 ≤ wd) (h2 : wd ≤ 8) (h : n / 256 ^ wd = 0) : getS (a ++ be wd n ++ b) a.length wd = (n, 0) := by
  rw [getS_ok (by omega) (by simp [be_length]; omega)]
  rw [Int.toNat_natCast, Int.toNat_natCast, List.append_assoc, List.drop_left, List.take_append_of_le_length (by rw [be_length]; omega), List.take_of_length_le (by rw [be_length]; omega), val_be, mod_of_div (Nat.pow_pos (by omega)) h]
theorem unhexS_hexS (n wd : Nat) (h1 : 1 ≤ wd) (h2 : wd ≤ 16) (h : n / 16 ^ wd = 0) : unhexS (hx wd n) = (n, 0) := by
  rw [unhexS, if_neg (by rw [hx_length]; omega), uh_hx, mod_of_div (Nat.pow_pos (by omega)) h]; simp
theorem hexS_unhexS (l : List UInt8) (h : (unhexS l).2 = 0) : hexS (unhexS l).1 l.length = (l, 0) := by
  unfold unhexS at h ⊢
  split at h
  · simp at h
  · rename_i hl
    rw [if_neg hl]
    cases hu : uh 0 l with
    | none => rw [hu] at h; simp at h
    | some m =>
      obtain ⟨h1, h2⟩ := hx_uh l 0 m hu
      show hexS m l.length = _
      rw [hexS, putX_ok (by omega) (by omega) (by rw [Int.toNat_natCast]; exact h1), Int.toNat_natCast]
      exact congrArg (·, (0 : Int)) h2
theorem putX_snd_ne {b f most n w} (h : ¬ (1 ≤ w ∧ w ≤ most ∧ n / b ^ w.toNat = 0)) : (putX b f most n w).2 = 2 ∨ (putX b f most n w).2 = 12 := by
  unfold putX; split
  · exact Or.inl rfl
  · split
    · rename_i h1 h2; exact absurd ⟨by omega, by omega, h2⟩ h
    · exact Or.inr rfl
theorem unhexS_snd (l : List UInt8) : (unhexS l).2 = 0 ∨ (unhexS l).2 = 3 := by
  unfold unhexS; split
  · exact Or.inr rfl
  · split
    · exact Or.inr rfl
    · exact Or.inl rfl
end Go.Proofs.Ytpfhmpblcmednaa
namespace Go.Proofs.Ytpfhmpblcmednaa
set_option linter.unusedVariables false
set_option linter.unusedSimpArgs false
open Go Go.RowKit

/-- A byte, escaped. -/
def escB (b : UInt8) : List UInt8 := if b.toNat < 32 ∨ 126 < b.toNat then [92, 120, hexd (b.toNat / 16), hexd (b.toNat % 16)] else if b.toNat = 34 ∨ b.toNat = 92 then [92, b] else [b]
/-- A text, escaped. -/
def escS (s : List UInt8) : List UInt8 := if s = [] then [45] else s.flatMap escB
def hexN (c : UInt8) : Nat := if c.toNat < 58 then c.toNat - 48 else c.toNat - 87
/-- The byte that the first signs of an escaped text stand for. -/
def decB : List UInt8 → UInt8
  | [] => 0
  | c :: r => if c = 92 then (match r with | [] => 0 | d :: q => if d = 120 then (match q with | x :: y :: _ => UInt8.ofNat (16 * hexN x + hexN y) | _ => 0) else d) else c
theorem hexN_two : ∀ a : Fin 256, UInt8.ofNat (16 * hexN (hexd (a.val / 16)) + hexN (hexd (a.val % 16))) = UInt8.ofNat a := by decide +kernel
theorem escB_plain : ∀ a : Fin 256, (escB (UInt8.ofNat a)).all (fun c => decide (32 ≤ c.toNat) && decide (c.toNat ≤ 126)) = true ∧ 1 ≤ (escB (UInt8.ofNat a)).length ∧ (escB (UInt8.ofNat a)).length ≤ 4 := by decide +kernel
theorem u8_fin (b : UInt8) : ∃ a : Fin 256, b = UInt8.ofNat a := ⟨⟨b.toNat, UInt8.toNat_lt b⟩, by simp⟩
theorem decB_of (a : UInt8) (r : List UInt8) : decB (escB a ++ r) = a := by
  unfold escB
  split
  · have h := hexN_two ⟨a.toNat, UInt8.toNat_lt a⟩
    simp only [List.cons_append, List.nil_append, decB, if_true]
    rw [h]
    simp
  · split
    · rename_i h1 h2
      have h3 : a ≠ 120 := fun e => by subst e; revert h2; decide
      simp only [List.cons_append, List.nil_append, decB, if_true, if_neg h3]
    · rename_i h1 h2
      have h3 : a ≠ 92 := fun e => h2 (Or.inr (by subst e; rfl))
      simp only [List.cons_append, List.nil_append, decB, if_neg h3]
theorem escB_cut {a b : UInt8} {r q : List UInt8} (h : escB a ++ r = escB b ++ q) : a = b ∧ r = q := by
  have hab : a = b := by rw [← decB_of a r, h, decB_of]
  subst hab
  exact ⟨rfl, List.append_cancel_left h⟩
theorem escF_inj : ∀ (s t : List UInt8), s.flatMap escB = t.flatMap escB → s = t
  | [], [], _ => rfl
  | [], b :: t, h => by
    obtain ⟨y, rfl⟩ := u8_fin b
    have h1 := (escB_plain y).2.1
    rw [List.flatMap_cons] at h
    have h2 := congrArg List.length h
    rw [List.length_append, List.flatMap_nil, List.length_nil] at h2
    omega
  | a :: s, [], h => by
    obtain ⟨y, rfl⟩ := u8_fin a
    have h1 := (escB_plain y).2.1
    rw [List.flatMap_cons] at h
    have h2 := congrArg List.length h
    rw [List.length_append, List.flatMap_nil, List.length_nil] at h2
    omega
  | a :: s, b :: t, h => by
    rw [List.flatMap_cons, List.flatMap_cons] at h
    obtain ⟨rfl, h2⟩ := escB_cut h
    rw [escF_inj s t h2]
/-- Unlike texts are escaped unlike, but for - and the one without bytes. -/
theorem escS_inj {s t : List UInt8} (h : escS s = escS t) : s = t ∨ (s = [] ∧ t = [45]) ∨ (s = [45] ∧ t = []) := by
  unfold escS at h
  by_cases h1 : s = []
  · by_cases h2 : t = []
    · exact Or.inl (h1.trans h2.symm)
    · rw [if_pos h1, if_neg h2] at h
      exact Or.inr (Or.inl ⟨h1, (escF_inj [45] t (Eq.trans (by decide) h)).symm⟩)
  · by_cases h2 : t = []
    · rw [if_neg h1, if_pos h2] at h
      exact Or.inr (Or.inr ⟨escF_inj s [45] (h.trans (by decide)), h2⟩)
    · rw [if_neg h1, if_neg h2] at h
      exact Or.inl (escF_inj s t h)
theorem escF_plain (s : List UInt8) : ∀ c ∈ s.flatMap escB, 32 ≤ c.toNat ∧ c.toNat ≤ 126 := by
  intro c hc
  obtain ⟨b, -, hb⟩ := List.mem_flatMap.1 hc
  obtain ⟨y, rfl⟩ := u8_fin b
  have h1 := List.all_eq_true.1 (escB_plain y).1 c hb
  rw [Bool.and_eq_true] at h1
  exact ⟨of_decide_eq_true h1.1, of_decide_eq_true h1.2⟩
theorem escS_plain (s : List UInt8) : ∀ c ∈ escS s, 32 ≤ c.toNat ∧ c.toNat ≤ 126 := by
  unfold escS
  split
  · intro c hc
    obtain rfl : c = 45 := by simpa using hc
    decide
  · exact escF_plain s
theorem escF_len : ∀ s : List UInt8, s.length ≤ (s.flatMap escB).length ∧ (s.flatMap escB).length ≤ 4 * s.length
  | [] => by simp
  | b :: s => by
    obtain ⟨h1, h2⟩ := escF_len s
    obtain ⟨y, rfl⟩ := u8_fin b
    obtain ⟨-, h3, h4⟩ := escB_plain y
    rw [List.flatMap_cons, List.length_append, List.length_cons]
    omega
theorem escS_len (s : List UInt8) : s.length ≤ (escS s).length ∧ (escS s).length ≤ 4 * s.length + 1 := by
  unfold escS
  split
  · rename_i h
    subst h
    decide
  · have := escF_len s
    omega
theorem escF_take (s : List UInt8) (k : Nat) (h : k < s.length) : (s.take (k + 1)).flatMap escB = (s.take k).flatMap escB ++ escB s[k] := by
  rw [List.take_succ_eq_append_getElem h, List.flatMap_append]
  simp
end Go.Proofs.Ytpfhmpblcmednaa
namespace Go.Proofs.Ytpfhmpblcmednaa
set_option linter.unusedVariables false

abbrev Hd : Type := List UInt8 × List UInt8
def inNameB (c : UInt8) : Bool := (decide (97 ≤ c.toNat) && decide (c.toNat ≤ 122)) || (decide (48 ≤ c.toNat) && decide (c.toNat ≤ 57)) || decide (c.toNat = 45)
def inValueB (c : UInt8) : Bool := decide (32 ≤ c.toNat) && decide (c.toNat ≤ 126)
def nameB (l : List UInt8) : Bool := !l.isEmpty && (decide (l.length ≤ 32) && l.all inNameB)
def endsB (l : List UInt8) : Bool := l.isEmpty || (decide ((l.headD 0).toNat ≠ 32) && decide ((l.getLastD 0).toNat ≠ 32))
def valueB (l : List UInt8) : Bool := decide (l.length ≤ 64) && (l.all inValueB && endsB l)
def faultS : List Hd → Int
  | [] => 0
  | h :: r => if nameB h.1 = false then 7 else if valueB h.2 = false then 15 else faultS r
def checkS (L : List Hd) : Int := if 16 < L.length then 8 else faultS L
theorem faultS_drop (L : List Hd) (k : Nat) (h : k < L.length) : faultS (L.drop k) = if nameB L[k].1 = false then 7 else if valueB L[k].2 = false then 15 else faultS (L.drop (k + 1)) := by
  rw [List.drop_eq_getElem_cons h]; rfl
theorem all_take (p : UInt8 → Bool) (l : List UInt8) (k : Nat) (h : k < l.length) : (l.take (k + 1)).all p = ((l.take k).all p && p l[k]) := by
  rw [take_snoc _ _ h, List.all_append]; simp
theorem all_false {p : UInt8 → Bool} {l : List UInt8} {k : Nat} (h : k < l.length) (hp : p l[k] = false) : l.all p = false := by
  rw [List.all_eq_false]; exact ⟨l[k], List.getElem_mem h, by simp [hp]⟩
theorem headD_at {l : List UInt8} (h : 0 < l.length) : l.headD 0 = l[0] := by cases l <;> simp at h ⊢
theorem getLastD_at {l : List UInt8} (h : 0 < l.length) : l.getLastD 0 = l[l.length - 1] := by
  cases l with
  | nil => simp at h
  | cons c r =>
    have h1 : (c :: r).getLastD 0 = (c :: r).getLast (by simp) := rfl
    rw [h1, List.getLast_eq_getElem]
/-- The headers of the names. -/
def memB (names : List (List UInt8)) (v : List UInt8) : Bool := names.contains v
def hasN (names : List (List UInt8)) (h : Hd) : Bool := memB names h.1
def allS (L : List Hd) (n : List UInt8) : List (List UInt8) := (L.filter (hasN [n])).map (·.2)
def getH (L : List Hd) (n : List UInt8) : List UInt8 × Bool := match allS L n with | [] => ([], false) | v :: _ => (v, true)
def addH (L : List Hd) (n v : List UInt8) : List Hd := L ++ [(n, v)]
def withoutH (L : List Hd) (names : List (List UInt8)) : List Hd := L.filter fun h => !hasN names h
def idxH (p : Hd → Bool) (L : List Hd) : Int := if L.findIdx p < L.length then (L.findIdx p : Int) else -1
def setH (L : List Hd) (n v : List UInt8) : List Hd :=
  if L.findIdx (hasN [n]) < L.length then addH (L.take (L.findIdx (hasN [n]))) n v ++ withoutH (L.drop (L.findIdx (hasN [n]) + 1)) [n] else addH L n v
theorem hasN_one (n : List UInt8) (h : Hd) : hasN [n] h = (h.1 == n) := by rw [Bool.eq_iff_iff]; simp [hasN, memB]
theorem filter_take {α : Type} (p : α → Bool) (L : List α) (k : Nat) (h : k < L.length) : (L.take (k + 1)).filter p = (L.take k).filter p ++ if p L[k] then [L[k]] else [] := by
  rw [List.take_succ_eq_append_getElem h, List.filter_append]; cases hp : p L[k] <;> simp [hp]
/-- Where the first one stands, told by a loop. -/
theorem findIdx_hit {α : Type} (p : α → Bool) (L : List α) (k : Nat) (h : k < L.length) (hn : ∀ j (hj : j < L.length), j < k → p L[j] = false) (hp : p L[k] = true) : L.findIdx p = k := by
  rw [List.findIdx_eq h]; exact ⟨hp, fun j hj => by simpa using hn j (by omega) hj⟩
theorem findIdx_miss {α : Type} (p : α → Bool) (L : List α) (hn : ∀ j (hj : j < L.length), p L[j] = false) : L.findIdx p = L.length := by
  rw [List.findIdx_eq_length]; intro x hx
  obtain ⟨j, hj, rfl⟩ := List.getElem_of_mem hx
  exact hn j hj
theorem findIdx_before (p : Hd → Bool) (L : List Hd) (j : Nat) (hj : j < L.length) (h : j < L.findIdx p) : p L[j] = false := by
  have := List.not_of_lt_findIdx h; simpa using this
theorem filter_none {α : Type} (p : α → Bool) (L : List α) (h : ∀ x ∈ L, p x = false) : L.filter p = [] := by
  rw [List.filter_eq_nil_iff]; intro x hx; simp [h x hx]
theorem filter_all {α : Type} (p : α → Bool) (L : List α) (h : ∀ x ∈ L, p x = true) : L.filter p = L := by
  rw [List.filter_eq_self]; exact h
/-- How the list parts at the first one of a name. -/
theorem part (p : Hd → Bool) (L : List Hd) (h : L.findIdx p < L.length) : L = L.take (L.findIdx p) ++ L[L.findIdx p] :: L.drop (L.findIdx p + 1) ∧ (∀ x ∈ L.take (L.findIdx p), p x = false) ∧ p (L[L.findIdx p]) = true := by
  refine ⟨?_, ?_, List.findIdx_getElem (w := h)⟩
  · rw [← List.drop_eq_getElem_cons h, List.take_append_drop]
  · intro x hx
    obtain ⟨j, hj, rfl⟩ := List.getElem_of_mem hx
    rw [List.length_take] at hj
    rw [List.getElem_take]
    exact findIdx_before p L j (by omega) (by omega)
theorem getH_of (L : List Hd) (n : List UInt8) : getH L n = if h : L.findIdx (hasN [n]) < L.length then (L[L.findIdx (hasN [n])].2, true) else ([], false) := by
  by_cases h : L.findIdx (hasN [n]) < L.length
  · rw [dif_pos h]
    obtain ⟨h1, h2, h3⟩ := part (hasN [n]) L h
    have : allS L n = L[L.findIdx (hasN [n])].2 :: allS (L.drop (L.findIdx (hasN [n]) + 1)) n := by
      conv => lhs; rw [h1]
      rw [allS, List.filter_append, filter_none _ _ h2, List.nil_append, List.filter_cons, if_pos h3]; rfl
    rw [getH, this]
  · rw [dif_neg h]
    have : allS L n = [] := by
      rw [allS, filter_none]
      · rfl
      · intro x hx
        obtain ⟨j, hj, rfl⟩ := List.getElem_of_mem hx
        exact findIdx_before _ L j hj (by omega)
    rw [getH, this]
/-- Set as the document's loop has it. -/
def setR (n v : List UInt8) : Bool → List Hd → List Hd
  | met, [] => if met then [] else [(n, v)]
  | met, h :: r => if h.1 ≠ n then h :: setR n v met r else if met then setR n v met r else (n, v) :: setR n v true r
theorem setR_true (n v : List UInt8) (L : List Hd) : setR n v true L = withoutH L [n] := by
  induction L with
  | nil => simp [setR, withoutH]
  | cons h r ih =>
    rw [setR, ih, withoutH, withoutH, List.filter_cons, hasN_one]
    by_cases e : h.1 = n
    · simp [e]
    · simp [e]
theorem setR_false (n v : List UInt8) (L : List Hd) : setR n v false L = setH L n v := by
  induction L with
  | nil => simp [setR, setH, addH]
  | cons h r ih =>
    rw [setR]
    by_cases e : h.1 = n
    · rw [if_neg (by simp [e]), if_neg (by decide), setR_true, setH]
      have : (h :: r).findIdx (hasN [n]) = 0 := by rw [List.findIdx_cons, hasN_one]; simp [e]
      rw [this, if_pos (by simp)]
      simp [addH]
    · rw [if_pos e, ih, setH, setH]
      have hi : (h :: r).findIdx (hasN [n]) = r.findIdx (hasN [n]) + 1 := by
        have e2 : (h.1 == n) = false := by simpa using e
        rw [List.findIdx_cons, hasN_one, e2]; rfl
      rw [hi]
      by_cases hl : r.findIdx (hasN [n]) < r.length
      · rw [if_pos hl, if_pos (show r.findIdx (hasN [n]) + 1 < (h :: r).length from by rw [List.length_cons]; omega)]; simp [addH]
      · rw [if_neg hl, if_neg (show ¬ r.findIdx (hasN [n]) + 1 < (h :: r).length from by rw [List.length_cons]; omega)]; simp [addH]
theorem withoutH_append (a b : List Hd) (names : List (List UInt8)) : withoutH (a ++ b) names = withoutH a names ++ withoutH b names := by simp [withoutH]
theorem allS_append (a b : List Hd) (n : List UInt8) : allS (a ++ b) n = allS a n ++ allS b n := by simp [allS]
theorem allS_withoutH (L : List Hd) (n : List UInt8) : allS (withoutH L [n]) n = [] := by
  rw [allS, withoutH, filter_none]
  · rfl
  · intro x hx
    have := (List.mem_filter.1 hx).2
    simpa using this
theorem withoutH_twice (L : List Hd) (n : List UInt8) : withoutH (withoutH L [n]) [n] = withoutH L [n] := by simp [withoutH]
theorem allS_none (L : List Hd) (n : List UInt8) (h : ∀ x ∈ L, hasN [n] x = false) : allS L n = [] := by rw [allS, filter_none _ _ h]; rfl
theorem withoutH_none (L : List Hd) (n : List UInt8) (h : ∀ x ∈ L, hasN [n] x = false) : withoutH L [n] = L := by
  rw [withoutH, filter_all]; intro x hx; simp [h x hx]
/-- P4.3. -/
theorem setH_facts (L : List Hd) (n v : List UInt8) : allS (setH L n v) n = [v] ∧ withoutH (setH L n v) [n] = withoutH L [n] ∧ (withoutH (setH L n v) [n]).length + 1 = (setH L n v).length ∧ (getH (withoutH (setH L n v) [n]) n).2 = false := by
  have hone : allS [(n, v)] n = [v] := by simp [allS, hasN, memB]
  have hwone : withoutH [(n, v)] [n] = [] := by simp [withoutH, hasN, memB]
  have hget : ∀ M : List Hd, (getH (withoutH M [n]) n).2 = false := fun M => by rw [getH, allS_withoutH]
  by_cases h : L.findIdx (hasN [n]) < L.length
  · obtain ⟨h1, h2, h3⟩ := part (hasN [n]) L h
    have hs : setH L n v = L.take (L.findIdx (hasN [n])) ++ [(n, v)] ++ withoutH (L.drop (L.findIdx (hasN [n]) + 1)) [n] := by rw [setH, if_pos h, addH]
    have hw : withoutH (setH L n v) [n] = L.take (L.findIdx (hasN [n])) ++ withoutH (L.drop (L.findIdx (hasN [n]) + 1)) [n] := by
      rw [hs, withoutH_append, withoutH_append, hwone, withoutH_none _ _ h2, withoutH_twice]; simp
    refine ⟨?_, ?_, ?_, hget _⟩
    · rw [hs, allS_append, allS_append, hone, allS_none _ _ h2, allS_withoutH]; simp
    · rw [hw]
      conv => rhs; rw [h1]
      rw [withoutH_append, withoutH_none _ _ h2]
      congr 1
      conv => rhs; rw [withoutH, List.filter_cons, if_neg (by simp [h3])]
      rfl
    · rw [hw, hs]; simp; omega
  · have hno : ∀ x ∈ L, hasN [n] x = false := by
      intro x hx
      obtain ⟨j, hj, rfl⟩ := List.getElem_of_mem hx
      exact findIdx_before _ L j hj (by omega)
    have hs : setH L n v = L ++ [(n, v)] := by rw [setH, if_neg h, addH]
    have hw : withoutH (setH L n v) [n] = L := by rw [hs, withoutH_append, hwone, withoutH_none _ _ hno]; simp
    refine ⟨?_, ?_, ?_, hget _⟩
    · rw [hs, allS_append, hone, allS_none _ _ hno]; rfl
    · rw [hw, withoutH_none _ _ hno]
    · rw [hw, hs]; simp
end Go.Proofs.Ytpfhmpblcmednaa
namespace Go.Proofs.Ytpfhmpblcmednaa
set_option linter.unusedVariables false
set_option linter.unusedSimpArgs false
open Go Go.RowKit

/-- A part: its kind, its text. -/
abbrev Prt := Int × List UInt8
/-- The words of the kinds 1 to 8. -/
def wordsF : List (List UInt8) := [[77, 69, 84, 72, 79, 68], [72, 79, 83, 84], [80, 65, 84, 72], [84, 65, 82, 71, 69, 84], [83, 84, 65, 84, 85, 83], [86, 69, 82, 83, 73, 79, 78], [84, 82, 65, 67, 69], [84, 79, 79, 75]]
/-- The name of a header that REQ( .. ) says. -/
def reqF (s : List UInt8) : List UInt8 := (s.drop 4).take (s.length - 5)
def isReq (s : List UInt8) : Bool := decide (5 < s.length) && (decide (s.take 4 = [82, 69, 81, 40]) && (decide (s.getLastD 0 = 41) && nameB (reqF s)))
/-- What stands between two signs. -/
def partF (s : List UInt8) : Option Prt := if wordsF.idxOf s < 8 then some ((wordsF.idxOf s : Int) + 1, []) else if isReq s = true then some (9, reqF s) else none
/-- Parts with a text more. -/
def withPr (l : List Prt) (s : List UInt8) : List Prt := match l.getLast? with | some (k, t) => if k = 0 then l.dropLast ++ [(0, t ++ s)] else l ++ [(0, s)] | none => [(0, s)]
/-- A format's parts, from a place on. -/
def compF : Nat → List UInt8 → Nat → List Prt → List Prt × Nat × Int
  | 0, _, _, acc => (acc, 0, 0)
  | _ + 1, [], _, acc => (acc, 0, 0)
  | n + 1, c :: r, at_, acc =>
    if c.toNat < 32 ∨ 126 < c.toNat then ([], at_, 15)
    else if c.toNat ≠ 37 then compF n r (at_ + 1) (withPr acc [c])
    else if (r.takeWhile (fun d => decide (d.toNat ≠ 37))).length = r.length then ([], at_, 3)
    else if r.takeWhile (fun d => decide (d.toNat ≠ 37)) = [] then compF n (r.drop 1) (at_ + 2) (withPr acc [37])
    else match partF (r.takeWhile (fun d => decide (d.toNat ≠ 37))) with
      | none => ([], at_, 3)
      | some p => compF n (r.drop ((r.takeWhile (fun d => decide (d.toNat ≠ 37))).length + 1)) (at_ + (r.takeWhile (fun d => decide (d.toNat ≠ 37))).length + 2) (acc ++ [p])
/-- A format, compiled. -/
def compileF (s : List UInt8) : List Prt × Nat × Int := if 120 < s.length then ([], 0, 6) else compF s.length s 0 []
/-- A text, each sign doubled. -/
def dblF (s : List UInt8) : List UInt8 := s.flatMap fun c => if c.toNat = 37 then [c, c] else [c]
/-- A part, as a format has it. -/
def wrF (p : Prt) : List UInt8 := if p.1 = 0 then dblF p.2 else if p.1 = 9 then [37, 82, 69, 81, 40] ++ p.2 ++ [41, 37] else [37] ++ (wordsF.getD (p.1 - 1).toNat []) ++ [37]
def okF (p : Prt) : Bool := decide (0 ≤ p.1) && decide (p.1 ≤ 9) && (decide (p.1 = 0) || decide (p.1 = 9) || p.2.isEmpty)
def writeF (l : List Prt) : List UInt8 × Int := if l.all okF = true then (l.flatMap wrF, 0) else ([], 2)
theorem dblF_append (a b : List UInt8) : dblF (a ++ b) = dblF a ++ dblF b := by simp [dblF]
theorem withPr_wr (l : List Prt) (s : List UInt8) : (withPr l s).flatMap wrF = l.flatMap wrF ++ dblF s := by
  unfold withPr
  split
  · rename_i k t h
    split
    · rename_i hk
      subst hk
      have hne : l ≠ [] := by intro e; subst e; simp at h
      have hl : l = l.dropLast ++ [(0, t)] := by
        have := List.dropLast_concat_getLast hne
        rw [List.getLast?_eq_some_getLast hne] at h
        injection h with h
        rw [h] at this
        exact this.symm
      conv => rhs; rw [hl]
      rw [List.flatMap_append, List.flatMap_append]
      simp [wrF, dblF_append]
    · rw [List.flatMap_append]; simp [wrF]
  · rename_i h
    have : l = [] := by simpa using h
    subst this
    simp [wrF]
theorem withPr_ok (l : List Prt) (s : List UInt8) (h : l.all okF = true) : (withPr l s).all okF = true := by
  unfold withPr
  split
  · split
    · rename_i k t hl hk
      rw [List.all_append, Bool.and_eq_true]
      refine ⟨?_, by simp [okF]⟩
      rw [List.all_eq_true] at h ⊢
      exact fun x hx => h x (List.dropLast_subset _ hx)
    · rw [List.all_append, h]; simp [okF]
  · simp [okF]
theorem part_wr {s : List UInt8} {p : Prt} (h : partF s = some p) : wrF p = [37] ++ s ++ [37] ∧ okF p = true := by
  unfold partF at h
  split at h
  · rename_i h8
    injection h with h
    subst h
    have h1 : wordsF[wordsF.idxOf s]? = some s := by
      rw [List.getElem?_eq_getElem (show wordsF.idxOf s < wordsF.length from h8), List.getElem_idxOf]
    have e1 : ((wordsF.idxOf s : Int) + 1 - 1).toNat = wordsF.idxOf s := by omega
    have e2 : ¬ ((wordsF.idxOf s : Int) + 1 = 0) := by omega
    have e3 : ¬ ((wordsF.idxOf s : Int) + 1 = 9) := by omega
    refine ⟨?_, ?_⟩
    · simp only [wrF, if_neg e2, if_neg e3, e1]
      rw [List.getD_eq_getElem?_getD, h1, Option.getD_some]
    · simp only [okF, Bool.and_eq_true, decide_eq_true_eq, Bool.or_eq_true]
      exact ⟨⟨by omega, by omega⟩, Or.inr rfl⟩
  · split at h
    · rename_i hr
      injection h with h
      subst h
      simp only [isReq, Bool.and_eq_true, decide_eq_true_eq] at hr
      obtain ⟨h1, h2, h3, h4⟩ := hr
      refine ⟨?_, by simp [okF]⟩
      have hs : s = s.take 4 ++ (s.drop 4).take (s.length - 5) ++ [s.getLastD 0] := by
        have hne : s ≠ [] := by intro e; subst e; simp at h1
        have a1 : s = s.take 4 ++ s.drop 4 := (List.take_append_drop 4 s).symm
        have a2 : s.drop 4 ≠ [] := by intro e; have := congrArg List.length e; simp at this; omega
        have a3 : s.drop 4 = (s.drop 4).dropLast ++ [(s.drop 4).getLast a2] := (List.dropLast_concat_getLast a2).symm
        have a4 : (s.drop 4).dropLast = (s.drop 4).take (s.length - 5) := by rw [List.dropLast_eq_take, List.length_drop]; congr 1
        have a5 : (s.drop 4).getLast a2 = s.getLastD 0 := by
          rw [List.getLast_drop]
          rw [List.getLastD_eq_getLast?, List.getLast?_eq_some_getLast hne]
          rfl
        rw [a4, a5] at a3
        conv => lhs; rw [a1, a3]
        rw [List.append_assoc]
      rw [h2, h3] at hs
      simp only [wrF, reqF]
      conv => rhs; rw [hs]
      simp
    · cases h
theorem takeW_split {r : List UInt8} (h : (r.takeWhile (fun d => decide (d.toNat ≠ 37))).length ≠ r.length) : r = r.takeWhile (fun d => decide (d.toNat ≠ 37)) ++ [37] ++ r.drop ((r.takeWhile (fun d => decide (d.toNat ≠ 37))).length + 1) := by
  induction r with
  | nil => simp at h
  | cons c r ih =>
    by_cases hc : c.toNat = 37
    · have e : c = 37 := by
        have := congrArg UInt8.ofNat hc
        simpa using this
      subst e
      simp
    · rw [List.takeWhile_cons, if_pos (by simpa using hc)] at h ⊢
      simp only [List.length_cons] at h
      have h2 := ih (by omega)
      simp only [List.cons_append, List.length_cons, List.drop_succ_cons]
      exact congrArg (c :: ·) h2
/-- What was compiled is written as the format that it was compiled of. -/
theorem compF_back : ∀ (n : Nat) (r : List UInt8) (at_ : Nat) (acc l : List Prt) (k : Nat), r.length ≤ n → compF n r at_ acc = (l, k, 0) → acc.all okF = true → l.all okF = true ∧ l.flatMap wrF = acc.flatMap wrF ++ r
  | 0, r, at_, acc, l, k, hn, h, ho => by
    obtain rfl : r = [] := List.eq_nil_of_length_eq_zero (by omega)
    simp only [compF, Prod.mk.injEq] at h
    obtain ⟨rfl, -⟩ := h
    exact ⟨ho, by simp⟩
  | n + 1, [], at_, acc, l, k, hn, h, ho => by
    simp only [compF, Prod.mk.injEq] at h
    obtain ⟨rfl, -⟩ := h
    exact ⟨ho, by simp⟩
  | n + 1, c :: r, at_, acc, l, k, hn, h, ho => by
    simp only [List.length_cons] at hn
    rw [compF] at h
    split at h
    · simp at h
    · split at h
      · rename_i h37
        obtain ⟨a, b⟩ := compF_back n r _ _ l k (by omega) h (withPr_ok _ _ ho)
        refine ⟨a, ?_⟩
        rw [b, withPr_wr]
        simp [dblF, h37]
      · rename_i h37
        have e : c = 37 := by
          have := congrArg UInt8.ofNat (Decidable.not_not.1 h37)
          simpa using this
        subst e
        split at h
        · simp at h
        · rename_i hl
          have hsp := takeW_split hl
          split at h
          · rename_i he
            obtain ⟨a, b⟩ := compF_back n (r.drop 1) _ _ l k (by rw [List.length_drop]; omega) h (withPr_ok _ _ ho)
            refine ⟨a, ?_⟩
            rw [b, withPr_wr]
            rw [he] at hsp
            conv => rhs; rw [hsp]
            simp [dblF]
          · split at h
            · simp at h
            · rename_i p hp
              obtain ⟨w1, w2⟩ := part_wr hp
              obtain ⟨a, b⟩ := compF_back n _ _ _ l k (by rw [List.length_drop]; omega) h (by rw [List.all_append, ho]; simp [w2])
              refine ⟨a, ?_⟩
              rw [b, List.flatMap_append]
              conv => rhs; rw [hsp]
              simp [w1]
theorem compileF_back {s : List UInt8} {l : List Prt} {k : Nat} (h : compileF s = (l, k, 0)) : writeF l = (s, 0) := by
  unfold compileF at h
  split at h
  · simp at h
  · obtain ⟨a, b⟩ := compF_back s.length s 0 [] l k (Nat.le_refl _) h (by simp)
    rw [writeF, if_pos a, b]
    simp
end Go.Proofs.Ytpfhmpblcmednaa
namespace Go.Proofs.Ytpfhmpblcmednaa
set_option linter.unusedVariables false
open Go Go.RowKit

/-- A number's form, of at most k + 1 bytes. -/
def vf : Nat → Nat → List UInt8
  | 0, n => [UInt8.ofNat n]
  | k + 1, n => if n < 128 then [UInt8.ofNat n] else UInt8.ofNat (128 + n % 128) :: vf k (n / 128)
def vput (n : Nat) : List UInt8 := vf 9 n
theorem vf_short {k n : Nat} (h : n < 128) : vf k n = [UInt8.ofNat n] := by
  cases k with
  | zero => rfl
  | succ k => rw [vf, if_pos h]
theorem vf_long {k n : Nat} (h : ¬ n < 128) : vf (k + 1) n = UInt8.ofNat (128 + n % 128) :: vf k (n / 128) := by rw [vf, if_neg h]
theorem vf_length_le (k n : Nat) : 1 ≤ (vf k n).length ∧ (vf k n).length ≤ k + 1 := by
  induction k generalizing n with
  | zero => simp [vf]
  | succ k ih =>
    rw [vf]; split
    · simp
    · have := ih (n / 128); rw [List.length_cons]; omega
theorem vput_length_le (n : Nat) : 1 ≤ (vput n).length ∧ (vput n).length ≤ 10 := vf_length_le 9 n
theorem or128_nat (b : Nat) (h : b < 256) : b ||| 128 = 128 + b % 128 := by
  have : ∀ b : Fin 256, b.val ||| 128 = 128 + b.val % 128 := by decide +kernel
  exact this ⟨b, h⟩
theorem or128 (m : Nat) : bits .or .u8 ((m : Int) % 256) 128 = ((128 + m % 128 : Nat) : Int) := by
  rw [show (m : Int) % 256 = ((m % 256 : Nat) : Int) from by omega, show (128 : Int) = ((128 : Nat) : Int) from rfl, u8_or_nat _ _ (by omega) (by omega), or128_nat _ (by omega)]
  congr 1; omega
/-- What stands at a form's place i: the number so far is n. -/
def vg : Nat → Nat → List UInt8 → Nat × Nat × Int
  | _, _, [] => (0, 0, 5)
  | i, n, c :: r =>
    if (i = 9 ∧ 1 < c.toNat) ∨ (0 < i ∧ c.toNat = 0) then (0, 0, 3)
    else if c.toNat < 128 then (n + 128 ^ i * c.toNat, i + 1, 0)
    else if i = 9 then (0, 0, 3) else vg (i + 1) (n + 128 ^ i * (c.toNat - 128)) r
def vgetS (l : List UInt8) (at' : Int) : Nat × Int × Int :=
  if at' < 0 then (0, 0, 2) else if (l.length : Int) < at' then (0, 0, 5)
  else match vg 0 0 (l.drop at'.toNat) with
    | (n, s, e) => if e = 0 then (n, at' + s, 0) else (0, 0, e)
theorem vg_nil (i n : Nat) : vg i n [] = (0, 0, 5) := by rw [vg]
theorem vg_form {i n : Nat} {c : UInt8} {r : List UInt8} (h : (i = 9 ∧ 1 < c.toNat) ∨ (0 < i ∧ c.toNat = 0)) : vg i n (c :: r) = (0, 0, 3) := by rw [vg, if_pos h]
theorem vg_end {i n : Nat} {c : UInt8} {r : List UInt8} (h : ¬ ((i = 9 ∧ 1 < c.toNat) ∨ (0 < i ∧ c.toNat = 0))) (h2 : c.toNat < 128) : vg i n (c :: r) = (n + 128 ^ i * c.toNat, i + 1, 0) := by rw [vg, if_neg h, if_pos h2]
theorem vg_more {i n : Nat} {c : UInt8} {r : List UInt8} (h : ¬ ((i = 9 ∧ 1 < c.toNat) ∨ (0 < i ∧ c.toNat = 0))) (h2 : ¬ c.toNat < 128) (h3 : ¬ i = 9) : vg i n (c :: r) = vg (i + 1) (n + 128 ^ i * (c.toNat - 128)) r := by rw [vg, if_neg h, if_neg h2, if_neg h3]
theorem vg_cases (l : List UInt8) : ∀ i n, i ≤ 9 → ((vg i n l).2.2 = 0 ∧ i < (vg i n l).2.1 ∧ (vg i n l).2.1 ≤ i + l.length ∧ (vg i n l).2.1 ≤ 10) ∨ vg i n l = (0, 0, 3) ∨ vg i n l = (0, 0, 5) := by
  induction l with
  | nil => intro i n _; right; right; exact vg_nil i n
  | cons c r ih =>
    intro i n hi
    by_cases h : (i = 9 ∧ 1 < c.toNat) ∨ (0 < i ∧ c.toNat = 0)
    · right; left; exact vg_form h
    · by_cases h2 : c.toNat < 128
      · left; rw [vg_end h h2]; refine ⟨rfl, ?_, ?_, ?_⟩ <;> simp <;> omega
      · have h3 : ¬ i = 9 := fun h3 => h (Or.inl ⟨h3, by omega⟩)
        rw [vg_more h h2 h3]
        rcases ih (i + 1) (n + 128 ^ i * (c.toNat - 128)) (by omega) with ⟨g1, g2, g3, g4⟩ | g | g
        · left; refine ⟨g1, by omega, by rw [List.length_cons]; omega, g4⟩
        · right; left; exact g
        · right; right; exact g
theorem pow_128 (k : Nat) : (128 : Nat) ^ k = 2 ^ (7 * k) := by rw [Nat.pow_mul]
theorem pow_128_le {i j : Nat} (h : i ≤ j) : 128 ^ i ≤ 128 ^ j := Nat.pow_le_pow_right (by omega) h
/-- A group's bits, put above the ones that are there. -/
theorem shlor7 (n c i : Nat) (hn : n < 128 ^ i) (hi : i ≤ 9) (hc : c < 128) (hc9 : i = 9 → c ≤ 1) :
    bits .or .u64 (n : Int) (IntKind.u64.wrap ((c : Int) * 2 ^ (7 * (i : Int)).toNat)) = ((n + 128 ^ i * c : Nat) : Int) := by
  have e : (7 * (i : Int)).toNat = 7 * i := by omega
  have hb : 128 ^ i * c < 18446744073709551616 := by
    by_cases h9 : i = 9
    · subst h9; have := hc9 rfl; have : (128 : Nat) ^ 9 = 9223372036854775808 := by decide
      rw [this]; omega
    · have h1 : 128 ^ i ≤ 128 ^ 8 := pow_128_le (by omega)
      have h2 : (128 : Nat) ^ 8 = 72057594037927936 := by decide
      have h3 : 128 ^ i * c ≤ 72057594037927936 * 127 := Nat.mul_le_mul (by omega) (by omega)
      omega
  have hn64 : n < 18446744073709551616 := by
    have h1 : 128 ^ i ≤ 128 ^ 9 := pow_128_le hi
    have h2 : (128 : Nat) ^ 9 = 9223372036854775808 := by decide
    omega
  rw [e, show (c : Int) * 2 ^ (7 * i) = ((128 ^ i * c : Nat) : Int) from by rw [pow_128, Int.mul_comm]; simp, wrap_u64_nat _ hb, u64_or_nat _ _ hn64 hb]
  congr 1
  rw [Nat.or_comm, pow_128, Nat.add_comm]
  exact (Nat.two_pow_add_eq_or_of_lt (by rw [← pow_128]; exact hn) c).symm
theorem shlor7' (n c i : Nat) (hn : n < 128 ^ i) (hi : i ≤ 9) (hc : c < 128) (hc9 : i = 9 → c ≤ 1) :
    bits .or .u64 (n : Int) (IntKind.u64.wrap ((c : Int) * 2 ^ (7 * i))) = ((n + 128 ^ i * c : Nat) : Int) := by
  rw [← shlor7 n c i hn hi hc hc9, show (7 * (i : Int)).toNat = 7 * i from by omega]
theorem shlor7s (n c i : Nat) (hn : n < 128 ^ i) (hi : i ≤ 8) (hc : 128 ≤ c) (hc2 : c < 256) :
    bits .or .u64 (n : Int) (IntKind.u64.wrap (((c : Int) - 128) * 2 ^ (7 * i))) = ((n + 128 ^ i * (c - 128) : Nat) : Int) := by
  rw [← shlor7' n (c - 128) i hn (by omega) (by omega) (by omega), show ((c - 128 : Nat) : Int) = (c : Int) - 128 from by omega]
theorem vg_lt_step {n c i : Nat} (hn : n < 128 ^ i) (hc : c < 128) : n + 128 ^ i * c < 128 ^ (i + 1) := by
  have h : 128 ^ i * c ≤ 128 ^ i * 127 := Nat.mul_le_mul_left _ (by omega)
  have e : 128 ^ (i + 1) = 128 ^ i * 127 + 128 ^ i := by rw [Nat.pow_succ]; omega
  omega
theorem vg_drop (l : List UInt8) (k i n : Nat) (h : k < l.length) : vg i n (l.drop k) = vg i n (l[k] :: l.drop (k + 1)) := by rw [List.drop_eq_getElem_cons h]
end Go.Proofs.Ytpfhmpblcmednaa
namespace Go.Proofs.Ytpfhmpblcmednaa
set_option linter.unusedVariables false
section
variable {α : Type} (key : α → Int)

def Srt (L : List α) : Prop := L.Pairwise (fun a b => key b ≤ key a)
def Eqv (L M : List α) : Prop := ∀ r : Int, L.filter (fun x => decide (key x = r)) = M.filter (fun x => decide (key x = r))
def kat (L : List α) (i : Nat) : Int := match L[i]? with | some x => key x | none => 0
def insB (out : List α) (u : α) : List α := out.takeWhile (fun y => decide (key u ≤ key y)) ++ u :: out.dropWhile (fun y => decide (key u ≤ key y))
def ordB (L : List α) : List α := L.foldl (insB key) []
variable {key}
theorem Eqv.refl (L : List α) : Eqv key L L := fun _ => rfl
theorem Eqv.symm {L M : List α} (h : Eqv key L M) : Eqv key M L := fun r => (h r).symm
theorem Eqv.trans {L M N : List α} (h : Eqv key L M) (k : Eqv key M N) : Eqv key L N := fun r => (h r).trans (k r)
theorem Eqv.append {A A' B B' : List α} (h : Eqv key A A') (k : Eqv key B B') : Eqv key (A ++ B) (A' ++ B') := fun r => by
  rw [List.filter_append, List.filter_append, h r, k r]
theorem Eqv.mem {L M : List α} (h : Eqv key L M) {x : α} (hx : x ∈ L) : x ∈ M := by
  have h1 : x ∈ L.filter (fun y => decide (key y = key x)) := List.mem_filter.2 ⟨hx, by simp⟩
  rw [h] at h1
  exact (List.mem_filter.1 h1).1
theorem Eqv.swap {A B : List α} (h : ∀ x ∈ A, ∀ y ∈ B, key x ≠ key y) : Eqv key (A ++ B) (B ++ A) := fun r => by
  rw [List.filter_append, List.filter_append]
  by_cases hA : ∃ x ∈ A, key x = r
  · obtain ⟨x, hx, rfl⟩ := hA
    have : B.filter (fun y => decide (key y = key x)) = [] := by
      rw [List.filter_eq_nil_iff]
      intro y hy
      have := h x hx y hy
      simp; omega
    rw [this]; simp
  · have : A.filter (fun y => decide (key y = r)) = [] := by
      rw [List.filter_eq_nil_iff]
      intro y hy
      simp
      exact fun e => hA ⟨y, hy, e⟩
    rw [this]; simp
theorem srt_uniq : ∀ {L M : List α}, Srt key L → Srt key M → Eqv key L M → L = M
  | [], [], _, _, _ => rfl
  | [], b :: M, _, _, h => by have := h.symm.mem (x := b) (by simp); simp at this
  | a :: L, [], _, _, h => by have := h.mem (x := a) (by simp); simp at this
  | a :: L, b :: M, h1, h2, h => by
    have g1 := List.pairwise_cons.1 h1
    have g2 := List.pairwise_cons.1 h2
    have ka : key a ≤ key b := by
      rcases List.mem_cons.1 (h.mem (x := a) (by simp)) with rfl | hm
      · omega
      · exact g2.1 a hm
    have kb : key b ≤ key a := by
      rcases List.mem_cons.1 (h.symm.mem (x := b) (by simp)) with rfl | hm
      · omega
      · exact g1.1 b hm
    have hr := h (key a)
    rw [List.filter_cons, List.filter_cons, if_pos (by simp), if_pos (by simp; omega)] at hr
    injection hr with e1 e2
    subst e1
    have ht : Eqv key L M := fun r => by
      have := h r
      rw [List.filter_cons, List.filter_cons] at this
      by_cases e : key a = r
      · subst e; exact e2
      · rwa [if_neg (by simpa using e), if_neg (by simpa using e)] at this
    rw [srt_uniq g1.2 g2.2 ht]
theorem srt_append {A B : List α} : Srt key (A ++ B) ↔ Srt key A ∧ Srt key B ∧ ∀ x ∈ A, ∀ y ∈ B, key y ≤ key x := List.pairwise_append
theorem srt_one (x : α) : Srt key [x] := List.pairwise_singleton _ _
theorem srt_nil : Srt key ([] : List α) := List.Pairwise.nil
theorem take_drop_while (p : α → Bool) (L : List α) : L.takeWhile p ++ L.dropWhile p = L := List.takeWhile_append_dropWhile
theorem mem_takeWhile_true {p : α → Bool} : ∀ {L : List α} {x : α}, x ∈ L.takeWhile p → p x = true
  | a :: L, x, h => by
    rw [List.takeWhile_cons] at h
    by_cases hp : p a = true
    · rw [if_pos hp] at h
      rcases List.mem_cons.1 h with rfl | h
      · exact hp
      · exact mem_takeWhile_true h
    · rw [if_neg hp] at h; cases h
theorem dropWhile_lt {u : α} : ∀ {L : List α}, Srt key L → ∀ y ∈ L.dropWhile (fun y => decide (key u ≤ key y)), key y < key u
  | [], _, y, h => by simp at h
  | a :: L, hs, y, h => by
    have g := List.pairwise_cons.1 hs
    rw [List.dropWhile_cons] at h
    by_cases hp : key u ≤ key a
    · rw [if_pos (by simpa using hp)] at h
      exact dropWhile_lt g.2 y h
    · rw [if_neg (by simpa using hp)] at h
      rcases List.mem_cons.1 h with rfl | h
      · omega
      · have := g.1 y h; omega
theorem insB_srt {L : List α} (h : Srt key L) (u : α) : Srt key (insB key L u) := by
  have h0 := take_drop_while (fun y => decide (key u ≤ key y)) L
  have h' := h
  rw [← h0] at h'
  obtain ⟨s1, s2, s3⟩ := srt_append.1 h'
  refine srt_append.2 ⟨s1, List.pairwise_cons.2 ⟨fun y hy => ?_, s2⟩, fun x hx y hy => ?_⟩
  · have := dropWhile_lt h y hy; omega
  · have hx' := mem_takeWhile_true hx
    rcases List.mem_cons.1 hy with rfl | hy
    · simpa using hx'
    · exact s3 x hx y hy
theorem insB_eqv {L : List α} (h : Srt key L) (u : α) : Eqv key (insB key L u) (L ++ [u]) := by
  have h0 := take_drop_while (fun y => decide (key u ≤ key y)) L
  have : Eqv key (insB key L u) (L.takeWhile (fun y => decide (key u ≤ key y)) ++ (L.dropWhile (fun y => decide (key u ≤ key y)) ++ [u])) := by
    refine (Eqv.refl _).append ?_
    refine Eqv.swap (A := [u]) fun x hx y hy => ?_
    have := dropWhile_lt h y hy
    have hx : x = u := by simpa using hx
    subst hx; omega
  rw [← List.append_assoc, h0] at this
  exact this
theorem foldl_insB : ∀ (L out : List α), Srt key out → Srt key (L.foldl (insB key) out) ∧ Eqv key (L.foldl (insB key) out) (out ++ L)
  | [], out, h => ⟨h, by simpa using Eqv.refl out⟩
  | u :: L, out, h => by
    obtain ⟨h1, h2⟩ := foldl_insB L (insB key out u) (insB_srt h u)
    refine ⟨h1, h2.trans ?_⟩
    have := (insB_eqv h u).append (Eqv.refl (key := key) L)
    simpa using this
theorem ordB_srt (L : List α) : Srt key (ordB key L) := (foldl_insB L [] srt_nil).1
theorem ordB_eqv (L : List α) : Eqv key (ordB key L) L := by
  have h := (foldl_insB (key := key) L [] srt_nil).2
  rw [List.nil_append] at h
  exact h
theorem ordB_of {L M : List α} (h : Srt key M) (e : Eqv key L M) : M = ordB key L := srt_uniq h (ordB_srt L) (e.symm.trans (ordB_eqv L).symm)
theorem insB_length (L : List α) (u : α) : (insB key L u).length = L.length + 1 := by
  have h := congrArg List.length (take_drop_while (fun y => decide (key u ≤ key y)) L)
  rw [List.length_append] at h
  unfold insB
  rw [List.length_append, List.length_cons]; omega
theorem foldl_insB_length : ∀ (L out : List α), (L.foldl (insB key) out).length = out.length + L.length
  | [], out => rfl
  | u :: L, out => by rw [List.foldl_cons, foldl_insB_length L, insB_length, List.length_cons]; omega
theorem ordB_length (L : List α) : (ordB key L).length = L.length := by rw [ordB, foldl_insB_length]; simp
theorem insB_map {β : Type} (f : β → α) (L : List β) (u : β) : insB key (L.map f) (f u) = (insB (fun y => key (f y)) L u).map f := by
  unfold insB
  rw [List.takeWhile_map, List.dropWhile_map, List.map_append, List.map_cons]; rfl
theorem foldl_insB_map {β : Type} (f : β → α) : ∀ (L out : List β), (L.map f).foldl (insB key) (out.map f) = (L.foldl (insB (fun y => key (f y))) out).map f
  | [], out => rfl
  | u :: L, out => by rw [List.map_cons, List.foldl_cons, List.foldl_cons, insB_map, foldl_insB_map f L]
theorem ordB_map {β : Type} (f : β → α) (L : List β) : ordB key (L.map f) = (ordB (fun y => key (f y)) L).map f := foldl_insB_map f L []
/-- Where the front ends, told by a loop. -/
theorem while_at {p : α → Bool} : ∀ (L : List α) (j : Nat), j ≤ L.length → (∀ i (h : i < L.length), i < j → p L[i] = true) → (∀ h : j < L.length, p L[j] = false) → L.takeWhile p = L.take j ∧ L.dropWhile p = L.drop j
  | [], j, hj, _, _ => by simp
  | a :: L, 0, hj, _, h => by
    have := h (by simp)
    simp at this
    rw [List.takeWhile_cons, List.dropWhile_cons, if_neg (by simp [this]), if_neg (by simp [this])]; simp
  | a :: L, j + 1, hj, h1, h2 => by
    have ha : p a = true := h1 0 (by simp) (by omega)
    obtain ⟨g1, g2⟩ := while_at L j (by simpa using hj) (fun i hi hij => by have := h1 (i + 1) (by simpa using hi) (by omega); simpa using this) (fun h => by have := h2 (by simpa using h); simpa using this)
    rw [List.takeWhile_cons, List.dropWhile_cons, if_pos ha, if_pos ha, g1, g2]; simp
theorem kat_eq {L : List α} {i : Nat} {x : α} (h : L[i]? = some x) : kat key L i = key x := by unfold kat; rw [h]
theorem srt_kat {L : List α} (h : Srt key L) {i j : Nat} (hij : i ≤ j) (hj : j < L.length) : kat key L j ≤ kat key L i := by
  rw [kat_eq (List.getElem?_eq_getElem hj), kat_eq (List.getElem?_eq_getElem (show i < L.length by omega))]
  rcases Nat.eq_or_lt_of_le hij with rfl | hlt
  · omega
  · exact List.pairwise_iff_getElem.1 h i j (by omega) hj hlt
theorem mem_kat_take {L : List α} {n : Nat} {x : α} (h : x ∈ L.take n) : ∃ i, i < n ∧ i < L.length ∧ key x = kat key L i := by
  obtain ⟨i, hi, rfl⟩ := List.getElem_of_mem h
  rw [List.length_take] at hi
  refine ⟨i, by omega, by omega, ?_⟩
  rw [List.getElem_take, kat_eq (List.getElem?_eq_getElem (show i < L.length by omega))]
theorem mem_kat_drop {L : List α} {n : Nat} {x : α} (h : x ∈ L.drop n) : ∃ i, n ≤ i ∧ i < L.length ∧ key x = kat key L i := by
  obtain ⟨i, hi, rfl⟩ := List.getElem_of_mem h
  rw [List.length_drop] at hi
  refine ⟨n + i, by omega, by omega, ?_⟩
  rw [List.getElem_drop, kat_eq (List.getElem?_eq_getElem (show n + i < L.length by omega))]
theorem split_ge {X Y : List α} (hX : Srt key X) (hY : Srt key Y) {s e : Nat} (hs : s ≤ X.length) (he : e ≤ Y.length) (h : s = 0 ∨ e = Y.length ∨ (e < Y.length ∧ kat key Y e ≤ kat key X (s - 1))) :
    ∀ x ∈ X.take s, ∀ y ∈ Y.drop e, key y ≤ key x := fun x hx y hy => by
  obtain ⟨i, h1, h2, h3⟩ := mem_kat_take (key := key) hx
  obtain ⟨j, h4, h5, h6⟩ := mem_kat_drop (key := key) hy
  have h7 := srt_kat hX (show i ≤ s - 1 by omega) (by omega)
  have h8 := srt_kat hY h4 h5
  rw [h3, h6]
  rcases h with h9 | h9 | h9
  · omega
  · omega
  · have h10 := h9.2
    omega
theorem split_lt {X Y : List α} (hX : Srt key X) (hY : Srt key Y) {s e : Nat} (hs : s ≤ X.length) (he : e ≤ Y.length) (h : s = X.length ∨ e = 0 ∨ (s < X.length ∧ kat key X s < kat key Y (e - 1))) :
    ∀ x ∈ X.drop s, ∀ y ∈ Y.take e, key x < key y := fun x hx y hy => by
  obtain ⟨i, h1, h2, h3⟩ := mem_kat_drop (key := key) hx
  obtain ⟨j, h4, h5, h6⟩ := mem_kat_take (key := key) hy
  have h7 := srt_kat hX h1 h2
  have h8 := srt_kat hY (show j ≤ e - 1 by omega) (by omega)
  rw [h3, h6]
  rcases h with h9 | h9 | h9
  · omega
  · omega
  · have h10 := h9.2
    omega
theorem merge_plain {A1 A2 B1 B2 Z1 Z2 : List α} (hX : Srt key (A1 ++ A2)) (hY : Srt key (B1 ++ B2)) (f1 : ∀ x ∈ A1, ∀ y ∈ B2, key y ≤ key x) (f2 : ∀ x ∈ A2, ∀ y ∈ B1, key x < key y)
    (s1 : Srt key Z1) (s2 : Srt key Z2) (e1 : Eqv key (A1 ++ B1) Z1) (e2 : Eqv key (A2 ++ B2) Z2) : Srt key (Z1 ++ Z2) ∧ Eqv key ((A1 ++ A2) ++ (B1 ++ B2)) (Z1 ++ Z2) := by
  obtain ⟨x1, x2, x3⟩ := srt_append.1 hX
  obtain ⟨y1, y2, y3⟩ := srt_append.1 hY
  refine ⟨srt_append.2 ⟨s1, s2, fun x hx y hy => ?_⟩, ?_⟩
  · have hx' := e1.symm.mem hx
    have hy' := e2.symm.mem hy
    rcases List.mem_append.1 hx' with h1 | h1 <;> rcases List.mem_append.1 hy' with h2 | h2
    · exact x3 x h1 y h2
    · exact f1 x h1 y h2
    · have := f2 y h2 x h1; omega
    · exact y3 x h1 y h2
  · have hs : Eqv key (A2 ++ B1) (B1 ++ A2) := Eqv.swap fun x hx y hy => by have := f2 x hx y hy; omega
    have h1 : Eqv key ((A1 ++ A2) ++ (B1 ++ B2)) ((A1 ++ B1) ++ (A2 ++ B2)) := by
      have := ((Eqv.refl (key := key) A1).append (hs.append (Eqv.refl (key := key) B2)))
      simpa [List.append_assoc] using this
    exact h1.trans (e1.append e2)
/-- An exchange of two places. -/
theorem swap_mid (p q r : List α) (x y : α) : (((p ++ x :: q ++ y :: r).set p.length y).set (p.length + 1 + q.length) x) = p ++ y :: q ++ x :: r := by
  have h1 : (p ++ x :: q ++ y :: r).set p.length y = p ++ y :: q ++ y :: r := by
    rw [List.append_assoc, List.set_append_right _ _ (by omega)]; simp
  rw [h1, List.append_assoc, List.set_append_right _ _ (by omega), show p.length + 1 + q.length - p.length = q.length + 1 by omega]
  simp
theorem swap_mid' (p q r : List α) (x y : α) : (((p ++ x :: q ++ y :: r).set (p.length + 1 + q.length) x).set p.length y) = p ++ y :: q ++ x :: r := by
  rw [List.set_comm _ _ (by omega)]; exact swap_mid p q r x y
theorem get_mid (p q r : List α) (x y : α) : (p ++ x :: q ++ y :: r)[p.length]? = some x ∧ (p ++ x :: q ++ y :: r)[p.length + 1 + q.length]? = some y := by
  constructor
  · rw [List.append_assoc, List.getElem?_append_right (by omega)]; simp
  · rw [List.append_assoc, List.getElem?_append_right (by omega), show p.length + 1 + q.length - p.length = q.length + 1 by omega]; simp
end
end Go.Proofs.Ytpfhmpblcmednaa
namespace Go.Proofs.Ytpfhmpblcmednaa
set_option linter.unusedVariables false
set_option linter.unusedSimpArgs false

/-- A node's window. -/
structure Win where
  node : Int
  high : Int
  seen : List Int
/-- One more number in its place of a rising list. -/
def insS (l : List Int) (s : Int) : List Int := l.filter (fun x => decide (x < s)) ++ s :: l.filter (fun x => decide (s < x))
def keepS (s x : Int) : Bool := decide (s - 128 < x)
def dTake (w : Win) (s : Int) : Win × Bool :=
  if w.high < s then (⟨w.node, s, insS (w.seen.filter (keepS s)) s⟩, true)
  else if s ≤ w.high - 128 ∨ s ∈ w.seen then (w, false)
  else (⟨w.node, w.high, insS w.seen s⟩, true)
def dAt (l : List Win) (nd : Int) : Nat := l.findIdx fun w => decide (w.node = nd)
def badD (nd s : Int) : Bool := decide (nd < 0 ∨ 7 < nd ∨ s < 0 ∨ 1099511627776 < s)
def dFresh (l : List Win) (nd s : Int) : List Win × Bool :=
  if badD nd s = true then (l, false)
  else if h : dAt l nd < l.length then (l.set (dAt l nd) (dTake l[dAt l nd] s).1, (dTake l[dAt l nd] s).2)
  else (l ++ [⟨nd, s, [s]⟩], true)
def dHas (l : List Win) (nd s : Int) : Bool := if h : dAt l nd < l.length then decide (s ∈ l[dAt l nd].seen) else false
/-- A window as it came of numbers alone. -/
structure WinOk (w : Win) : Prop where
  node : 0 ≤ w.node ∧ w.node ≤ 7
  up : w.seen.Pairwise (· < ·)
  top : w.seen.getLast? = some w.high
  low : ∀ x ∈ w.seen, w.high - 128 < x ∧ x ≤ w.high
  high : 0 ≤ w.high ∧ w.high ≤ 1099511627776
structure WinsOk (l : List Win) : Prop where
  ok : ∀ w ∈ l, WinOk w
  one : l.Pairwise fun a b => a.node ≠ b.node
/-- Rising numbers of a range are few. -/
theorem rising_len : ∀ (l : List Int) (a b : Int), l.Pairwise (· < ·) → (∀ x ∈ l, a < x ∧ x ≤ b) → (l.length : Int) ≤ max 0 (b - a)
  | [], a, b, _, _ => by simp; omega
  | x :: r, a, b, hp, h => by
    have h1 := h x (List.mem_cons_self ..)
    have h2 := rising_len r x b (List.pairwise_cons.1 hp).2 fun y hy => ⟨(List.pairwise_cons.1 hp).1 y hy, (h y (List.mem_cons_of_mem _ hy)).2⟩
    simp only [List.length_cons]
    push_cast
    omega
theorem WinOk.len {w : Win} (h : WinOk w) : 1 ≤ w.seen.length ∧ w.seen.length ≤ 128 := by
  have h1 := rising_len w.seen (w.high - 128) w.high h.up h.low
  have h2 := h.top
  constructor
  · rcases hs : w.seen with _ | ⟨x, r⟩
    · rw [hs] at h2; simp at h2
    · simp
  · omega
theorem WinOk.mem {w : Win} (h : WinOk w) : w.high ∈ w.seen := List.mem_of_getLast? h.top
/-- Numbers below n, none of them twice, are at most n. -/
theorem distinct_len : ∀ (n : Nat) (l : List Int), l.Pairwise (· ≠ ·) → (∀ x ∈ l, 0 ≤ x ∧ x < (n : Int)) → l.length ≤ n
  | 0, l, _, h => by
    rcases l with _ | ⟨x, r⟩
    · simp
    · have := h x (List.mem_cons_self ..); omega
  | n + 1, l, hp, h => by
    have h1 := distinct_len n (l.filter fun x => decide (x ≠ (n : Int))) (hp.filter _) fun x hx => by
      have hx' := List.mem_filter.1 hx
      have := h x hx'.1
      have h3 : x ≠ (n : Int) := of_decide_eq_true hx'.2
      push_cast at this
      omega
    have h2 : ∀ (l : List Int), l.Pairwise (· ≠ ·) → l.length ≤ (l.filter fun x => decide (x ≠ (n : Int))).length + 1 := by
      intro l
      induction l with
      | nil => simp
      | cons x r ih =>
        intro hq
        have hq' := List.pairwise_cons.1 hq
        by_cases hx : x = (n : Int)
        · have e : r.filter (fun x => decide (x ≠ (n : Int))) = r := List.filter_eq_self.2 fun y hy => decide_eq_true fun he => hq'.1 y hy (hx.trans he.symm)
          rw [List.filter_cons, if_neg (by simp [hx]), e]
          simp
        · rw [List.filter_cons, if_pos (by simp [hx])]
          have := ih hq'.2
          simp only [List.length_cons]
          omega
    have := h2 l hp
    omega
theorem WinsOk.len {l : List Win} (h : WinsOk l) : l.length ≤ 8 := by
  have := distinct_len 8 (l.map Win.node) (List.pairwise_map.2 h.one) fun x hx => by
    obtain ⟨w, hw, rfl⟩ := List.mem_map.1 hx
    have := (h.ok w hw).node
    omega
  simpa using this
theorem insS_mem {l : List Int} {s x : Int} : x ∈ insS l s ↔ x = s ∨ (x ∈ l ∧ x ≠ s) := by
  unfold insS
  simp only [List.mem_append, List.mem_filter, List.mem_cons, decide_eq_true_eq]
  constructor
  · rintro (⟨h1, h2⟩ | h | ⟨h1, h2⟩)
    · exact Or.inr ⟨h1, by omega⟩
    · exact Or.inl h
    · exact Or.inr ⟨h1, by omega⟩
  · rintro (h | ⟨h1, h2⟩)
    · exact Or.inr (Or.inl h)
    · by_cases h3 : x < s
      · exact Or.inl ⟨h1, h3⟩
      · exact Or.inr (Or.inr ⟨h1, by omega⟩)
theorem insS_up {l : List Int} {s : Int} (h : l.Pairwise (· < ·)) : (insS l s).Pairwise (· < ·) := by
  unfold insS
  rw [List.pairwise_append, List.pairwise_cons]
  refine ⟨h.filter _, ⟨fun x hx => of_decide_eq_true (List.mem_filter.1 hx).2, h.filter _⟩, fun x hx y hy => ?_⟩
  have h1 : x < s := of_decide_eq_true (List.mem_filter.1 hx).2
  rcases List.mem_cons.1 hy with rfl | hy
  · exact h1
  · have h2 : s < y := of_decide_eq_true (List.mem_filter.1 hy).2
    omega
theorem insS_top {l : List Int} {s : Int} (h : ∀ x ∈ l, x < s) : insS l s = l ++ [s] := by
  unfold insS
  rw [List.filter_eq_self.2 fun x hx => decide_eq_true (h x hx), List.filter_eq_nil_iff.2 fun x hx => by simp; have := h x hx; omega]
theorem dTake_ok {w : Win} {s : Int} (h : WinOk w) (hs : 0 ≤ s ∧ s ≤ 1099511627776) : WinOk (dTake w s).1 := by
  unfold dTake
  split
  · rename_i hc
    have hlt : ∀ x ∈ w.seen.filter (keepS s), x < s := fun x hx => by have := h.low x (List.mem_filter.1 hx).1; omega
    refine ⟨h.node, insS_up (h.up.filter _), by rw [insS_top hlt]; simp, fun x hx => ?_, hs⟩
    rcases insS_mem.1 hx with rfl | ⟨h1, h2⟩
    · exact ⟨by show x - 128 < x; omega, Int.le_refl _⟩
    · have h3 : s - 128 < x := of_decide_eq_true (List.mem_filter.1 h1).2
      exact ⟨h3, Int.le_of_lt (hlt x h1)⟩
  · rename_i hc
    split
    · exact h
    · rename_i hc2
      have hlow : w.high - 128 < s := by omega
      have hne : s ∉ w.seen := fun hm => hc2 (Or.inr hm)
      have hne2 : s ≠ w.high := fun he => hne (he ▸ h.mem)
      refine ⟨h.node, insS_up h.up, ?_, fun x hx => ?_, h.high⟩
      · show (insS w.seen s).getLast? = some w.high
        have hfl : (w.seen.filter fun x => decide (s < x)).getLast? = some w.high := by
          obtain ⟨r, hr⟩ := List.getLast?_eq_some_iff.1 h.top
          rw [hr, List.filter_append, List.filter_cons, if_pos (by simp; omega)]
          simp
        unfold insS
        rw [List.getLast?_append, List.getLast?_cons, hfl]
        rfl
      · rcases insS_mem.1 hx with rfl | ⟨h1, h2⟩
        · exact ⟨hlow, by show x ≤ w.high; omega⟩
        · exact h.low x h1
theorem dTake_node (w : Win) (s : Int) : (dTake w s).1.node = w.node := by
  unfold dTake
  split
  · rfl
  · split <;> rfl
theorem dAt_le (l : List Win) (nd : Int) : dAt l nd ≤ l.length := List.findIdx_le_length
theorem dAt_node {l : List Win} {nd : Int} (h : dAt l nd < l.length) : l[dAt l nd].node = nd := by
  have := List.findIdx_getElem (w := h)
  exact of_decide_eq_true this
theorem dAt_none {l : List Win} {nd : Int} (h : ¬ dAt l nd < l.length) : ∀ w ∈ l, w.node ≠ nd := by
  intro w hw he
  exact h (List.findIdx_lt_length_of_exists ⟨w, hw, by simp [he]⟩)
theorem badD_iff {nd s : Int} (h : badD nd s = false) : (0 ≤ nd ∧ nd ≤ 7) ∧ 0 ≤ s ∧ s ≤ 1099511627776 := by
  have := of_decide_eq_false h
  omega
theorem pairwise_set_nodes {l : List Win} (h : l.Pairwise fun a b => a.node ≠ b.node) (i : Nat) (w : Win) (hi : i < l.length) (hn : w.node = l[i].node) : (l.set i w).Pairwise fun a b => a.node ≠ b.node := by
  have e : (l.set i w).map Win.node = l.map Win.node := by
    rw [List.map_set, hn, ← List.getElem_map Win.node (h := by simpa using hi), List.set_getElem_self]
  have h2 : (l.map Win.node).Pairwise (· ≠ ·) := List.pairwise_map.2 h
  rw [← e] at h2
  exact List.pairwise_map.1 h2
theorem dFresh_ok {l : List Win} (h : WinsOk l) (nd s : Int) : WinsOk (dFresh l nd s).1 := by
  unfold dFresh
  split
  · exact h
  · rename_i hb
    obtain ⟨b1, b2⟩ := badD_iff (by simpa using hb)
    split
    · rename_i hi
      refine ⟨fun w hw => ?_, pairwise_set_nodes h.one _ _ hi (dTake_node _ _)⟩
      rcases List.mem_or_eq_of_mem_set hw with hw | rfl
      · exact h.ok w hw
      · exact dTake_ok (h.ok _ (List.getElem_mem hi)) b2
    · rename_i hi
      refine ⟨fun w hw => ?_, ?_⟩
      · rcases List.mem_append.1 hw with hw | hw
        · exact h.ok w hw
        · rw [List.mem_singleton.1 hw]
          exact ⟨b1, by simp, rfl, by simp; omega, b2⟩
      · rw [List.pairwise_append]
        refine ⟨h.one, by simp, fun a ha b hb => ?_⟩
        rw [List.mem_singleton.1 hb]
        exact dAt_none hi a ha
theorem wins_nil : WinsOk [] := ⟨fun w hw => (by cases hw), List.Pairwise.nil⟩
theorem dTake_no {w : Win} {s : Int} (h : (dTake w s).2 = false) : (dTake w s).1 = w := by
  unfold dTake at h ⊢
  split
  · rename_i hc; rw [if_pos hc] at h; cases h
  · rename_i hc
    rw [if_neg hc] at h
    split
    · rfl
    · rename_i hc2; rw [if_neg hc2] at h; cases h
/-- What is not fresh changes nothing. -/
theorem dFresh_no {l : List Win} {nd s : Int} (h : (dFresh l nd s).2 = false) : (dFresh l nd s).1 = l := by
  unfold dFresh at h ⊢
  split
  · rfl
  · rename_i hb
    rw [if_neg hb] at h
    split
    · rename_i hi
      rw [dif_pos hi] at h
      rw [dTake_no h, List.set_getElem_self]
    · rename_i hi; rw [dif_neg hi] at h; cases h
/-- What came is in its window, or fell out of it. -/
def InW (w : Win) (s : Int) : Prop := s ∈ w.seen ∨ s ≤ w.high - 128
def Came (l : List Win) (P : List (Int × Int)) : Prop := ∀ p ∈ P, ∃ w ∈ l, w.node = p.1 ∧ InW w p.2
theorem dTake_in {w : Win} {s x : Int} (h : InW w x) : InW (dTake w s).1 x := by
  unfold dTake
  split
  · rename_i hc
    by_cases hx : s - 128 < x
    · rcases h with h | h
      · by_cases he : x = s
        · exact Or.inl (insS_mem.2 (Or.inl he))
        · exact Or.inl (insS_mem.2 (Or.inr ⟨List.mem_filter.2 ⟨h, decide_eq_true hx⟩, he⟩))
      · exact absurd h (by omega)
    · exact Or.inr (by show x ≤ s - 128; omega)
  · split
    · exact h
    · rcases h with h | h
      · by_cases he : x = s
        · exact Or.inl (insS_mem.2 (Or.inl he))
        · exact Or.inl (insS_mem.2 (Or.inr ⟨h, he⟩))
      · exact Or.inr h
theorem dTake_self {w : Win} {s : Int} (hok : WinOk w) : InW (dTake w s).1 s := by
  unfold dTake
  split
  · exact Or.inl (insS_mem.2 (Or.inl rfl))
  · rename_i hc
    split
    · rename_i hc2
      rcases hc2 with h | h
      · exact Or.inr h
      · exact Or.inl h
    · exact Or.inl (insS_mem.2 (Or.inl rfl))
theorem dTake_new {w : Win} {s : Int} (hok : WinOk w) (h : InW w s) : (dTake w s).2 = false := by
  unfold dTake
  have h0 : ¬ w.high < s := by
    rcases h with h | h
    · have := hok.low s h; omega
    · omega
  rw [if_neg h0, if_pos]
  rcases h with h | h
  · exact Or.inr h
  · exact Or.inl h
/-- No number of a node is fresh twice. -/
theorem came_fresh {l : List Win} {P : List (Int × Int)} {nd s : Int} (hl : WinsOk l) (hc : Came l P) (hf : (dFresh l nd s).2 = true) : (nd, s) ∉ P ∧ Came (dFresh l nd s).1 (P ++ [(nd, s)]) := by
  unfold dFresh at hf ⊢
  split
  · rename_i hb; rw [if_pos hb] at hf; cases hf
  · rename_i hb
    rw [if_neg hb] at hf
    split
    · rename_i hi
      rw [dif_pos hi] at hf
      constructor
      · intro hm
        obtain ⟨w, hw, h1, h2⟩ := hc _ hm
        obtain ⟨j, hj, rfl⟩ := List.mem_iff_getElem.1 hw
        have hjn : j = dAt l nd := by
          apply Classical.byContradiction
          intro hne
          have hpp := List.pairwise_iff_getElem.1 hl.one
          rcases Nat.lt_or_gt_of_ne hne with hlt | hlt
          · exact hpp j _ hj hi hlt (h1.trans (dAt_node hi).symm)
          · exact hpp _ j hi hj hlt ((dAt_node hi).trans h1.symm)
        subst hjn
        rw [dTake_new (hl.ok _ (List.getElem_mem hi)) h2] at hf
        cases hf
      · intro p hp
        rcases List.mem_append.1 hp with hp | hp
        · obtain ⟨w, hw, h1, h2⟩ := hc p hp
          obtain ⟨j, hj, rfl⟩ := List.mem_iff_getElem.1 hw
          by_cases hjn : dAt l nd = j
          · subst hjn
            exact ⟨_, List.mem_iff_getElem.2 ⟨_, by simpa using hi, List.getElem_set_self ..⟩, (dTake_node _ _).trans h1, dTake_in h2⟩
          · exact ⟨_, List.mem_iff_getElem.2 ⟨j, by simpa using hj, List.getElem_set_ne hjn _⟩, h1, h2⟩
        · rw [List.mem_singleton.1 hp]
          exact ⟨_, List.mem_iff_getElem.2 ⟨_, by simpa using hi, List.getElem_set_self ..⟩, (dTake_node _ _).trans (dAt_node hi), dTake_self (hl.ok _ (List.getElem_mem hi))⟩
    · rename_i hi
      constructor
      · intro hm
        obtain ⟨w, hw, h1, h2⟩ := hc _ hm
        exact dAt_none hi w hw h1
      · intro p hp
        rcases List.mem_append.1 hp with hp | hp
        · obtain ⟨w, hw, h1, h2⟩ := hc p hp
          exact ⟨w, List.mem_append_left _ hw, h1, h2⟩
        · rw [List.mem_singleton.1 hp]
          exact ⟨_, List.mem_append_right _ (List.mem_singleton.2 rfl), rfl, Or.inl (by simp)⟩
theorem came_nil : Came [] [] := fun p hp => by cases hp
/-- What came of one node does not matter to another one. -/
def ofN (nd : Int) (l : List Win) : List Win := l.filter fun w => decide (w.node = nd)
theorem ofN_none {l : List Win} {nd : Int} (h : ∀ w ∈ l, w.node ≠ nd) : ofN nd l = [] := List.filter_eq_nil_iff.2 fun w hw => by simp [h w hw]
theorem ofN_at : ∀ {l : List Win} {nd : Int}, (l.Pairwise fun a b => a.node ≠ b.node) → ∀ (h : dAt l nd < l.length), ofN nd l = [l[dAt l nd]]
  | [], nd, _, h => absurd h (by simp)
  | w :: r, nd, hp, h => by
    have hp' := List.pairwise_cons.1 hp
    by_cases hw : w.node = nd
    · have e : dAt (w :: r) nd = 0 := by unfold dAt; simp [List.findIdx_cons, hw]
      have e2 : ofN nd r = [] := ofN_none fun x hx hn => hp'.1 x hx (hw.trans hn.symm)
      simp only [e, List.getElem_cons_zero]
      show (w :: r).filter _ = _
      rw [List.filter_cons, if_pos (by simp [hw])]
      exact congrArg (w :: ·) e2
    · have e : dAt (w :: r) nd = dAt r nd + 1 := by unfold dAt; simp [List.findIdx_cons, hw]
      have h' : dAt r nd < r.length := by rw [e] at h; simpa using h
      simp only [e, List.getElem_cons_succ]
      show (w :: r).filter _ = _
      rw [List.filter_cons, if_neg (by simp [hw])]
      exact ofN_at hp'.2 h'
theorem ofN_at_none {l : List Win} {nd : Int} (h : ¬ dAt l nd < l.length) : ofN nd l = [] := ofN_none (dAt_none h)
theorem ofN_set {l : List Win} {nd : Int} {i : Nat} {w : Win} (hi : i < l.length) (hn : w.node = l[i].node) (hw : w.node ≠ nd) : ofN nd (l.set i w) = ofN nd l := by
  unfold ofN
  rw [List.set_eq_take_append_cons_drop, if_pos hi]
  conv => rhs; rw [← List.take_append_drop i l, List.drop_eq_getElem_cons hi]
  simp only [List.filter_append, List.filter_cons]
  rw [if_neg (by simp [hw]), if_neg (by simp; rw [← hn]; exact hw)]
theorem dFresh_of {l : List Win} (h : WinsOk l) (nd a s : Int) : ofN nd (dFresh l a s).1 = if a = nd then (dFresh (ofN nd l) a s).1 else ofN nd l := by
  by_cases ha : a = nd
  · subst ha
    rw [if_pos rfl]
    unfold dFresh
    by_cases hb : badD a s = true
    · rw [if_pos hb, if_pos hb]
    · rw [if_neg hb, if_neg hb]
      by_cases hi : dAt l a < l.length
      · have e := ofN_at h.one hi
        have hnode := dAt_node hi
        have hi2 : dAt (ofN a l) a = 0 := by
          rw [e]
          show List.findIdx _ _ = 0
          rw [List.findIdx_cons, decide_eq_true hnode]
          rfl
        have hi3 : dAt (ofN a l) a < (ofN a l).length := by rw [hi2, e]; simp
        rw [dif_pos hi, dif_pos hi3]
        have hset : dAt (l.set (dAt l a) (dTake l[dAt l a] s).1) a < (l.set (dAt l a) (dTake l[dAt l a] s).1).length := List.findIdx_lt_length_of_exists ⟨(dTake l[dAt l a] s).1, List.mem_iff_getElem.2 ⟨_, by simpa using hi, List.getElem_set_self ..⟩, by simp [dTake_node, hnode]⟩
        show ofN a (l.set (dAt l a) (dTake l[dAt l a] s).1) = (ofN a l).set (dAt (ofN a l) a) (dTake (ofN a l)[dAt (ofN a l) a] s).1
        have e3 : (ofN a l)[dAt (ofN a l) a] = l[dAt l a] := by simp only [hi2]; simp only [e, List.getElem_cons_zero]
        rw [e3, hi2, e]
        show _ = [(dTake l[dAt l a] s).1]
        have hq := pairwise_set_nodes h.one (dAt l a) (dTake l[dAt l a] s).1 hi (dTake_node _ _)
        have h5 : dAt (l.set (dAt l a) (dTake l[dAt l a] s).1) a = dAt l a := by
          apply Classical.byContradiction
          intro hne
          have hpp := List.pairwise_iff_getElem.1 h.one
          have hlen : dAt (l.set (dAt l a) (dTake l[dAt l a] s).1) a < l.length := by simpa using hset
          have hnn : l[dAt (l.set (dAt l a) (dTake l[dAt l a] s).1) a].node = a := by
            have := dAt_node hset
            rwa [List.getElem_set_ne (fun e => hne e.symm)] at this
          rcases Nat.lt_or_gt_of_ne hne with hlt | hlt
          · exact hpp _ _ hlen hi hlt (hnn.trans hnode.symm)
          · exact hpp _ _ hi hlen hlt (hnode.trans hnn.symm)
        have := ofN_at hq hset
        rw [this]
        simp only [h5, List.getElem_set_self]
      · have e := ofN_at_none hi
        have hi3 : ¬ dAt (ofN a l) a < (ofN a l).length := by rw [e]; simp
        rw [dif_neg hi, dif_neg hi3]
        show ofN a (l ++ [⟨a, s, [s]⟩]) = ofN a l ++ [⟨a, s, [s]⟩]
        unfold ofN
        rw [List.filter_append, List.filter_cons, if_pos (by simp)]
        rfl
  · rw [if_neg ha]
    unfold dFresh
    by_cases hb : badD a s = true
    · rw [if_pos hb]
    · rw [if_neg hb]
      by_cases hi : dAt l a < l.length
      · rw [dif_pos hi]
        exact ofN_set hi (dTake_node _ _) (by rw [dTake_node, dAt_node hi]; exact ha)
      · rw [dif_neg hi]
        show ofN nd (l ++ [⟨a, s, [s]⟩]) = ofN nd l
        unfold ofN
        rw [List.filter_append, List.filter_cons, if_neg (by simp [ha])]
        simp
/-- The windows of numbers, one after another. -/
def dAll (P : List (Int × Int)) : List Win := P.foldl (fun l p => (dFresh l p.1 p.2).1) []
theorem dAll_step (P : List (Int × Int)) (p : Int × Int) : dAll (P ++ [p]) = (dFresh (dAll P) p.1 p.2).1 := by unfold dAll; rw [List.foldl_append]; rfl
theorem snoc_ind {α : Type} {C : List α → Prop} (h0 : C []) (h1 : ∀ l x, C l → C (l ++ [x])) (l : List α) : C l := by
  have : ∀ l : List α, C l.reverse := fun l => by
    induction l with
    | nil => exact h0
    | cons x r ih => rw [List.reverse_cons]; exact h1 _ _ ih
  have h := this l.reverse
  rwa [List.reverse_reverse] at h
theorem dAll_ok (P : List (Int × Int)) : WinsOk (dAll P) := by
  refine snoc_ind (C := fun P => WinsOk (dAll P)) wins_nil (fun P p ih => ?_) P
  rw [dAll_step]
  exact dFresh_ok ih _ _
theorem dAll_of (nd : Int) (P : List (Int × Int)) : ofN nd (dAll P) = dAll (P.filter fun p => decide (p.1 = nd)) := by
  refine snoc_ind (C := fun P => ofN nd (dAll P) = dAll (P.filter fun p => decide (p.1 = nd))) rfl (fun P p ih => ?_) P
  rw [dAll_step, dFresh_of (dAll_ok P), List.filter_append, List.filter_cons]
  by_cases h : p.1 = nd
  · rw [if_pos h, if_pos (by simp [h]), ih]
    exact (dAll_step _ _).symm
  · rw [if_neg h, if_neg (by simp [h]), ih]
    simp
theorem dAll_first {P : List (Int × Int)} {w : Win} {r : List Win} (h : dAll P = w :: r) : dAll (P.filter fun p => decide (p.1 = w.node)) = [w] := by
  rw [← dAll_of, h]
  have hp := (dAll_ok P).one
  rw [h] at hp
  have e2 : ofN w.node r = [] := ofN_none fun x hx hn => (List.pairwise_cons.1 hp).1 x hx hn.symm
  show (w :: r).filter _ = _
  rw [List.filter_cons, if_pos (by simp)]
  exact congrArg (w :: ·) e2
/-- One node's numbers that are less than 128 apart: each one is fresh just once. -/
def OrdI (base : Int) (W : List Win) (S : List Int) : Prop := (∀ x ∈ S, base ≤ x ∧ x < base + 128) ∧ ((W = [] ∧ S = []) ∨ ∃ w, W = [w] ∧ w.node = 3 ∧ WinOk w ∧ ∀ x, x ∈ w.seen ↔ x ∈ S)
theorem ordI_nil (base : Int) : OrdI base [] [] := ⟨fun x hx => (by cases hx), Or.inl ⟨rfl, rfl⟩⟩
theorem ordI_ok {base : Int} {W : List Win} {S : List Int} (h : OrdI base W S) : WinsOk W := by
  rcases h.2 with ⟨rfl, -⟩ | ⟨w, rfl, h1, h2, h3⟩
  · exact wins_nil
  · exact ⟨fun x hx => by rw [List.mem_singleton.1 hx]; exact h2, by simp⟩
theorem ordI_step {base : Int} {W : List Win} {S : List Int} (hb : 0 ≤ base ∧ base ≤ 1000000) (h : OrdI base W S) {n : Int} (hn : base ≤ n ∧ n < base + 128) :
    (dFresh W 3 n).2 = !decide (n ∈ S) ∧ dHas (dFresh W 3 n).1 3 n = true ∧ OrdI base (dFresh W 3 n).1 (S ++ [n]) := by
  have hS : ∀ x ∈ S ++ [n], base ≤ x ∧ x < base + 128 := fun x hx => by
    rcases List.mem_append.1 hx with hx | hx
    · exact h.1 x hx
    · rw [List.mem_singleton.1 hx]; exact hn
  have hbad : ¬ badD 3 n = true := by simp [badD]; omega
  have has1 : ∀ w : Win, w.node = 3 → (dHas [w] 3 n = decide (n ∈ w.seen)) := fun w hw => by
    have e : dAt [w] 3 = 0 := by unfold dAt; simp [List.findIdx_cons, hw]
    unfold dHas
    rw [dif_pos (by rw [e]; simp)]
    simp only [e, List.getElem_cons_zero]
  rcases h.2 with ⟨rfl, rfl⟩ | ⟨w, rfl, h1, h2, h3⟩
  · have e : dFresh [] 3 n = ([⟨3, n, [n]⟩], true) := by
      unfold dFresh
      rw [if_neg hbad]
      rfl
    rw [e]
    refine ⟨by simp, by rw [has1 _ rfl]; simp, hS, Or.inr ⟨_, rfl, rfl, ?_, fun x => by simp⟩⟩
    exact ⟨by show (0 : Int) ≤ 3 ∧ (3 : Int) ≤ 7; omega, by simp, rfl, by simp; omega, by show 0 ≤ n ∧ n ≤ 1099511627776; omega⟩
  · have ea : dAt [w] 3 = 0 := by unfold dAt; simp [List.findIdx_cons, h1]
    have e : dFresh [w] 3 n = ([(dTake w n).1], (dTake w n).2) := by
      unfold dFresh
      rw [if_neg hbad, dif_pos (by rw [ea]; simp)]
      simp only [ea, List.getElem_cons_zero, List.set_cons_zero]
    have hok := dTake_ok h2 (s := n) (by omega)
    have hhi := (h.1 _ ((h3 _).1 h2.mem))
    have htake : (dTake w n).2 = !decide (n ∈ S) ∧ ∀ x, x ∈ (dTake w n).1.seen ↔ x ∈ S ++ [n] := by
      unfold dTake
      split
      · rename_i hc
        have hnS : n ∉ S := fun hm => by have := h2.low n ((h3 n).2 hm); omega
        refine ⟨by simp [hnS], fun x => ?_⟩
        show x ∈ insS _ _ ↔ _
        rw [insS_mem, List.mem_filter, List.mem_append, List.mem_singleton]
        constructor
        · rintro (hx | ⟨⟨hx, -⟩, -⟩)
          · exact Or.inr hx
          · exact Or.inl ((h3 x).1 hx)
        · rintro (hx | hx)
          · have := h.1 x hx
            exact Or.inr ⟨⟨(h3 x).2 hx, by unfold keepS; exact decide_eq_true (by omega)⟩, fun he => hnS (he ▸ hx)⟩
          · exact Or.inl hx
      · rename_i hc
        split
        · rename_i hc2
          have hmem : n ∈ S := by
            rcases hc2 with h4 | h4
            · omega
            · exact (h3 n).1 h4
          refine ⟨by simp [hmem], fun x => ?_⟩
          rw [List.mem_append, List.mem_singleton, h3]
          constructor
          · exact Or.inl
          · rintro (hx | rfl)
            · exact hx
            · exact hmem
        · rename_i hc2
          have hnS : n ∉ S := fun hm => hc2 (Or.inr ((h3 n).2 hm))
          refine ⟨by simp [hnS], fun x => ?_⟩
          show x ∈ insS _ _ ↔ _
          rw [insS_mem, List.mem_append, List.mem_singleton, h3]
          constructor
          · rintro (hx | ⟨hx, -⟩)
            · exact Or.inr hx
            · exact Or.inl hx
          · rintro (hx | hx)
            · exact Or.inr ⟨hx, fun he => hnS (he ▸ hx)⟩
            · exact Or.inl hx
    rw [e]
    refine ⟨htake.1, ?_, hS, Or.inr ⟨_, rfl, (dTake_node _ _).trans h1, hok, htake.2⟩⟩
    show dHas [(dTake w n).1] 3 n = true
    rw [has1 _ ((dTake_node _ _).trans h1)]
    exact decide_eq_true ((htake.2 n).2 (by simp))
end Go.Proofs.Ytpfhmpblcmednaa
