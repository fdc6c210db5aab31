/- Plain facts: byte strings as lists, numbers in bytes and digits. No program is imported. -/
import Derived.WalkKit
import Derived.WalkSpells
namespace Go.Proofs.Ytmdlkoigjacipaa
set_option linter.unusedVariables false
open Go Go.RowKit

theorem hid {p : Prop} (h : p) : Hid p := h
/-- A string of these bytes. -/
def bs (l : List UInt8) : ByteArray := ⟨l.toArray⟩
theorem bs_of (s : ByteArray) : s = bs s.data.toList := by cases s; simp [bs]
@[go_sem] theorem bs_toList (l : List UInt8) : (bs l).toList = l := ByteArray.toList_mk l
@[go_sem] theorem bs_data (l : List UInt8) : (bs l).data.toList = l := by simp [bs]
@[go_sem] theorem bs_size (l : List UInt8) : (bs l).size = l.length := by simp [bs, ByteArray.size]
@[go_sem] theorem bs_append (a b : List UInt8) : bs a ++ bs b = bs (a ++ b) := ByteArray.mk_append_mk a b
theorem bs_inj {a b : List UInt8} (h : bs a = bs b) : a = b := by have := congrArg (fun s : ByteArray => s.data.toList) h; simpa [bs] using this
theorem bs_extract (l : List UInt8) (a b : Nat) : (bs l).extract a b = bs ((l.drop a).take (b - a)) := ByteArray.extract_mk l a b

theorem List.reverseRecOn' {α : Type} {motive : List α → Prop} (l : List α) (nil : motive []) (snoc : ∀ l x, motive l → motive (l ++ [x])) : motive l := by
  have h : ∀ m : List α, motive m.reverse := by
    intro m
    induction m with
    | nil => simpa using nil
    | cons x m ih => rw [List.reverse_cons]; exact snoc _ _ ih
  have := h l.reverse
  simpa using this
/-- Cells of bytes: the bytes of n in the last k of wd places, 0 ahead. -/
def cellsOf (l : List UInt8) : Array Value := (l.map fun b => Value.int .u8 (b.toNat : Int)).toArray
def filled (wd : Nat) (l : List UInt8) : List UInt8 := List.replicate (wd - l.length) 0 ++ l
theorem filled_length {wd : Nat} {l : List UInt8} (h : l.length ≤ wd) : (filled wd l).length = wd := by simp [filled]; omega
theorem filled_set {wd : Nat} {l : List UInt8} (h : l.length < wd) (x : UInt8) : (filled wd l).set (wd - 1 - l.length) x = filled wd (x :: l) := by
  unfold filled
  rw [show wd - l.length = (wd - 1 - l.length) + 1 from by omega, List.replicate_succ', List.append_assoc, List.set_append_right _ _ (by simp)]
  simp [show wd - 1 - l.length = wd - (l.length + 1) from by omega]
theorem cellsOf_size (l : List UInt8) : (cellsOf l).size = l.length := by simp [cellsOf]
theorem cellsOf_at (l : List UInt8) (j : Nat) (h : j < l.length) : (cellsOf l)[j]? = some (.int .u8 (l[j].toNat : Int)) := by simp [cellsOf, h]
theorem cellsOf_set (l : List UInt8) (j : Nat) (x : UInt8) : (cellsOf l).setIfInBounds j (.int .u8 (x.toNat : Int)) = cellsOf (l.set j x) := by
  simp [cellsOf, List.map_set]
/-- The lowest k digits of n to the base b, the highest first, each as f says. -/
def bx (b : Nat) (f : Nat → UInt8) : Nat → Nat → List UInt8
  | 0, _ => []
  | k + 1, n => bx b f k (n / b) ++ [f (n % b)]
theorem bx_length (b : Nat) (f : Nat → UInt8) (k n : Nat) : (bx b f k n).length = k := by
  induction k generalizing n with
  | zero => rfl
  | succ k ih => simp [bx, ih]
theorem div_step (N k b : Nat) : N / b ^ k / b = N / b ^ (k + 1) := by rw [Nat.div_div_eq_div_mul, Nat.pow_succ]
theorem bx_cons (b : Nat) (f : Nat → UInt8) (k n : Nat) : bx b f (k + 1) n = f (n / b ^ k % b) :: bx b f k n := by
  induction k generalizing n with
  | zero => simp [bx]
  | succ k ih =>
    have h : bx b f (k + 1 + 1) n = bx b f (k + 1) (n / b) ++ [f (n % b)] := rfl
    rw [h, ih, Nat.div_div_eq_div_mul, show b * b ^ k = b ^ (k + 1) from by rw [Nat.pow_succ, Nat.mul_comm]]
    rfl
/-- A digit's sign. -/
def hexd (d : Nat) : UInt8 := if d < 10 then UInt8.ofNat (48 + d) else UInt8.ofNat (87 + d)
def be : Nat → Nat → List UInt8 := bx 256 UInt8.ofNat
def hx : Nat → Nat → List UInt8 := bx 16 hexd
theorem be_length (k n : Nat) : (be k n).length = k := bx_length _ _ _ _
theorem hx_length (k n : Nat) : (hx k n).length = k := bx_length _ _ _ _
theorem be_cons (k n : Nat) : be (k + 1) n = UInt8.ofNat (n / 256 ^ k % 256) :: be k n := bx_cons _ _ _ _
theorem hx_cons (k n : Nat) : hx (k + 1) n = hexd (n / 16 ^ k % 16) :: hx k n := bx_cons _ _ _ _
theorem be_zero (n : Nat) : be 0 n = [] := rfl
theorem hx_zero (n : Nat) : hx 0 n = [] := rfl
/-- Put, Hex, as the document says. -/
def putX (b : Nat) (f : Nat → UInt8) (most : Int) (n : Nat) (w : Int) : List UInt8 × Int :=
  if w < 1 ∨ most < w then ([], 2) else if n / b ^ w.toNat = 0 then (bx b f w.toNat n, 0) else ([], 12)
theorem putX_arg {b f most n w} (h : w < 1 ∨ most < w) : putX b f most n w = ([], 2) := by rw [putX, if_pos h]
theorem putX_ok {b f most n w} (h1 : 1 ≤ w) (h2 : w ≤ most) (h : n / b ^ w.toNat = 0) : putX b f most n w = (bx b f w.toNat n, 0) := by rw [putX, if_neg (by omega), if_pos h]
theorem putX_range {b f most n w} (h1 : 1 ≤ w) (h2 : w ≤ most) (h : ¬ n / b ^ w.toNat = 0) : putX b f most n w = ([], 12) := by rw [putX, if_neg (by omega), if_neg h]
def putS (n : Nat) (w : Int) : List UInt8 × Int := putX 256 UInt8.ofNat 8 n w
def hexS (n : Nat) (w : Int) : List UInt8 × Int := putX 16 hexd 16 n w
theorem fits_true {n c k : Nat} {b : Int} (hb : b = (c : Int) * (k : Int)) (h : n / (2 ^ c) ^ k = 0) : ((n : Int) / 2 ^ b.toNat == 0) = true := by
  subst hb
  rw [show ((c : Int) * (k : Int)).toNat = c * k from by rw [← Int.natCast_mul]; rfl, beq_iff_eq, show ((n : Int) / 2 ^ (c * k)) = ((n / 2 ^ (c * k) : Nat) : Int) from by simp, Nat.pow_mul, h]; rfl
theorem fits_false {n c k : Nat} {b : Int} (hb : b = (c : Int) * (k : Int)) (h : ¬ n / (2 ^ c) ^ k = 0) : ((n : Int) / 2 ^ b.toNat == 0) = false := by
  subst hb
  rw [show ((c : Int) * (k : Int)).toNat = c * k from by rw [← Int.natCast_mul]; rfl, beq_eq_false_iff_ne, show ((n : Int) / 2 ^ (c * k)) = ((n / 2 ^ (c * k) : Nat) : Int) from by simp, Nat.pow_mul]
  omega
theorem pair1 {α β : Type} {x : α × β} {a : α} {b : β} (h : x = (a, b)) : x.1 = a := by rw [h]
theorem pair2 {α β : Type} {x : α × β} {a : α} {b : β} (h : x = (a, b)) : x.2 = b := by rw [h]
theorem be_set (wd k n m : Nat) (h : k < wd) (hm : m = n / 256 ^ k) : (filled wd (be k n)).set (wd - 1 - k) (UInt8.ofNat (m % 256)) = filled wd (be (k + 1) n) := by
  rw [be_cons, ← hm]; have := filled_set (wd := wd) (l := be k n) (by rw [be_length]; exact h) (UInt8.ofNat (m % 256)); rwa [be_length] at this
theorem hx_set (wd k n m : Nat) (h : k < wd) (hm : m = n / 16 ^ k) : (filled wd (hx k n)).set (wd - 1 - k) (hexd (m % 16)) = filled wd (hx (k + 1) n) := by
  rw [hx_cons, ← hm]; have := filled_set (wd := wd) (l := hx k n) (by rw [hx_length]; exact h) (hexd (m % 16)); rwa [hx_length] at this
theorem u8_cast (m : Nat) : ((UInt8.ofNat (m % 256)).toNat : Int) = (m : Int) % 256 := by simp [UInt8.toNat_ofNat']
/-- The number of these bytes. -/
def val (l : List UInt8) : Nat := l.foldl (fun a c => a * 256 + c.toNat) 0
theorem val_snoc (l : List UInt8) (c : UInt8) : val (l ++ [c]) = val l * 256 + c.toNat := by simp [val]
theorem val_lt (l : List UInt8) : val l < 256 ^ l.length := by
  induction l using List.reverseRecOn' with
  | nil => simp [val]
  | snoc l c ih => rw [val_snoc, List.length_append, List.length_singleton, Nat.pow_succ]; have := c.toNat_lt; omega
/-- Get, as the document says. -/
def getS (l : List UInt8) (at' w : Int) : Nat × Int :=
  if w < 1 ∨ 8 < w ∨ at' < 0 then (0, 2) else if (l.length : Int) - at' < w then (0, 5) else (val ((l.drop at'.toNat).take w.toNat), 0)
theorem getS_arg {l at' w} (h : w < 1 ∨ 8 < w ∨ at' < 0) : getS l at' w = (0, 2) := by rw [getS, if_pos h]
theorem getS_short {l at' w} (h : ¬ (w < 1 ∨ 8 < w ∨ at' < 0)) (h2 : (l.length : Int) - at' < w) : getS l at' w = (0, 5) := by rw [getS, if_neg h, if_pos h2]
theorem getS_ok {l at' w} (h : ¬ (w < 1 ∨ 8 < w ∨ at' < 0)) (h2 : ¬ (l.length : Int) - at' < w) : getS l at' w = (val ((l.drop at'.toNat).take w.toNat), 0) := by rw [getS, if_neg h, if_neg h2]
theorem take_snoc (l : List UInt8) (k : Nat) (h : k < l.length) : l.take (k + 1) = l.take k ++ [l[k]] := by
  rw [List.take_succ_eq_append_getElem h]
theorem cut_snoc (l : List UInt8) (i k : Nat) (h : i + k < l.length) : (l.drop i).take (k + 1) = (l.drop i).take k ++ [l[i + k]] := by
  rw [take_snoc _ k (by simp; omega)]; simp
theorem or_add (a b : Nat) (k : Nat) (h : b < 2 ^ k) : (a * 2 ^ k) ||| b = a * 2 ^ k + b := by
  rw [Nat.mul_comm]; exact (Nat.two_pow_add_eq_or_of_lt h a).symm
/-- A digit's number. -/
def hexv (c : UInt8) : Option Nat := if 48 ≤ c.toNat ∧ c.toNat ≤ 57 then some (c.toNat - 48) else if 97 ≤ c.toNat ∧ c.toNat ≤ 102 then some (c.toNat - 87) else none
theorem hexv_lt {c : UInt8} {d : Nat} (h : hexv c = some d) : d < 16 := by
  unfold hexv at h; split at h
  · simp at h; omega
  · split at h
    · simp at h; omega
    · simp at h
def uh : Nat → List UInt8 → Option Nat
  | a, [] => some a
  | a, c :: r => match hexv c with
    | none => none
    | some d => uh (16 * a + d) r
/-- Unhex, as the document says. -/
def unhexS (l : List UInt8) : Nat × Int :=
  if l.length < 1 ∨ 16 < l.length then (0, 3) else match uh 0 l with | none => (0, 3) | some n => (n, 0)

@[go_sem] theorem bs_get (l : List UInt8) (i : Nat) (h : i < (bs l).size) : (bs l)[i]'h = l[i]'(by rwa [bs_size] at h) := rfl
theorem wrap_u64_nat (n : Nat) (h : n < 18446744073709551616) : IntKind.u64.wrap (n : Int) = n := IntWalk.u64_in _ (by omega)
theorem shlor8 (m b : Nat) (hm : m < 72057594037927936) (hb : b < 256) : bits .or .u64 (IntKind.u64.wrap ((m : Int) * 256)) (IntKind.u64.wrap (b : Int)) = ((m * 256 + b : Nat) : Int) := by
  rw [show (m : Int) * 256 = ((m * 256 : Nat) : Int) from by omega, wrap_u64_nat _ (by omega), wrap_u64_nat _ (by omega), u64_or_nat _ _ (by omega) (by omega), show m * 256 = m * 2 ^ 8 from rfl, or_add _ _ 8 hb]
theorem shlor4 (m b : Nat) (hm : m < 1152921504606846976) (hb : b < 16) : bits .or .u64 (IntKind.u64.wrap ((m : Int) * 16)) (b : Int) = ((m * 16 + b : Nat) : Int) := by
  rw [show (m : Int) * 16 = ((m * 16 : Nat) : Int) from by omega, wrap_u64_nat _ (by omega), u64_or_nat _ _ (by omega) (by omega), show m * 16 = m * 2 ^ 4 from rfl, or_add _ _ 4 hb]
theorem hexlit : ∀ d : Fin 16, (ByteArray.mk #[48, 49, 50, 51, 52, 53, 54, 55, 56, 57, 97, 98, 99, 100, 101, 102])[d.val]'(by have := d.isLt; simp [ByteArray.size]) = hexd d.val := by decide
theorem hexlit_at (d : Nat) (h : d < 16) (hz : d < (ByteArray.mk #[48, 49, 50, 51, 52, 53, 54, 55, 56, 57, 97, 98, 99, 100, 101, 102]).size) : (ByteArray.mk #[48, 49, 50, 51, 52, 53, 54, 55, 56, 57, 97, 98, 99, 100, 101, 102])[d]'hz = hexd d := hexlit ⟨d, h⟩
theorem val_cut_lt (l : List UInt8) (i k : Nat) (h : k ≤ 7) : val ((l.drop i).take k) < 72057594037927936 := by
  have h1 := val_lt ((l.drop i).take k)
  have h2 : ((l.drop i).take k).length ≤ 7 := Nat.le_trans (List.length_take_le _ _) h
  have h3 : 256 ^ ((l.drop i).take k).length ≤ 256 ^ 7 := Nat.pow_le_pow_right (by omega) h2
  omega
theorem uh_drop (l : List UInt8) (k a : Nat) (h : k < l.length) : uh a (l.drop k) = match hexv l[k] with | none => none | some d => uh (16 * a + d) (l.drop (k + 1)) := by
  rw [List.drop_eq_getElem_cons h]; rfl
theorem muladd256 (m b : Nat) (hm : m < 72057594037927936) (hb : b < 256) : IntKind.u64.wrap (256 * (m : Int) + IntKind.u64.wrap (b : Int)) = ((m * 256 + b : Nat) : Int) := by
  rw [wrap_u64_nat b (by omega), show 256 * (m : Int) + (b : Int) = ((m * 256 + b : Nat) : Int) from by omega, wrap_u64_nat _ (by omega)]
theorem wrap_div (m b : Nat) (hm : m < 18446744073709551616) : IntKind.u64.wrap ((m : Int) / (b : Int)) = ((m / b : Nat) : Int) := by
  rw [← Int.natCast_ediv, wrap_u64_nat _ (Nat.lt_of_le_of_lt (Nat.div_le_self _ _) hm)]
theorem div_lt {m n b : Nat} (h : m = n / b) (hn : n < 18446744073709551616) : m < 18446744073709551616 := by rw [h]; exact Nat.lt_of_le_of_lt (Nat.div_le_self _ _) hn
theorem hex_cut (d : Nat) (h : d < 16) : (ByteArray.mk #[48, 49, 50, 51, 52, 53, 54, 55, 56, 57, 97, 98, 99, 100, 101, 102]).extract d (d + 1) = bs [hexd d] := by
  have hs : (ByteArray.mk #[48, 49, 50, 51, 52, 53, 54, 55, 56, 57, 97, 98, 99, 100, 101, 102]) = bs [48, 49, 50, 51, 52, 53, 54, 55, 56, 57, 97, 98, 99, 100, 101, 102] := rfl
  rw [hs, bs_extract]
  have : ∀ d : Fin 16, (List.drop d.val ([48, 49, 50, 51, 52, 53, 54, 55, 56, 57, 97, 98, 99, 100, 101, 102] : List UInt8)).take (d.val + 1 - d.val) = [hexd d.val] := by decide
  rw [this ⟨d, h⟩]
theorem val_be (k n : Nat) : val (be k n) = n % 256 ^ k := by
  induction k generalizing n with
  | zero => simp [be, bx, val, Nat.mod_one]
  | succ k ih =>
    have h : be (k + 1) n = be k (n / 256) ++ [UInt8.ofNat (n % 256)] := rfl
    have hu : (UInt8.ofNat (n % 256)).toNat = n % 256 := by simp [UInt8.toNat_ofNat']
    rw [h, val_snoc, ih, hu, Nat.pow_succ, Nat.mul_comm (256 ^ k) 256, Nat.mod_mul]
    omega
theorem hexv_hexd : ∀ d : Fin 16, hexv (hexd d.val) = some d.val := by decide
theorem hexv_hexd' (d : Nat) (h : d < 16) : hexv (hexd d) = some d := hexv_hexd ⟨d, h⟩
theorem hexd_hexv : ∀ c : Fin 256, (hexv (UInt8.ofNat c.val)).map hexd = (hexv (UInt8.ofNat c.val)).map (fun _ => UInt8.ofNat c.val) := by decide +kernel
theorem hexd_of {c : UInt8} {d : Nat} (h : hexv c = some d) : hexd d = c := by
  have h1 := hexd_hexv ⟨c.toNat, c.toNat_lt⟩
  simp only [UInt8.ofNat_toNat, h, Option.map_some, Option.some.injEq] at h1
  exact h1
theorem uh_hx (k n a : Nat) : uh a (hx k n) = some (a * 16 ^ k + n % 16 ^ k) := by
  induction k generalizing n a with
  | zero => simp [hx, bx, uh, Nat.mod_one]
  | succ k ih =>
    rw [hx_cons]
    have hd : n / 16 ^ k % 16 < 16 := Nat.mod_lt _ (by omega)
    simp only [uh, hexv_hexd' _ hd, ih]
    rw [Nat.pow_succ, Nat.mod_mul (a := 16 ^ k) (b := 16), Nat.add_mul]
    congr 1
    rw [Nat.mul_comm (16 ^ k) (n / 16 ^ k % 16), Nat.mul_comm 16 a, Nat.mul_assoc, Nat.mul_comm 16]
    omega
theorem hx_uh (l : List UInt8) : ∀ (a m : Nat), uh a l = some m → m / 16 ^ l.length = a ∧ hx l.length m = l := by
  induction l with
  | nil => intro a m h; simp only [uh, Option.some.injEq] at h; subst h; simp [hx, bx]
  | cons c r ih =>
    intro a m h
    simp only [uh] at h
    cases hd : hexv c with
    | none => rw [hd] at h; simp at h
    | some d =>
      rw [hd] at h
      obtain ⟨h1, h2⟩ := ih _ _ h
      have h16 := hexv_lt hd
      rw [List.length_cons]
      refine ⟨?_, ?_⟩
      · rw [← div_step, h1]; omega
      · rw [hx_cons, h1, h2, show (16 * a + d) % 16 = d from by omega, hexd_of hd]
theorem mod_of_div {n m : Nat} (hm : 0 < m) (h : n / m = 0) : n % m = n := by
  rw [Nat.mod_eq_of_lt]
  rcases Nat.lt_or_ge n m with h' | h'
  · exact h'
  · have := Nat.div_pos h' hm; omega
theorem getS_putS (n wd : Nat) (a b : List UInt8) (h1 : 1 ≤ wd) (h2 : wd ≤ 8) (h : n / 256 ^ wd = 0) : getS (a ++ be wd n ++ b) a.length wd = (n, 0) := by
  rw [getS_ok (by omega) (by simp [be_length]; omega)]
  rw [Int.toNat_natCast, Int.toNat_natCast, List.append_assoc, List.drop_left, List.take_append_of_le_length (by rw [be_length]; omega), List.take_of_length_le (by rw [be_length]; omega), val_be, mod_of_div (Nat.pow_pos (by omega)) h]
theorem unhexS_hexS (n wd : Nat) (h1 : 1 ≤ wd) (h2 : wd ≤ 16) (h : n / 16 ^ wd = 0) : unhexS (hx wd n) = (n, 0) := by
  rw [unhexS, if_neg (by rw [hx_length]; omega), uh_hx, mod_of_div (Nat.pow_pos (by omega)) h]; simp
theorem hexS_unhexS (l : List UInt8) (h : (unhexS l).2 = 0) : hexS (unhexS l).1 l.length = (l, 0) := by
  unfold unhexS at h ⊢
  split at h
  · simp at h
  · rename_i hl
    rw [if_neg hl]
    cases hu : uh 0 l with
    | none => rw [hu] at h; simp at h
    | some m =>
      obtain ⟨h1, h2⟩ := hx_uh l 0 m hu
      show hexS m l.length = _
      rw [hexS, putX_ok (by omega) (by omega) (by rw [Int.toNat_natCast]; exact h1), Int.toNat_natCast]
      exact congrArg (·, (0 : Int)) h2
theorem putX_snd_ne {b f most n w} (h : ¬ (1 ≤ w ∧ w ≤ most ∧ n / b ^ w.toNat = 0)) : (putX b f most n w).2 = 2 ∨ (putX b f most n w).2 = 12 := by
  unfold putX; split
  · exact Or.inl rfl
  · split
    · rename_i h1 h2; exact absurd ⟨by omega, by omega, h2⟩ h
    · exact Or.inr rfl
theorem unhexS_snd (l : List UInt8) : (unhexS l).2 = 0 ∨ (unhexS l).2 = 3 := by
  unfold unhexS; split
  · exact Or.inr rfl
  · split
    · exact Or.inr rfl
    · exact Or.inl rfl
end Go.Proofs.Ytmdlkoigjacipaa
