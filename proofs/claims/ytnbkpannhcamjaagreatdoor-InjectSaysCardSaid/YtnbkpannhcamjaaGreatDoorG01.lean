/- Texts put together: Plain Ip Pp Hp. -/
import Derived.WalkKit
import Derived.WalkSpells
namespace Go.Proofs.YtnbkpannhcamjaaGreatDoor
set_option linter.unusedVariables false
open Go Go.RowKit

theorem hid {p : Prop} (h : p) : Hid p := h
/-- A string of these bytes. -/
def bs (l : List UInt8) : ByteArray := ⟨l.toArray⟩
theorem bs_of (s : ByteArray) : s = bs s.data.toList := by cases s; simp [bs]
@[go_sem] theorem bs_toList (l : List UInt8) : (bs l).toList = l := ByteArray.toList_mk l
@[go_sem] theorem bs_data (l : List UInt8) : (bs l).data.toList = l := by simp [bs]
@[go_sem] theorem bs_size (l : List UInt8) : (bs l).size = l.length := by simp [bs, ByteArray.size]
@[go_sem] theorem bs_append (a b : List UInt8) : bs a ++ bs b = bs (a ++ b) := ByteArray.mk_append_mk a b
theorem bs_inj {a b : List UInt8} (h : bs a = bs b) : a = b := by have := congrArg (fun s : ByteArray => s.data.toList) h; simpa [bs] using this
theorem bs_extract (l : List UInt8) (a b : Nat) : (bs l).extract a b = bs ((l.drop a).take (b - a)) := ByteArray.extract_mk l a b

theorem List.reverseRecOn' {α : Type} {motive : List α → Prop} (l : List α) (nil : motive []) (snoc : ∀ l x, motive l → motive (l ++ [x])) : motive l := by
  have h : ∀ m : List α, motive m.reverse := by
    intro m
    induction m with
    | nil => simpa using nil
    | cons x m ih => rw [List.reverse_cons]; exact snoc _ _ ih
  have := h l.reverse
  simpa using this
/-- Cells of bytes: the bytes of n in the last k of wd places, 0 ahead. -/
def cellsOf (l : List UInt8) : Array Value := (l.map fun b => Value.int .u8 (b.toNat : Int)).toArray
def filled (wd : Nat) (l : List UInt8) : List UInt8 := List.replicate (wd - l.length) 0 ++ l
theorem filled_length {wd : Nat} {l : List UInt8} (h : l.length ≤ wd) : (filled wd l).length = wd := by simp [filled]; omega
theorem filled_set {wd : Nat} {l : List UInt8} (h : l.length < wd) (x : UInt8) : (filled wd l).set (wd - 1 - l.length) x = filled wd (x :: l) := by
  unfold filled
  rw [show wd - l.length = (wd - 1 - l.length) + 1 from by omega, List.replicate_succ', List.append_assoc, List.set_append_right _ _ (by simp)]
  simp [show wd - 1 - l.length = wd - (l.length + 1) from by omega]
theorem cellsOf_size (l : List UInt8) : (cellsOf l).size = l.length := by simp [cellsOf]
theorem cellsOf_at (l : List UInt8) (j : Nat) (h : j < l.length) : (cellsOf l)[j]? = some (.int .u8 (l[j].toNat : Int)) := by simp [cellsOf, h]
theorem cellsOf_set (l : List UInt8) (j : Nat) (x : UInt8) : (cellsOf l).setIfInBounds j (.int .u8 (x.toNat : Int)) = cellsOf (l.set j x) := by
  simp [cellsOf, List.map_set]
/-- The lowest k digits of n to the base b, the highest first, each as f says. -/
def bx (b : Nat) (f : Nat → UInt8) : Nat → Nat → List UInt8
  | 0, _ => []
  | k + 1, n => bx b f k (n / b) ++ [f (n % b)]
theorem bx_length (b : Nat) (f : Nat → UInt8) (k n : Nat) : (bx b f k n).length = k := by
  induction k generalizing n with
  | zero => rfl
  | succ k ih => simp [bx, ih]
theorem div_step (N k b : Nat) : N / b ^ k / b = N / b ^ (k + 1) := by rw [Nat.div_div_eq_div_mul, Nat.pow_succ]
theorem bx_cons (b : Nat) (f : Nat → UInt8) (k n : Nat) : bx b f (k + 1) n = f (n / b ^ k % b) :: bx b f k n := by
  induction k generalizing n with
  | zero => simp [bx]
  | succ k ih =>
    have h : bx b f (k + 1 + 1) n = bx b f (k + 1) (n / b) ++ [f (n % b)] := rfl
    rw [h, ih, Nat.div_div_eq_div_mul, show b * b ^ k = b ^ (k + 1) from by rw [Nat.pow_succ, Nat.mul_comm]]
    rfl
/-- A digit's sign. -/
def hexd (d : Nat) : UInt8 := if d < 10 then UInt8.ofNat (48 + d) else UInt8.ofNat (87 + d)
def be : Nat → Nat → List UInt8 := bx 256 UInt8.ofNat
def hx : Nat → Nat → List UInt8 := bx 16 hexd
theorem be_length (k n : Nat) : (be k n).length = k := bx_length _ _ _ _
theorem hx_length (k n : Nat) : (hx k n).length = k := bx_length _ _ _ _
theorem be_cons (k n : Nat) : be (k + 1) n = UInt8.ofNat (n / 256 ^ k % 256) :: be k n := bx_cons _ _ _ _
theorem hx_cons (k n : Nat) : hx (k + 1) n = hexd (n / 16 ^ k % 16) :: hx k n := bx_cons _ _ _ _
theorem be_zero (n : Nat) : be 0 n = [] := rfl
theorem hx_zero (n : Nat) : hx 0 n = [] := rfl
/-- Put, Hex, as the document says. -/
def putX (b : Nat) (f : Nat → UInt8) (most : Int) (n : Nat) (w : Int) : List UInt8 × Int :=
  if w < 1 ∨ most < w then ([], 2) else if n / b ^ w.toNat = 0 then (bx b f w.toNat n, 0) else ([], 12)
theorem putX_arg {b f most n w} (h : w < 1 ∨ most < w) : putX b f most n w = ([], 2) := by rw [putX, if_pos h]
theorem putX_ok {b f most n w} (h1 : 1 ≤ w) (h2 : w ≤ most) (h : n / b ^ w.toNat = 0) : putX b f most n w = (bx b f w.toNat n, 0) := by rw [putX, if_neg (by omega), if_pos h]
theorem putX_range {b f most n w} (h1 : 1 ≤ w) (h2 : w ≤ most) (h : ¬ n / b ^ w.toNat = 0) : putX b f most n w = ([], 12) := by rw [putX, if_neg (by omega), if_neg h]
def putS (n : Nat) (w : Int) : List UInt8 × Int := putX 256 UInt8.ofNat 8 n w
def hexS (n : Nat) (w : Int) : List UInt8 × Int := putX 16 hexd 16 n w
theorem fits_true {n c k : Nat} {b : Int} (hb : b = (c : Int) * (k : Int)) (h : n / (2 ^ c) ^ k = 0) : ((n : Int) / 2 ^ b.toNat == 0) = true := by
  subst hb
  rw [show ((c : Int) * (k : Int)).toNat = c * k from by rw [← Int.natCast_mul]; rfl, beq_iff_eq, show ((n : Int) / 2 ^ (c * k)) = ((n / 2 ^ (c * k) : Nat) : Int) from by simp, Nat.pow_mul, h]; rfl
theorem fits_false {n c k : Nat} {b : Int} (hb : b = (c : Int) * (k : Int)) (h : ¬ n / (2 ^ c) ^ k = 0) : ((n : Int) / 2 ^ b.toNat == 0) = false := by
  subst hb
  rw [show ((c : Int) * (k : Int)).toNat = c * k from by rw [← Int.natCast_mul]; rfl, beq_eq_false_iff_ne, show ((n : Int) / 2 ^ (c * k)) = ((n / 2 ^ (c * k) : Nat) : Int) from by simp, Nat.pow_mul]
  omega
theorem pair1 {α β : Type} {x : α × β} {a : α} {b : β} (h : x = (a, b)) : x.1 = a := by rw [h]
theorem pair2 {α β : Type} {x : α × β} {a : α} {b : β} (h : x = (a, b)) : x.2 = b := by rw [h]
theorem be_set (wd k n m : Nat) (h : k < wd) (hm : m = n / 256 ^ k) : (filled wd (be k n)).set (wd - 1 - k) (UInt8.ofNat (m % 256)) = filled wd (be (k + 1) n) := by
  rw [be_cons, ← hm]; have := filled_set (wd := wd) (l := be k n) (by rw [be_length]; exact h) (UInt8.ofNat (m % 256)); rwa [be_length] at this
theorem hx_set (wd k n m : Nat) (h : k < wd) (hm : m = n / 16 ^ k) : (filled wd (hx k n)).set (wd - 1 - k) (hexd (m % 16)) = filled wd (hx (k + 1) n) := by
  rw [hx_cons, ← hm]; have := filled_set (wd := wd) (l := hx k n) (by rw [hx_length]; exact h) (hexd (m % 16)); rwa [hx_length] at this
theorem u8_cast (m : Nat) : ((UInt8.ofNat (m % 256)).toNat : Int) = (m : Int) % 256 := by simp [UInt8.toNat_ofNat']
/-- The number of these bytes. -/
def val (l : List UInt8) : Nat := l.foldl (fun a c => a * 256 + c.toNat) 0
theorem val_snoc (l : List UInt8) (c : UInt8) : val (l ++ [c]) = val l * 256 + c.toNat := by simp [val]
theorem val_lt (l : List UInt8) : val l < 256 ^ l.length := by
  induction l using List.reverseRecOn' with
  | nil => simp [val]
  | snoc l c ih => rw [val_snoc, List.length_append, List.length_singleton, Nat.pow_succ]; have := c.toNat_lt; omega
/-- Get, as the document says. -/
def getS (l : List UInt8) (at' w : Int) : Nat × Int :=
  if w < 1 ∨ 8 < w ∨ at' < 0 then (0, 2) else if (l.length : Int) - at' < w then (0, 5) else (val ((l.drop at'.toNat).take w.toNat), 0)
theorem getS_arg {l at' w} (h : w < 1 ∨ 8 < w ∨ at' < 0) : getS l at' w = (0, 2) := by rw [getS, if_pos h]
theorem getS_short {l at' w} (h : ¬ (w < 1 ∨ 8 < w ∨ at' < 0)) (h2 : (l.length : Int) - at' < w) : getS l at' w = (0, 5) := by rw [getS, if_neg h, if_pos h2]
theorem getS_ok {l at' w} (h : ¬ (w < 1 ∨ 8 < w ∨ at' < 0)) (h2 : ¬ (l.length : Int) - at' < w) : getS l at' w = (val ((l.drop at'.toNat).take w.toNat), 0) := by rw [getS, if_neg h, if_neg h2]
theorem take_snoc (l : List UInt8) (k : Nat) (h : k < l.length) : l.take (k + 1) = l.take k ++ [l[k]] := by
  rw [List.take_succ_eq_append_getElem h]
theorem cut_snoc (l : List UInt8) (i k : Nat) (h : i + k < l.length) : (l.drop i).take (k + 1) = (l.drop i).take k ++ [l[i + k]] := by
  rw [take_snoc _ k (by simp; omega)]; simp
theorem or_add (a b : Nat) (k : Nat) (h : b < 2 ^ k) : (a * 2 ^ k) ||| b = a * 2 ^ k + b := by
  rw [Nat.mul_comm]; exact (Nat.two_pow_add_eq_or_of_lt h a).symm
/-- A digit's number. -/
def hexv (c : UInt8) : Option Nat := if 48 ≤ c.toNat ∧ c.toNat ≤ 57 then some (c.toNat - 48) else if 97 ≤ c.toNat ∧ c.toNat ≤ 102 then some (c.toNat - 87) else none
theorem hexv_lt {c : UInt8} {d : Nat} (h : hexv c = some d) : d < 16 := by
  unfold hexv at h; split at h
  · simp at h; omega
  · split at h
    · simp at h; omega
    · simp at h
def uh : Nat → List UInt8 → Option Nat
  | a, [] => some a
  | a, c :: r => match hexv c with
    | none => none
    | some d => uh (16 * a + d) r
/-- Unhex, as the document says. -/
def unhexS (l : List UInt8) : Nat × Int :=
  if l.length < 1 ∨ 16 < l.length then (0, 3) else match uh 0 l with | none => (0, 3) | some n => (n, 0)

@[go_sem] theorem bs_get (l : List UInt8) (i : Nat) (h : i < (bs l).size) : (bs l)[i]'h = l[i]'(by rwa [bs_size] at h) := rfl
theorem wrap_u64_nat (n : Nat) (h : n < 18446744073709551616) : IntKind.u64.wrap (n : Int) = n := IntWalk.u64_in _ (by omega)
theorem shlor8 (m b : Nat) (hm : m < 72057594037927936) (hb : b < 256) : bits .or .u64 (IntKind.u64.wrap ((m : Int) * 256)) (IntKind.u64.wrap (b : Int)) = ((m * 256 + b : Nat) : Int) := by
  rw [show (m : Int) * 256 = ((m * 256 : Nat) : Int) from by omega, wrap_u64_nat _ (by omega), wrap_u64_nat _ (by omega), u64_or_nat _ _ (by omega) (by omega), show m * 256 = m * 2 ^ 8 from rfl, or_add _ _ 8 hb]
theorem shlor4 (m b : Nat) (hm : m < 1152921504606846976) (hb : b < 16) : bits .or .u64 (IntKind.u64.wrap ((m : Int) * 16)) (b : Int) = ((m * 16 + b : Nat) : Int) := by
  rw [show (m : Int) * 16 = ((m * 16 : Nat) : Int) from by omega, wrap_u64_nat _ (by omega), u64_or_nat _ _ (by omega) (by omega), show m * 16 = m * 2 ^ 4 from rfl, or_add _ _ 4 hb]
theorem hexlit : ∀ d : Fin 16, (ByteArray.mk #[48, 49, 50, 51, 52, 53, 54, 55, 56, 57, 97, 98, 99, 100, 101, 102])[d.val]'(by have := d.isLt; simp [ByteArray.size]) = hexd d.val := by decide
theorem hexlit_at (d : Nat) (h : d < 16) (hz : d < (ByteArray.mk #[48, 49, 50, 51, 52, 53, 54, 55, 56, 57, 97, 98, 99, 100, 101, 102]).size) : (ByteArray.mk #[48, 49, 50, 51, 52, 53, 54, 55, 56, 57, 97, 98, 99, 100, 101, 102])[d]'hz = hexd d := hexlit ⟨d, h⟩
theorem val_cut_lt (l : List UInt8) (i k : Nat) (h : k ≤ 7) : val ((l.drop i).take k) < 72057594037927936 := by
  have h1 := val_lt ((l.drop i).take k)
  have h2 : ((l.drop i).take k).length ≤ 7 := Nat.le_trans (List.length_take_le _ _) h
  have h3 : 256 ^ ((l.drop i).take k).length ≤ 256 ^ 7 := Nat.pow_le_pow_right (by omega) h2
  omega
theorem uh_drop (l : List UInt8) (k a : Nat) (h : k < l.length) : uh a (l.drop k) = match hexv l[k] with | none => none | some d => uh (16 * a + d) (l.drop (k + 1)) := by
  rw [List.drop_eq_getElem_cons h]; rfl
theorem muladd256 (m b : Nat) (hm : m < 72057594037927936) (hb : b < 256) : IntKind.u64.wrap (256 * (m : Int) + IntKind.u64.wrap (b : Int)) = ((m * 256 + b : Nat) : Int) := by
  rw [wrap_u64_nat b (by omega), show 256 * (m : Int) + (b : Int) = ((m * 256 + b : Nat) : Int) from by omega, wrap_u64_nat _ (by omega)]
theorem wrap_div (m b : Nat) (hm : m < 18446744073709551616) : IntKind.u64.wrap ((m : Int) / (b : Int)) = ((m / b : Nat) : Int) := by
  rw [← Int.natCast_ediv, wrap_u64_nat _ (Nat.lt_of_le_of_lt (Nat.div_le_self _ _) hm)]
theorem div_lt {m n b : Nat} (h : m = n / b) (hn : n < 18446744073709551616) : m < 18446744073709551616 := by rw [h]; exact Nat.lt_of_le_of_lt (Nat.div_le_self _ _) hn
theorem hex_cut (d : Nat) (h : d < 16) : (ByteArray.mk #[48, 49, 50, 51, 52, 53, 54, 55, 56, 57, 97, 98, 99, 100, 101, 102]).extract d (d + 1) = bs [hexd d] := by
  have hs : (ByteArray.mk #[48, 49, 50, 51, 52, 53, 54, 55, 56, 57, 97, 98, 99, 100, 101, 102]) = bs [48, 49, 50, 51, 52, 53, 54, 55, 56, 57, 97, 98, 99, 100, 101, 102] := rfl
  rw [hs, bs_extract]
  have : ∀ d : Fin 16, (List.drop d.val ([48, 49, 50, 51, 52, 53, 54, 55, 56, 57, 97, 98, 99, 100, 101, 102] : List UInt8)).take (d.val + 1 - d.val) = [hexd d.val] := by decide
  rw [this ⟨d, h⟩]
theorem val_be (k n : Nat) : val (be k n) = n % 256 ^ k := by
  induction k generalizing n with
  | zero => simp [be, bx, val, Nat.mod_one]
  | succ k ih =>
    have h : be (k + 1) n = be k (n / 256) ++ [UInt8.ofNat (n % 256)] := rfl
    have hu : (UInt8.ofNat (n % 256)).toNat = n % 256 := by simp [UInt8.toNat_ofNat']
    rw [h, val_snoc, ih, hu, Nat.pow_succ, Nat.mul_comm (256 ^ k) 256, Nat.mod_mul]
    omega
theorem hexv_hexd : ∀ d : Fin 16, hexv (hexd d.val) = some d.val := by decide
theorem hexv_hexd' (d : Nat) (h : d < 16) : hexv (hexd d) = some d := hexv_hexd ⟨d, h⟩
theorem hexd_hexv : ∀ c : Fin 256, (hexv (UInt8.ofNat c.val)).map hexd = (hexv (UInt8.ofNat c.val)).map (fun _ => UInt8.ofNat c.val) := by decide +kernel
theorem hexd_of {c : UInt8} {d : Nat} (h : hexv c = some d) : hexd d = c := by
  have h1 := hexd_hexv ⟨c.toNat, c.toNat_lt⟩
  simp only [UInt8.ofNat_toNat, h, Option.map_some, Option.some.injEq] at h1
  exact h1
theorem uh_hx (k n a : Nat) : uh a (hx k n) = some (a * 16 ^ k + n % 16 ^ k) := by
  induction k generalizing n a with
  | zero => simp [hx, bx, uh, Nat.mod_one]
  | succ k ih =>
    rw [hx_cons]
    have hd : n / 16 ^ k % 16 < 16 := Nat.mod_lt _ (by omega)
    simp only [uh, hexv_hexd' _ hd, ih]
    rw [Nat.pow_succ, Nat.mod_mul (a := 16 ^ k) (b := 16), Nat.add_mul]
    congr 1
    rw [Nat.mul_comm (16 ^ k) (n / 16 ^ k % 16), Nat.mul_comm 16 a, Nat.mul_assoc, Nat.mul_comm 16]
    omega
theorem hx_uh (l : List UInt8) : ∀ (a m : Nat), uh a l = some m → m / 16 ^ l.length = a ∧ hx l.length m = l := by
  induction l with
  | nil => intro a m h; simp only [uh, Option.some.injEq] at h; subst h; simp [hx, bx]
  | cons c r ih =>
    intro a m h
    simp only [uh] at h
    cases hd : hexv c with
    | none => rw [hd] at h; simp at h
    | some d =>
      rw [hd] at h
      obtain ⟨h1, h2⟩ := ih _ _ h
      have h16 := hexv_lt hd
      rw [List.length_cons]
      refine ⟨?_, ?_⟩
      · rw [← div_step, h1]; omega
      · rw [hx_cons, h1, h2, show (16 * a + d) % 16 = d from by omega, hexd_of hd]
theorem mod_of_div {n m : Nat} (hm : 0 < m) (h : n / m = 0) : n % m = n := by
  rw [Nat.mod_eq_of_lt]
  rcases Nat.lt_or_ge n m with h' | h'
  · exact h'
  · have := Nat.div_pos h' hm; omega
theorem getS_putS (n wd : Nat) (a b : List UInt8) (h1 : 1 ≤ wd) (h2 : wd ≤ 8) (h : n / 256 ^ wd = 0) : getS (a ++ be wd n ++ b) a.length wd = (n, 0) := by
  rw [getS_ok (by omega) (by simp [be_length]; omega)]
  rw [Int.toNat_natCast, Int.toNat_natCast, List.append_assoc, List.drop_left, List.take_append_of_le_length (by rw [be_length]; omega), List.take_of_length_le (by rw [be_length]; omega), val_be, mod_of_div (Nat.pow_pos (by omega)) h]
theorem unhexS_hexS (n wd : Nat) (h1 : 1 ≤ wd) (h2 : wd ≤ 16) (h : n / 16 ^ wd = 0) : unhexS (hx wd n) = (n, 0) := by
  rw [unhexS, if_neg (by rw [hx_length]; omega), uh_hx, mod_of_div (Nat.pow_pos (by omega)) h]; simp
theorem hexS_unhexS (l : List UInt8) (h : (unhexS l).2 = 0) : hexS (unhexS l).1 l.length = (l, 0) := by
  unfold unhexS at h ⊢
  split at h
  · simp at h
  · rename_i hl
    rw [if_neg hl]
    cases hu : uh 0 l with
    | none => rw [hu] at h; simp at h
    | some m =>
      obtain ⟨h1, h2⟩ := hx_uh l 0 m hu
      show hexS m l.length = _
      rw [hexS, putX_ok (by omega) (by omega) (by rw [Int.toNat_natCast]; exact h1), Int.toNat_natCast]
      exact congrArg (·, (0 : Int)) h2
theorem putX_snd_ne {b f most n w} (h : ¬ (1 ≤ w ∧ w ≤ most ∧ n / b ^ w.toNat = 0)) : (putX b f most n w).2 = 2 ∨ (putX b f most n w).2 = 12 := by
  unfold putX; split
  · exact Or.inl rfl
  · split
    · rename_i h1 h2; exact absurd ⟨by omega, by omega, h2⟩ h
    · exact Or.inr rfl
theorem unhexS_snd (l : List UInt8) : (unhexS l).2 = 0 ∨ (unhexS l).2 = 3 := by
  unfold unhexS; split
  · exact Or.inr rfl
  · split
    · exact Or.inr rfl
    · exact Or.inl rfl
end Go.Proofs.YtnbkpannhcamjaaGreatDoor
namespace Go.Proofs.YtnbkpannhcamjaaGreatDoor
set_option linter.unusedVariables false

/-- The trace, or the span, of a text. -/
def ofS (l : List UInt8) : Nat × Nat × Int :=
  if l.length ≠ 32 then (0, 0, 3) else if (unhexS (l.take 16)).2 = 0 ∧ (unhexS (l.drop 16)).2 = 0 then (if (unhexS (l.take 16)).1 = 0 ∧ (unhexS (l.drop 16)).1 = 0 then (0, 0, 11) else ((unhexS (l.take 16)).1, (unhexS (l.drop 16)).1, 0)) else (0, 0, 3)
def spanOfS (l : List UInt8) : Nat × Int :=
  if l.length ≠ 16 then (0, 3) else if (unhexS l).2 = 0 then (if (unhexS l).1 = 0 then (0, 11) else ((unhexS l).1, 0)) else (0, 3)
def idText (a b : Nat) : List UInt8 := hx 16 a ++ hx 16 b
theorem hexS16 {n : Nat} (h : n < 18446744073709551616) : hexS n 16 = (hx 16 n, 0) := putX_ok (by omega) (by omega) (Nat.div_eq_of_lt (by show n < 16 ^ 16; omega))
theorem unhexS_fst (l : List UInt8) (h : ¬ (unhexS l).2 = 0) : (unhexS l).1 = 0 := by
  unfold unhexS at h ⊢
  split
  · rfl
  · rename_i hl
    rw [if_neg hl] at h
    split
    · rfl
    · rename_i n hn; rw [hn] at h; simp at h
theorem hx_unhex {n : Nat} (h : n < 18446744073709551616) : unhexS (hx 16 n) = (n, 0) := unhexS_hexS n 16 (by omega) (by omega) (Nat.div_eq_of_lt (by omega))
theorem spanOfS_hx {n : Nat} (h : n < 18446744073709551616) : spanOfS (hx 16 n) = if n = 0 then (0, 11) else (n, 0) := by
  rw [spanOfS, if_neg (by rw [hx_length]; simp), hx_unhex h, if_pos rfl]
theorem ofS_text {a b : Nat} (ha : a < 18446744073709551616) (hb : b < 18446744073709551616) : ofS (idText a b) = if a = 0 ∧ b = 0 then (0, 0, 11) else (a, b, 0) := by
  have h1 : (idText a b).take 16 = hx 16 a := by rw [idText, List.take_append_of_le_length (by rw [hx_length]; omega), List.take_of_length_le (by rw [hx_length]; omega)]
  have h2 : (idText a b).drop 16 = hx 16 b := by rw [idText, List.drop_append, hx_length]; simp [List.drop_of_length_le, hx_length]
  have hl : (idText a b).length = 32 := by rw [idText, List.length_append, hx_length, hx_length]
  rw [ofS, if_neg (by rw [hl]; simp), h1, h2, hx_unhex ha, hx_unhex hb, if_pos ⟨rfl, rfl⟩]
theorem hx_inj {a b : Nat} (ha : a < 18446744073709551616) (hb : b < 18446744073709551616) (h : hx 16 a = hx 16 b) : a = b := by
  have h1 := hx_unhex ha
  rw [h, hx_unhex hb] at h1
  exact (congrArg Prod.fst h1).symm
theorem idText_inj {a b c d : Nat} (ha : a < 18446744073709551616) (hb : b < 18446744073709551616) (hc : c < 18446744073709551616) (hd : d < 18446744073709551616) (h : idText a b = idText c d) : a = c ∧ b = d := by
  obtain ⟨h1, h2⟩ := List.append_inj h (by rw [hx_length, hx_length])
  exact ⟨hx_inj ha hc h1, hx_inj hb hd h2⟩
/-- What is drawn at a place. -/
def atS (L : List Nat) (n : Int) : Nat := if h : 0 ≤ n ∧ n < L.length then L[n.toNat]'(by omega) else 4294967296 + (if 0 > n then 0 else n).toNat
theorem atS_in {L : List Nat} {k : Nat} (h : k < L.length) : atS L (k : Int) = L[k] := by rw [atS, dif_pos (by omega)]; rfl
theorem atS_out {L : List Nat} {n : Int} (h : ¬ (0 ≤ n ∧ n < L.length)) : atS L n = 4294967296 + (if 0 > n then 0 else n).toNat := by rw [atS, dif_neg h]
/-- The first k that are drawn are unlike, none 0. -/
def Apart (L : List Nat) (k : Nat) : Prop := ∀ i, i < k → atS L (i : Int) ≠ 0 ∧ ∀ j, j < i → atS L (j : Int) ≠ atS L (i : Int)
theorem apart_le {L : List Nat} {k m : Nat} (h : Apart L m) (hk : k ≤ m) : Apart L k := fun i hi => h i (by omega)
theorem apart_zero (L : List Nat) : Apart L 0 := fun i hi => absurd hi (by omega)
theorem apart_succ {L : List Nat} {k : Nat} (h : Apart L k) (h0 : atS L (k : Int) ≠ 0) (h1 : ∀ j, j < k → atS L (j : Int) ≠ atS L (k : Int)) : Apart L (k + 1) := fun i hi => by
  by_cases e : i = k
  · subst e; exact ⟨h0, h1⟩
  · exact h i (by omega)
theorem not_apart_zero {L : List Nat} {k m : Nat} (hk : k < m) (h0 : atS L (k : Int) = 0) : ¬ Apart L m := fun h => (h k hk).1 h0
theorem not_apart_two {L : List Nat} {j k m : Nat} (hk : k < m) (hj : j < k) (h0 : atS L (j : Int) = atS L (k : Int)) : ¬ Apart L m := fun h => (h k hk).2 j hj h0
noncomputable def distS (L : List Nat) (n : Int) : Bool := @decide (Apart L (min n 4096).toNat) (Classical.propDecidable _)
theorem distS_true {L : List Nat} {n : Int} (h : Apart L (min n 4096).toNat) : distS L n = true := by unfold distS; exact @decide_eq_true _ (Classical.propDecidable _) h
theorem distS_false {L : List Nat} {n : Int} (h : ¬ Apart L (min n 4096).toNat) : distS L n = false := by unfold distS; exact @decide_eq_false _ (Classical.propDecidable _) h
theorem distS_mono {L : List Nat} {n m : Int} (h : distS L m = true) (hn : n ≤ m) : distS L n = true := by
  refine distS_true (apart_le ?_ (show (min n 4096).toNat ≤ (min m 4096).toNat by omega))
  exact @of_decide_eq_true _ (Classical.propDecidable _) h
end Go.Proofs.YtnbkpannhcamjaaGreatDoor
namespace Go.Proofs.YtnbkpannhcamjaaGreatDoor
set_option linter.unusedVariables false
set_option linter.unusedSimpArgs false

def isHex (c : UInt8) : Bool := (hexv c).isSome
theorem uh_all : ∀ (l : List UInt8) (a : Nat), (uh a l).isSome = l.all isHex
  | [], a => rfl
  | c :: r, a => by
    rw [uh, List.all_cons, isHex]
    cases h : hexv c with
    | none => rfl
    | some d => simp only [Option.isSome_some, Bool.true_and]; exact uh_all r _
theorem unhexS_all {l : List UInt8} (h1 : 1 ≤ l.length) (h2 : l.length ≤ 16) : (unhexS l).2 = 0 ↔ l.all isHex = true := by
  rw [unhexS, if_neg (by omega), ← uh_all l 0]
  cases uh 0 l <;> simp
theorem unhexS_one (c : UInt8) : unhexS [c] = (match hexv c with | none => (0, 3) | some d => (d, 0)) := by
  rw [unhexS, if_neg (by simp), uh]
  cases hexv c <;> simp [uh]
theorem unhexS_lt {l : List UInt8} : (unhexS l).1 < 16 ^ l.length := by
  by_cases h : (unhexS l).2 = 0
  · have h3 := hexS_unhexS l h
    rw [hexS, putX] at h3
    split at h3
    · simp at h3
    · split at h3
      · rename_i _ h4
        rw [Int.toNat_natCast] at h4
        rcases Nat.lt_or_ge (unhexS l).1 (16 ^ l.length) with h5 | h5
        · exact h5
        · have := Nat.div_pos h5 (Nat.pow_pos (by omega)); omega
      · simp at h3
  · rw [unhexS_fst l h]; exact Nat.pow_pos (by omega)
theorem hx_of_unhex {l : List UInt8} (h : (unhexS l).2 = 0) : hx l.length (unhexS l).1 = l := by
  have h3 := hexS_unhexS l h
  rw [hexS, putX] at h3
  split at h3
  · simp at h3
  · split at h3
    · rw [Int.toNat_natCast] at h3; exact congrArg Prod.fst h3
    · simp at h3
/-- A piece of a text, as a number. -/
def pc (l : List UInt8) (a n : Nat) : Nat × Int := unhexS ((l.drop a).take n)
/-- Whether a text of that version may end so. -/
def endS (v : Nat) (r : List UInt8) : Bool := if v = 255 then false else if v = 0 then r.isEmpty else (r.isEmpty || List.isPrefixOf [45] r)
/-- Whether the first k pieces are as they must be. -/
def pcOk (l : List UInt8) (a n : Nat) (m : Bool) : Bool := decide ((pc l a n).2 = 0) && (!m || decide (l[a + n]? = some 45))
def cutOk (l : List UInt8) : Bool := pcOk l 0 2 true && (pcOk l 3 16 false && (pcOk l 19 16 true && (pcOk l 36 16 true && pcOk l 53 2 false)))
def formS (l : List UInt8) : Bool := decide (55 ≤ l.length) && (cutOk l && endS (pc l 0 2).1 (l.drop 55))
abbrev Pr := Nat × Nat × Nat × Nat
def pzero (p : Pr) : Bool := decide (p.1 = 0 ∧ p.2.1 = 0) || decide (p.2.2.1 = 0)
def numP (l : List UInt8) : Pr := ((pc l 3 16).1, (pc l 19 16).1, (pc l 36 16).1, (pc l 53 2).1)
def noP7 : Pr := (0, 0, 0, 0)
/-- What a text says. -/
def parS (l : List UInt8) : Pr × Int := if formS l = true then (if pzero (numP l) = true then (noP7, 11) else (numP l, 0)) else (noP7, 3)
/-- The text that says it. -/
def parT (p : Pr) : List UInt8 := [48, 48, 45] ++ hx 16 p.1 ++ hx 16 p.2.1 ++ [45] ++ hx 16 p.2.2.1 ++ [45] ++ hx 2 p.2.2.2
def wrS (a b s : Nat) (f : Int) : List UInt8 × Int := if pzero (a, b, s, 0) = true then ([], 11) else if f < 0 ∨ 255 < f then ([], 12) else (parT (a, b, s, f.toNat), 0)

theorem pc_len {l : List UInt8} {a n : Nat} (h : a + n ≤ l.length) : ((l.drop a).take n).length = n := by simp; omega
theorem pc_all {l : List UInt8} {a n : Nat} (h : a + n ≤ l.length) (h1 : 1 ≤ n) (h2 : n ≤ 16) : (pc l a n).2 = 0 ↔ ((l.drop a).take n).all isHex = true :=
  unhexS_all (by rw [pc_len h]; exact h1) (by rw [pc_len h]; exact h2)
theorem take_split (l : List UInt8) (a : Nat) : (l.drop a).take 32 = (l.drop a).take 16 ++ (l.drop (a + 16)).take 16 := by
  rw [show 32 = 16 + 16 from rfl, List.take_add, List.drop_drop]
theorem ver_ff {l : List UInt8} (hl : 2 ≤ l.length) (h : (pc l 0 2).2 = 0) : (pc l 0 2).1 = 255 ↔ (l.take 2 = [102, 102]) := by
  unfold pc at *
  rw [List.drop_zero] at *
  have h2 := hx_of_unhex h
  rw [show (l.take 2).length = 2 from by simp; omega] at h2
  constructor
  · intro e; rw [e] at h2; rw [← h2]; decide
  · intro e; rw [e]; decide
theorem ver_00 {l : List UInt8} (hl : 2 ≤ l.length) (h : (pc l 0 2).2 = 0) : (pc l 0 2).1 = 0 ↔ (l.take 2 = [48, 48]) := by
  unfold pc at *
  rw [List.drop_zero] at *
  have h2 := hx_of_unhex h
  rw [show (l.take 2).length = 2 from by simp; omega] at h2
  constructor
  · intro e; rw [e] at h2; rw [← h2]; decide
  · intro e; rw [e]; decide
theorem at_of {l : List UInt8} {i : Nat} (h : i < l.length) : decide (l[i]? = some 45) = (l[i] == 45) := by
  rw [List.getElem?_eq_getElem h, Bool.eq_iff_iff]; simp
theorem drop_prefix {l : List UInt8} {i : Nat} (h : i < l.length) : List.isPrefixOf [45] (l.drop i) = (l[i] == 45) := by
  rw [List.drop_eq_getElem_cons h, List.isPrefixOf_cons_cons, Bool.eq_iff_iff]; simp
  exact eq_comm
/-- Well formed, as the document lists it. -/
def formR (l : List UInt8) : Prop := 55 ≤ l.length ∧ l[2]? = some 45 ∧ l[35]? = some 45 ∧ l[52]? = some 45 ∧ (l.take 2).all isHex = true ∧ ¬ l.take 2 = [102, 102] ∧ ¬ (l.take 2 = [48, 48] ∧ l.length ≠ 55) ∧ ¬ (55 < l.length ∧ l[55]? ≠ some 45) ∧
  ((l.drop 3).take 32).all isHex = true ∧ ((l.drop 36).take 16).all isHex = true ∧ ((l.drop 53).take 2).all isHex = true
theorem endS_iff {l : List UInt8} (hl : 55 ≤ l.length) (h : (pc l 0 2).2 = 0) : endS (pc l 0 2).1 (l.drop 55) = true ↔ (¬ l.take 2 = [102, 102] ∧ ¬ (l.take 2 = [48, 48] ∧ l.length ≠ 55) ∧ ¬ (55 < l.length ∧ l[55]? ≠ some 45)) := by
  have hf := ver_ff (l := l) (by omega) h
  have h0 := ver_00 (l := l) (by omega) h
  have he : (l.drop 55).isEmpty = true ↔ l.length = 55 := by rw [List.isEmpty_iff, List.drop_eq_nil_iff]; omega
  unfold endS
  by_cases a : (pc l 0 2).1 = 255
  · rw [if_pos a]; simp [hf.1 a]
  · rw [if_neg a]
    have a' : ¬ l.take 2 = [102, 102] := fun e => a (hf.2 e)
    by_cases b : (pc l 0 2).1 = 0
    · rw [if_pos b, he]
      have b' := h0.1 b
      constructor
      · intro e; exact ⟨a', fun x => x.2 e, fun x => by omega⟩
      · intro ⟨_, x, _⟩
        rcases Nat.lt_or_ge 55 l.length with y | y
        · exact absurd ⟨b', by omega⟩ x
        · omega
    · rw [if_neg b, Bool.or_eq_true, he]
      have b' : ¬ l.take 2 = [48, 48] := fun e => b (h0.2 e)
      constructor
      · rintro (e | e)
        · exact ⟨a', fun x => b' x.1, fun x => by omega⟩
        · refine ⟨a', fun x => b' x.1, fun x => ?_⟩
          rw [drop_prefix x.1] at e
          have := x.2
          rw [List.getElem?_eq_getElem x.1] at this
          simp at e this
          exact this e
      · intro ⟨_, _, x⟩
        rcases Nat.lt_or_ge 55 l.length with y | y
        · right
          rw [drop_prefix y]
          have : l[55]? = some 45 := Classical.byContradiction fun z => x ⟨y, z⟩
          rw [List.getElem?_eq_getElem y] at this
          simpa using this
        · left; omega
theorem pcOk_iff {l : List UInt8} {a n : Nat} {m : Bool} (h : a + n ≤ l.length) (h1 : 1 ≤ n) (h2 : n ≤ 16) : pcOk l a n m = true ↔ ((l.drop a).take n).all isHex = true ∧ (m = true → l[a + n]? = some 45) := by
  rw [pcOk, Bool.and_eq_true, decide_eq_true_eq, pc_all h h1 h2]
  cases m <;> simp
theorem formS_iff (l : List UInt8) : formS l = true ↔ formR l := by
  unfold formS formR
  rw [Bool.and_eq_true, Bool.and_eq_true, decide_eq_true_eq]
  by_cases hl : 55 ≤ l.length
  · unfold cutOk
    simp only [Bool.and_eq_true]
    rw [pcOk_iff (a := 0) (by omega) (by omega) (by omega), pcOk_iff (a := 3) (by omega) (by omega) (by omega), pcOk_iff (a := 19) (by omega) (by omega) (by omega), pcOk_iff (a := 36) (by omega) (by omega) (by omega), pcOk_iff (a := 53) (by omega) (by omega) (by omega),
      take_split, List.all_append, Bool.and_eq_true, List.drop_zero]
    constructor
    · rintro ⟨_, ⟨⟨a0, a1⟩, ⟨b0, _⟩, ⟨c0, c1⟩, ⟨d0, d1⟩, e0, _⟩, f⟩
      have hv : (pc l 0 2).2 = 0 := (pc_all (a := 0) (by omega) (by omega) (by omega)).2 (by rw [List.drop_zero]; exact a0)
      obtain ⟨f1, f2, f3⟩ := (endS_iff hl hv).1 f
      exact ⟨hl, a1 rfl, c1 rfl, d1 rfl, a0, f1, f2, f3, ⟨b0, c0⟩, d0, e0⟩
    · rintro ⟨_, a1, c1, d1, a0, f1, f2, f3, ⟨b0, c0⟩, d0, e0⟩
      have hv : (pc l 0 2).2 = 0 := (pc_all (a := 0) (by omega) (by omega) (by omega)).2 (by rw [List.drop_zero]; exact a0)
      exact ⟨hl, ⟨⟨a0, fun _ => a1⟩, ⟨b0, fun h => by cases h⟩, ⟨c0, fun _ => c1⟩, ⟨d0, fun _ => d1⟩, e0, fun h => by cases h⟩, (endS_iff hl hv).2 ⟨f1, f2, f3⟩⟩
  · constructor
    · intro h; exact absurd h.1 hl
    · intro h; exact absurd h.1 hl
/-- The trace and the span of a text that is well formed. -/
theorem ofS_form {l : List UInt8} (h : formS l = true) : ofS ((l.drop 3).take 32) = if (numP l).1 = 0 ∧ (numP l).2.1 = 0 then (0, 0, 11) else ((numP l).1, (numP l).2.1, 0) := by
  obtain ⟨hl, _, _, _, _, _, _, _, hx, _⟩ := (formS_iff l).1 h
  have e1 : ((l.drop 3).take 32).take 16 = (l.drop 3).take 16 := by rw [List.take_take]; simp
  have e2 : ((l.drop 3).take 32).drop 16 = (l.drop 19).take 16 := by rw [List.drop_take, List.drop_drop]
  rw [take_split, List.all_append, Bool.and_eq_true] at hx
  have q1 : (pc l 3 16).2 = 0 := (pc_all (by omega) (by omega) (by omega)).2 hx.1
  have q2 : (pc l 19 16).2 = 0 := (pc_all (by omega) (by omega) (by omega)).2 hx.2
  rw [ofS, if_neg (by rw [pc_len (by omega)]; simp), e1, e2]
  unfold pc at q1 q2
  rw [if_pos ⟨q1, q2⟩]
  rfl
theorem spanOfS_form {l : List UInt8} (h : formS l = true) : spanOfS ((l.drop 36).take 16) = if (numP l).2.2.1 = 0 then (0, 11) else ((numP l).2.2.1, 0) := by
  obtain ⟨hl, _, _, _, _, _, _, _, _, hx, _⟩ := (formS_iff l).1 h
  have q1 : (pc l 36 16).2 = 0 := (pc_all (by omega) (by omega) (by omega)).2 hx
  rw [spanOfS, if_neg (by rw [pc_len (by omega)]; simp)]
  unfold pc at q1
  rw [if_pos q1]
  rfl
theorem flags_form {l : List UInt8} (h : formS l = true) : unhexS ((l.drop 53).take 2) = ((numP l).2.2.2, 0) := by
  obtain ⟨hl, _, _, _, _, _, _, _, _, _, hx⟩ := (formS_iff l).1 h
  have q1 : (pc l 53 2).2 = 0 := (pc_all (by omega) (by omega) (by omega)).2 hx
  exact Prod.ext rfl q1
theorem numP_lt (l : List UInt8) (hl : 55 ≤ l.length) : (numP l).1 < 18446744073709551616 ∧ (numP l).2.1 < 18446744073709551616 ∧ (numP l).2.2.1 < 18446744073709551616 ∧ (numP l).2.2.2 < 256 := by
  have h1 := unhexS_lt (l := (l.drop 3).take 16)
  have h2 := unhexS_lt (l := (l.drop 19).take 16)
  have h3 := unhexS_lt (l := (l.drop 36).take 16)
  have h4 := unhexS_lt (l := (l.drop 53).take 2)
  rw [pc_len (by omega)] at h1 h2 h3 h4
  exact ⟨h1, h2, h3, h4⟩
theorem at_app {a b : List UInt8} {n : Nat} (h : a.length = n) : (a ++ b)[n]? = b[0]? := by subst h; rw [List.getElem?_append_right (Nat.le_refl _), Nat.sub_self]
theorem parT_len (p : Pr) : (parT p).length = 55 := by simp [parT, hx_length]
theorem drop_app {a b : List UInt8} {n : Nat} (h : a.length = n) : (a ++ b).drop n = b := by subst h; exact List.drop_left
theorem take_app {a b : List UInt8} {n : Nat} (h : a.length = n) : (a ++ b).take n = a := by subst h; exact List.take_left
theorem parT_pieces (p : Pr) : (parT p).take 2 = [48, 48] ∧ (parT p)[2]? = some 45 ∧ ((parT p).drop 3).take 16 = hx 16 p.1 ∧ ((parT p).drop 19).take 16 = hx 16 p.2.1 ∧ (parT p)[35]? = some 45 ∧ ((parT p).drop 36).take 16 = hx 16 p.2.2.1 ∧ (parT p)[52]? = some 45 ∧ ((parT p).drop 53).take 2 = hx 2 p.2.2.2 := by
  obtain ⟨a, b, s, f⟩ := p
  have la := hx_length 16 a
  have lb := hx_length 16 b
  have ls := hx_length 16 s
  have lf := hx_length 2 f
  simp only [parT]
  generalize hx 16 a = A at *
  generalize hx 16 b = B at *
  generalize hx 16 s = S at *
  generalize hx 2 f = F at *
  have e3 : [48, 48, 45] ++ A ++ B ++ [45] ++ S ++ [45] ++ F = [48, 48, 45] ++ (A ++ (B ++ ([45] ++ (S ++ ([45] ++ F))))) := by simp
  have e19 : [48, 48, 45] ++ A ++ B ++ [45] ++ S ++ [45] ++ F = ([48, 48, 45] ++ A) ++ (B ++ ([45] ++ (S ++ ([45] ++ F)))) := by simp
  have e35 : [48, 48, 45] ++ A ++ B ++ [45] ++ S ++ [45] ++ F = ([48, 48, 45] ++ A ++ B) ++ ([45] ++ (S ++ ([45] ++ F))) := by simp
  have e36 : [48, 48, 45] ++ A ++ B ++ [45] ++ S ++ [45] ++ F = ([48, 48, 45] ++ A ++ B ++ [45]) ++ (S ++ ([45] ++ F)) := by simp
  have e52 : [48, 48, 45] ++ A ++ B ++ [45] ++ S ++ [45] ++ F = ([48, 48, 45] ++ A ++ B ++ [45] ++ S) ++ ([45] ++ F) := by simp
  have e53 : [48, 48, 45] ++ A ++ B ++ [45] ++ S ++ [45] ++ F = ([48, 48, 45] ++ A ++ B ++ [45] ++ S ++ [45]) ++ F := by simp
  refine ⟨?_, ?_, ?_, ?_, ?_, ?_, ?_, ?_⟩
  · rw [e3]; rfl
  · rw [e3]; rfl
  · rw [e3, drop_app (by rfl), take_app la]
  · rw [e19, drop_app (by simp [la]), take_app lb]
  · rw [e35, at_app (by simp [la, lb])]; rfl
  · rw [e36, drop_app (by simp [la, lb]), take_app ls]
  · rw [e52, at_app (by simp [la, lb, ls])]; rfl
  · rw [e53, drop_app (by simp [la, lb, ls]), List.take_of_length_le (by omega)]
/-- What is written is read as it was. -/
theorem parS_parT {p : Pr} (h0 : p.1 < 18446744073709551616) (h1 : p.2.1 < 18446744073709551616) (h2 : p.2.2.1 < 18446744073709551616) (h3 : p.2.2.2 < 256) (hz : pzero p = false) : parS (parT p) = (p, 0) := by
  obtain ⟨t0, t2, ta, tb, t35, ts, t52, tf⟩ := parT_pieces p
  have hl := parT_len p
  have qa : pc (parT p) 3 16 = (p.1, 0) := by rw [pc, ta]; exact hx_unhex h0
  have qb : pc (parT p) 19 16 = (p.2.1, 0) := by rw [pc, tb]; exact hx_unhex h1
  have qs : pc (parT p) 36 16 = (p.2.2.1, 0) := by rw [pc, ts]; exact hx_unhex h2
  have qf : pc (parT p) 53 2 = (p.2.2.2, 0) := by rw [pc, tf]; exact unhexS_hexS p.2.2.2 2 (by omega) (by omega) (Nat.div_eq_of_lt (by omega))
  have qv : pc (parT p) 0 2 = (0, 0) := by rw [pc, List.drop_zero, t0]; decide
  have hf : formS (parT p) = true := by
    simp only [formS, cutOk, pcOk, qa, qb, qs, qf, qv, hl, t2, t35, t52, endS]
    simp [List.drop_of_length_le, hl]
  have hn : numP (parT p) = p := by simp only [numP, qa, qb, qs, qf]
  rw [parS, if_pos hf, hn, if_neg (by rw [hz]; decide)]
/-- What is read can be written; of version 00 it is the same text. -/
theorem parT_parS {l : List UInt8} (h : formS l = true) (hv : l.take 2 = [48, 48]) : parT (numP l) = l := by
  obtain ⟨hl, t2, t35, t52, a0, f1, f2, f3, hx1, hx2, hx3⟩ := (formS_iff l).1 h
  have h55 : l.length = 55 := Classical.byContradiction fun e => f2 ⟨hv, e⟩
  rw [take_split, List.all_append, Bool.and_eq_true] at hx1
  have qa := hx_of_unhex ((pc_all (l := l) (a := 3) (n := 16) (by omega) (by omega) (by omega)).2 hx1.1)
  have qb := hx_of_unhex ((pc_all (l := l) (a := 19) (n := 16) (by omega) (by omega) (by omega)).2 hx1.2)
  have qs := hx_of_unhex ((pc_all (l := l) (a := 36) (n := 16) (by omega) (by omega) (by omega)).2 hx2)
  have qf := hx_of_unhex ((pc_all (l := l) (a := 53) (n := 2) (by omega) (by omega) (by omega)).2 hx3)
  rw [pc_len (by omega)] at qa qb qs qf
  have one : ∀ i, i < l.length → l[i]? = some 45 → (l.drop i).take 1 = [45] := fun i hi e => by
    rw [List.drop_eq_getElem_cons hi, List.take_succ_cons]
    rw [List.getElem?_eq_getElem hi, Option.some.injEq] at e
    rw [e]; rfl
  have step : ∀ i n, (l.drop i) = (l.drop i).take n ++ l.drop (i + n) := fun i n => by rw [← List.drop_drop, List.take_append_drop]
  have e : l = l.take 2 ++ ((l.drop 2).take 1 ++ ((l.drop 3).take 16 ++ ((l.drop 19).take 16 ++ ((l.drop 35).take 1 ++ ((l.drop 36).take 16 ++ ((l.drop 52).take 1 ++ (l.drop 53).take 2)))))) := by
    have z : (l.drop 53).take 2 = l.drop 53 := List.take_of_length_le (by simp; omega)
    rw [z, ← step 52 1, ← step 36 16, ← step 35 1, ← step 19 16, ← step 3 16, ← step 2 1, List.take_append_drop]
  have hp : parT (numP l) = [48, 48] ++ ([45] ++ (hx 16 (pc l 3 16).1 ++ (hx 16 (pc l 19 16).1 ++ ([45] ++ (hx 16 (pc l 36 16).1 ++ ([45] ++ hx 2 (pc l 53 2).1)))))) := by simp [parT, numP]
  unfold pc at hp
  rw [hp, qa, qb, qs, qf]
  conv => rhs; rw [e]
  rw [hv, one 2 (by omega) t2, one 35 (by omega) t35, one 52 (by omega) t52]
theorem parS_back {l : List UInt8} {p : Pr} (h : parS l = (p, 0)) : formS l = true ∧ numP l = p ∧ pzero p = false ∧ 55 ≤ l.length := by
  unfold parS at h
  split at h
  · rename_i hf
    split at h
    · simp at h
    · rename_i hz
      rw [Prod.mk.injEq] at h
      obtain ⟨e, _⟩ := h
      refine ⟨hf, e, by rw [← e]; simpa using hz, ((formS_iff l).1 hf).1⟩
  · simp at h
end Go.Proofs.YtnbkpannhcamjaaGreatDoor
namespace Go.Proofs.YtnbkpannhcamjaaGreatDoor
set_option linter.unusedVariables false

abbrev Hd : Type := List UInt8 × List UInt8
def inNameB (c : UInt8) : Bool := (decide (97 ≤ c.toNat) && decide (c.toNat ≤ 122)) || (decide (48 ≤ c.toNat) && decide (c.toNat ≤ 57)) || decide (c.toNat = 45)
def inValueB (c : UInt8) : Bool := decide (32 ≤ c.toNat) && decide (c.toNat ≤ 126)
def nameB (l : List UInt8) : Bool := !l.isEmpty && (decide (l.length ≤ 32) && l.all inNameB)
def endsB (l : List UInt8) : Bool := l.isEmpty || (decide ((l.headD 0).toNat ≠ 32) && decide ((l.getLastD 0).toNat ≠ 32))
def valueB (l : List UInt8) : Bool := decide (l.length ≤ 64) && (l.all inValueB && endsB l)
def faultS : List Hd → Int
  | [] => 0
  | h :: r => if nameB h.1 = false then 7 else if valueB h.2 = false then 15 else faultS r
def checkS (L : List Hd) : Int := if 16 < L.length then 8 else faultS L
theorem faultS_drop (L : List Hd) (k : Nat) (h : k < L.length) : faultS (L.drop k) = if nameB L[k].1 = false then 7 else if valueB L[k].2 = false then 15 else faultS (L.drop (k + 1)) := by
  rw [List.drop_eq_getElem_cons h]; rfl
theorem all_take (p : UInt8 → Bool) (l : List UInt8) (k : Nat) (h : k < l.length) : (l.take (k + 1)).all p = ((l.take k).all p && p l[k]) := by
  rw [take_snoc _ _ h, List.all_append]; simp
theorem all_false {p : UInt8 → Bool} {l : List UInt8} {k : Nat} (h : k < l.length) (hp : p l[k] = false) : l.all p = false := by
  rw [List.all_eq_false]; exact ⟨l[k], List.getElem_mem h, by simp [hp]⟩
theorem headD_at {l : List UInt8} (h : 0 < l.length) : l.headD 0 = l[0] := by cases l <;> simp at h ⊢
theorem getLastD_at {l : List UInt8} (h : 0 < l.length) : l.getLastD 0 = l[l.length - 1] := by
  cases l with
  | nil => simp at h
  | cons c r =>
    have h1 : (c :: r).getLastD 0 = (c :: r).getLast (by simp) := rfl
    rw [h1, List.getLast_eq_getElem]
/-- The headers of the names. -/
def memB (names : List (List UInt8)) (v : List UInt8) : Bool := names.contains v
def hasN (names : List (List UInt8)) (h : Hd) : Bool := memB names h.1
def allS (L : List Hd) (n : List UInt8) : List (List UInt8) := (L.filter (hasN [n])).map (·.2)
def getH (L : List Hd) (n : List UInt8) : List UInt8 × Bool := match allS L n with | [] => ([], false) | v :: _ => (v, true)
def addH (L : List Hd) (n v : List UInt8) : List Hd := L ++ [(n, v)]
def withoutH (L : List Hd) (names : List (List UInt8)) : List Hd := L.filter fun h => !hasN names h
def idxH (p : Hd → Bool) (L : List Hd) : Int := if L.findIdx p < L.length then (L.findIdx p : Int) else -1
def setH (L : List Hd) (n v : List UInt8) : List Hd :=
  if L.findIdx (hasN [n]) < L.length then addH (L.take (L.findIdx (hasN [n]))) n v ++ withoutH (L.drop (L.findIdx (hasN [n]) + 1)) [n] else addH L n v
theorem hasN_one (n : List UInt8) (h : Hd) : hasN [n] h = (h.1 == n) := by rw [Bool.eq_iff_iff]; simp [hasN, memB]
theorem filter_take {α : Type} (p : α → Bool) (L : List α) (k : Nat) (h : k < L.length) : (L.take (k + 1)).filter p = (L.take k).filter p ++ if p L[k] then [L[k]] else [] := by
  rw [List.take_succ_eq_append_getElem h, List.filter_append]; cases hp : p L[k] <;> simp [hp]
/-- Where the first one stands, told by a loop. -/
theorem findIdx_hit {α : Type} (p : α → Bool) (L : List α) (k : Nat) (h : k < L.length) (hn : ∀ j (hj : j < L.length), j < k → p L[j] = false) (hp : p L[k] = true) : L.findIdx p = k := by
  rw [List.findIdx_eq h]; exact ⟨hp, fun j hj => by simpa using hn j (by omega) hj⟩
theorem findIdx_miss {α : Type} (p : α → Bool) (L : List α) (hn : ∀ j (hj : j < L.length), p L[j] = false) : L.findIdx p = L.length := by
  rw [List.findIdx_eq_length]; intro x hx
  obtain ⟨j, hj, rfl⟩ := List.getElem_of_mem hx
  exact hn j hj
theorem findIdx_before (p : Hd → Bool) (L : List Hd) (j : Nat) (hj : j < L.length) (h : j < L.findIdx p) : p L[j] = false := by
  have := List.not_of_lt_findIdx h; simpa using this
theorem filter_none {α : Type} (p : α → Bool) (L : List α) (h : ∀ x ∈ L, p x = false) : L.filter p = [] := by
  rw [List.filter_eq_nil_iff]; intro x hx; simp [h x hx]
theorem filter_all {α : Type} (p : α → Bool) (L : List α) (h : ∀ x ∈ L, p x = true) : L.filter p = L := by
  rw [List.filter_eq_self]; exact h
/-- How the list parts at the first one of a name. -/
theorem part (p : Hd → Bool) (L : List Hd) (h : L.findIdx p < L.length) : L = L.take (L.findIdx p) ++ L[L.findIdx p] :: L.drop (L.findIdx p + 1) ∧ (∀ x ∈ L.take (L.findIdx p), p x = false) ∧ p (L[L.findIdx p]) = true := by
  refine ⟨?_, ?_, List.findIdx_getElem (w := h)⟩
  · rw [← List.drop_eq_getElem_cons h, List.take_append_drop]
  · intro x hx
    obtain ⟨j, hj, rfl⟩ := List.getElem_of_mem hx
    rw [List.length_take] at hj
    rw [List.getElem_take]
    exact findIdx_before p L j (by omega) (by omega)
theorem getH_of (L : List Hd) (n : List UInt8) : getH L n = if h : L.findIdx (hasN [n]) < L.length then (L[L.findIdx (hasN [n])].2, true) else ([], false) := by
  by_cases h : L.findIdx (hasN [n]) < L.length
  · rw [dif_pos h]
    obtain ⟨h1, h2, h3⟩ := part (hasN [n]) L h
    have : allS L n = L[L.findIdx (hasN [n])].2 :: allS (L.drop (L.findIdx (hasN [n]) + 1)) n := by
      conv => lhs; rw [h1]
      rw [allS, List.filter_append, filter_none _ _ h2, List.nil_append, List.filter_cons, if_pos h3]; rfl
    rw [getH, this]
  · rw [dif_neg h]
    have : allS L n = [] := by
      rw [allS, filter_none]
      · rfl
      · intro x hx
        obtain ⟨j, hj, rfl⟩ := List.getElem_of_mem hx
        exact findIdx_before _ L j hj (by omega)
    rw [getH, this]
/-- Set as the document's loop has it. -/
def setR (n v : List UInt8) : Bool → List Hd → List Hd
  | met, [] => if met then [] else [(n, v)]
  | met, h :: r => if h.1 ≠ n then h :: setR n v met r else if met then setR n v met r else (n, v) :: setR n v true r
theorem setR_true (n v : List UInt8) (L : List Hd) : setR n v true L = withoutH L [n] := by
  induction L with
  | nil => simp [setR, withoutH]
  | cons h r ih =>
    rw [setR, ih, withoutH, withoutH, List.filter_cons, hasN_one]
    by_cases e : h.1 = n
    · simp [e]
    · simp [e]
theorem setR_false (n v : List UInt8) (L : List Hd) : setR n v false L = setH L n v := by
  induction L with
  | nil => simp [setR, setH, addH]
  | cons h r ih =>
    rw [setR]
    by_cases e : h.1 = n
    · rw [if_neg (by simp [e]), if_neg (by decide), setR_true, setH]
      have : (h :: r).findIdx (hasN [n]) = 0 := by rw [List.findIdx_cons, hasN_one]; simp [e]
      rw [this, if_pos (by simp)]
      simp [addH]
    · rw [if_pos e, ih, setH, setH]
      have hi : (h :: r).findIdx (hasN [n]) = r.findIdx (hasN [n]) + 1 := by
        have e2 : (h.1 == n) = false := by simpa using e
        rw [List.findIdx_cons, hasN_one, e2]; rfl
      rw [hi]
      by_cases hl : r.findIdx (hasN [n]) < r.length
      · rw [if_pos hl, if_pos (show r.findIdx (hasN [n]) + 1 < (h :: r).length from by rw [List.length_cons]; omega)]; simp [addH]
      · rw [if_neg hl, if_neg (show ¬ r.findIdx (hasN [n]) + 1 < (h :: r).length from by rw [List.length_cons]; omega)]; simp [addH]
theorem withoutH_append (a b : List Hd) (names : List (List UInt8)) : withoutH (a ++ b) names = withoutH a names ++ withoutH b names := by simp [withoutH]
theorem allS_append (a b : List Hd) (n : List UInt8) : allS (a ++ b) n = allS a n ++ allS b n := by simp [allS]
theorem allS_withoutH (L : List Hd) (n : List UInt8) : allS (withoutH L [n]) n = [] := by
  rw [allS, withoutH, filter_none]
  · rfl
  · intro x hx
    have := (List.mem_filter.1 hx).2
    simpa using this
theorem withoutH_twice (L : List Hd) (n : List UInt8) : withoutH (withoutH L [n]) [n] = withoutH L [n] := by simp [withoutH]
theorem allS_none (L : List Hd) (n : List UInt8) (h : ∀ x ∈ L, hasN [n] x = false) : allS L n = [] := by rw [allS, filter_none _ _ h]; rfl
theorem withoutH_none (L : List Hd) (n : List UInt8) (h : ∀ x ∈ L, hasN [n] x = false) : withoutH L [n] = L := by
  rw [withoutH, filter_all]; intro x hx; simp [h x hx]
/-- P4.3. -/
theorem setH_facts (L : List Hd) (n v : List UInt8) : allS (setH L n v) n = [v] ∧ withoutH (setH L n v) [n] = withoutH L [n] ∧ (withoutH (setH L n v) [n]).length + 1 = (setH L n v).length ∧ (getH (withoutH (setH L n v) [n]) n).2 = false := by
  have hone : allS [(n, v)] n = [v] := by simp [allS, hasN, memB]
  have hwone : withoutH [(n, v)] [n] = [] := by simp [withoutH, hasN, memB]
  have hget : ∀ M : List Hd, (getH (withoutH M [n]) n).2 = false := fun M => by rw [getH, allS_withoutH]
  by_cases h : L.findIdx (hasN [n]) < L.length
  · obtain ⟨h1, h2, h3⟩ := part (hasN [n]) L h
    have hs : setH L n v = L.take (L.findIdx (hasN [n])) ++ [(n, v)] ++ withoutH (L.drop (L.findIdx (hasN [n]) + 1)) [n] := by rw [setH, if_pos h, addH]
    have hw : withoutH (setH L n v) [n] = L.take (L.findIdx (hasN [n])) ++ withoutH (L.drop (L.findIdx (hasN [n]) + 1)) [n] := by
      rw [hs, withoutH_append, withoutH_append, hwone, withoutH_none _ _ h2, withoutH_twice]; simp
    refine ⟨?_, ?_, ?_, hget _⟩
    · rw [hs, allS_append, allS_append, hone, allS_none _ _ h2, allS_withoutH]; simp
    · rw [hw]
      conv => rhs; rw [h1]
      rw [withoutH_append, withoutH_none _ _ h2]
      congr 1
      conv => rhs; rw [withoutH, List.filter_cons, if_neg (by simp [h3])]
      rfl
    · rw [hw, hs]; simp; omega
  · have hno : ∀ x ∈ L, hasN [n] x = false := by
      intro x hx
      obtain ⟨j, hj, rfl⟩ := List.getElem_of_mem hx
      exact findIdx_before _ L j hj (by omega)
    have hs : setH L n v = L ++ [(n, v)] := by rw [setH, if_neg h, addH]
    have hw : withoutH (setH L n v) [n] = L := by rw [hs, withoutH_append, hwone, withoutH_none _ _ hno]; simp
    refine ⟨?_, ?_, ?_, hget _⟩
    · rw [hs, allS_append, hone, allS_none _ _ hno]; rfl
    · rw [hw, withoutH_none _ _ hno]
    · rw [hw, hs]; simp
end Go.Proofs.YtnbkpannhcamjaaGreatDoor
