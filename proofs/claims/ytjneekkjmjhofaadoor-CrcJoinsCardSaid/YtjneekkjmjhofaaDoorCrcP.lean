/-
  Sums of two texts by products: numbers as polynomials, the highest bit first; a byte by two tables of four bits. Plain.
-/
import Derived.Test.YtjneekkjmjhofaaDoorCrcM
namespace Go.Proofs.YtjneekkjmjhofaaDoor.CrcC
set_option linter.unusedVariables false

/-- So many rounds of a product. -/
def mulN : Nat → Nat → Nat → Nat → Nat
  | 0, a, _, _ => a
  | n + 1, a, p, q => mulN n (bitN a 0 ^^^ (if p % 2 = 1 then q else 0)) (p / 2) q
def timesN (p q : Nat) : Nat := mulN 32 0 p q

theorem bit_xor0 (c d : Nat) : bitN (c ^^^ d) 0 = bitN c 0 ^^^ bitN d 0 := bit_xor c d 0 0 0 rfl
theorem mul_lt (n : Nat) {a p q : Nat} (ha : a < 4294967296) (hq : q < 4294967296) : mulN n a p q < 4294967296 := by
  induction n generalizing a p with
  | zero => exact ha
  | succ n ih => exact ih (xor_lt (bit_lt ha 0) (by split; exact hq; decide))
theorem times_lt {p q : Nat} (hq : q < 4294967296) : timesN p q < 4294967296 := mul_lt 32 (by decide) hq
/-- Linear in what is multiplied. -/
theorem mul_left (n a b p r q : Nat) : mulN n (a ^^^ b) (p ^^^ r) q = mulN n a p q ^^^ mulN n b r q := by
  induction n generalizing a b p r with
  | zero => rfl
  | succ n ih =>
    unfold mulN
    rw [xor_div, ← ih]
    congr 1
    rw [bit_xor0, xor4]
    congr 1
    have := xor_mod p r
    rcases Nat.mod_two_eq_zero_or_one p with h1 | h1 <;> rcases Nat.mod_two_eq_zero_or_one r with h2 | h2 <;> simp [show (p ^^^ r) % 2 = (p % 2 + r % 2) % 2 by omega, h1, h2]
theorem mul_right (n a b p q r : Nat) : mulN n (a ^^^ b) p (q ^^^ r) = mulN n a p q ^^^ mulN n b p r := by
  induction n generalizing a b p with
  | zero => rfl
  | succ n ih =>
    unfold mulN
    rw [← ih]
    congr 1
    rw [bit_xor0, xor4]
    congr 1
    split <;> simp
theorem times_left (p r q : Nat) : timesN (p ^^^ r) q = timesN p q ^^^ timesN r q := by
  have := mul_left 32 0 0 p r q
  rw [Nat.xor_self] at this; exact this
theorem times_right (p q r : Nat) : timesN p (q ^^^ r) = timesN p q ^^^ timesN p r := by
  have := mul_right 32 0 0 p q r
  rw [Nat.xor_self] at this; exact this
/-- A round more behind all bits is a shift. -/
theorem mul_more (n a p q : Nat) (hp : p < 2 ^ n) : mulN (n + 1) a p q = bitN (mulN n a p q) 0 := by
  induction n generalizing a p with
  | zero =>
    have : p = 0 := by omega
    subst this
    show bitN a 0 ^^^ (if 0 % 2 = 1 then q else 0) = bitN a 0
    simp
  | succ n ih =>
    have h := ih (bitN a 0 ^^^ (if p % 2 = 1 then q else 0)) (p / 2) (by rw [Nat.pow_succ] at hp; omega)
    exact h
theorem bit_zero0 : bitN 0 0 = 0 := by decide
theorem bits_more (n c : Nat) : bitsN (n + 1) c 0 = bitN (bitsN n c 0) 0 := by
  rw [bits_add n 1 c 0, Nat.zero_div]; rfl
/-- Two that go through side by side and agree at each bit agree. -/
theorem agree (f g : Nat → Nat) (hf : ∀ a b, f (a ^^^ b) = f a ^^^ f b) (hg : ∀ a b, g (a ^^^ b) = g a ^^^ g b) (n : Nat) (h : ∀ k, k < n → f (2 ^ k) = g (2 ^ k)) (x : Nat) (hx : x < 2 ^ n) : f x = g x := by
  have z : ∀ f : Nat → Nat, (∀ a b, f (a ^^^ b) = f a ^^^ f b) → f 0 = 0 := by
    intro f hf
    have := hf 0 0
    rw [Nat.xor_self, Nat.xor_self] at this
    exact this
  have key : ∀ i, i ≤ n → f (x % 2 ^ i) = g (x % 2 ^ i) := by
    intro i
    induction i with
    | zero => intro _; rw [Nat.pow_zero, Nat.mod_one, z f hf, z g hg]
    | succ i ih =>
      intro hi
      rw [flip_step, hf, hg, ih (by omega)]
      congr 1
      split
      · exact h i (by omega)
      · rw [z f hf, z g hg]
  have := key n (Nat.le_refl n)
  rwa [Nat.mod_eq_of_lt hx] at this
theorem times_one (q : Nat) : timesN 1 q = bitsN 31 q 0 := by
  have key : ∀ n a, mulN n a 0 q = bitsN n a 0 := by
    intro n
    induction n with
    | zero => intro a; rfl
    | succ n ih =>
      intro a
      show mulN n (bitN a 0 ^^^ (if 0 % 2 = 1 then q else 0)) (0 / 2) q = bitsN n (bitN a 0) 0
      rw [if_neg (by decide), Nat.xor_zero]
      exact ih _
  show mulN 31 (bitN 0 0 ^^^ (if 1 % 2 = 1 then q else 0)) (1 / 2) q = _
  rw [bit_zero0, if_pos (by decide), Nat.zero_xor]
  exact key 31 q
theorem bits_xor0 (n c d : Nat) : bitsN n (c ^^^ d) 0 = bitsN n c 0 ^^^ bitsN n d 0 := by
  have := bits_xor n c d 0 0
  rw [Nat.xor_self] at this; exact this
theorem times_pol (q : Nat) (hq : q < 4294967296) : timesN polN q = bitsN 32 q 0 := by
  refine agree (timesN polN) (fun q => bitsN 32 q 0) (times_right polN) (fun a b => bits_xor0 32 a b) 32 ?_ q hq
  have h : ∀ k : Fin 32, timesN polN (2 ^ k.val) = bitsN 32 (2 ^ k.val) 0 := by decide +kernel
  intro k hk
  exact h ⟨k, hk⟩
theorem times_even (p q : Nat) (hp : p < 2147483648) : timesN (2 * p) q = mulN 31 0 p q := by
  show mulN 31 (bitN 0 0 ^^^ (if 2 * p % 2 = 1 then q else 0)) (2 * p / 2) q = _
  rw [if_neg (by omega), show 2 * p / 2 = p by omega, bit_zero0, Nat.xor_zero]
theorem times_half (p q : Nat) (hp : p < 2147483648) : timesN p q = bitN (timesN (2 * p) q) 0 := by
  rw [times_even p q hp]
  exact mul_more 31 0 p q hp
theorem xor_one (p : Nat) (h : p % 2 = 1) : p = (2 * (p / 2)) ^^^ 1 := by
  have := split_xor 1 p
  rw [Nat.pow_one, h] at this
  rw [Nat.mul_comm]
  exact this.symm
/-- A shifted one is the product, shifted. -/
theorem times_shift (p q : Nat) (hp : p < 4294967296) (hq : q < 4294967296) : timesN (bitN p 0) q = bitN (timesN p q) 0 := by
  have hd : p / 2 < 2147483648 := by omega
  rcases Nat.mod_two_eq_zero_or_one p with h | h
  · have e : bitN p 0 = p / 2 := by unfold bitN; rw [if_neg (by omega), Nat.xor_zero]
    rw [e, times_half _ q hd, show 2 * (p / 2) = p by omega]
  · have e : bitN p 0 = (p / 2) ^^^ polN := by unfold bitN; rw [if_pos (by omega)]
    have e2 : timesN p q = timesN (2 * (p / 2)) q ^^^ timesN 1 q := by
      conv => lhs; rw [xor_one p h]
      exact times_left _ _ _
    rw [e, times_left, times_half _ q hd, times_pol q hq, e2, bit_xor0, times_one, ← bits_more]
/-- The power of a shift by so many. -/
def powN (m : Nat) : Nat := bitsN m 2147483648 0
theorem pow_lt (m : Nat) : powN m < 4294967296 := bits_lt m (by decide) 0
theorem times_unit (q : Nat) : timesN 2147483648 q = q := by
  have key : ∀ n, n ≤ 31 → mulN (n + 1) 0 (2 ^ n) q = q := by
    intro n
    induction n with
    | zero =>
      intro _
      show bitN 0 0 ^^^ (if 1 % 2 = 1 then q else 0) = q
      rw [bit_zero0, if_pos (by decide), Nat.zero_xor]
    | succ n ih =>
      intro hn
      show mulN (n + 1) (bitN 0 0 ^^^ (if 2 ^ (n + 1) % 2 = 1 then q else 0)) (2 ^ (n + 1) / 2) q = q
      rw [if_neg (by rw [Nat.pow_succ]; omega), bit_zero0, Nat.xor_zero, show 2 ^ (n + 1) / 2 = 2 ^ n by rw [Nat.pow_succ]; omega]
      exact ih (by omega)
  exact key 31 (Nat.le_refl _)
theorem times_pow (m q : Nat) (hq : q < 4294967296) : timesN (powN m) q = bitsN m q 0 := by
  induction m with
  | zero => exact times_unit q
  | succ m ih =>
    unfold powN
    rw [bits_more, bits_more]
    have := times_shift (powN m) q (pow_lt m) hq
    unfold powN at this ih
    rw [this, ih]
theorem pow_add (m n : Nat) : timesN (powN m) (powN n) = powN (m + n) := by
  rw [times_pow m _ (pow_lt n)]
  unfold powN
  rw [Nat.add_comm m n, bits_add n m, Nat.zero_div]
theorem pow_eight : powN 8 = 8388608 := by decide +kernel
theorem times_join (n a : Nat) (ha : a < 4294967296) : timesN (powN (8 * n)) a = zeroN n a := by
  rw [times_pow _ a ha, zero_as_bits]

/-! A byte by two tables of four bits. -/
def foursL : List Nat := [0, 498536548, 997073096, 651767980, 1994146192, 1802195444, 1303535960, 1342533948, 3988292384, 4027552580, 3604390888, 3412177804, 2607071920, 2262029012, 2685067896, 3183342108]
theorem fours_bits : ∀ k, k < 16 → foursL.getD k 0 = bitsN 4 k 0 := by
  have h : ∀ k : Fin 16, foursL.getD k.val 0 = bitsN 4 k.val 0 := by decide +kernel
  intro k hk
  exact h ⟨k, hk⟩
theorem fours_lt (k : Nat) (hk : k < 16) : foursL.getD k 0 < 4294967296 := by rw [fours_bits k hk]; exact bits_lt 4 (by omega) 0
/-- Four bits at once. -/
def fourN (c : Nat) : Nat := (c / 16) ^^^ foursL.getD (c % 16) 0
theorem four_bits (c : Nat) : fourN c = bitsN 4 c 0 := by
  rw [bits_table 4 c]
  unfold fourN
  rw [fours_bits _ (Nat.mod_lt _ (by decide))]
theorem four_lt {c : Nat} (hc : c < 4294967296) : fourN c < 4294967296 := by rw [four_bits]; exact bits_lt 4 hc 0
theorem byte_fours (c x : Nat) (hx : x < 256) : byteN c x = fourN (fourN (c ^^^ x)) := by
  unfold byteN
  rw [bits_lay 8 c x hx, show (8 : Nat) = 4 + 4 from rfl, bits_add 4 4, Nat.zero_div, ← four_bits, ← four_bits]
theorem next_fours (a : Nat) (b : UInt8) : nextN a b = turnN (fourN (fourN (turnN a ^^^ b.toNat))) := by
  unfold nextN
  rw [byte_fours _ _ b.toNat_lt]
end Go.Proofs.YtjneekkjmjhofaaDoor.CrcC
