/-
  Sums of bytes, as plain functions: bit by bit; by a table of what some bits make; of two texts by their sums; a change within 32 bits is seen.
-/
namespace Go.Proofs.YtjneekkjmjhofaaDoor.CrcC
set_option linter.unusedVariables false

/-- The number that is laid over. -/
def polN : Nat := 0xedb88320
/-- One bit. -/
def bitN (c b : Nat) : Nat := (c / 2) ^^^ (if (c + b) % 2 = 1 then polN else 0)
/-- So many bits of a number, from the lowest on. -/
def bitsN : Nat → Nat → Nat → Nat
  | 0, c, _ => c
  | n + 1, c, x => bitsN n (bitN c (x % 2)) (x / 2)
def byteN (c x : Nat) : Nat := bitsN 8 c x
def thruN (c : Nat) : List UInt8 → Nat
  | [] => c
  | x :: l => thruN (byteN c x.toNat) l
def turnN (c : Nat) : Nat := c ^^^ 0xffffffff
def sumN (l : List UInt8) : Nat := turnN (thruN 0xffffffff l)
def nextN (sum : Nat) (x : UInt8) : Nat := turnN (byteN (turnN sum) x.toNat)
/-- So many bytes of zero. -/
def zeroN : Nat → Nat → Nat
  | 0, c => c
  | n + 1, c => zeroN n (byteN c 0)
def joinN (a b n : Nat) : Nat := zeroN n a ^^^ b

theorem pol_lt : polN < 4294967296 := by decide
theorem xor_lt {a b : Nat} (ha : a < 4294967296) (hb : b < 4294967296) : a ^^^ b < 4294967296 := Nat.xor_lt_two_pow (n := 32) ha hb
theorem bit_lt {c : Nat} (hc : c < 4294967296) (b : Nat) : bitN c b < 4294967296 := by
  unfold bitN
  exact xor_lt (by omega) (by split <;> decide)
theorem bits_lt (n : Nat) {c : Nat} (hc : c < 4294967296) (x : Nat) : bitsN n c x < 4294967296 := by
  induction n generalizing c x with
  | zero => exact hc
  | succ n ih => exact ih (bit_lt hc _) _
theorem thru_lt {c : Nat} (hc : c < 4294967296) (l : List UInt8) : thruN c l < 4294967296 := by
  induction l generalizing c with
  | nil => exact hc
  | cons x l ih => exact ih (bits_lt 8 hc _)
theorem turn_lt {c : Nat} (hc : c < 4294967296) : turnN c < 4294967296 := xor_lt hc (by decide)
theorem turn_turn (c : Nat) : turnN (turnN c) = c := by unfold turnN; rw [Nat.xor_assoc, Nat.xor_self, Nat.xor_zero]
theorem turn_inj {a b : Nat} (h : turnN a = turnN b) : a = b := by rw [← turn_turn a, h, turn_turn]
theorem turn_sub {c : Nat} (hc : c < 4294967296) : turnN c = 4294967295 - c := by
  unfold turnN
  have : (4294967295 : Nat) - c = 2 ^ 32 - 1 - c := rfl
  rw [this]
  apply Nat.eq_of_testBit_eq
  intro i
  rw [Nat.testBit_xor, show (0xffffffff : Nat) = 2 ^ 32 - 1 from rfl, Nat.testBit_two_pow_sub_one, show 2 ^ 32 - 1 - c = 2 ^ 32 - (c + 1) by omega, Nat.testBit_two_pow_sub_succ (by exact hc)]
  by_cases h : i < 32
  · simp [h]
  · have : c.testBit i = false := Nat.testBit_lt_two_pow (Nat.lt_of_lt_of_le hc (Nat.pow_le_pow_right (by decide) (by omega) : 2 ^ 32 ≤ 2 ^ i))
    simp [h, this]
/-- As the document says it. -/
theorem bit_words (c b : Nat) (hb : b < 2) : bitN c b = if c % 2 ≠ b then (c / 2) ^^^ polN else c / 2 := by
  unfold bitN
  by_cases h : c % 2 = b
  · rw [if_neg (by omega), if_neg (by omega), Nat.xor_zero]
  · rw [if_pos (by omega), if_pos h]

/-! What is laid over each other goes through side by side. -/
theorem xor_mod (a b : Nat) : (a ^^^ b) % 2 = (a + b) % 2 := by
  have h : (a ^^^ b).testBit 0 = (a.testBit 0 ^^ b.testBit 0) := Nat.testBit_xor a b 0
  rw [Nat.testBit_zero, Nat.testBit_zero, Nat.testBit_zero] at h
  rcases Nat.mod_two_eq_zero_or_one (a ^^^ b) with h1 | h1 <;> rcases Nat.mod_two_eq_zero_or_one a with h2 | h2 <;> rcases Nat.mod_two_eq_zero_or_one b with h3 | h3 <;> rw [h1, h2, h3] at h <;> simp at h <;> omega
theorem xor_div (a b : Nat) : (a ^^^ b) / 2 = (a / 2) ^^^ (b / 2) := Nat.xor_div_two
theorem xor4 (a b c d : Nat) : (a ^^^ b) ^^^ (c ^^^ d) = (a ^^^ c) ^^^ (b ^^^ d) := by
  rw [Nat.xor_assoc, Nat.xor_assoc]; congr 1
  rw [← Nat.xor_assoc, ← Nat.xor_assoc, Nat.xor_comm b c]
theorem bit_xor (c d b e f : Nat) (h : f % 2 = (b + e) % 2) : bitN (c ^^^ d) f = bitN c b ^^^ bitN d e := by
  unfold bitN
  rw [xor4, xor_div]
  congr 1
  have h1 : ((c ^^^ d) + f) % 2 = ((c + b) % 2 + (d + e) % 2) % 2 := by
    have := xor_mod c d
    omega
  rw [h1]
  rcases Nat.mod_two_eq_zero_or_one (c + b) with h2 | h2 <;> rcases Nat.mod_two_eq_zero_or_one (d + e) with h3 | h3 <;> rw [h2, h3] <;> simp
theorem bits_xor (n : Nat) (c d x y : Nat) : bitsN n (c ^^^ d) (x ^^^ y) = bitsN n c x ^^^ bitsN n d y := by
  induction n generalizing c d x y with
  | zero => rfl
  | succ n ih =>
    unfold bitsN
    rw [bit_xor c d (x % 2) (y % 2) _ (by have := xor_mod x y; omega), xor_div, ih]
theorem zero_bits (n : Nat) : bitsN n 0 0 = 0 := by
  induction n with
  | zero => rfl
  | succ n ih => unfold bitsN; exact ih
/-- A number's low bits go through as if they stood in the sum. -/
theorem bits_in (n : Nat) (x : Nat) (hx : x < 2 ^ n) : bitsN n x x = 0 := by
  induction n generalizing x with
  | zero => have : x = 0 := by omega
            subst this; rfl
  | succ n ih =>
    unfold bitsN
    have : bitN x (x % 2) = x / 2 := by unfold bitN; rw [if_neg (by omega), Nat.xor_zero]
    rw [this]
    exact ih _ (by rw [Nat.pow_succ] at hx; omega)
theorem bits_lay (n : Nat) (c x : Nat) (hx : x < 2 ^ n) : bitsN n c x = bitsN n (c ^^^ x) 0 := by
  have h := bits_xor n (c ^^^ x) x 0 x
  rw [bits_in n x hx, Nat.xor_zero, Nat.zero_xor, Nat.xor_assoc, Nat.xor_self, Nat.xor_zero] at h
  exact h
/-- Numbers without low bits are shifted alone. -/
theorem bits_high (n : Nat) (c : Nat) : bitsN n (c * 2 ^ n) 0 = c := by
  induction n generalizing c with
  | zero => unfold bitsN; omega
  | succ n ih =>
    unfold bitsN
    have : bitN (c * 2 ^ (n + 1)) (0 % 2) = c * 2 ^ n := by
      unfold bitN
      rw [if_neg (by rw [Nat.pow_succ, ← Nat.mul_assoc]; omega), Nat.xor_zero, Nat.pow_succ, ← Nat.mul_assoc]
      omega
    rw [this]
    exact ih c
theorem split_xor (n c : Nat) : (c / 2 ^ n * 2 ^ n) ^^^ (c % 2 ^ n) = c := by
  apply Nat.eq_of_testBit_eq
  intro i
  rw [Nat.testBit_xor, Nat.testBit_mul_two_pow, Nat.testBit_div_two_pow, Nat.testBit_mod_two_pow]
  by_cases h : n ≤ i
  · rw [show i - n + n = i by omega]; simp [h, Nat.not_lt.2 h]
  · simp [h, Nat.lt_of_not_le h]
theorem bits_table (n c : Nat) : bitsN n c 0 = (c / 2 ^ n) ^^^ bitsN n (c % 2 ^ n) 0 := by
  conv => lhs; rw [← split_xor n c]
  have := bits_xor n (c / 2 ^ n * 2 ^ n) (c % 2 ^ n) 0 0
  rw [Nat.xor_self, bits_high] at this
  exact this
theorem bits_add (m n : Nat) (c x : Nat) : bitsN (m + n) c x = bitsN n (bitsN m c x) (x / 2 ^ m) := by
  induction m generalizing c x with
  | zero => rw [Nat.zero_add]; unfold bitsN; rw [Nat.pow_zero, Nat.div_one]; rfl
  | succ m ih =>
    rw [show m + 1 + n = (m + n) + 1 by omega]
    show bitsN (m + n) (bitN c (x % 2)) (x / 2) = _
    rw [ih]
    show bitsN n (bitsN m (bitN c (x % 2)) (x / 2)) (x / 2 / 2 ^ m) = bitsN n (bitsN m (bitN c (x % 2)) (x / 2)) (x / 2 ^ (m + 1))
    rw [Nat.div_div_eq_div_mul, Nat.pow_succ, Nat.mul_comm 2]

/-! Texts as one number, the first byte lowest. -/
def numN : List UInt8 → Nat
  | [] => 0
  | x :: l => x.toNat + 256 * numN l
theorem bits_mod (n c x y : Nat) (h : x % 2 ^ n = y % 2 ^ n) : bitsN n c x = bitsN n c y := by
  induction n generalizing c x y with
  | zero => rfl
  | succ n ih =>
    unfold bitsN
    rw [Nat.pow_succ, Nat.mul_comm] at h
    have h1 : x % 2 = y % 2 := by
      have := congrArg (· % 2) h
      simpa [Nat.mod_mul_right_mod] using this
    have h2 : x / 2 % 2 ^ n = y / 2 % 2 ^ n := by
      have := congrArg (· / 2) h
      simpa [Nat.mod_mul_right_div_self] using this
    rw [h1]
    exact ih _ _ _ h2
theorem num_lt (l : List UInt8) : numN l < 2 ^ (8 * l.length) := by
  induction l with
  | nil => decide
  | cons x l ih =>
    have := x.toNat_lt
    rw [List.length_cons, Nat.mul_add, Nat.pow_add]
    unfold numN
    have : 2 ^ (8 * l.length) * 2 ^ (8 * 1) = 256 * 2 ^ (8 * l.length) := Nat.mul_comm _ _
    omega
theorem thru_num (c : Nat) (l : List UInt8) : thruN c l = bitsN (8 * l.length) c (numN l) := by
  induction l generalizing c with
  | nil => rfl
  | cons x l ih =>
    unfold thruN numN
    have hx := x.toNat_lt
    rw [ih, List.length_cons, show 8 * (l.length + 1) = 8 + 8 * l.length by omega, bits_add]
    unfold byteN
    rw [bits_mod 8 c (x.toNat + 256 * numN l) x.toNat (by omega), show (x.toNat + 256 * numN l) / 2 ^ 8 = numN l by omega]
theorem thru_append (c : Nat) (l m : List UInt8) : thruN c (l ++ m) = thruN (thruN c l) m := by
  induction l generalizing c with
  | nil => rfl
  | cons x l ih => exact ih _
theorem zero_zero (n : Nat) : zeroN n 0 = 0 := by
  induction n with
  | zero => rfl
  | succ n ih => unfold zeroN byteN; rw [zero_bits, ih]
theorem zero_add (m n c : Nat) : zeroN (m + n) c = zeroN n (zeroN m c) := by
  induction m generalizing c with
  | zero => rw [Nat.zero_add]; rfl
  | succ m ih => rw [show m + 1 + n = (m + n) + 1 by omega]; exact ih _
theorem zero_xor (n c d : Nat) : zeroN n (c ^^^ d) = zeroN n c ^^^ zeroN n d := by
  induction n generalizing c d with
  | zero => rfl
  | succ n ih =>
    unfold zeroN
    rw [← ih]
    congr 1
    have := bits_xor 8 c d 0 0
    rw [Nat.xor_self] at this
    exact this
theorem zero_lt (n : Nat) {c : Nat} (hc : c < 4294967296) : zeroN n c < 4294967296 := by
  induction n generalizing c with
  | zero => exact hc
  | succ n ih => exact ih (bits_lt 8 hc 0)
theorem zero_as_bits (n c : Nat) : zeroN n c = bitsN (8 * n) c 0 := by
  induction n generalizing c with
  | zero => rfl
  | succ n ih => rw [show 8 * (n + 1) = 8 + 8 * n by omega, bits_add]; exact ih _
theorem thru_lay (c d : Nat) (l : List UInt8) : thruN (d ^^^ c) l = zeroN l.length d ^^^ thruN c l := by
  induction l generalizing c d with
  | nil => rfl
  | cons x l ih =>
    show thruN (byteN (d ^^^ c) x.toNat) l = zeroN l.length (byteN d 0) ^^^ thruN (byteN c x.toNat) l
    rw [← ih]
    congr 1
    have := bits_xor 8 d c 0 x.toNat
    rw [Nat.zero_xor] at this
    exact this
theorem sum_lt (l : List UInt8) : sumN l < 4294967296 := turn_lt (thru_lt (by decide) l)
theorem sum_next (l : List UInt8) (x : UInt8) : sumN (l ++ [x]) = nextN (sumN l) x := by
  unfold sumN nextN
  rw [turn_turn, thru_append]; rfl
theorem sum_append (l m : List UInt8) : sumN (l ++ m) = turnN (thruN (turnN (sumN l)) m) := by
  unfold sumN; rw [turn_turn, thru_append]
theorem sum_join (l m : List UInt8) : sumN (l ++ m) = joinN (sumN l) (sumN m) m.length := by
  rw [sum_append]
  unfold joinN
  generalize sumN l = a
  unfold sumN turnN
  rw [thru_lay 0xffffffff a m, Nat.xor_assoc]

/-! A change within 32 bits is seen. -/
theorem bit_zero {c : Nat} (hc : c < 4294967296) (h : bitN c 0 = 0) : c = 0 := by
  unfold bitN at h
  split at h
  · have h1 : c / 2 = polN := by
      have := congrArg (· ^^^ polN) h
      simpa [Nat.xor_assoc] using this
    unfold polN at h1
    omega
  · rw [Nat.xor_zero] at h; omega
theorem bits_zero (n : Nat) {c : Nat} (hc : c < 4294967296) (h : bitsN n c 0 = 0) : c = 0 := by
  induction n generalizing c with
  | zero => exact h
  | succ n ih => exact bit_zero hc (ih (bit_lt hc _) h)
theorem bits_shift (m n x : Nat) : bitsN (m + n) 0 (x * 2 ^ m) = bitsN n 0 x := by
  rw [bits_add, bits_mod m 0 (x * 2 ^ m) 0 (by rw [Nat.mul_mod_left, Nat.zero_mod]), zero_bits, Nat.mul_div_cancel _ (Nat.pow_pos (by decide))]
/-- Two texts of one length, the second one turned at some bits of a stretch of 32. -/
theorem turned_unlike (l m : List UInt8) (hl : l.length = m.length) (at_ f : Nat) (hat : at_ ≤ 8 * l.length) (hf : f < 4294967296) (hw : f < 2 ^ (8 * l.length - at_))
    (h : numN m = numN l ^^^ (f * 2 ^ at_)) : (sumN m = sumN l) ↔ f = 0 := by
  have hx : thruN 0xffffffff m ^^^ thruN 0xffffffff l = bitsN (8 * l.length - at_) f 0 := by
    rw [thru_num, thru_num, ← hl, ← bits_xor, Nat.xor_self, h, Nat.xor_comm (numN l), Nat.xor_assoc, Nat.xor_self, Nat.xor_zero]
    conv => lhs; rw [show 8 * l.length = at_ + (8 * l.length - at_) by omega]
    rw [bits_shift, bits_lay _ _ _ hw, Nat.zero_xor]
  constructor
  · intro e
    have e' := turn_inj e
    rw [e', Nat.xor_self] at hx
    exact bits_zero _ hf hx.symm
  · intro e
    subst e
    rw [zero_bits] at hx
    unfold sumN
    have : thruN 0xffffffff m = thruN 0xffffffff l := by
      have := congrArg (· ^^^ thruN 0xffffffff l) hx
      simpa [Nat.xor_assoc] using this
    rw [this]
/-- One bit that is turned. -/
theorem num_set (l : List UInt8) (k r : Nat) (x : UInt8) (hk : l[k]? = some x) (hr : r < 8) (y : UInt8) (hy : y.toNat = x.toNat ^^^ 2 ^ r) :
    numN (l.set k y) = numN l ^^^ 2 ^ (8 * k + r) := by
  have part : ∀ (a n b m : Nat), a < 256 → b < 256 → (a + 256 * n) ^^^ (b + 256 * m) = (a ^^^ b) + 256 * (n ^^^ m) := by
    intro a n b m ha hb
    have hab : a ^^^ b < 2 ^ 8 := Nat.xor_lt_two_pow (n := 8) ha hb
    have e1 : a + 256 * n = 2 ^ 8 * n + a := by omega
    have e2 : b + 256 * m = 2 ^ 8 * m + b := by omega
    have e3 : (a ^^^ b) + 256 * (n ^^^ m) = 2 ^ 8 * (n ^^^ m) + (a ^^^ b) := by omega
    rw [e1, e2, e3]
    apply Nat.eq_of_testBit_eq
    intro i
    rw [Nat.testBit_xor, Nat.testBit_two_pow_mul_add _ (by exact ha), Nat.testBit_two_pow_mul_add _ (by exact hb), Nat.testBit_two_pow_mul_add _ hab]
    by_cases h : i < 8
    · simp [h, Nat.testBit_xor]
    · simp [h, Nat.testBit_xor]
  induction l generalizing k with
  | nil => simp at hk
  | cons z l ih =>
    cases k with
    | zero =>
      simp only [List.getElem?_cons_zero, Option.some.injEq] at hk
      subst hk
      show y.toNat + 256 * numN l = (z.toNat + 256 * numN l) ^^^ 2 ^ (8 * 0 + r)
      have h2 : 2 ^ (8 * 0 + r) < 256 := by rw [Nat.mul_zero, Nat.zero_add]; exact (Nat.pow_lt_pow_right (by decide) hr : 2 ^ r < 2 ^ 8)
      have := part z.toNat (numN l) (2 ^ (8 * 0 + r)) 0 z.toNat_lt h2
      rw [Nat.mul_zero, Nat.add_zero, Nat.xor_zero] at this
      rw [this, hy]
      simp
    | succ k =>
      simp only [List.getElem?_cons_succ] at hk
      show z.toNat + 256 * numN (l.set k y) = (z.toNat + 256 * numN l) ^^^ 2 ^ (8 * (k + 1) + r)
      have := part z.toNat (numN l) 0 (2 ^ (8 * k + r)) z.toNat_lt (by decide)
      rw [Nat.xor_zero, Nat.zero_add] at this
      rw [ih k hk, ← this, show 8 * (k + 1) + r = 8 + (8 * k + r) by omega, Nat.pow_add 2 8]
theorem flip_step (f i : Nat) : f % 2 ^ (i + 1) = (f % 2 ^ i) ^^^ (if f / 2 ^ i % 2 = 1 then 2 ^ i else 0) := by
  apply Nat.eq_of_testBit_eq
  intro k
  have hb : f / 2 ^ i % 2 = 1 ↔ f.testBit i = true := by
    have : (f / 2 ^ i).testBit 0 = f.testBit (0 + i) := Nat.testBit_div_two_pow _ _
    rw [Nat.testBit_zero, Nat.zero_add] at this
    rw [← this, decide_eq_true_eq]
  rw [Nat.testBit_xor, Nat.testBit_mod_two_pow, Nat.testBit_mod_two_pow]
  by_cases h : k = i
  · subst h
    by_cases hc : f.testBit k = true
    · rw [if_pos (hb.2 hc), Nat.testBit_two_pow_self, hc]; simp
    · rw [if_neg (fun e => hc (hb.1 e))]; simp [hc]
  · have : (if f / 2 ^ i % 2 = 1 then 2 ^ i else 0).testBit k = false := by
      split
      · rw [Nat.testBit_two_pow]; simp; omega
      · simp
    rw [this, Bool.xor_false]
    by_cases hk : k < i
    · simp [hk, show k < i + 1 by omega]
    · simp [hk, show ¬ k < i + 1 by omega]
/-- The document's example. -/
theorem sum_digits : sumN [49, 50, 51, 52, 53, 54, 55, 56, 57] = 0xcbf43926 := by decide +kernel
end Go.Proofs.YtjneekkjmjhofaaDoor.CrcC
