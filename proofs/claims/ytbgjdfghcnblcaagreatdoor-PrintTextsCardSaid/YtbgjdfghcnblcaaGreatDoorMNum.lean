/-
  Plain arithmetic for package num: sizes of numbers, a number or that there is none. No program in it.
-/
import Derived.WalkKit
import Derived.Lib.ItoaNum
import Derived.Lib.ItoaMem
import Derived.Lib.AtoiAll
import Derived.Lib.ParseIntBTie
import GoSem.Op.String
namespace Go.Proofs.YtbgjdfghcnblcaaGreatDoor.NumC
set_option linter.unusedVariables false
open Go.RowKit

/-- It is an int64. -/
def I64 (a : Int) : Prop := -9223372036854775808 ≤ a ∧ a ≤ 9223372036854775807
instance (n : Int) : Decidable (I64 n) := by unfold I64; infer_instance
/-- It is a uint64. -/
def U64 (a : Int) : Prop := 0 ≤ a ∧ a ≤ 18446744073709551615
theorem i64_of_wf {a : Int} (h : (Lit.int .i64 a).wf = true) : I64 a := by
  simp [Lit.wf, IntKind.min, IntKind.max, IntKind.signed, IntKind.bits] at h; unfold I64; omega
/-- The size of a number. -/
def siz (a : Int) : Int := if a < 0 then -a else a
theorem siz_neg {a : Int} (h : a < 0) : siz a = -a := by unfold siz; rw [if_pos h]
theorem siz_pos {a : Int} (h : ¬ a < 0) : siz a = a := by unfold siz; rw [if_neg h]
theorem siz_bd {a : Int} (h : I64 a) : 0 ≤ siz a ∧ siz a ≤ 9223372036854775808 := by unfold siz I64 at *; split <;> omega
theorem siz_nonneg (a : Int) : 0 ≤ siz a := by unfold siz; split <;> omega
theorem siz_natAbs (a : Int) : siz a = (a.natAbs : Int) := by unfold siz; split <;> omega
theorem wrap_neg {a : Int} (h1 : a < 0) (h : I64 a) : IntKind.u64.wrap (-IntKind.u64.wrap a) = siz a := by
  rw [siz_neg h1, IntKind.wrap_u64, IntKind.wrap_u64]; unfold I64 at h; omega
theorem wrap_pos {a : Int} (h1 : ¬ a < 0) (h : I64 a) : IntKind.u64.wrap a = siz a := by
  rw [siz_pos h1, IntKind.wrap_u64]; unfold I64 at h; omega
theorem ret3 {x y x' y' : Int} {b b' : Bool} (hx : x = x') (hy : y = y') (hb : b = b') : Ending.returned (.tuple #[.int .u64 x, .int .u64 y, .bool b]) = .returned (.tuple #[.int .u64 x', .int .u64 y', .bool b']) := by subst hx hy hb; rfl
theorem ret2 {x x' : Int} {b b' : Bool} (hx : x = x') (hb : b = b') : Ending.returned (.tuple #[.int .i64 x, .bool b]) = .returned (.tuple #[.int .i64 x', .bool b']) := by subst hx hb; rfl
theorem ret1 {b b' : Bool} (hb : b = b') : Ending.returned (.bool b) = .returned (.bool b') := by subst hb; rfl

/-- A number that may be no int64: it, or 0; and whether it is one. -/
def fitN (n : Int) : Int := if I64 n then n else 0
def fitB (n : Int) : Bool := decide (I64 n)
theorem fitN_yes {n : Int} (h : I64 n) : fitN n = n := by unfold fitN; rw [if_pos h]
theorem fitN_no {n : Int} (h : ¬ I64 n) : fitN n = 0 := by unfold fitN; rw [if_neg h]
theorem fitB_yes {n : Int} (h : I64 n) : fitB n = true := by unfold fitB; exact decide_eq_true h
theorem fitB_no {n : Int} (h : ¬ I64 n) : fitB n = false := by unfold fitB; exact decide_eq_false h
theorem fitN_i64 (n : Int) : I64 (fitN n) := by unfold fitN; split; assumption; unfold I64; omega
/-- A size with a sign. -/
def sgd (b : Bool) (u : Int) : Int := if b then -u else u
theorem sgd_siz (a : Int) : sgd (decide (a < 0)) (siz a) = a := by unfold sgd siz; by_cases h : a < 0 <;> simp [h]
theorem wrap_back {u : Int} (h0 : 0 ≤ u) (h1 : u ≤ 9223372036854775808) : wrap64 (IntKind.u64.wrap (-u)) = -u := by
  unfold wrap64; rw [IntKind.wrap_u64]; omega
theorem i64_sgd_f {u : Int} (h0 : 0 ≤ u) (h1 : u < 9223372036854775808) : I64 (sgd false u) := by show I64 u; unfold I64; omega
theorem i64_sgd_f' {u : Int} (h1 : ¬ u < 9223372036854775808) : ¬ I64 (sgd false u) := by show ¬ I64 u; unfold I64; omega
theorem i64_sgd_t {u : Int} (h0 : 0 ≤ u) (h1 : u ≤ 9223372036854775808) : I64 (sgd true u) := by show I64 (-u); unfold I64; omega
theorem i64_sgd_t' {u : Int} (h1 : ¬ u ≤ 9223372036854775808) : ¬ I64 (sgd true u) := by show ¬ I64 (-u); unfold I64; omega
theorem sgd_f (u : Int) : sgd false u = u := rfl
theorem sgd_t (u : Int) : sgd true u = -u := rfl
theorem i64_wrap (n : Int) : I64 (wrap64 n) := by unfold I64 wrap64; omega
theorem wrap_i64 {n : Int} (h : I64 n) : wrap64 n = n := by unfold I64 at h; unfold wrap64; omega
/-- Just one of two is below 0. -/
def apartB (a b : Int) : Bool := decide (a < 0) != decide (b < 0)
theorem apartB_t {a b : Int} : apartB a b = true ↔ (a < 0 ∧ 0 ≤ b ∨ 0 ≤ a ∧ b < 0) := by
  unfold apartB; by_cases h : a < 0 <;> by_cases h' : b < 0 <;> simp [h, h'] <;> omega
theorem apartB_f {a b : Int} : apartB a b = false ↔ (a < 0 ∧ b < 0 ∨ 0 ≤ a ∧ 0 ≤ b) := by
  unfold apartB; by_cases h : a < 0 <;> by_cases h' : b < 0 <;> simp [h, h'] <;> omega
theorem add_over {a b : Int} (ha : I64 a) (hb : I64 b) (h : apartB a b = false) (h' : apartB a (wrap64 (a + b)) = true) : ¬ I64 (a + b) := by
  rw [apartB_f] at h; rw [apartB_t] at h'; unfold I64 at *; unfold wrap64 at h'; omega
theorem add_fits {a b : Int} (ha : I64 a) (hb : I64 b) (h : apartB a b = false) (h' : apartB a (wrap64 (a + b)) = false) : I64 (a + b) := by
  rw [apartB_f] at h; rw [apartB_f] at h'; unfold I64 at *; unfold wrap64 at h'; omega
theorem add_apart {a b : Int} (ha : I64 a) (hb : I64 b) (h : apartB a b = true) : I64 (a + b) := by
  rw [apartB_t] at h; unfold I64 at *; omega
theorem sub_over {a b : Int} (ha : I64 a) (hb : I64 b) (h : apartB a b = true) (h' : apartB a (wrap64 (a - b)) = true) : ¬ I64 (a - b) := by
  rw [apartB_t] at h; rw [apartB_t] at h'; unfold I64 at *; unfold wrap64 at h'; omega
theorem sub_fits {a b : Int} (ha : I64 a) (hb : I64 b) (h : apartB a b = true) (h' : apartB a (wrap64 (a - b)) = false) : I64 (a - b) := by
  rw [apartB_t] at h; rw [apartB_f] at h'; unfold I64 at *; unfold wrap64 at h'; omega
theorem sub_apart {a b : Int} (ha : I64 a) (hb : I64 b) (h : apartB a b = false) : I64 (a - b) := by
  rw [apartB_f] at h; unfold I64 at *; omega
theorem sgd_mul (a b : Int) : sgd (apartB a b) (siz a * siz b) = a * b := by
  unfold sgd apartB siz
  by_cases h : a < 0 <;> by_cases h' : b < 0 <;> simp [h, h', Int.neg_mul, Int.mul_neg]
theorem siz_mul_nonneg (a b : Int) : 0 ≤ siz a * siz b := Int.mul_nonneg (siz_nonneg a) (siz_nonneg b)
theorem mul_over {a b : Int} (h : ¬ siz a * siz b ≤ 18446744073709551615) : ¬ I64 (a * b) := by
  intro h2
  rw [← sgd_mul a b] at h2
  unfold sgd I64 at h2
  generalize siz a * siz b = p at *
  split at h2 <;> omega
theorem sgd_div (a b : Int) : sgd (apartB a b) (siz a / siz b) = a.tdiv b := by
  have e (x y : Int) (hx : 0 ≤ x) : x / y = x.tdiv y := (Int.tdiv_eq_ediv_of_nonneg hx).symm
  rw [e _ _ (siz_nonneg a)]
  unfold sgd apartB siz
  by_cases h : a < 0 <;> by_cases h' : b < 0 <;> simp [h, h', Int.neg_tdiv, Int.tdiv_neg]
theorem siz_div_bd {a b : Int} (ha : I64 a) (hb : b ≠ 0) : 0 ≤ siz a / siz b ∧ siz a / siz b ≤ 9223372036854775808 := by
  have h1 := siz_bd ha
  have h2 : 0 < siz b := by unfold siz; split <;> omega
  exact ⟨Int.ediv_nonneg h1.1 (by omega), Int.le_trans (Int.ediv_le_self _ h1.1) h1.2⟩
theorem siz_pos' {b : Int} (hb : b ≠ 0) : 1 ≤ siz b := by unfold siz; split <;> omega
/-- The quotient's, the rest's answer. -/
def divN (a b : Int) : Int := if b = 0 then 0 else fitN (a.tdiv b)
def divB (a b : Int) : Bool := if b = 0 then false else fitB (a.tdiv b)
def modN (a b : Int) : Int := if divB a b then a.tmod b else 0
theorem divN_0 (a : Int) : divN a 0 = 0 := rfl
theorem divB_0 (a : Int) : divB a 0 = false := rfl
theorem divN_1 {a b : Int} (h : b ≠ 0) : divN a b = fitN (a.tdiv b) := by unfold divN; rw [if_neg h]
theorem divB_1 {a b : Int} (h : b ≠ 0) : divB a b = fitB (a.tdiv b) := by unfold divB; rw [if_neg h]
theorem tmod_i64 {a b : Int} (ha : I64 a) (hb : I64 b) : I64 (a.tmod b) := by
  have h1 : (a.tmod b).natAbs ≤ a.natAbs := by rw [Int.natAbs_tmod]; exact Nat.mod_le _ _
  unfold I64 at *
  by_cases h : 0 ≤ a
  · have := Int.tmod_nonneg b h; omega
  · have h3 : 0 ≤ (-a).tmod b := Int.tmod_nonneg b (by omega)
    rw [Int.neg_tmod] at h3; omega
theorem mod_eq {a b : Int} (ha : I64 a) (hb : I64 b) (h : divB a b = true) : wrap64 (a - wrap64 (b * divN a b)) = a.tmod b := by
  have hb0 : b ≠ 0 := by intro e; subst e; cases h
  rw [divB_1 hb0] at h
  have hq : I64 (a.tdiv b) := by unfold fitB at h; exact of_decide_eq_true h
  rw [divN_1 hb0, fitN_yes hq]
  have e := Int.mul_tdiv_add_tmod a b
  have hm := tmod_i64 ha hb
  generalize b * a.tdiv b = p at *
  unfold I64 at *; unfold wrap64; omega
/-- A power. -/
def pw (a : Int) (k : Nat) : Int := a ^ k
theorem pw_0 (a : Int) : pw a 0 = 1 := by unfold pw; exact Int.pow_zero a
theorem pw_succ (a : Int) (k : Nat) : pw a k * a = pw a (k + 1) := by unfold pw; rw [Int.pow_succ]
theorem pw_natAbs (a : Int) (k : Nat) : (pw a k).natAbs = a.natAbs ^ k := by unfold pw; exact Int.natAbs_pow a k
/-- What has grown too great never shrinks again. -/
theorem pw_over {a : Int} {k n : Nat} (h2 : 2 ≤ a.natAbs) (h : ¬ I64 (pw a k)) (hkn : k ≤ n) : ¬ I64 (pw a n) := by
  rcases Nat.lt_or_eq_of_le hkn with hlt | rfl
  · have e1 := pw_natAbs a k
    have e2 := pw_natAbs a n
    have h3 : 9223372036854775808 ≤ a.natAbs ^ k := by
      rw [← e1]; unfold I64 at h; omega
    have h4 : a.natAbs ^ (k + 1) ≤ a.natAbs ^ n := Nat.pow_le_pow_right (by omega) hlt
    rw [Nat.pow_succ] at h4
    have h5 : 9223372036854775808 * 2 ≤ a.natAbs ^ k * a.natAbs := Nat.mul_le_mul h3 h2
    intro hi
    unfold I64 at hi
    omega
  · exact h
/-- How often Pow goes round: of what never grows as often as it must. -/
def rounds (a b : Int) : Int := if -1 ≤ a ∧ a ≤ 1 then min b (2 - b % 2) else b
theorem rounds_bd {a b : Int} (h0 : 0 ≤ b) : 0 ≤ rounds a b ∧ rounds a b ≤ b := by
  unfold rounds; split <;> omega
theorem pw_two (a : Int) (h : -1 ≤ a) (h' : a ≤ 1) (k m : Nat) (hk : 1 ≤ k) (hm : 1 ≤ m) (hp : k % 2 = m % 2) : pw a k = pw a m := by
  have key (k : Nat) (hk : 1 ≤ k) : pw a k = if k % 2 = 0 then a * a else a := by
    induction k with
    | zero => omega
    | succ k ih =>
      by_cases h0 : k = 0
      · subst h0; rw [← pw_succ, pw_0]; simp
      · rw [← pw_succ, ih (by omega)]
        have ha : a = -1 ∨ a = 0 ∨ a = 1 := by omega
        by_cases h1 : k % 2 = 0
        · have h2 : ¬ (k + 1) % 2 = 0 := by omega
          rw [if_pos h1, if_neg h2]
          rcases ha with rfl | rfl | rfl <;> rfl
        · have h2 : (k + 1) % 2 = 0 := by omega
          rw [if_neg h1, if_pos h2]
  rw [key k hk, key m hm, hp]
theorem pw_rounds {a b : Int} (h0 : 0 ≤ b) : pw a (rounds a b).toNat = pw a b.toNat := by
  unfold rounds
  split
  · rename_i h
    by_cases h2 : b ≤ 2 - b % 2
    · rw [show min b (2 - b % 2) = b from by omega]
    · exact pw_two a h.1 h.2 _ _ (by omega) (by omega) (by omega)
  · rfl
/-- Pow's answer. -/
def powN (a b : Int) : Int := if b < 0 then 0 else fitN (pw a b.toNat)
def powB (a b : Int) : Bool := if b < 0 then false else fitB (pw a b.toNat)
theorem powN_neg {a b : Int} (h : b < 0) : powN a b = 0 := by unfold powN; rw [if_pos h]
theorem powB_neg {a b : Int} (h : b < 0) : powB a b = false := by unfold powB; rw [if_pos h]
theorem powN_pos {a b : Int} (h : 0 ≤ b) : powN a b = fitN (pw a (rounds a b).toNat) := by unfold powN; rw [if_neg (by omega), pw_rounds h]
theorem powB_pos {a b : Int} (h : 0 ≤ b) : powB a b = fitB (pw a (rounds a b).toNat) := by unfold powB; rw [if_neg (by omega), pw_rounds h]
theorem pw_small {a : Int} (h : a.natAbs ≤ 1) (k : Nat) : I64 (pw a k) := by
  have e := pw_natAbs a k
  have : a.natAbs ^ k ≤ 1 := by
    have := Nat.pow_le_pow_left h k
    rwa [Nat.one_pow] at this
  unfold I64; omega
theorem pw_stop {a : Int} {k n : Nat} (h : ¬ I64 (pw a k)) (hkn : k ≤ n) : ¬ I64 (pw a n) :=
  pw_over (by rcases Nat.lt_or_ge a.natAbs 2 with h2 | h2; exact absurd (pw_small (by omega) k) h; exact h2) h hkn
theorem pw_before {a : Int} {k n : Nat} (h : I64 (pw a n)) (hkn : k ≤ n) : I64 (pw a k) := by
  by_cases g : I64 (pw a k)
  · exact g
  · exact absurd h (pw_stop g hkn)
/-- The greatest number that divides both. -/
def gcdI (x y : Int) : Int := (Nat.gcd x.natAbs y.natAbs : Int)
theorem gcdI_step {x y : Int} (hx : 0 ≤ x) (hy : 0 ≤ y) : gcdI y (x % y) = gcdI x y := by
  obtain ⟨m, rfl⟩ := Int.eq_ofNat_of_zero_le hx
  obtain ⟨n, rfl⟩ := Int.eq_ofNat_of_zero_le hy
  unfold gcdI
  rw [← Int.natCast_emod]
  simp only [Int.natAbs_natCast]
  congr 1
  rw [Nat.gcd_comm m n, Nat.gcd_rec n m, Nat.gcd_comm]
theorem gcdI_0 {x : Int} (hx : 0 ≤ x) : gcdI x 0 = x := by
  obtain ⟨m, rfl⟩ := Int.eq_ofNat_of_zero_le hx
  unfold gcdI; simp
theorem gcdI_siz (a b : Int) : gcdI (siz a) (siz b) = gcdI a b := by unfold gcdI; rw [siz_natAbs, siz_natAbs]; simp
end Go.Proofs.YtbgjdfghcnblcaaGreatDoor.NumC

/-
  Plain facts on decimal numerals: a numeral of an int64 is read back as it; what a text says, if it is a numeral. No program in it.
-/
namespace Go.Proofs.YtbgjdfghcnblcaaGreatDoor.NumC
set_option linter.unusedVariables false
open Go.Lib

theorem dig_toNat {d : Nat} (h : d < 10) : (UInt8.ofNat (48 + d)).toNat = 48 + d := by
  rw [UInt8.toNat_ofNat']; omega
theorem decDigits_all (u : Nat) : ∀ c ∈ decDigits u, 48 ≤ c.toNat ∧ c.toNat ≤ 57 := by
  induction u using Nat.strongRecOn with
  | _ u ih =>
    intro c hc
    rw [decDigits] at hc
    split at hc
    · rename_i h
      simp only [List.mem_singleton] at hc
      subst hc; rw [dig_toNat h]; omega
    · rename_i h
      rw [List.mem_append] at hc
      rcases hc with hc | hc
      · exact ih (u / 10) (by omega) c hc
      · simp only [List.mem_singleton] at hc
        subst hc; rw [dig_toNat (by omega)]; omega
theorem decDigits_ne (u : Nat) : decDigits u ≠ [] := by
  intro h
  have := decDigits_length u
  rw [h] at this
  have := nDigits_pos u
  simp at *; omega
/-- The number that digits spell. -/
def val (l : List UInt8) : Nat := l.foldl (fun a c => a * 10 + (c.toNat - 48)) 0
theorem val_snoc (l : List UInt8) (c : UInt8) : val (l ++ [c]) = val l * 10 + (c.toNat - 48) := by unfold val; rw [List.foldl_append]; rfl
theorem val_decDigits (u : Nat) : val (decDigits u) = u := by
  induction u using Nat.strongRecOn with
  | _ u ih =>
    rw [decDigits]
    split
    · rename_i h
      show 0 * 10 + ((UInt8.ofNat (48 + u)).toNat - 48) = u
      rw [dig_toNat h]; omega
    · rename_i h
      rw [val_snoc, ih (u / 10) (by omega), dig_toNat (by omega)]; omega
theorem foldl_ge (r : List UInt8) : ∀ a : Nat, a ≤ r.foldl (fun a c => a * 10 + (c.toNat - 48)) a := by
  induction r with
  | nil => intro a; exact Nat.le_refl _
  | cons c r ih => intro a; rw [List.foldl_cons]; have := ih (a * 10 + (c.toNat - 48)); omega
theorem val_more (t r : List UInt8) (hr : r ≠ []) : val t * 10 ≤ val (t ++ r) := by
  cases r with
  | nil => exact absurd rfl hr
  | cons c r =>
    unfold val
    rw [List.foldl_append, List.foldl_cons]
    have := foldl_ge r ((t.foldl (fun a c => a * 10 + (c.toNat - 48)) 0) * 10 + (c.toNat - 48))
    omega
theorem parseUint10_snoc (l : List UInt8) (c : UInt8) : ∀ acc v, parseUint10 acc l = .ok v → parseUint10 acc (l ++ [c]) = parseUint10 v [c] := by
  induction l with
  | nil => intro acc v h; simp only [parseUint10] at h; injection h with h; subst h; rfl
  | cons d l ih =>
    intro acc v h
    simp only [parseUint10, List.cons_append] at h ⊢
    split at h
    · rename_i h1
      rw [if_pos h1]
      split at h
      · cases h
      · rename_i h2
        rw [if_neg h2]
        split at h
        · cases h
        · rename_i h3
          rw [if_neg h3]
          exact ih _ _ h
    · cases h
theorem parseUint10_digits (u : Nat) (hu : u < 18446744073709551616) : parseUint10 0 (decDigits u) = .ok u := by
  induction u using Nat.strongRecOn with
  | _ u ih =>
    rw [decDigits]
    split
    · rename_i h
      simp only [parseUint10, dig_toNat h]
      rw [if_pos (by omega), if_neg (by omega), if_neg (by omega)]
      congr 1; omega
    · rename_i h
      rw [parseUint10_snoc _ _ _ _ (ih (u / 10) (by omega) (by omega))]
      simp only [parseUint10, dig_toNat (show u % 10 < 10 by omega)]
      rw [if_pos (by omega), if_neg (by omega), if_neg (by omega)]
      congr 1; omega
theorem parseMag_digits (u : Nat) (hu : u < 18446744073709551616) : parseMag (decDigits u) = .ok u := by
  unfold parseMag; rw [if_neg (decDigits_ne u)]; exact parseUint10_digits u hu
theorem atoi_itoa {n : Int} (h : I64 n) : atoiAll (itoa n) = .ok n := by
  unfold I64 at h
  by_cases h0 : n < 0
  · have e : itoa n = 45 :: decDigits n.natAbs := by unfold itoa; rw [if_pos h0]
    rw [e]
    simp only [atoiAll]
    rw [if_pos (by decide), parseMag_digits _ (by omega)]
    simp only
    rw [if_neg (by simp), if_neg (by omega)]
    rw [if_pos (by decide)]
    congr 1
    all_goals omega
  · have e : itoa n = decDigits n.toNat := by unfold itoa; rw [if_neg h0]
    rw [e]
    cases hd : decDigits n.toNat with
    | nil => exact absurd hd (decDigits_ne _)
    | cons c r =>
      have hc := decDigits_all n.toNat c (by rw [hd]; exact List.mem_cons_self)
      simp only [atoiAll]
      rw [if_neg (by omega), ← hd, parseMag_digits _ (by omega)]
      simp only
      rw [if_neg (by omega), if_neg (by omega), if_neg (by omega)]
      congr 1
      all_goals omega
theorem itoa_inj {n m : Int} (hn : I64 n) (hm : I64 m) (h : itoa n = itoa m) : n = m := by
  have h1 := atoi_itoa hn
  rw [h, atoi_itoa hm] at h1
  injection h1 with h1; exact h1.symm

/-- What a text says, if it is some int64's numeral. -/
def parseN (l : List UInt8) : Int := match atoiAll l with | .ok v => if itoa v = l then v else 0 | _ => 0
def parseB (l : List UInt8) : Bool := match atoiAll l with | .ok v => decide (itoa v = l) | _ => false
theorem parse_some {l : List UInt8} {m : Int} (hm : I64 m) (h : itoa m = l) : parseN l = m ∧ parseB l = true := by
  subst h; unfold parseN parseB; rw [atoi_itoa hm]; simp
theorem atoi_i64 {l : List UInt8} {v : Int} (h : atoiAll l = .ok v) : I64 v := by
  rw [← parseIntB_64] at h
  have := parseIntB_bounds h
  unfold I64; omega
theorem parse_none {l : List UInt8} (h : ∀ m, I64 m → itoa m ≠ l) : parseN l = 0 ∧ parseB l = false := by
  unfold parseN parseB
  rcases ha : atoiAll l with v | _ | _
  · have := h v (atoi_i64 ha)
    simp [this]
  · simp
  · simp
theorem parseN_i64 (l : List UInt8) : I64 (parseN l) := by
  unfold parseN
  rcases ha : atoiAll l with v | _ | _
  · simp only
    split
    · exact atoi_i64 ha
    · decide
  · simp only; decide
  · simp only; decide
theorem nDigits_le {u k : Nat} (h : u < 10 ^ k) (hk : 1 ≤ k) : nDigits u ≤ k := by
  induction k generalizing u with
  | zero => omega
  | succ k ih =>
    by_cases h1 : u < 10
    · rw [nDigits_small h1]; omega
    · rw [nDigits_big h1]
      have hk1 : 1 ≤ k := by
        rcases Nat.eq_zero_or_pos k with e | e
        · subst e; simp at h; omega
        · exact e
      have := ih (u := u / 10) (by rw [Nat.pow_succ] at h; omega) hk1
      omega
theorem itoa_len {n : Int} (h : I64 n) : 1 ≤ (itoa n).length ∧ (itoa n).length ≤ 20 := by
  unfold I64 at h
  have h3 : n.natAbs < 10 ^ 19 := by omega
  have h2 := nDigits_le (k := 19) h3 (by omega)
  have h4 := nDigits_pos n.natAbs
  unfold itoa
  split
  · rw [List.length_cons, decDigits_length]; omega
  · rename_i h0
    have e : n.toNat = n.natAbs := by omega
    rw [e, decDigits_length]; omega
end Go.Proofs.YtbgjdfghcnblcaaGreatDoor.NumC

/-
  Plain facts on texts of formulas: what a token is, the tokens of a text, upper case, quoting. No program in it.
-/
namespace Go.Proofs.YtbgjdfghcnblcaaGreatDoor.LexC
set_option linter.unusedVariables false
open Go.Proofs.YtbgjdfghcnblcaaGreatDoor.NumC

def digB (c : UInt8) : Bool := decide (48 ≤ c.toNat ∧ c.toNat ≤ 57)
def letB (c : UInt8) : Bool := decide ((97 ≤ c.toNat ∧ c.toNat ≤ 122) ∨ (65 ≤ c.toNat ∧ c.toNat ≤ 90))
def wordB (c : UInt8) : Bool := letB c || digB c
/-- A byte in upper case; a text. -/
def upC (c : UInt8) : UInt8 := if 97 ≤ c.toNat ∧ c.toNat ≤ 122 then c - 32 else c
def upL (l : List UInt8) : List UInt8 := l.map upC
/-- A text as a token. -/
def quC (c : UInt8) : List UInt8 := if c = 34 then [34, 34] else [c]
def quB (l : List UInt8) : List UInt8 := 34 :: l.flatMap quC
def quL (l : List UInt8) : List UInt8 := quB l ++ [34]
/-- The number of digits. -/
def numV (l : List UInt8) : Nat := l.foldl (fun a c => a * 10 + (c.toNat - 48)) 0
/-- A text behind its first mark: what is within, and how many bytes with the last mark. -/
def txtL : List UInt8 → Option (List UInt8 × Nat)
  | [] => none
  | c :: l => if c = 34 then (match l with
      | 34 :: l' => (txtL l').map fun r => (34 :: r.1, r.2 + 2)
      | _ => some ([], 1))
    else (txtL l).map fun r => (c :: r.1, r.2 + 1)
theorem txtL_no {c : UInt8} {l : List UInt8} (h : c ≠ 34) : txtL (c :: l) = (txtL l).map fun r => (c :: r.1, r.2 + 1) := by
  conv => lhs; unfold txtL
  rw [if_neg h]
theorem txtL_two (l : List UInt8) : txtL (34 :: 34 :: l) = (txtL l).map fun r => (34 :: r.1, r.2 + 2) := by
  conv => lhs; unfold txtL
  rw [if_pos rfl]; rfl
theorem txtL_one {l : List UInt8} (h : ∀ l', l ≠ 34 :: l') : txtL (34 :: l) = some ([], 1) := by
  conv => lhs; unfold txtL
  rw [if_pos rfl]
  split
  · exact absurd rfl (h _)
  · rfl
theorem txtL_nil : txtL [] = none := rfl
/-- The signs of two bytes, of one. -/
def sign2 (c d : UInt8) : Bool := (c == 60 && (d == 62 || d == 61)) || (c == 62 && d == 61)
def sign1 (c : UInt8) : Bool := [43, 45, 42, 47, 37, 94, 38, 61, 60, 62, 40, 41, 44, 58].contains c
structure Tok where
  k : Int
  n : Int
  s : ByteArray
  at_ : Int
  deriving DecidableEq
def nob : ByteArray := { data := #[] }
def str (l : List UInt8) : ByteArray := ⟨l.toArray⟩
/-- The sign that begins a text of a byte and l. -/
def signT (c : UInt8) : List UInt8 → Option (Int × Int × List UInt8 × Nat)
  | d :: _ => if sign2 c d = true then some (4, 0, [c, d], 2) else if sign1 c = true then some (4, 0, [c], 1) else none
  | [] => if sign1 c = true then some (4, 0, [c], 1) else none
/-- The token that begins a text of c and l: its kind, number, text, and how many bytes it has; none, if there is none. -/
def tokL (c : UInt8) (l : List UInt8) : Option (Int × Int × List UInt8 × Nat) :=
  if digB c = true then (if numV ((c :: l).takeWhile digB) < 9223372036854775808 then some (1, numV ((c :: l).takeWhile digB), [], ((c :: l).takeWhile digB).length) else none)
  else if letB c = true then some (3, 0, upL ((c :: l).takeWhile wordB), ((c :: l).takeWhile wordB).length)
  else if c = 34 then (txtL l).map fun r => (2, 0, r.1, r.2 + 1)
  else signT c l
def nextL : List UInt8 → Option (Int × Int × List UInt8 × Nat)
  | [] => none
  | c :: l => tokL c l
theorem nextL_cons (c : UInt8) (l : List UInt8) : nextL (c :: l) = tokL c l := rfl
/-- What Cut tells: the tokens, the place, the error's number. -/
structure Res where
  toks : List Tok
  at_ : Int
  err : Int
  deriving DecidableEq
def cutF : Nat → List UInt8 → Nat → List Tok → Res
  | 0, _, _, acc => ⟨acc, 0, 0⟩
  | _ + 1, [], _, acc => ⟨acc, 0, 0⟩
  | f + 1, c :: l, i, acc => if c = 32 then cutF f l (i + 1) acc else
    match nextL (c :: l) with
    | none => ⟨[], i, 12⟩
    | some (k, n, s, m) => cutF f ((c :: l).drop m) (i + m) (acc ++ [⟨k, n, str s, i⟩])
def cutL (l : List UInt8) : Res := if 300 < l.length then ⟨[], 0, 2⟩ else cutF (l.length + 1) l 0 []

theorem digB_iff {c : UInt8} : digB c = true ↔ 48 ≤ c.toNat ∧ c.toNat ≤ 57 := by unfold digB; exact decide_eq_true_iff
theorem letB_iff {c : UInt8} : letB c = true ↔ ((97 ≤ c.toNat ∧ c.toNat ≤ 122) ∨ (65 ≤ c.toNat ∧ c.toNat ≤ 90)) := by unfold letB; exact decide_eq_true_iff
theorem upC_up {c : UInt8} (h : 97 ≤ c.toNat ∧ c.toNat ≤ 122) : upC c = c - 32 := if_pos h
theorem upC_no {c : UInt8} (h : ¬ (97 ≤ c.toNat ∧ c.toNat ≤ 122)) : upC c = c := if_neg h
theorem sub32 {c : UInt8} (h : 97 ≤ c.toNat) : (c - 32).toNat = c.toNat - 32 := by
  rw [UInt8.toNat_sub_of_le]
  · rfl
  · rw [UInt8.le_iff_toNat_le]; show 32 ≤ c.toNat; omega
theorem upC_idem (c : UInt8) : upC (upC c) = upC c := by
  by_cases h : 97 ≤ c.toNat ∧ c.toNat ≤ 122
  · rw [upC_up h, upC_no]; rw [sub32 h.1]; omega
  · rw [upC_no h, upC_no h]
theorem upL_idem (l : List UInt8) : upL (upL l) = upL l := by
  unfold upL; rw [List.map_map]; apply List.map_congr_left; intro c _; exact upC_idem c
theorem upL_len (l : List UInt8) : (upL l).length = l.length := by unfold upL; exact List.length_map _
theorem numV_snoc (l : List UInt8) (c : UInt8) : numV (l ++ [c]) = numV l * 10 + (c.toNat - 48) := by unfold numV; rw [List.foldl_append]; rfl
theorem numV_le (l m : List UInt8) : numV l ≤ numV (l ++ m) := by
  have h : ∀ (m : List UInt8) (a b : Nat), a ≤ b → a ≤ m.foldl (fun a c => a * 10 + (c.toNat - 48)) b := by
    intro m
    induction m with
    | nil => intro a b h; exact h
    | cons c m ih => intro a b h; exact ih a (b * 10 + (c.toNat - 48)) (by omega)
  unfold numV; rw [List.foldl_append]; exact h m _ _ (Nat.le_refl _)
theorem drop_cons {l : List UInt8} {i : Nat} (h : i < l.length) : l.drop i = l[i] :: l.drop (i + 1) := List.drop_eq_getElem_cons h

/-- How far a row of such bytes goes from i on. -/
def runN (p : UInt8 → Bool) (l : List UInt8) (i : Nat) : Nat := ((l.drop i).takeWhile p).length
theorem take_run {p : UInt8 → Bool} {l : List UInt8} {i n : Nat} (h1 : ∀ k, i ≤ k → k < n → ∃ h : k < l.length, p l[k] = true) (h2 : n = l.length ∨ ∃ h : n < l.length, p l[n] = false) (hi : i ≤ n) (hn : n ≤ l.length) :
    (l.drop i).takeWhile p = (l.take n).drop i := by
  induction hk : n - i generalizing i with
  | zero =>
    have hin : i = n := by omega
    subst hin
    rcases h2 with rfl | ⟨h, hp⟩
    · simp
    · rw [drop_cons h, List.takeWhile_cons, hp]
      simp
  | succ k ih =>
    obtain ⟨h, hp⟩ := h1 i (Nat.le_refl _) (by omega)
    have h3 : i < (l.take n).length := by rw [List.length_take]; omega
    rw [drop_cons h, List.takeWhile_cons, hp, if_pos rfl, List.drop_eq_getElem_cons h3, List.getElem_take, ih (fun k hk hkn => h1 k (by omega) hkn) (by omega) (by omega)]
theorem take_len {p : UInt8 → Bool} {l : List UInt8} {i n : Nat} (h : (l.drop i).takeWhile p = (l.take n).drop i) (hi : i ≤ n) (hn : n ≤ l.length) : ((l.drop i).takeWhile p).length = n - i := by
  rw [h, List.length_drop, List.length_take]; omega
end Go.Proofs.YtbgjdfghcnblcaaGreatDoor.LexC

/-
  Plain facts on cells, their names, and what a text names. No program in it.
-/
namespace Go.Proofs.YtbgjdfghcnblcaaGreatDoor.AddrC
set_option linter.unusedVariables false
open Go.Proofs.YtbgjdfghcnblcaaGreatDoor.NumC

/-- It is a cell of the grid. -/
def Cell (r c : Int) : Prop := (1 ≤ r ∧ r ≤ 1000) ∧ (1 ≤ c ∧ c ≤ 50)
instance (r c : Int) : Decidable (Cell r c) := by unfold Cell; infer_instance
/-- A column's name. -/
def colL (c : Int) : List UInt8 := if c ≤ 26 then [UInt8.ofNat (64 + c.toNat)] else [65, UInt8.ofNat (38 + c.toNat)]
/-- A cell's name. -/
def nameL (r c : Int) : List UInt8 := if Cell r c then colL c ++ Lib.itoa r else []
theorem nameL_cell {r c : Int} (h : Cell r c) : nameL r c = colL c ++ Lib.itoa r := by unfold nameL; rw [if_pos h]
theorem nameL_no {r c : Int} (h : ¬ Cell r c) : nameL r c = [] := by unfold nameL; rw [if_neg h]
theorem cell_i64 {r c : Int} (h : Cell r c) : I64 r := by unfold Cell at h; unfold I64; omega
/-- The column that a text begins with (0: none), and what is behind it. -/
def cutL : Nat → List UInt8 → Nat × List UInt8
  | k, [] => (k, [])
  | k, x :: l => if x.toNat < 65 ∨ 90 < x.toNat then (k, x :: l) else if 50 < k * 26 + (x.toNat - 64) then (0, []) else cutL (k * 26 + (x.toNat - 64)) l
theorem cutL_nil (k : Nat) : cutL k [] = (k, []) := rfl
theorem cutL_stop {k : Nat} {x : UInt8} {l : List UInt8} (h : x.toNat < 65 ∨ 90 < x.toNat) : cutL k (x :: l) = (k, x :: l) := by unfold cutL; rw [if_pos h]
theorem cutL_big {k : Nat} {x : UInt8} {l : List UInt8} (h : ¬ (x.toNat < 65 ∨ 90 < x.toNat)) (h2 : 50 < k * 26 + (x.toNat - 64)) : cutL k (x :: l) = (0, []) := by unfold cutL; rw [if_neg h, if_pos h2]
theorem cutL_on {k : Nat} {x : UInt8} {l : List UInt8} (h : ¬ (x.toNat < 65 ∨ 90 < x.toNat)) (h2 : ¬ 50 < k * 26 + (x.toNat - 64)) : cutL k (x :: l) = cutL (k * 26 + (x.toNat - 64)) l := by rw [cutL, if_neg h, if_neg h2]
theorem cutL_le (l : List UInt8) : ∀ k, k ≤ 50 → (cutL k l).1 ≤ 50 := by
  induction l with
  | nil => intro k h; exact h
  | cons x l ih =>
    intro k h
    by_cases h1 : x.toNat < 65 ∨ 90 < x.toNat
    · rw [cutL_stop h1]; exact h
    · by_cases h2 : 50 < k * 26 + (x.toNat - 64)
      · rw [cutL_big h1 h2]; omega
      · rw [cutL_on h1 h2]; exact ih _ (by omega)
theorem u8_small {n : Nat} (h : n < 256) : (UInt8.ofNat n).toNat = n := by rw [UInt8.toNat_ofNat']; omega
theorem u8_back (x : UInt8) : UInt8.ofNat x.toNat = x := by apply UInt8.toNat_inj.1; rw [u8_small x.toNat_lt]
theorem cutL_col {c : Int} (h0 : 1 ≤ c) (h1 : c ≤ 50) (t : List UInt8) (ht : ∀ x l, t = x :: l → x.toNat < 65 ∨ 90 < x.toNat) : cutL 0 (colL c ++ t) = (c.toNat, t) := by
  have stop : ∀ k, cutL k t = (k, t) := by
    intro k
    cases t with
    | nil => rfl
    | cons x l => exact cutL_stop (ht x l rfl)
  unfold colL
  split
  · rename_i h
    have e := u8_small (n := 64 + c.toNat) (by omega)
    rw [List.cons_append, List.nil_append, cutL_on (by rw [e]; omega) (by rw [e]; omega), stop, e]
    congr 1; omega
  · rename_i h
    have e := u8_small (n := 38 + c.toNat) (by omega)
    rw [List.cons_append, List.cons_append, List.nil_append, cutL_on (by decide) (by decide), cutL_on (by rw [e]; omega) (by rw [e, show (65 : UInt8).toNat = 65 from rfl]; omega), stop, e]
    congr 1; rw [show (65 : UInt8).toNat = 65 from rfl]; omega
theorem cutL_inv {s t : List UInt8} {k : Nat} (h : cutL 0 s = (k, t)) (hk : k ≠ 0) : 1 ≤ k ∧ k ≤ 50 ∧ s = colL k ++ t := by
  cases s with
  | nil => rw [cutL_nil] at h; injection h with h1 h2; omega
  | cons x l =>
    by_cases h1 : x.toNat < 65 ∨ 90 < x.toNat
    · rw [cutL_stop h1] at h; injection h with h1 h2; omega
    · by_cases h2 : 50 < 0 * 26 + (x.toNat - 64)
      · rw [cutL_big h1 h2] at h; injection h with h1 h2; omega
      · rw [cutL_on h1 h2] at h
        have ex : ∀ m : Nat, m = x.toNat - 64 → colL m = [x] := by
          intro m hm
          unfold colL
          rw [if_pos (by omega), Int.toNat_natCast, show 64 + m = x.toNat by omega, u8_back]
        cases l with
        | nil =>
          rw [cutL_nil] at h; injection h with h3 h4
          subst h4
          rw [ex k (by omega)]
          exact ⟨by omega, by omega, rfl⟩
        | cons y l =>
          by_cases h3 : y.toNat < 65 ∨ 90 < y.toNat
          · rw [cutL_stop h3] at h; injection h with h4 h5
            subst h5
            rw [ex k (by omega)]
            exact ⟨by omega, by omega, rfl⟩
          · by_cases h4 : 50 < (0 * 26 + (x.toNat - 64)) * 26 + (y.toNat - 64)
            · rw [cutL_big h3 h4] at h; injection h with h5 h6; omega
            · rw [cutL_on h3 h4] at h
              have hx : x = 65 := by apply UInt8.toNat_inj.1; rw [show (65 : UInt8).toNat = 65 from rfl]; omega
              subst hx
              rw [show (65 : UInt8).toNat = 65 from rfl] at h h4
              have ey : ∀ m : Nat, m = 26 + (y.toNat - 64) → colL m = [65, y] := by
                intro m hm
                unfold colL
                rw [if_neg (by omega), Int.toNat_natCast, show 38 + m = y.toNat by omega, u8_back]
              cases l with
              | nil =>
                rw [cutL_nil] at h; injection h with h5 h6
                subst h6
                rw [ey k (by omega)]
                exact ⟨by omega, by omega, rfl⟩
              | cons z l =>
                by_cases h5 : z.toNat < 65 ∨ 90 < z.toNat
                · rw [cutL_stop h5] at h; injection h with h6 h7
                  subst h7
                  rw [ey k (by omega)]
                  exact ⟨by omega, by omega, rfl⟩
                · rw [cutL_big h5 (by omega)] at h; injection h with h6 h7; omega
theorem itoa_head {r : Int} {x : UInt8} {l : List UInt8} (h : 0 ≤ r) (e : Lib.itoa r = x :: l) : x.toNat < 65 ∨ 90 < x.toNat := by
  unfold Lib.itoa at e
  rw [if_neg (by omega)] at e
  have := decDigits_all r.toNat x (by rw [e]; exact List.mem_cons_self)
  omega
theorem itoa_ne (r : Int) : Lib.itoa r ≠ [] := by
  unfold Lib.itoa; split
  · simp
  · exact decDigits_ne _
/-- What a text names: whether it is a cell, its row, its column. -/
def pOK (s : List UInt8) : Bool := decide ((cutL 0 s).1 ≠ 0 ∧ parseB (cutL 0 s).2 = true ∧ 1 ≤ parseN (cutL 0 s).2 ∧ parseN (cutL 0 s).2 ≤ 1000)
def pR (s : List UInt8) : Int := if pOK s then parseN (cutL 0 s).2 else 0
def pC (s : List UInt8) : Int := if pOK s then ((cutL 0 s).1 : Int) else 0
theorem parse_is {l : List UInt8} (h : parseB l = true) : Lib.itoa (parseN l) = l := by
  unfold parseB at h; unfold parseN
  rcases ha : Lib.atoiAll l with v | _ | _
  · rw [ha] at h; simp only at h ⊢
    rw [if_pos (of_decide_eq_true h)]; exact of_decide_eq_true h
  · rw [ha] at h; cases h
  · rw [ha] at h; cases h
theorem p_some {r c : Int} {s : List UInt8} (h : Cell r c) (e : nameL r c = s) : pOK s = true ∧ pR s = r ∧ pC s = c := by
  have hh := h
  unfold Cell at hh
  rw [nameL_cell h] at e
  have h1 := cutL_col hh.2.1 hh.2.2 (Lib.itoa r) (fun x l e => itoa_head (by omega) e)
  rw [e] at h1
  have h2 := parse_some (cell_i64 h) rfl
  have h3 : pOK s = true := by
    unfold pOK; rw [h1]; simp only
    rw [h2.1, h2.2]
    exact decide_eq_true ⟨by omega, rfl, hh.1.1, hh.1.2⟩
  refine ⟨h3, ?_, ?_⟩
  · unfold pR; rw [h3, h1]; exact h2.1
  · unfold pC; rw [h3, h1]; simp only [if_true]; omega
theorem p_is {s : List UInt8} (h : pOK s = true) : Cell (pR s) (pC s) ∧ nameL (pR s) (pC s) = s := by
  have e1 : pR s = parseN (cutL 0 s).2 := by unfold pR; rw [h]; rfl
  have e2 : pC s = ((cutL 0 s).1 : Int) := by unfold pC; rw [h]; rfl
  unfold pOK at h
  obtain ⟨h1, h2, h3, h4⟩ := of_decide_eq_true h
  obtain ⟨g1, g2, g3⟩ := cutL_inv (s := s) (t := (cutL 0 s).2) (k := (cutL 0 s).1) rfl h1
  have hc : Cell (pR s) (pC s) := by rw [e1, e2]; unfold Cell; omega
  refine ⟨hc, ?_⟩
  rw [nameL_cell hc, e1, e2, parse_is h2]
  exact g3.symm
theorem p_none {s : List UInt8} (h : ∀ r c, Cell r c → nameL r c ≠ s) : pOK s = false ∧ pR s = 0 ∧ pC s = 0 := by
  have h3 : pOK s = false := by
    cases e : pOK s
    · rfl
    · exact absurd (p_is e).2 (h _ _ (p_is e).1)
  refine ⟨h3, ?_, ?_⟩
  · unfold pR; rw [h3]; rfl
  · unfold pC; rw [h3]; rfl
theorem name_inj {r c r' c' : Int} (h : Cell r c) (h' : Cell r' c') (e : nameL r c = nameL r' c') : r = r' ∧ c = c' := by
  have h1 := p_some h rfl
  have h2 := p_some h' e.symm
  exact ⟨h1.2.1.symm.trans h2.2.1, h1.2.2.symm.trans h2.2.2⟩
/-- One of column c alone is looked for. -/
theorem name_col {r c : Int} {s : List UInt8} (h : Cell r c) (e : nameL r c = s) : s.take (colL c).length = colL c ∧ (colL c).length < s.length ∧ s.drop (colL c).length = Lib.itoa r := by
  rw [nameL_cell h] at e
  subst e
  refine ⟨by rw [List.take_left], ?_, by rw [List.drop_left]⟩
  rw [List.length_append]
  have := List.length_pos_iff.2 (itoa_ne r)
  omega
theorem colL_len (c : Int) : (colL c).length = if c ≤ 26 then 1 else 2 := by unfold colL; split <;> rfl
end Go.Proofs.YtbgjdfghcnblcaaGreatDoor.AddrC

/-
  Plain facts on values: whether one is good, what it is as something else, their order. No program in it.
-/
namespace Go.Proofs.YtbgjdfghcnblcaaGreatDoor.ValueC
set_option linter.unusedVariables false
open Go.Proofs.YtbgjdfghcnblcaaGreatDoor.NumC

/-- A value's fields. -/
structure Val where
  k : Int
  n : Int
  s : ByteArray
  deriving DecidableEq
theorem Val.eq {a b : Val} (h1 : a.k = b.k) (h2 : a.n = b.n) (h3 : a.s = b.s) : a = b := by cases a; cases b; simp_all
def nos : ByteArray := { data := #[] }
theorem size_nos {s : ByteArray} (h : s.size = 0) : s = nos := by
  obtain ⟨⟨l⟩⟩ := s
  have : l.length = 0 := h
  rw [List.length_eq_zero_iff] at this
  subst this; rfl
/-- It is good. -/
def GoodP (a : Val) : Prop :=
  (a.k = 0 ∧ a.n = 0 ∧ a.s.size = 0) ∨ (a.k = 1 ∧ (a.n = 0 ∨ a.n = 1) ∧ a.s.size = 0) ∨ (a.k = 2 ∧ a.s.size = 0) ∨ (a.k = 3 ∧ a.n = 0 ∧ a.s.size ≤ 200) ∨ (a.k = 4 ∧ (1 ≤ a.n ∧ a.n ≤ 8) ∧ a.s.size = 0)
instance (a : Val) : Decidable (GoodP a) := by unfold GoodP; infer_instance
def goodB (a : Val) : Bool := decide (GoodP a)
theorem goodB_t {a : Val} (h : GoodP a) : goodB a = true := decide_eq_true h
theorem goodB_f {a : Val} (h : ¬ GoodP a) : goodB a = false := decide_eq_false h
def sameB (a b : Val) : Bool := decide (a = b)
/-- The fault of a code; a text as a value; nothing. -/
def failV (c : Int) : Val := if 1 ≤ c ∧ c ≤ 8 then ⟨4, c, nos⟩ else ⟨0, 0, nos⟩
def ofV (s : ByteArray) : Val := if 200 < s.size then ⟨4, 7, nos⟩ else ⟨3, 0, s⟩
def zeroV : Val := ⟨0, 0, nos⟩
theorem failV_yes {c : Int} (h : 1 ≤ c ∧ c ≤ 8) : failV c = ⟨4, c, nos⟩ := by unfold failV; rw [if_pos h]
theorem failV_no {c : Int} (h : ¬ (1 ≤ c ∧ c ≤ 8)) : failV c = zeroV := by unfold failV; rw [if_neg h]; rfl
/-- A fault's name. -/
def faultL (n : Int) : List UInt8 :=
  if n = 1 then [35, 68, 73, 86] else if n = 2 then [35, 79, 86, 69, 82] else if n = 3 then [35, 84, 89, 80, 69] else if n = 4 then [35, 82, 69, 70]
  else if n = 5 then [35, 65, 82, 71] else if n = 6 then [35, 76, 79, 79, 80] else if n = 7 then [35, 76, 79, 78, 71] else [35, 78, 79, 78, 69]
def trueL : List UInt8 := [84, 82, 85, 69]
def falseL : List UInt8 := [70, 65, 76, 83, 69]
/-- A value's text. -/
def showL (a : Val) : List UInt8 :=
  if goodB a then (if a.k = 1 then (if a.n = 1 then trueL else falseL) else if a.k = 2 then Lib.itoa a.n else if a.k = 4 then faultL a.n else a.s.data.toList) else [63]
/-- A value as a number, a truth, a text; and the fault. -/
def badF (a : Val) : Val := if goodB a then (if a.k = 4 then a else zeroV) else failV 3
def numN (a : Val) : Int := if goodB a then (if a.k = 4 then 0 else if a.k = 3 then parseN a.s.data.toList else a.n) else 0
def numF (a : Val) : Val := if goodB a && decide (a.k = 3) && !parseB a.s.data.toList then failV 3 else badF a
def flagB (a : Val) : Bool := if goodB a then (if a.k = 4 then false else if a.k = 3 then decide (a.s.data.toList = trueL) else decide (a.n ≠ 0)) else false
def flagF (a : Val) : Val := if goodB a && decide (a.k = 3) && !(decide (a.s.data.toList = trueL) || decide (a.s.data.toList = falseL)) then failV 3 else badF a
def strL (a : Val) : List UInt8 := if goodB a then (if a.k = 4 then [] else showL a) else []
/-- The order. -/
def rankN (k : Int) : Int := if k = 2 then 1 else if k = 3 then 2 else if k = 1 then 3 else 0
def bl (x y : ByteArray) : Bool := Op.bytesLess x.data.toList y.data.toList
theorem bl_irrefl' : ∀ x : List UInt8, Op.bytesLess x x = false := by
  intro x
  induction x with
  | nil => rfl
  | cons a x ih => simp [Op.bytesLess, ih]
theorem bl_trans' : ∀ x y z : List UInt8, Op.bytesLess x y = true → Op.bytesLess y z = true → Op.bytesLess x z = true := by
  intro x
  induction x with
  | nil =>
    intro y z h1 h2
    cases z with
    | nil => cases y <;> simp [Op.bytesLess] at h2
    | cons c z => rfl
  | cons a x ih =>
    intro y z h1 h2
    cases y with
    | nil => simp [Op.bytesLess] at h1
    | cons b y =>
      cases z with
      | nil => simp [Op.bytesLess] at h2
      | cons c z =>
        simp only [Op.bytesLess, Bool.or_eq_true, Bool.and_eq_true, decide_eq_true_iff, beq_iff_eq] at h1 h2 ⊢
        rcases h1 with h1 | ⟨rfl, h1⟩
        · rcases h2 with h2 | ⟨rfl, h2⟩
          · left; rw [UInt8.lt_iff_toNat_lt] at *; omega
          · left; exact h1
        · rcases h2 with h2 | ⟨rfl, h2⟩
          · left; exact h2
          · right; exact ⟨rfl, ih y z h1 h2⟩
theorem bl_tri' : ∀ x y : List UInt8, Op.bytesLess x y = false → Op.bytesLess y x = false → x = y := by
  intro x
  induction x with
  | nil =>
    intro y h1 h2
    cases y with
    | nil => rfl
    | cons b y => simp [Op.bytesLess] at h1
  | cons a x ih =>
    intro y h1 h2
    cases y with
    | nil => simp [Op.bytesLess] at h2
    | cons b y =>
      simp only [Op.bytesLess, Bool.or_eq_false_iff, decide_eq_false_iff_not, Bool.and_eq_false_iff, beq_eq_false_iff_ne] at h1 h2
      have hab : a = b := by
        apply UInt8.toNat_inj.1
        have := h1.1; have := h2.1
        rw [UInt8.lt_iff_toNat_lt] at *; omega
      subst hab
      rw [ih y (h1.2.resolve_left (fun h => h rfl)) (h2.2.resolve_left (fun h => h rfl))]
theorem bl_irrefl (x : ByteArray) : bl x x = false := bl_irrefl' _
theorem bl_trans {x y z : ByteArray} (h1 : bl x y = true) (h2 : bl y z = true) : bl x z = true := bl_trans' _ _ _ h1 h2
theorem bl_tri {x y : ByteArray} (h1 : bl x y = false) (h2 : bl y x = false) : x = y := by
  have := bl_tri' _ _ h1 h2
  obtain ⟨⟨l⟩⟩ := x; obtain ⟨⟨m⟩⟩ := y
  have e : l = m := this
  subst e; rfl
def ltP (a b : Val) : Prop := rankN a.k < rankN b.k ∨ (rankN a.k = rankN b.k ∧ (a.n < b.n ∨ (a.n = b.n ∧ bl a.s b.s = true)))
instance (a b : Val) : Decidable (ltP a b) := by unfold ltP; infer_instance
theorem ltP_irrefl (a : Val) : ¬ ltP a a := by
  unfold ltP
  rintro (h | ⟨-, h | ⟨-, h⟩⟩)
  · omega
  · omega
  · rw [bl_irrefl] at h; cases h
theorem ltP_trans {a b c : Val} (h1 : ltP a b) (h2 : ltP b c) : ltP a c := by
  unfold ltP at *
  rcases h1 with h1 | ⟨h1, h1' | ⟨h1', h1''⟩⟩ <;> rcases h2 with h2 | ⟨h2, h2' | ⟨h2', h2''⟩⟩ <;> first | (left; omega) | (right; refine ⟨by omega, ?_⟩; first | (left; omega) | (right; exact ⟨by omega, bl_trans h1'' h2''⟩))
/-- Both can be held against each other. -/
def Ord (a : Val) : Prop := GoodP a ∧ a.k ≠ 4
instance (a : Val) : Decidable (Ord a) := by unfold Ord; infer_instance
def cmpB (a b : Val) : Bool := decide (Ord a ∧ Ord b)
def cmpN (a b : Val) : Int := if Ord a ∧ Ord b then (if ltP a b then -1 else if ltP b a then 1 else 0) else 0
theorem ltP_tri {a b : Val} (ha : Ord a) (hb : Ord b) (h1 : ¬ ltP a b) (h2 : ¬ ltP b a) : a = b := by
  unfold ltP at h1 h2
  have hr : rankN a.k = rankN b.k := by omega
  have hk : a.k = b.k := by
    obtain ⟨ha, ha4⟩ := ha; obtain ⟨hb, hb4⟩ := hb
    unfold GoodP at ha hb; unfold rankN at hr
    have : a.k = 0 ∨ a.k = 1 ∨ a.k = 2 ∨ a.k = 3 := by omega
    have : b.k = 0 ∨ b.k = 1 ∨ b.k = 2 ∨ b.k = 3 := by omega
    split at hr <;> split at hr <;> (try split at hr) <;> (try split at hr) <;> (try split at hr) <;> (try split at hr) <;> omega
  have hn : a.n = b.n := by omega
  refine Val.eq hk hn (bl_tri ?_ ?_)
  · cases h : bl a.s b.s
    · rfl
    · exact absurd (Or.inr ⟨hr, Or.inr ⟨hn, h⟩⟩) h1
  · cases h : bl b.s a.s
    · rfl
    · exact absurd (Or.inr ⟨hr.symm, Or.inr ⟨hn.symm, h⟩⟩) h2
theorem cmp_comm (a b : Val) : cmpB b a = cmpB a b ∧ cmpN b a = -cmpN a b := by
  refine ⟨by unfold cmpB; rw [decide_eq_decide]; exact And.comm, ?_⟩
  unfold cmpN
  by_cases h : Ord a ∧ Ord b
  · rw [if_pos h, if_pos h.symm]
    by_cases h1 : ltP a b
    · have h2 : ¬ ltP b a := fun h2 => ltP_irrefl a (ltP_trans h1 h2)
      rw [if_pos h1, if_neg h2, if_pos h1]; rfl
    · by_cases h2 : ltP b a
      · simp [h1, h2]
      · simp [h1, h2]
  · rw [if_neg h, if_neg (fun e => h e.symm)]; rfl
theorem cmpB_iff {a b : Val} : cmpB a b = true ↔ Ord a ∧ Ord b := by unfold cmpB; exact decide_eq_true_iff
theorem cmp_zero {a b : Val} (h : cmpB a b = true) : cmpN a b = 0 ↔ a = b := by
  have hh := cmpB_iff.1 h
  unfold cmpN
  rw [if_pos hh]
  constructor
  · intro h0
    by_cases h1 : ltP a b
    · rw [if_pos h1] at h0; omega
    · by_cases h2 : ltP b a
      · rw [if_neg h1, if_pos h2] at h0; omega
      · exact ltP_tri hh.1 hh.2 h1 h2
  · rintro rfl
    rw [if_neg (ltP_irrefl a), if_neg (ltP_irrefl a)]
theorem cmp_le {a b : Val} (h : cmpB a b = true) : cmpN a b ≤ 0 ↔ ¬ ltP b a := by
  have hh := cmpB_iff.1 h
  unfold cmpN
  rw [if_pos hh]
  by_cases h1 : ltP a b
  · have h2 : ¬ ltP b a := fun h2 => ltP_irrefl a (ltP_trans h1 h2)
    rw [if_pos h1]; exact ⟨fun _ => h2, fun _ => by omega⟩
  · by_cases h2 : ltP b a
    · rw [if_neg h1, if_pos h2]; exact ⟨fun h => by omega, fun h => absurd h2 h⟩
    · rw [if_neg h1, if_neg h2]; exact ⟨fun _ => h2, fun _ => by omega⟩
theorem cmp_trans {a b c : Val} (h1 : cmpB a b = true) (h2 : cmpB b c = true) (h3 : cmpB a c = true) (x : cmpN a b ≤ 0) (z : cmpN b c ≤ 0) : cmpN a c ≤ 0 := by
  rw [cmp_le h1] at x; rw [cmp_le h2] at z; rw [cmp_le h3]
  intro hca
  have ho := cmpB_iff.1 h1; have ho2 := cmpB_iff.1 h2
  by_cases h : ltP a b
  · exact z (ltP_trans hca h)
  · have := ltP_tri ho.1 ho.2 h x
    subst this; exact z hca
theorem cmp_same {a b c : Val} (h1 : cmpB a b = true) (x : cmpN a b = 0) : cmpN a c = cmpN b c := by rw [(cmp_zero h1).1 x]
end Go.Proofs.YtbgjdfghcnblcaaGreatDoor.ValueC
