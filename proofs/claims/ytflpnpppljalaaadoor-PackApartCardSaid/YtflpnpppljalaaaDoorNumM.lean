/-
  Plain arithmetic for package num: sizes of numbers, a number or that there is none. No program in it.
-/
import Derived.WalkKit
namespace Go.Proofs.YtflpnpppljalaaaDoor.NumC
set_option linter.unusedVariables false
open Go.RowKit

/-- It is an int64. -/
def I64 (a : Int) : Prop := -9223372036854775808 ≤ a ∧ a ≤ 9223372036854775807
instance (n : Int) : Decidable (I64 n) := by unfold I64; infer_instance
/-- It is a uint64. -/
def U64 (a : Int) : Prop := 0 ≤ a ∧ a ≤ 18446744073709551615
theorem i64_of_wf {a : Int} (h : (Lit.int .i64 a).wf = true) : I64 a := by
  simp [Lit.wf, IntKind.min, IntKind.max, IntKind.signed, IntKind.bits] at h; unfold I64; omega
/-- The size of a number. -/
def siz (a : Int) : Int := if a < 0 then -a else a
theorem siz_neg {a : Int} (h : a < 0) : siz a = -a := by unfold siz; rw [if_pos h]
theorem siz_pos {a : Int} (h : ¬ a < 0) : siz a = a := by unfold siz; rw [if_neg h]
theorem siz_bd {a : Int} (h : I64 a) : 0 ≤ siz a ∧ siz a ≤ 9223372036854775808 := by unfold siz I64 at *; split <;> omega
theorem siz_nonneg (a : Int) : 0 ≤ siz a := by unfold siz; split <;> omega
theorem siz_natAbs (a : Int) : siz a = (a.natAbs : Int) := by unfold siz; split <;> omega
theorem wrap_neg {a : Int} (h1 : a < 0) (h : I64 a) : IntKind.u64.wrap (-IntKind.u64.wrap a) = siz a := by
  rw [siz_neg h1, IntKind.wrap_u64, IntKind.wrap_u64]; unfold I64 at h; omega
theorem wrap_pos {a : Int} (h1 : ¬ a < 0) (h : I64 a) : IntKind.u64.wrap a = siz a := by
  rw [siz_pos h1, IntKind.wrap_u64]; unfold I64 at h; omega
theorem ret3 {x y x' y' : Int} {b b' : Bool} (hx : x = x') (hy : y = y') (hb : b = b') : Ending.returned (.tuple #[.int .u64 x, .int .u64 y, .bool b]) = .returned (.tuple #[.int .u64 x', .int .u64 y', .bool b']) := by subst hx hy hb; rfl
theorem ret2 {x x' : Int} {b b' : Bool} (hx : x = x') (hb : b = b') : Ending.returned (.tuple #[.int .i64 x, .bool b]) = .returned (.tuple #[.int .i64 x', .bool b']) := by subst hx hb; rfl
theorem ret1 {b b' : Bool} (hb : b = b') : Ending.returned (.bool b) = .returned (.bool b') := by subst hb; rfl

/-- A number that may be no int64: it, or 0; and whether it is one. -/
def fitN (n : Int) : Int := if I64 n then n else 0
def fitB (n : Int) : Bool := decide (I64 n)
theorem fitN_yes {n : Int} (h : I64 n) : fitN n = n := by unfold fitN; rw [if_pos h]
theorem fitN_no {n : Int} (h : ¬ I64 n) : fitN n = 0 := by unfold fitN; rw [if_neg h]
theorem fitB_yes {n : Int} (h : I64 n) : fitB n = true := by unfold fitB; exact decide_eq_true h
theorem fitB_no {n : Int} (h : ¬ I64 n) : fitB n = false := by unfold fitB; exact decide_eq_false h
theorem fitN_i64 (n : Int) : I64 (fitN n) := by unfold fitN; split; assumption; unfold I64; omega
/-- A size with a sign. -/
def sgd (b : Bool) (u : Int) : Int := if b then -u else u
theorem sgd_siz (a : Int) : sgd (decide (a < 0)) (siz a) = a := by unfold sgd siz; by_cases h : a < 0 <;> simp [h]
theorem wrap_back {u : Int} (h0 : 0 ≤ u) (h1 : u ≤ 9223372036854775808) : wrap64 (IntKind.u64.wrap (-u)) = -u := by
  unfold wrap64; rw [IntKind.wrap_u64]; omega
theorem i64_sgd_f {u : Int} (h0 : 0 ≤ u) (h1 : u < 9223372036854775808) : I64 (sgd false u) := by show I64 u; unfold I64; omega
theorem i64_sgd_f' {u : Int} (h1 : ¬ u < 9223372036854775808) : ¬ I64 (sgd false u) := by show ¬ I64 u; unfold I64; omega
theorem i64_sgd_t {u : Int} (h0 : 0 ≤ u) (h1 : u ≤ 9223372036854775808) : I64 (sgd true u) := by show I64 (-u); unfold I64; omega
theorem i64_sgd_t' {u : Int} (h1 : ¬ u ≤ 9223372036854775808) : ¬ I64 (sgd true u) := by show ¬ I64 (-u); unfold I64; omega
theorem sgd_f (u : Int) : sgd false u = u := rfl
theorem sgd_t (u : Int) : sgd true u = -u := rfl
theorem i64_wrap (n : Int) : I64 (wrap64 n) := by unfold I64 wrap64; omega
theorem wrap_i64 {n : Int} (h : I64 n) : wrap64 n = n := by unfold I64 at h; unfold wrap64; omega
/-- Just one of two is below 0. -/
def apartB (a b : Int) : Bool := decide (a < 0) != decide (b < 0)
theorem apartB_t {a b : Int} : apartB a b = true ↔ (a < 0 ∧ 0 ≤ b ∨ 0 ≤ a ∧ b < 0) := by
  unfold apartB; by_cases h : a < 0 <;> by_cases h' : b < 0 <;> simp [h, h'] <;> omega
theorem apartB_f {a b : Int} : apartB a b = false ↔ (a < 0 ∧ b < 0 ∨ 0 ≤ a ∧ 0 ≤ b) := by
  unfold apartB; by_cases h : a < 0 <;> by_cases h' : b < 0 <;> simp [h, h'] <;> omega
theorem add_over {a b : Int} (ha : I64 a) (hb : I64 b) (h : apartB a b = false) (h' : apartB a (wrap64 (a + b)) = true) : ¬ I64 (a + b) := by
  rw [apartB_f] at h; rw [apartB_t] at h'; unfold I64 at *; unfold wrap64 at h'; omega
theorem add_fits {a b : Int} (ha : I64 a) (hb : I64 b) (h : apartB a b = false) (h' : apartB a (wrap64 (a + b)) = false) : I64 (a + b) := by
  rw [apartB_f] at h; rw [apartB_f] at h'; unfold I64 at *; unfold wrap64 at h'; omega
theorem add_apart {a b : Int} (ha : I64 a) (hb : I64 b) (h : apartB a b = true) : I64 (a + b) := by
  rw [apartB_t] at h; unfold I64 at *; omega
theorem sub_over {a b : Int} (ha : I64 a) (hb : I64 b) (h : apartB a b = true) (h' : apartB a (wrap64 (a - b)) = true) : ¬ I64 (a - b) := by
  rw [apartB_t] at h; rw [apartB_t] at h'; unfold I64 at *; unfold wrap64 at h'; omega
theorem sub_fits {a b : Int} (ha : I64 a) (hb : I64 b) (h : apartB a b = true) (h' : apartB a (wrap64 (a - b)) = false) : I64 (a - b) := by
  rw [apartB_t] at h; rw [apartB_f] at h'; unfold I64 at *; unfold wrap64 at h'; omega
theorem sub_apart {a b : Int} (ha : I64 a) (hb : I64 b) (h : apartB a b = false) : I64 (a - b) := by
  rw [apartB_f] at h; unfold I64 at *; omega
theorem sgd_mul (a b : Int) : sgd (apartB a b) (siz a * siz b) = a * b := by
  unfold sgd apartB siz
  by_cases h : a < 0 <;> by_cases h' : b < 0 <;> simp [h, h', Int.neg_mul, Int.mul_neg]
theorem siz_mul_nonneg (a b : Int) : 0 ≤ siz a * siz b := Int.mul_nonneg (siz_nonneg a) (siz_nonneg b)
theorem mul_over {a b : Int} (h : ¬ siz a * siz b ≤ 18446744073709551615) : ¬ I64 (a * b) := by
  intro h2
  rw [← sgd_mul a b] at h2
  unfold sgd I64 at h2
  generalize siz a * siz b = p at *
  split at h2 <;> omega
theorem sgd_div (a b : Int) : sgd (apartB a b) (siz a / siz b) = a.tdiv b := by
  have e (x y : Int) (hx : 0 ≤ x) : x / y = x.tdiv y := (Int.tdiv_eq_ediv_of_nonneg hx).symm
  rw [e _ _ (siz_nonneg a)]
  unfold sgd apartB siz
  by_cases h : a < 0 <;> by_cases h' : b < 0 <;> simp [h, h', Int.neg_tdiv, Int.tdiv_neg]
theorem siz_div_bd {a b : Int} (ha : I64 a) (hb : b ≠ 0) : 0 ≤ siz a / siz b ∧ siz a / siz b ≤ 9223372036854775808 := by
  have h1 := siz_bd ha
  have h2 : 0 < siz b := by unfold siz; split <;> omega
  exact ⟨Int.ediv_nonneg h1.1 (by omega), Int.le_trans (Int.ediv_le_self _ h1.1) h1.2⟩
theorem siz_pos' {b : Int} (hb : b ≠ 0) : 1 ≤ siz b := by unfold siz; split <;> omega
/-- The quotient's, the rest's answer. -/
def divN (a b : Int) : Int := if b = 0 then 0 else fitN (a.tdiv b)
def divB (a b : Int) : Bool := if b = 0 then false else fitB (a.tdiv b)
def modN (a b : Int) : Int := if divB a b then a.tmod b else 0
theorem divN_0 (a : Int) : divN a 0 = 0 := rfl
theorem divB_0 (a : Int) : divB a 0 = false := rfl
theorem divN_1 {a b : Int} (h : b ≠ 0) : divN a b = fitN (a.tdiv b) := by unfold divN; rw [if_neg h]
theorem divB_1 {a b : Int} (h : b ≠ 0) : divB a b = fitB (a.tdiv b) := by unfold divB; rw [if_neg h]
theorem tmod_i64 {a b : Int} (ha : I64 a) (hb : I64 b) : I64 (a.tmod b) := by
  have h1 : (a.tmod b).natAbs ≤ a.natAbs := by rw [Int.natAbs_tmod]; exact Nat.mod_le _ _
  unfold I64 at *
  by_cases h : 0 ≤ a
  · have := Int.tmod_nonneg b h; omega
  · have h3 : 0 ≤ (-a).tmod b := Int.tmod_nonneg b (by omega)
    rw [Int.neg_tmod] at h3; omega
theorem mod_eq {a b : Int} (ha : I64 a) (hb : I64 b) (h : divB a b = true) : wrap64 (a - wrap64 (b * divN a b)) = a.tmod b := by
  have hb0 : b ≠ 0 := by intro e; subst e; cases h
  rw [divB_1 hb0] at h
  have hq : I64 (a.tdiv b) := by unfold fitB at h; exact of_decide_eq_true h
  rw [divN_1 hb0, fitN_yes hq]
  have e := Int.mul_tdiv_add_tmod a b
  have hm := tmod_i64 ha hb
  generalize b * a.tdiv b = p at *
  unfold I64 at *; unfold wrap64; omega
/-- A power. -/
def pw (a : Int) (k : Nat) : Int := a ^ k
theorem pw_0 (a : Int) : pw a 0 = 1 := by unfold pw; exact Int.pow_zero a
theorem pw_succ (a : Int) (k : Nat) : pw a k * a = pw a (k + 1) := by unfold pw; rw [Int.pow_succ]
theorem pw_natAbs (a : Int) (k : Nat) : (pw a k).natAbs = a.natAbs ^ k := by unfold pw; exact Int.natAbs_pow a k
/-- What has grown too great never shrinks again. -/
theorem pw_over {a : Int} {k n : Nat} (h2 : 2 ≤ a.natAbs) (h : ¬ I64 (pw a k)) (hkn : k ≤ n) : ¬ I64 (pw a n) := by
  rcases Nat.lt_or_eq_of_le hkn with hlt | rfl
  · have e1 := pw_natAbs a k
    have e2 := pw_natAbs a n
    have h3 : 9223372036854775808 ≤ a.natAbs ^ k := by
      rw [← e1]; unfold I64 at h; omega
    have h4 : a.natAbs ^ (k + 1) ≤ a.natAbs ^ n := Nat.pow_le_pow_right (by omega) hlt
    rw [Nat.pow_succ] at h4
    have h5 : 9223372036854775808 * 2 ≤ a.natAbs ^ k * a.natAbs := Nat.mul_le_mul h3 h2
    intro hi
    unfold I64 at hi
    omega
  · exact h
/-- How often Pow goes round: of what never grows as often as it must. -/
def rounds (a b : Int) : Int := if -1 ≤ a ∧ a ≤ 1 then min b (2 - b % 2) else b
theorem rounds_bd {a b : Int} (h0 : 0 ≤ b) : 0 ≤ rounds a b ∧ rounds a b ≤ b := by
  unfold rounds; split <;> omega
theorem pw_two (a : Int) (h : -1 ≤ a) (h' : a ≤ 1) (k m : Nat) (hk : 1 ≤ k) (hm : 1 ≤ m) (hp : k % 2 = m % 2) : pw a k = pw a m := by
  have key (k : Nat) (hk : 1 ≤ k) : pw a k = if k % 2 = 0 then a * a else a := by
    induction k with
    | zero => omega
    | succ k ih =>
      by_cases h0 : k = 0
      · subst h0; rw [← pw_succ, pw_0]; simp
      · rw [← pw_succ, ih (by omega)]
        have ha : a = -1 ∨ a = 0 ∨ a = 1 := by omega
        by_cases h1 : k % 2 = 0
        · have h2 : ¬ (k + 1) % 2 = 0 := by omega
          rw [if_pos h1, if_neg h2]
          rcases ha with rfl | rfl | rfl <;> rfl
        · have h2 : (k + 1) % 2 = 0 := by omega
          rw [if_neg h1, if_pos h2]
  rw [key k hk, key m hm, hp]
theorem pw_rounds {a b : Int} (h0 : 0 ≤ b) : pw a (rounds a b).toNat = pw a b.toNat := by
  unfold rounds
  split
  · rename_i h
    by_cases h2 : b ≤ 2 - b % 2
    · rw [show min b (2 - b % 2) = b from by omega]
    · exact pw_two a h.1 h.2 _ _ (by omega) (by omega) (by omega)
  · rfl
/-- Pow's answer. -/
def powN (a b : Int) : Int := if b < 0 then 0 else fitN (pw a b.toNat)
def powB (a b : Int) : Bool := if b < 0 then false else fitB (pw a b.toNat)
theorem powN_neg {a b : Int} (h : b < 0) : powN a b = 0 := by unfold powN; rw [if_pos h]
theorem powB_neg {a b : Int} (h : b < 0) : powB a b = false := by unfold powB; rw [if_pos h]
theorem powN_pos {a b : Int} (h : 0 ≤ b) : powN a b = fitN (pw a (rounds a b).toNat) := by unfold powN; rw [if_neg (by omega), pw_rounds h]
theorem powB_pos {a b : Int} (h : 0 ≤ b) : powB a b = fitB (pw a (rounds a b).toNat) := by unfold powB; rw [if_neg (by omega), pw_rounds h]
theorem pw_small {a : Int} (h : a.natAbs ≤ 1) (k : Nat) : I64 (pw a k) := by
  have e := pw_natAbs a k
  have : a.natAbs ^ k ≤ 1 := by
    have := Nat.pow_le_pow_left h k
    rwa [Nat.one_pow] at this
  unfold I64; omega
theorem pw_stop {a : Int} {k n : Nat} (h : ¬ I64 (pw a k)) (hkn : k ≤ n) : ¬ I64 (pw a n) :=
  pw_over (by rcases Nat.lt_or_ge a.natAbs 2 with h2 | h2; exact absurd (pw_small (by omega) k) h; exact h2) h hkn
theorem pw_before {a : Int} {k n : Nat} (h : I64 (pw a n)) (hkn : k ≤ n) : I64 (pw a k) := by
  by_cases g : I64 (pw a k)
  · exact g
  · exact absurd h (pw_stop g hkn)
/-- The greatest number that divides both. -/
def gcdI (x y : Int) : Int := (Nat.gcd x.natAbs y.natAbs : Int)
theorem gcdI_step {x y : Int} (hx : 0 ≤ x) (hy : 0 ≤ y) : gcdI y (x % y) = gcdI x y := by
  obtain ⟨m, rfl⟩ := Int.eq_ofNat_of_zero_le hx
  obtain ⟨n, rfl⟩ := Int.eq_ofNat_of_zero_le hy
  unfold gcdI
  rw [← Int.natCast_emod]
  simp only [Int.natAbs_natCast]
  congr 1
  rw [Nat.gcd_comm m n, Nat.gcd_rec n m, Nat.gcd_comm]
theorem gcdI_0 {x : Int} (hx : 0 ≤ x) : gcdI x 0 = x := by
  obtain ⟨m, rfl⟩ := Int.eq_ofNat_of_zero_le hx
  unfold gcdI; simp
theorem gcdI_siz (a b : Int) : gcdI (siz a) (siz b) = gcdI a b := by unfold gcdI; rw [siz_natAbs, siz_natAbs]; simp
end Go.Proofs.YtflpnpppljalaaaDoor.NumC
