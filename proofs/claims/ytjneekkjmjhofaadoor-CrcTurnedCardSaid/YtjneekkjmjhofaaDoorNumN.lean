/-
  Plain facts on decimal numerals: a numeral of an int64 is read back as it; what a text says, if it is a numeral. No program in it.
-/
import Derived.Test.YtjneekkjmjhofaaDoorNumM
import Derived.Lib.ItoaNum
import Derived.Lib.ItoaMem
import Derived.Lib.AtoiAll
import Derived.Lib.ParseIntBTie
namespace Go.Proofs.YtjneekkjmjhofaaDoor.NumC
set_option linter.unusedVariables false
open Go.Lib

theorem dig_toNat {d : Nat} (h : d < 10) : (UInt8.ofNat (48 + d)).toNat = 48 + d := by
  rw [UInt8.toNat_ofNat']; omega
theorem decDigits_all (u : Nat) : ∀ c ∈ decDigits u, 48 ≤ c.toNat ∧ c.toNat ≤ 57 := by
  induction u using Nat.strongRecOn with
  | _ u ih =>
    intro c hc
    rw [decDigits] at hc
    split at hc
    · rename_i h
      simp only [List.mem_singleton] at hc
      subst hc; rw [dig_toNat h]; omega
    · rename_i h
      rw [List.mem_append] at hc
      rcases hc with hc | hc
      · exact ih (u / 10) (by omega) c hc
      · simp only [List.mem_singleton] at hc
        subst hc; rw [dig_toNat (by omega)]; omega
theorem decDigits_ne (u : Nat) : decDigits u ≠ [] := by
  intro h
  have := decDigits_length u
  rw [h] at this
  have := nDigits_pos u
  simp at *; omega
/-- The number that digits spell. -/
def val (l : List UInt8) : Nat := l.foldl (fun a c => a * 10 + (c.toNat - 48)) 0
theorem val_snoc (l : List UInt8) (c : UInt8) : val (l ++ [c]) = val l * 10 + (c.toNat - 48) := by unfold val; rw [List.foldl_append]; rfl
theorem val_decDigits (u : Nat) : val (decDigits u) = u := by
  induction u using Nat.strongRecOn with
  | _ u ih =>
    rw [decDigits]
    split
    · rename_i h
      show 0 * 10 + ((UInt8.ofNat (48 + u)).toNat - 48) = u
      rw [dig_toNat h]; omega
    · rename_i h
      rw [val_snoc, ih (u / 10) (by omega), dig_toNat (by omega)]; omega
theorem foldl_ge (r : List UInt8) : ∀ a : Nat, a ≤ r.foldl (fun a c => a * 10 + (c.toNat - 48)) a := by
  induction r with
  | nil => intro a; exact Nat.le_refl _
  | cons c r ih => intro a; rw [List.foldl_cons]; have := ih (a * 10 + (c.toNat - 48)); omega
theorem val_more (t r : List UInt8) (hr : r ≠ []) : val t * 10 ≤ val (t ++ r) := by
  cases r with
  | nil => exact absurd rfl hr
  | cons c r =>
    unfold val
    rw [List.foldl_append, List.foldl_cons]
    have := foldl_ge r ((t.foldl (fun a c => a * 10 + (c.toNat - 48)) 0) * 10 + (c.toNat - 48))
    omega
theorem parseUint10_snoc (l : List UInt8) (c : UInt8) : ∀ acc v, parseUint10 acc l = .ok v → parseUint10 acc (l ++ [c]) = parseUint10 v [c] := by
  induction l with
  | nil => intro acc v h; simp only [parseUint10] at h; injection h with h; subst h; rfl
  | cons d l ih =>
    intro acc v h
    simp only [parseUint10, List.cons_append] at h ⊢
    split at h
    · rename_i h1
      rw [if_pos h1]
      split at h
      · cases h
      · rename_i h2
        rw [if_neg h2]
        split at h
        · cases h
        · rename_i h3
          rw [if_neg h3]
          exact ih _ _ h
    · cases h
theorem parseUint10_digits (u : Nat) (hu : u < 18446744073709551616) : parseUint10 0 (decDigits u) = .ok u := by
  induction u using Nat.strongRecOn with
  | _ u ih =>
    rw [decDigits]
    split
    · rename_i h
      simp only [parseUint10, dig_toNat h]
      rw [if_pos (by omega), if_neg (by omega), if_neg (by omega)]
      congr 1; omega
    · rename_i h
      rw [parseUint10_snoc _ _ _ _ (ih (u / 10) (by omega) (by omega))]
      simp only [parseUint10, dig_toNat (show u % 10 < 10 by omega)]
      rw [if_pos (by omega), if_neg (by omega), if_neg (by omega)]
      congr 1; omega
theorem parseMag_digits (u : Nat) (hu : u < 18446744073709551616) : parseMag (decDigits u) = .ok u := by
  unfold parseMag; rw [if_neg (decDigits_ne u)]; exact parseUint10_digits u hu
theorem atoi_itoa {n : Int} (h : I64 n) : atoiAll (itoa n) = .ok n := by
  unfold I64 at h
  by_cases h0 : n < 0
  · have e : itoa n = 45 :: decDigits n.natAbs := by unfold itoa; rw [if_pos h0]
    rw [e]
    simp only [atoiAll]
    rw [if_pos (by decide), parseMag_digits _ (by omega)]
    simp only
    rw [if_neg (by simp), if_neg (by omega)]
    rw [if_pos (by decide)]
    congr 1
    all_goals omega
  · have e : itoa n = decDigits n.toNat := by unfold itoa; rw [if_neg h0]
    rw [e]
    cases hd : decDigits n.toNat with
    | nil => exact absurd hd (decDigits_ne _)
    | cons c r =>
      have hc := decDigits_all n.toNat c (by rw [hd]; exact List.mem_cons_self)
      simp only [atoiAll]
      rw [if_neg (by omega), ← hd, parseMag_digits _ (by omega)]
      simp only
      rw [if_neg (by omega), if_neg (by omega), if_neg (by omega)]
      congr 1
      all_goals omega
theorem itoa_inj {n m : Int} (hn : I64 n) (hm : I64 m) (h : itoa n = itoa m) : n = m := by
  have h1 := atoi_itoa hn
  rw [h, atoi_itoa hm] at h1
  injection h1 with h1; exact h1.symm

/-- What a text says, if it is some int64's numeral. -/
def parseN (l : List UInt8) : Int := match atoiAll l with | .ok v => if itoa v = l then v else 0 | _ => 0
def parseB (l : List UInt8) : Bool := match atoiAll l with | .ok v => decide (itoa v = l) | _ => false
theorem parse_some {l : List UInt8} {m : Int} (hm : I64 m) (h : itoa m = l) : parseN l = m ∧ parseB l = true := by
  subst h; unfold parseN parseB; rw [atoi_itoa hm]; simp
theorem atoi_i64 {l : List UInt8} {v : Int} (h : atoiAll l = .ok v) : I64 v := by
  rw [← parseIntB_64] at h
  have := parseIntB_bounds h
  unfold I64; omega
theorem parse_none {l : List UInt8} (h : ∀ m, I64 m → itoa m ≠ l) : parseN l = 0 ∧ parseB l = false := by
  unfold parseN parseB
  rcases ha : atoiAll l with v | _ | _
  · have := h v (atoi_i64 ha)
    simp [this]
  · simp
  · simp
theorem parseN_i64 (l : List UInt8) : I64 (parseN l) := by
  unfold parseN
  rcases ha : atoiAll l with v | _ | _
  · simp only
    split
    · exact atoi_i64 ha
    · decide
  · simp only; decide
  · simp only; decide
theorem nDigits_le {u k : Nat} (h : u < 10 ^ k) (hk : 1 ≤ k) : nDigits u ≤ k := by
  induction k generalizing u with
  | zero => omega
  | succ k ih =>
    by_cases h1 : u < 10
    · rw [nDigits_small h1]; omega
    · rw [nDigits_big h1]
      have hk1 : 1 ≤ k := by
        rcases Nat.eq_zero_or_pos k with e | e
        · subst e; simp at h; omega
        · exact e
      have := ih (u := u / 10) (by rw [Nat.pow_succ] at h; omega) hk1
      omega
theorem itoa_len {n : Int} (h : I64 n) : 1 ≤ (itoa n).length ∧ (itoa n).length ≤ 20 := by
  unfold I64 at h
  have h3 : n.natAbs < 10 ^ 19 := by omega
  have h2 := nDigits_le (k := 19) h3 (by omega)
  have h4 := nDigits_pos n.natAbs
  unfold itoa
  split
  · rw [List.length_cons, decDigits_length]; omega
  · rename_i h0
    have e : n.toNat = n.natAbs := by omega
    rw [e, decDigits_length]; omega
end Go.Proofs.YtjneekkjmjhofaaDoor.NumC
