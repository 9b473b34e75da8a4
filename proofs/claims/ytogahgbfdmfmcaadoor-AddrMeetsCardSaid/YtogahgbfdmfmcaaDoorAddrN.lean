/-
  Plain facts for the statement AddrMeets: counting, and looking for, the cells of a rectangle, one by one. No program in it but by name.
-/
import Derived.Test.YtogahgbfdmfmcaaDoorAddrB
namespace Go.Proofs.YtogahgbfdmfmcaaDoor.AddrC
set_option linter.unusedVariables false
open Go.RowKit Go.Proofs.YtogahgbfdmfmcaaDoor.NumC

/-- How many of the first y cells of row x; of the first x rows. -/
def rowN (f : Nat → Nat → Bool) (x : Nat) : Nat → Nat
  | 0 => 0
  | y + 1 => rowN f x y + (if f x (y + 1) then 1 else 0)
def allN (f : Nat → Nat → Bool) : Nat → Nat
  | 0 => 0
  | x + 1 => allN f x + rowN f (x + 1) 9
/-- Whether one of the first y cells of row x; of the first x rows. -/
def rowS (f : Nat → Nat → Bool) (x : Nat) : Nat → Bool
  | 0 => false
  | y + 1 => rowS f x y || f x (y + 1)
def allS (f : Nat → Nat → Bool) : Nat → Bool
  | 0 => false
  | x + 1 => allS f x || rowS f (x + 1) 9
/-- Is the cell of row x, column y in it? -/
def inR (r s t u : Nat) (x y : Nat) : Bool := hasB r s t u x y
def inB (r s t u r' s' t' u' : Nat) (x y : Nat) : Bool := inR r s t u x y && inR r' s' t' u' x y
/-- A good rectangle within nine rows and columns. -/
def Nine (r s t u : Nat) : Prop := 1 ≤ r ∧ r ≤ t ∧ t ≤ 9 ∧ 1 ≤ s ∧ s ≤ u ∧ u ≤ 9
theorem nine_fine {r s t u : Nat} (h : Nine r s t u) : FineP r s t u := by unfold Nine at h; unfold FineP Cell; omega
theorem inR_iff {r s t u : Nat} (h : Nine r s t u) (x y : Nat) : inR r s t u x y = decide (r ≤ x ∧ x ≤ t ∧ s ≤ y ∧ y ≤ u) := by
  unfold inR hasB
  rw [decide_eq_decide]
  have := nine_fine h
  unfold HasP
  constructor
  · intro h; omega
  · intro h2; exact ⟨this, by omega⟩
theorem rowN_le (f : Nat → Nat → Bool) (x : Nat) : ∀ y, rowN f x y ≤ y := by
  intro y
  induction y with
  | zero => exact Nat.le_refl _
  | succ y ih => unfold rowN; split <;> omega
theorem rowN_in {r s t u : Nat} (h : Nine r s t u) {x : Nat} (hx : r ≤ x ∧ x ≤ t) : ∀ y, rowN (inR r s t u) x y = min y u + 1 - s := by
  intro y
  have hh := h
  unfold Nine at hh
  induction y with
  | zero => unfold rowN; omega
  | succ y ih =>
    unfold rowN
    rw [ih, inR_iff h]
    by_cases h2 : s ≤ y + 1 ∧ y + 1 ≤ u
    · rw [if_pos (decide_eq_true ⟨hx.1, hx.2, h2.1, h2.2⟩)]; omega
    · rw [if_neg (by rw [decide_eq_true_iff]; omega)]; omega
theorem rowN_out {r s t u : Nat} (h : Nine r s t u) {x : Nat} (hx : ¬ (r ≤ x ∧ x ≤ t)) : ∀ y, rowN (inR r s t u) x y = 0 := by
  intro y
  induction y with
  | zero => rfl
  | succ y ih =>
    unfold rowN
    rw [ih, inR_iff h, if_neg (by rw [decide_eq_true_iff]; omega)]
theorem allN_val {r s t u : Nat} (h : Nine r s t u) : ∀ x, allN (inR r s t u) x = (min x t + 1 - r) * (u + 1 - s) := by
  intro x
  have hh := h
  unfold Nine at hh
  induction x with
  | zero => unfold allN; rw [show min 0 t + 1 - r = 0 by omega, Nat.zero_mul]
  | succ x ih =>
    unfold allN
    rw [ih]
    by_cases hx : r ≤ x + 1 ∧ x + 1 ≤ t
    · rw [rowN_in h hx, show min 9 u = u by omega, show min (x + 1) t + 1 - r = (min x t + 1 - r) + 1 by omega, Nat.succ_mul]
    · rw [rowN_out h hx, Nat.add_zero, show min (x + 1) t + 1 - r = min x t + 1 - r by omega]
theorem count_all {r s t u : Nat} (h : Nine r s t u) : countN r s t u = (allN (inR r s t u) 9 : Nat) := by
  have hh := h
  unfold Nine at hh
  unfold countN
  rw [if_pos (nine_fine h), allN_val h, show min 9 t = t by omega]
  rw [Int.natCast_mul]
  congr 1 <;> omega
theorem rowS_iff (f : Nat → Nat → Bool) (x : Nat) : ∀ n, rowS f x n = true ↔ ∃ y, 1 ≤ y ∧ y ≤ n ∧ f x y = true := by
  intro n
  induction n with
  | zero => unfold rowS; constructor
            · intro h; cases h
            · rintro ⟨y, h1, h2, -⟩; omega
  | succ n ih =>
    unfold rowS
    rw [Bool.or_eq_true, ih]
    constructor
    · rintro (⟨y, h1, h2, h3⟩ | h)
      · exact ⟨y, h1, by omega, h3⟩
      · exact ⟨n + 1, by omega, by omega, h⟩
    · rintro ⟨y, h1, h2, h3⟩
      by_cases e : y = n + 1
      · subst e; exact Or.inr h3
      · exact Or.inl ⟨y, h1, by omega, h3⟩
theorem allS_iff (f : Nat → Nat → Bool) : ∀ n, allS f n = true ↔ ∃ x, 1 ≤ x ∧ x ≤ n ∧ ∃ y, 1 ≤ y ∧ y ≤ 9 ∧ f x y = true := by
  intro n
  induction n with
  | zero => unfold allS; constructor
            · intro h; cases h
            · rintro ⟨y, h1, h2, -⟩; omega
  | succ n ih =>
    unfold allS
    rw [Bool.or_eq_true, ih, rowS_iff]
    constructor
    · rintro (⟨y, h1, h2, h3⟩ | h)
      · exact ⟨y, h1, by omega, h3⟩
      · exact ⟨n + 1, by omega, by omega, h⟩
    · rintro ⟨y, h1, h2, h3⟩
      by_cases e : y = n + 1
      · subst e; exact Or.inr h3
      · exact Or.inl ⟨y, h1, by omega, h3⟩
theorem meet_all {r s t u r' s' t' u' : Nat} (h : Nine r s t u) (h' : Nine r' s' t' u') : meetB r s t u r' s' t' u' = allS (inB r s t u r' s' t' u') 9 := by
  have hh := h; have hh' := h'
  unfold Nine at hh hh'
  rw [Bool.eq_iff_iff, allS_iff]
  unfold meetB
  rw [decide_eq_true_iff]
  constructor
  · rintro ⟨-, -, h1, h2, h3, h4⟩
    refine ⟨max r r', by omega, by omega, max s s', by omega, by omega, ?_⟩
    unfold inB
    rw [inR_iff h, inR_iff h', Bool.and_eq_true, decide_eq_true_iff, decide_eq_true_iff]
    omega
  · rintro ⟨x, h1, h2, y, h3, h4, h5⟩
    unfold inB at h5
    rw [inR_iff h, inR_iff h', Bool.and_eq_true, decide_eq_true_iff, decide_eq_true_iff] at h5
    exact ⟨nine_fine h, nine_fine h', by omega, by omega, by omega, by omega⟩
theorem meet_comm (a b c d a' b' c' d' : Int) : meetB a b c d a' b' c' d' = meetB a' b' c' d' a b c d := by
  unfold meetB
  rw [decide_eq_decide]
  unfold MeetP
  constructor
  · rintro ⟨h1, h2, h3, h4, h5, h6⟩; exact ⟨h2, h1, h4, h3, h6, h5⟩
  · rintro ⟨h1, h2, h3, h4, h5, h6⟩; exact ⟨h2, h1, h4, h3, h6, h5⟩
end Go.Proofs.YtogahgbfdmfmcaaDoor.AddrC
