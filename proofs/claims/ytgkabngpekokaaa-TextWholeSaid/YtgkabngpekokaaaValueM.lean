/-
  Plain facts on values: whether one is good, what it is as something else, their order. No program in it.
-/
import Derived.Test.YtgkabngpekokaaaNumN
import GoSem.Op.String
namespace Go.Proofs.Ytgkabngpekokaaa.ValueC
set_option linter.unusedVariables false
open Go.Proofs.Ytgkabngpekokaaa.NumC

/-- A value's fields. -/
structure Val where
  k : Int
  n : Int
  s : ByteArray
  deriving DecidableEq
theorem Val.eq {a b : Val} (h1 : a.k = b.k) (h2 : a.n = b.n) (h3 : a.s = b.s) : a = b := by cases a; cases b; simp_all
def nos : ByteArray := { data := #[] }
theorem size_nos {s : ByteArray} (h : s.size = 0) : s = nos := by
  obtain ⟨⟨l⟩⟩ := s
  have : l.length = 0 := h
  rw [List.length_eq_zero_iff] at this
  subst this; rfl
/-- It is good. -/
def GoodP (a : Val) : Prop :=
  (a.k = 0 ∧ a.n = 0 ∧ a.s.size = 0) ∨ (a.k = 1 ∧ (a.n = 0 ∨ a.n = 1) ∧ a.s.size = 0) ∨ (a.k = 2 ∧ a.s.size = 0) ∨ (a.k = 3 ∧ a.n = 0 ∧ a.s.size ≤ 200) ∨ (a.k = 4 ∧ (1 ≤ a.n ∧ a.n ≤ 8) ∧ a.s.size = 0)
instance (a : Val) : Decidable (GoodP a) := by unfold GoodP; infer_instance
def goodB (a : Val) : Bool := decide (GoodP a)
theorem goodB_t {a : Val} (h : GoodP a) : goodB a = true := decide_eq_true h
theorem goodB_f {a : Val} (h : ¬ GoodP a) : goodB a = false := decide_eq_false h
def sameB (a b : Val) : Bool := decide (a = b)
/-- The fault of a code; a text as a value; nothing. -/
def failV (c : Int) : Val := if 1 ≤ c ∧ c ≤ 8 then ⟨4, c, nos⟩ else ⟨0, 0, nos⟩
def ofV (s : ByteArray) : Val := if 200 < s.size then ⟨4, 7, nos⟩ else ⟨3, 0, s⟩
def zeroV : Val := ⟨0, 0, nos⟩
theorem failV_yes {c : Int} (h : 1 ≤ c ∧ c ≤ 8) : failV c = ⟨4, c, nos⟩ := by unfold failV; rw [if_pos h]
theorem failV_no {c : Int} (h : ¬ (1 ≤ c ∧ c ≤ 8)) : failV c = zeroV := by unfold failV; rw [if_neg h]; rfl
/-- A fault's name. -/
def faultL (n : Int) : List UInt8 :=
  if n = 1 then [35, 68, 73, 86] else if n = 2 then [35, 79, 86, 69, 82] else if n = 3 then [35, 84, 89, 80, 69] else if n = 4 then [35, 82, 69, 70]
  else if n = 5 then [35, 65, 82, 71] else if n = 6 then [35, 76, 79, 79, 80] else if n = 7 then [35, 76, 79, 78, 71] else [35, 78, 79, 78, 69]
def trueL : List UInt8 := [84, 82, 85, 69]
def falseL : List UInt8 := [70, 65, 76, 83, 69]
/-- A value's text. -/
def showL (a : Val) : List UInt8 :=
  if goodB a then (if a.k = 1 then (if a.n = 1 then trueL else falseL) else if a.k = 2 then Lib.itoa a.n else if a.k = 4 then faultL a.n else a.s.data.toList) else [63]
/-- A value as a number, a truth, a text; and the fault. -/
def badF (a : Val) : Val := if goodB a then (if a.k = 4 then a else zeroV) else failV 3
def numN (a : Val) : Int := if goodB a then (if a.k = 4 then 0 else if a.k = 3 then parseN a.s.data.toList else a.n) else 0
def numF (a : Val) : Val := if goodB a && decide (a.k = 3) && !parseB a.s.data.toList then failV 3 else badF a
def flagB (a : Val) : Bool := if goodB a then (if a.k = 4 then false else if a.k = 3 then decide (a.s.data.toList = trueL) else decide (a.n ≠ 0)) else false
def flagF (a : Val) : Val := if goodB a && decide (a.k = 3) && !(decide (a.s.data.toList = trueL) || decide (a.s.data.toList = falseL)) then failV 3 else badF a
def strL (a : Val) : List UInt8 := if goodB a then (if a.k = 4 then [] else showL a) else []
/-- The order. -/
def rankN (k : Int) : Int := if k = 2 then 1 else if k = 3 then 2 else if k = 1 then 3 else 0
def bl (x y : ByteArray) : Bool := Op.bytesLess x.data.toList y.data.toList
theorem bl_irrefl' : ∀ x : List UInt8, Op.bytesLess x x = false := by
  intro x
  induction x with
  | nil => rfl
  | cons a x ih => simp [Op.bytesLess, ih]
theorem bl_trans' : ∀ x y z : List UInt8, Op.bytesLess x y = true → Op.bytesLess y z = true → Op.bytesLess x z = true := by
  intro x
  induction x with
  | nil =>
    intro y z h1 h2
    cases z with
    | nil => cases y <;> simp [Op.bytesLess] at h2
    | cons c z => rfl
  | cons a x ih =>
    intro y z h1 h2
    cases y with
    | nil => simp [Op.bytesLess] at h1
    | cons b y =>
      cases z with
      | nil => simp [Op.bytesLess] at h2
      | cons c z =>
        simp only [Op.bytesLess, Bool.or_eq_true, Bool.and_eq_true, decide_eq_true_iff, beq_iff_eq] at h1 h2 ⊢
        rcases h1 with h1 | ⟨rfl, h1⟩
        · rcases h2 with h2 | ⟨rfl, h2⟩
          · left; rw [UInt8.lt_iff_toNat_lt] at *; omega
          · left; exact h1
        · rcases h2 with h2 | ⟨rfl, h2⟩
          · left; exact h2
          · right; exact ⟨rfl, ih y z h1 h2⟩
theorem bl_tri' : ∀ x y : List UInt8, Op.bytesLess x y = false → Op.bytesLess y x = false → x = y := by
  intro x
  induction x with
  | nil =>
    intro y h1 h2
    cases y with
    | nil => rfl
    | cons b y => simp [Op.bytesLess] at h1
  | cons a x ih =>
    intro y h1 h2
    cases y with
    | nil => simp [Op.bytesLess] at h2
    | cons b y =>
      simp only [Op.bytesLess, Bool.or_eq_false_iff, decide_eq_false_iff_not, Bool.and_eq_false_iff, beq_eq_false_iff_ne] at h1 h2
      have hab : a = b := by
        apply UInt8.toNat_inj.1
        have := h1.1; have := h2.1
        rw [UInt8.lt_iff_toNat_lt] at *; omega
      subst hab
      rw [ih y (h1.2.resolve_left (fun h => h rfl)) (h2.2.resolve_left (fun h => h rfl))]
theorem bl_irrefl (x : ByteArray) : bl x x = false := bl_irrefl' _
theorem bl_trans {x y z : ByteArray} (h1 : bl x y = true) (h2 : bl y z = true) : bl x z = true := bl_trans' _ _ _ h1 h2
theorem bl_tri {x y : ByteArray} (h1 : bl x y = false) (h2 : bl y x = false) : x = y := by
  have := bl_tri' _ _ h1 h2
  obtain ⟨⟨l⟩⟩ := x; obtain ⟨⟨m⟩⟩ := y
  have e : l = m := this
  subst e; rfl
def ltP (a b : Val) : Prop := rankN a.k < rankN b.k ∨ (rankN a.k = rankN b.k ∧ (a.n < b.n ∨ (a.n = b.n ∧ bl a.s b.s = true)))
instance (a b : Val) : Decidable (ltP a b) := by unfold ltP; infer_instance
theorem ltP_irrefl (a : Val) : ¬ ltP a a := by
  unfold ltP
  rintro (h | ⟨-, h | ⟨-, h⟩⟩)
  · omega
  · omega
  · rw [bl_irrefl] at h; cases h
theorem ltP_trans {a b c : Val} (h1 : ltP a b) (h2 : ltP b c) : ltP a c := by
  unfold ltP at *
  rcases h1 with h1 | ⟨h1, h1' | ⟨h1', h1''⟩⟩ <;> rcases h2 with h2 | ⟨h2, h2' | ⟨h2', h2''⟩⟩ <;> first | (left; omega) | (right; refine ⟨by omega, ?_⟩; first | (left; omega) | (right; exact ⟨by omega, bl_trans h1'' h2''⟩))
/-- Both can be held against each other. -/
def Ord (a : Val) : Prop := GoodP a ∧ a.k ≠ 4
instance (a : Val) : Decidable (Ord a) := by unfold Ord; infer_instance
def cmpB (a b : Val) : Bool := decide (Ord a ∧ Ord b)
def cmpN (a b : Val) : Int := if Ord a ∧ Ord b then (if ltP a b then -1 else if ltP b a then 1 else 0) else 0
theorem ltP_tri {a b : Val} (ha : Ord a) (hb : Ord b) (h1 : ¬ ltP a b) (h2 : ¬ ltP b a) : a = b := by
  unfold ltP at h1 h2
  have hr : rankN a.k = rankN b.k := by omega
  have hk : a.k = b.k := by
    obtain ⟨ha, ha4⟩ := ha; obtain ⟨hb, hb4⟩ := hb
    unfold GoodP at ha hb; unfold rankN at hr
    have : a.k = 0 ∨ a.k = 1 ∨ a.k = 2 ∨ a.k = 3 := by omega
    have : b.k = 0 ∨ b.k = 1 ∨ b.k = 2 ∨ b.k = 3 := by omega
    split at hr <;> split at hr <;> (try split at hr) <;> (try split at hr) <;> (try split at hr) <;> (try split at hr) <;> omega
  have hn : a.n = b.n := by omega
  refine Val.eq hk hn (bl_tri ?_ ?_)
  · cases h : bl a.s b.s
    · rfl
    · exact absurd (Or.inr ⟨hr, Or.inr ⟨hn, h⟩⟩) h1
  · cases h : bl b.s a.s
    · rfl
    · exact absurd (Or.inr ⟨hr.symm, Or.inr ⟨hn.symm, h⟩⟩) h2
theorem cmp_comm (a b : Val) : cmpB b a = cmpB a b ∧ cmpN b a = -cmpN a b := by
  refine ⟨by unfold cmpB; rw [decide_eq_decide]; exact And.comm, ?_⟩
  unfold cmpN
  by_cases h : Ord a ∧ Ord b
  · rw [if_pos h, if_pos h.symm]
    by_cases h1 : ltP a b
    · have h2 : ¬ ltP b a := fun h2 => ltP_irrefl a (ltP_trans h1 h2)
      rw [if_pos h1, if_neg h2, if_pos h1]; rfl
    · by_cases h2 : ltP b a
      · simp [h1, h2]
      · simp [h1, h2]
  · rw [if_neg h, if_neg (fun e => h e.symm)]; rfl
theorem cmpB_iff {a b : Val} : cmpB a b = true ↔ Ord a ∧ Ord b := by unfold cmpB; exact decide_eq_true_iff
theorem cmp_zero {a b : Val} (h : cmpB a b = true) : cmpN a b = 0 ↔ a = b := by
  have hh := cmpB_iff.1 h
  unfold cmpN
  rw [if_pos hh]
  constructor
  · intro h0
    by_cases h1 : ltP a b
    · rw [if_pos h1] at h0; omega
    · by_cases h2 : ltP b a
      · rw [if_neg h1, if_pos h2] at h0; omega
      · exact ltP_tri hh.1 hh.2 h1 h2
  · rintro rfl
    rw [if_neg (ltP_irrefl a), if_neg (ltP_irrefl a)]
theorem cmp_le {a b : Val} (h : cmpB a b = true) : cmpN a b ≤ 0 ↔ ¬ ltP b a := by
  have hh := cmpB_iff.1 h
  unfold cmpN
  rw [if_pos hh]
  by_cases h1 : ltP a b
  · have h2 : ¬ ltP b a := fun h2 => ltP_irrefl a (ltP_trans h1 h2)
    rw [if_pos h1]; exact ⟨fun _ => h2, fun _ => by omega⟩
  · by_cases h2 : ltP b a
    · rw [if_neg h1, if_pos h2]; exact ⟨fun h => by omega, fun h => absurd h2 h⟩
    · rw [if_neg h1, if_neg h2]; exact ⟨fun _ => h2, fun _ => by omega⟩
theorem cmp_trans {a b c : Val} (h1 : cmpB a b = true) (h2 : cmpB b c = true) (h3 : cmpB a c = true) (x : cmpN a b ≤ 0) (z : cmpN b c ≤ 0) : cmpN a c ≤ 0 := by
  rw [cmp_le h1] at x; rw [cmp_le h2] at z; rw [cmp_le h3]
  intro hca
  have ho := cmpB_iff.1 h1; have ho2 := cmpB_iff.1 h2
  by_cases h : ltP a b
  · exact z (ltP_trans hca h)
  · have := ltP_tri ho.1 ho.2 h x
    subst this; exact z hca
theorem cmp_same {a b c : Val} (h1 : cmpB a b = true) (x : cmpN a b = 0) : cmpN a c = cmpN b c := by rw [(cmp_zero h1).1 x]
end Go.Proofs.Ytgkabngpekokaaa.ValueC
