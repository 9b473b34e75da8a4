/-
  Plain facts of TreeDeep: so many parentheses, signs.
-/
import Derived.Test.YtkdgiadpmfpjnaaGreatDoorMZL
import Derived.Test.YtkdgiadpmfpjnaaGreatDoorMLexF
import Derived.KernelRfl
namespace Go.Proofs.YtkdgiadpmfpjnaaGreatDoor.TreeC
open Go.Proofs.YtkdgiadpmfpjnaaGreatDoor.NumC Go.Proofs.YtkdgiadpmfpjnaaGreatDoor.LexC

theorem open_all : (List.range 60).all (fun k => decide ((parseL (openT k)).err = if k ≤ 40 then 0 else 14)) = true := by kernel_rfl
theorem minus_all : (List.range 60).all (fun k => decide ((parseL (minusT k)).err = if k < 16 then 0 else 14)) = true := by kernel_rfl
theorem pow_all : (List.range 60).all (fun k => decide ((parseL (powT k)).err = if k < 16 then 0 else 14)) = true := by kernel_rfl
theorem of_range {p : Nat → Bool} {n : Nat} (h : (List.range n).all p = true) (k : Nat) (hk : k < n) : p k = true := List.all_eq_true.1 h k (List.mem_range.2 hk)
theorem deepFacts : DeepFacts := ⟨fun k hk => of_decide_eq_true (of_range open_all k hk), fun k hk => of_decide_eq_true (of_range minus_all k hk), fun k hk => of_decide_eq_true (of_range pow_all k hk)⟩
end Go.Proofs.YtkdgiadpmfpjnaaGreatDoor.TreeC

/-
  Plain facts of TreeLeft: three digits with two signs between.
-/
namespace Go.Proofs.YtkdgiadpmfpjnaaGreatDoor.TreeC
set_option linter.unusedVariables false
open Go.Proofs.YtkdgiadpmfpjnaaGreatDoor.NumC Go.Proofs.YtkdgiadpmfpjnaaGreatDoor.LexC

def rowsL : List Nat := [1, 1, 1, 1, 1, 1, 2, 2, 2, 3, 3, 3, 4]
def signsL : List (List UInt8) := [[61], [60, 62], [60], [60, 61], [62], [62, 61], [43], [45], [38], [42], [47], [37], [94]]
def rw_ (x : Nat) : Nat := rowsL.getD x 0
def sg (x : Nat) : List UInt8 := signsL.getD x []
def leftT (a b c : UInt8) (x y : Nat) : List UInt8 := a :: (sg x ++ b :: (sg y ++ [c]))
def goesLeft (x y : Nat) : Bool := decide (rw_ y < rw_ x) || (decide (rw_ x = rw_ y) && decide (rw_ x ≠ 4))
theorem thirteen {x : Nat} (h : x < 13) : x = 0 ∨ x = 1 ∨ x = 2 ∨ x = 3 ∨ x = 4 ∨ x = 5 ∨ x = 6 ∨ x = 7 ∨ x = 8 ∨ x = 9 ∨ x = 10 ∨ x = 11 ∨ x = 12 := by omega
theorem next_num (a : UInt8) (l : List UInt8) (ha : digB a = true) (hl : l.head?.all (fun c => !digB c) = true) : nextL (a :: l) = some (1, ((a.toNat - 48 : Nat) : Int), [], 1) := by
  have ht : (a :: l).takeWhile digB = [a] := by
    rw [List.takeWhile_cons, ha, if_pos rfl]
    cases l with
    | nil => rfl
    | cons c l => rw [List.takeWhile_cons, if_neg (by simpa using hl)]
  have hn : numV [a] = a.toNat - 48 := by simp [numV]
  have := (digB_iff.1 ha).2
  rw [nextL_cons, tokL, if_pos ha, ht, hn, if_pos (by omega)]
  rfl
theorem next_sign (x : Nat) (h : x < 13) (d : UInt8) (l : List UInt8) (hd : digB d = true) : nextL (sg x ++ d :: l) = some (4, 0, sg x, (sg x).length) := by
  have h1 : d ≠ 62 := by rintro rfl; revert hd; decide
  have h2 : d ≠ 61 := by rintro rfl; revert hd; decide
  rcases thirteen h with rfl | rfl | rfl | rfl | rfl | rfl | rfl | rfl | rfl | rfl | rfl | rfl | rfl <;>
    simp [sg, signsL, nextL, tokL, digB, letB, signT, sign2, sign1, h1, h2]
theorem sg_head (x : Nat) (h : x < 13) (l : List UInt8) : (sg x ++ l).head?.all (fun c => !digB c) = true := by
  rcases thirteen h with rfl | rfl | rfl | rfl | rfl | rfl | rfl | rfl | rfl | rfl | rfl | rfl | rfl <;> rfl
theorem sg_len (x : Nat) (h : x < 13) : 1 ≤ (sg x).length ∧ (sg x).length ≤ 2 := by
  rcases thirteen h with rfl | rfl | rfl | rfl | rfl | rfl | rfl | rfl | rfl | rfl | rfl | rfl | rfl <;> decide
theorem sg_blank (x : Nat) (h : x < 13) : ∃ c r, sg x = c :: r ∧ c ≠ 32 := by
  rcases thirteen h with rfl | rfl | rfl | rfl | rfl | rfl | rfl | rfl | rfl | rfl | rfl | rfl | rfl <;> exact ⟨_, _, rfl, by decide⟩
theorem cutF_tok {l : List UInt8} {i : Nat} {acc : List Tok} {f : Nat} {k n : Int} {s : List UInt8} {m : Nat} (hb : ∃ c r, l = c :: r ∧ c ≠ 32) (h : nextL l = some (k, n, s, m)) :
    cutF (f + 1) l i acc = cutF f (l.drop m) (i + m) (acc ++ [⟨k, n, str s, i⟩]) := by
  obtain ⟨c, r, rfl, hc⟩ := hb
  rw [cutF, if_neg hc, h]
def digV (a : UInt8) : Int := ((a.toNat - 48 : Nat) : Int)
def toksT (p q r : Int) (x y : Nat) (i j k : Int) : List Tok := [⟨1, p, nob, 0⟩, ⟨4, 0, str (sg x), 1⟩, ⟨1, q, nob, i⟩, ⟨4, 0, str (sg y), j⟩, ⟨1, r, nob, k⟩]
theorem dig_blank {a : UInt8} (ha : digB a = true) (l : List UInt8) : ∃ c r, a :: l = c :: r ∧ c ≠ 32 := ⟨a, l, rfl, by rintro rfl; revert ha; decide⟩
theorem app_blank {l : List UInt8} (m : List UInt8) (h : ∃ c r, l = c :: r ∧ c ≠ 32) : ∃ c r, l ++ m = c :: r ∧ c ≠ 32 := by
  obtain ⟨c, r, rfl, hc⟩ := h
  exact ⟨c, r ++ m, rfl, hc⟩
theorem cut_left (a b c : UInt8) (x y : Nat) (ha : digB a = true) (hb : digB b = true) (hc : digB c = true) (hx : x < 13) (hy : y < 13) :
    ∃ i j k, cutL (leftT a b c x y) = ⟨toksT (digV a) (digV b) (digV c) x y i j k, 0, 0⟩ := by
  have lx := sg_len x hx
  have ly := sg_len y hy
  have hlen : (leftT a b c x y).length = (sg x).length + (sg y).length + 3 := by simp [leftT]; omega
  unfold cutL
  rw [if_neg (by omega), hlen]
  obtain ⟨f, hf⟩ : ∃ f, (sg x).length + (sg y).length + 3 + 1 = f + 1 + 1 + 1 + 1 + 1 := ⟨(sg x).length + (sg y).length - 1, by omega⟩
  rw [hf]
  unfold leftT
  rw [cutF_tok (dig_blank ha _) (next_num a _ ha (sg_head x hx _))]
  rw [show (a :: (sg x ++ b :: (sg y ++ [c]))).drop 1 = sg x ++ b :: (sg y ++ [c]) from rfl]
  rw [cutF_tok (app_blank _ (sg_blank x hx)) (next_sign x hx b _ hb), List.drop_left]
  rw [cutF_tok (dig_blank hb _) (next_num b _ hb (sg_head y hy _))]
  rw [show (b :: (sg y ++ [c])).drop 1 = sg y ++ c :: [] from rfl]
  rw [cutF_tok (app_blank _ (sg_blank y hy)) (next_sign y hy c _ hc), List.drop_left]
  rw [cutF_tok (dig_blank hc _) (next_num c _ hc rfl)]
  rw [show ([c] : List UInt8).drop 1 = [] from rfl, cutF_nil]
  exact ⟨_, _, _, rfl⟩
/-- What the two signs make of three numbers. -/
def leftN (p q r : Int) (x y : Nat) : Nd := if goesLeft x y = true then pairN (sg y) (pairN (sg x) (constN 2 p nob) (constN 2 q nob)) (constN 2 r nob)
  else pairN (sg x) (constN 2 p nob) (pairN (sg y) (constN 2 q nob) (constN 2 r nob))
def leftE (p q r : Int) (x y : Nat) (j : Int) : Except Bad Nd := if rw_ x = 1 ∧ rw_ y = 1 then .error (13, j) else .ok (leftN p q r x y)
theorem left_all (p q r i j k n : Int) : (List.range 169).map (fun z => treeF (toksT p q r (z / 13) (z % 13) i j k) n) = (List.range 169).map (fun z => leftE p q r (z / 13) (z % 13) j) := by kernel_rfl
theorem left_tree (p q r i j k n : Int) (x y : Nat) (hx : x < 13) (hy : y < 13) : treeF (toksT p q r x y i j k) n = leftE p q r x y j := by
  have h := congrArg (fun l => l[x * 13 + y]?) (left_all p q r i j k n)
  simp only [List.getElem?_map] at h
  rw [List.getElem?_range (by omega)] at h
  simp only [Option.map_some, Option.some.injEq] at h
  rw [show (x * 13 + y) / 13 = x by omega, show (x * 13 + y) % 13 = y by omega] at h
  exact h
theorem left_parse (a b c : UInt8) (x y : Nat) (ha : digB a = true) (hb : digB b = true) (hc : digB c = true) (hx : x < 13) (hy : y < 13) :
    (rw_ x = 1 ∧ rw_ y = 1 ∧ (parseL (leftT a b c x y)).err = 13) ∨ (¬ (rw_ x = 1 ∧ rw_ y = 1) ∧ parseL (leftT a b c x y) = ⟨leftN (digV a) (digV b) (digV c) x y, 0, 0⟩) := by
  obtain ⟨i, j, k, hcut⟩ := cut_left a b c x y ha hb hc hx hy
  have ht := left_tree (digV a) (digV b) (digV c) i j k ((leftT a b c x y).length : Int) x y hx hy
  unfold parseL
  rw [hcut]
  simp only [ne_eq, not_true_eq_false, if_false]
  rw [ht]
  unfold leftE
  by_cases h : rw_ x = 1 ∧ rw_ y = 1
  · rw [if_pos h]; exact Or.inl ⟨h.1, h.2, rfl⟩
  · rw [if_neg h]
    refine Or.inr ⟨h, ?_⟩
    have hd : (leftN (digV a) (digV b) (digV c) x y).deep = 3 := by
      unfold leftN
      split <;> rfl
    simp only [hd]
    rfl
end Go.Proofs.YtkdgiadpmfpjnaaGreatDoor.TreeC

/-
  Plain facts of TreeArgs: a call of so many Args, written in two ways.
-/
namespace Go.Proofs.YtkdgiadpmfpjnaaGreatDoor.TreeC
set_option linter.unusedVariables false
open Go.Proofs.YtkdgiadpmfpjnaaGreatDoor.NumC Go.Proofs.YtkdgiadpmfpjnaaGreatDoor.LexC

def digC (j i : Nat) : UInt8 := UInt8.ofNat (48 + (j + i) % 10)
def argA (j : Nat) : Nat → List UInt8
  | 0 => [83, 85, 77, 40]
  | m + 1 => (argA j m ++ (if 0 < m then [44] else [])) ++ [digC j m]
def argB (j : Nat) : Nat → List UInt8
  | 0 => [115, 117, 109, 32, 40, 32]
  | m + 1 => (argB j m ++ (if 0 < m then [32, 44, 32] else [])) ++ (([40] ++ [digC j m]) ++ [32, 41])
def argOK (j m : Nat) : Bool :=
  if m ≤ 10 then
    decide ((parseL (argA j m ++ [41])).err = 0) && (decide ((parseL (argB j m ++ [41])).err = 0) && (decide ((parseL (argB j m ++ [41])).nd = (parseL (argA j m ++ [41])).nd) && (decide ((parseL (argA j m ++ [41])).nd.f.k = 6) &&
      (decide ((parseL (argA j m ++ [41])).nd.kids.len = m) && (decide ((parseL (argA j m ++ [41])).nd.f.op = str [83, 85, 77]) && decide ((parseL (argA j m ++ [41])).nd.size ≤ 2000))))))
  else decide ((parseL (argA j m ++ [41])).err = 13) && decide ((parseL (argB j m ++ [41])).err = 13)
theorem arg_all : (List.range 130).all (fun z => argOK (z / 13) (z % 13)) = true := by kernel_rfl
theorem arg_ok (j m : Nat) (hj : j < 10) (hm : m < 13) : argOK j m = true := by
  have h : argOK ((j * 13 + m) / 13) ((j * 13 + m) % 13) = true := of_range arg_all (j * 13 + m) (by omega)
  rw [show (j * 13 + m) / 13 = j by omega, show (j * 13 + m) % 13 = m by omega] at h
  exact h
theorem arg_few {j m : Nat} (hj : j < 10) (hm : m ≤ 10) : (parseL (argA j m ++ [41])).err = 0 ∧ (parseL (argB j m ++ [41])).err = 0 ∧ (parseL (argB j m ++ [41])).nd = (parseL (argA j m ++ [41])).nd ∧ (parseL (argA j m ++ [41])).nd.f.k = 6 ∧
    (parseL (argA j m ++ [41])).nd.kids.len = m ∧ (parseL (argA j m ++ [41])).nd.f.op = str [83, 85, 77] ∧ (parseL (argA j m ++ [41])).nd.size ≤ 2000 := by
  have h := arg_ok j m hj (by omega)
  unfold argOK at h
  rw [if_pos hm] at h
  simp only [Bool.and_eq_true, decide_eq_true_eq] at h
  exact h
theorem arg_many {j m : Nat} (hj : j < 10) (hm : 10 < m) (h13 : m < 13) : (parseL (argA j m ++ [41])).err = 13 ∧ (parseL (argB j m ++ [41])).err = 13 := by
  have h := arg_ok j m hj h13
  unfold argOK at h
  rw [if_neg (by omega)] at h
  simp only [Bool.and_eq_true, decide_eq_true_eq] at h
  exact h
theorem argA_len (j : Nat) : ∀ m, (argA j m).length ≤ 4 + 2 * m
  | 0 => by simp [argA]
  | m + 1 => by
    have := argA_len j m
    simp only [argA, List.length_append, List.length_cons, List.length_nil]
    split <;> simp <;> omega
theorem argB_len (j : Nat) : ∀ m, (argB j m).length ≤ 6 + 7 * m
  | 0 => by simp [argB]
  | m + 1 => by
    have := argB_len j m
    simp only [argB, List.length_append, List.length_cons, List.length_nil]
    split <;> simp <;> omega
end Go.Proofs.YtkdgiadpmfpjnaaGreatDoor.TreeC
