/-
  Plain facts on texts of formulas: what a token is, the tokens of a text, upper case, quoting. No program in it.
-/
import Derived.Test.YtgkabngpekokaaaNumN
namespace Go.Proofs.Ytgkabngpekokaaa.LexC
set_option linter.unusedVariables false
open Go.Proofs.Ytgkabngpekokaaa.NumC

def digB (c : UInt8) : Bool := decide (48 ≤ c.toNat ∧ c.toNat ≤ 57)
def letB (c : UInt8) : Bool := decide ((97 ≤ c.toNat ∧ c.toNat ≤ 122) ∨ (65 ≤ c.toNat ∧ c.toNat ≤ 90))
def wordB (c : UInt8) : Bool := letB c || digB c
/-- A byte in upper case; a text. -/
def upC (c : UInt8) : UInt8 := if 97 ≤ c.toNat ∧ c.toNat ≤ 122 then c - 32 else c
def upL (l : List UInt8) : List UInt8 := l.map upC
/-- A text as a token. -/
def quC (c : UInt8) : List UInt8 := if c = 34 then [34, 34] else [c]
def quB (l : List UInt8) : List UInt8 := 34 :: l.flatMap quC
def quL (l : List UInt8) : List UInt8 := quB l ++ [34]
/-- The number of digits. -/
def numV (l : List UInt8) : Nat := l.foldl (fun a c => a * 10 + (c.toNat - 48)) 0
/-- A text behind its first mark: what is within, and how many bytes with the last mark. -/
def txtL : List UInt8 → Option (List UInt8 × Nat)
  | [] => none
  | c :: l => if c = 34 then (match l with
      | 34 :: l' => (txtL l').map fun r => (34 :: r.1, r.2 + 2)
      | _ => some ([], 1))
    else (txtL l).map fun r => (c :: r.1, r.2 + 1)
theorem txtL_no {c : UInt8} {l : List UInt8} (h : c ≠ 34) : txtL (c :: l) = (txtL l).map fun r => (c :: r.1, r.2 + 1) := by
  conv => lhs; unfold txtL
  rw [if_neg h]
theorem txtL_two (l : List UInt8) : txtL (34 :: 34 :: l) = (txtL l).map fun r => (34 :: r.1, r.2 + 2) := by
  conv => lhs; unfold txtL
  rw [if_pos rfl]; rfl
theorem txtL_one {l : List UInt8} (h : ∀ l', l ≠ 34 :: l') : txtL (34 :: l) = some ([], 1) := by
  conv => lhs; unfold txtL
  rw [if_pos rfl]
  split
  · exact absurd rfl (h _)
  · rfl
theorem txtL_nil : txtL [] = none := rfl
/-- The signs of two bytes, of one. -/
def sign2 (c d : UInt8) : Bool := (c == 60 && (d == 62 || d == 61)) || (c == 62 && d == 61)
def sign1 (c : UInt8) : Bool := [43, 45, 42, 47, 37, 94, 38, 61, 60, 62, 40, 41, 44, 58].contains c
structure Tok where
  k : Int
  n : Int
  s : ByteArray
  at_ : Int
  deriving DecidableEq
def nob : ByteArray := { data := #[] }
def str (l : List UInt8) : ByteArray := ⟨l.toArray⟩
/-- The sign that begins a text of a byte and l. -/
def signT (c : UInt8) : List UInt8 → Option (Int × Int × List UInt8 × Nat)
  | d :: _ => if sign2 c d = true then some (4, 0, [c, d], 2) else if sign1 c = true then some (4, 0, [c], 1) else none
  | [] => if sign1 c = true then some (4, 0, [c], 1) else none
/-- The token that begins a text of c and l: its kind, number, text, and how many bytes it has; none, if there is none. -/
def tokL (c : UInt8) (l : List UInt8) : Option (Int × Int × List UInt8 × Nat) :=
  if digB c = true then (if numV ((c :: l).takeWhile digB) < 9223372036854775808 then some (1, numV ((c :: l).takeWhile digB), [], ((c :: l).takeWhile digB).length) else none)
  else if letB c = true then some (3, 0, upL ((c :: l).takeWhile wordB), ((c :: l).takeWhile wordB).length)
  else if c = 34 then (txtL l).map fun r => (2, 0, r.1, r.2 + 1)
  else signT c l
def nextL : List UInt8 → Option (Int × Int × List UInt8 × Nat)
  | [] => none
  | c :: l => tokL c l
theorem nextL_cons (c : UInt8) (l : List UInt8) : nextL (c :: l) = tokL c l := rfl
/-- What Cut tells: the tokens, the place, the error's number. -/
structure Res where
  toks : List Tok
  at_ : Int
  err : Int
  deriving DecidableEq
def cutF : Nat → List UInt8 → Nat → List Tok → Res
  | 0, _, _, acc => ⟨acc, 0, 0⟩
  | _ + 1, [], _, acc => ⟨acc, 0, 0⟩
  | f + 1, c :: l, i, acc => if c = 32 then cutF f l (i + 1) acc else
    match nextL (c :: l) with
    | none => ⟨[], i, 12⟩
    | some (k, n, s, m) => cutF f ((c :: l).drop m) (i + m) (acc ++ [⟨k, n, str s, i⟩])
def cutL (l : List UInt8) : Res := if 300 < l.length then ⟨[], 0, 2⟩ else cutF (l.length + 1) l 0 []

theorem digB_iff {c : UInt8} : digB c = true ↔ 48 ≤ c.toNat ∧ c.toNat ≤ 57 := by unfold digB; exact decide_eq_true_iff
theorem letB_iff {c : UInt8} : letB c = true ↔ ((97 ≤ c.toNat ∧ c.toNat ≤ 122) ∨ (65 ≤ c.toNat ∧ c.toNat ≤ 90)) := by unfold letB; exact decide_eq_true_iff
theorem upC_up {c : UInt8} (h : 97 ≤ c.toNat ∧ c.toNat ≤ 122) : upC c = c - 32 := if_pos h
theorem upC_no {c : UInt8} (h : ¬ (97 ≤ c.toNat ∧ c.toNat ≤ 122)) : upC c = c := if_neg h
theorem sub32 {c : UInt8} (h : 97 ≤ c.toNat) : (c - 32).toNat = c.toNat - 32 := by
  rw [UInt8.toNat_sub_of_le]
  · rfl
  · rw [UInt8.le_iff_toNat_le]; show 32 ≤ c.toNat; omega
theorem upC_idem (c : UInt8) : upC (upC c) = upC c := by
  by_cases h : 97 ≤ c.toNat ∧ c.toNat ≤ 122
  · rw [upC_up h, upC_no]; rw [sub32 h.1]; omega
  · rw [upC_no h, upC_no h]
theorem upL_idem (l : List UInt8) : upL (upL l) = upL l := by
  unfold upL; rw [List.map_map]; apply List.map_congr_left; intro c _; exact upC_idem c
theorem upL_len (l : List UInt8) : (upL l).length = l.length := by unfold upL; exact List.length_map _
theorem numV_snoc (l : List UInt8) (c : UInt8) : numV (l ++ [c]) = numV l * 10 + (c.toNat - 48) := by unfold numV; rw [List.foldl_append]; rfl
theorem numV_le (l m : List UInt8) : numV l ≤ numV (l ++ m) := by
  have h : ∀ (m : List UInt8) (a b : Nat), a ≤ b → a ≤ m.foldl (fun a c => a * 10 + (c.toNat - 48)) b := by
    intro m
    induction m with
    | nil => intro a b h; exact h
    | cons c m ih => intro a b h; exact ih a (b * 10 + (c.toNat - 48)) (by omega)
  unfold numV; rw [List.foldl_append]; exact h m _ _ (Nat.le_refl _)
theorem drop_cons {l : List UInt8} {i : Nat} (h : i < l.length) : l.drop i = l[i] :: l.drop (i + 1) := List.drop_eq_getElem_cons h

/-- How far a row of such bytes goes from i on. -/
def runN (p : UInt8 → Bool) (l : List UInt8) (i : Nat) : Nat := ((l.drop i).takeWhile p).length
theorem take_run {p : UInt8 → Bool} {l : List UInt8} {i n : Nat} (h1 : ∀ k, i ≤ k → k < n → ∃ h : k < l.length, p l[k] = true) (h2 : n = l.length ∨ ∃ h : n < l.length, p l[n] = false) (hi : i ≤ n) (hn : n ≤ l.length) :
    (l.drop i).takeWhile p = (l.take n).drop i := by
  induction hk : n - i generalizing i with
  | zero =>
    have hin : i = n := by omega
    subst hin
    rcases h2 with rfl | ⟨h, hp⟩
    · simp
    · rw [drop_cons h, List.takeWhile_cons, hp]
      simp
  | succ k ih =>
    obtain ⟨h, hp⟩ := h1 i (Nat.le_refl _) (by omega)
    have h3 : i < (l.take n).length := by rw [List.length_take]; omega
    rw [drop_cons h, List.takeWhile_cons, hp, if_pos rfl, List.drop_eq_getElem_cons h3, List.getElem_take, ih (fun k hk hkn => h1 k (by omega) hkn) (by omega) (by omega)]
theorem take_len {p : UInt8 → Bool} {l : List UInt8} {i n : Nat} (h : (l.drop i).takeWhile p = (l.take n).drop i) (hi : i ≤ n) (hn : n ≤ l.length) : ((l.drop i).takeWhile p).length = n - i := by
  rw [h, List.length_drop, List.length_take]; omega
end Go.Proofs.Ytgkabngpekokaaa.LexC
