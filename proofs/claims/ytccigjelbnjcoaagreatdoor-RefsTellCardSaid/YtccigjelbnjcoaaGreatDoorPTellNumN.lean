/-
  Plain facts on decimal numerals: a numeral of an int64 is read back as it; what a text says, if it is a numeral. No program in it.
-/
import Derived.Test.YtccigjelbnjcoaaGreatDoorPTellNumM
import Derived.Lib.ItoaNum
import Derived.Lib.ItoaMem
import Derived.Lib.AtoiAll
import Derived.Lib.ParseIntBTie
import GoSem.Op.String
namespace Go.Proofs.YtccigjelbnjcoaaGreatDoor.NumC
set_option linter.unusedVariables false
open Go.Lib
theorem dig_toNat {d : Nat} (h : d < 10) : (UInt8.ofNat (48 + d)).toNat = 48 + d := by
  rw [UInt8.toNat_ofNat']; omega
theorem decDigits_all (u : Nat) : ∀ c ∈ decDigits u, 48 ≤ c.toNat ∧ c.toNat ≤ 57 := by
  induction u using Nat.strongRecOn with
  | _ u ih =>
    intro c hc
    rw [decDigits] at hc
    split at hc
    · rename_i h
      simp only [List.mem_singleton] at hc
      subst hc; rw [dig_toNat h]; omega
    · rename_i h
      rw [List.mem_append] at hc
      rcases hc with hc | hc
      · exact ih (u / 10) (by omega) c hc
      · simp only [List.mem_singleton] at hc
        subst hc; rw [dig_toNat (by omega)]; omega
theorem decDigits_ne (u : Nat) : decDigits u ≠ [] := by
  intro h
  have := decDigits_length u
  rw [h] at this
  have := nDigits_pos u
  simp at *; omega
def val (l : List UInt8) : Nat := l.foldl (fun a c => a * 10 + (c.toNat - 48)) 0
theorem val_snoc (l : List UInt8) (c : UInt8) : val (l ++ [c]) = val l * 10 + (c.toNat - 48) := by unfold val; rw [List.foldl_append]; rfl
theorem val_decDigits (u : Nat) : val (decDigits u) = u := by
  induction u using Nat.strongRecOn with
  | _ u ih =>
    rw [decDigits]
    split
    · rename_i h
      show 0 * 10 + ((UInt8.ofNat (48 + u)).toNat - 48) = u
      rw [dig_toNat h]; omega
    · rename_i h
      rw [val_snoc, ih (u / 10) (by omega), dig_toNat (by omega)]; omega
theorem parseUint10_snoc (l : List UInt8) (c : UInt8) : ∀ acc v, parseUint10 acc l = .ok v → parseUint10 acc (l ++ [c]) = parseUint10 v [c] := by
  induction l with
  | nil => intro acc v h; simp only [parseUint10] at h; injection h with h; subst h; rfl
  | cons d l ih =>
    intro acc v h
    simp only [parseUint10, List.cons_append] at h ⊢
    split at h
    · rename_i h1
      rw [if_pos h1]
      split at h
      · cases h
      · rename_i h2
        rw [if_neg h2]
        split at h
        · cases h
        · rename_i h3
          rw [if_neg h3]
          exact ih _ _ h
    · cases h
theorem parseUint10_digits (u : Nat) (hu : u < 18446744073709551616) : parseUint10 0 (decDigits u) = .ok u := by
  induction u using Nat.strongRecOn with
  | _ u ih =>
    rw [decDigits]
    split
    · rename_i h
      simp only [parseUint10, dig_toNat h]
      rw [if_pos (by omega), if_neg (by omega), if_neg (by omega)]
      congr 1; omega
    · rename_i h
      rw [parseUint10_snoc _ _ _ _ (ih (u / 10) (by omega) (by omega))]
      simp only [parseUint10, dig_toNat (show u % 10 < 10 by omega)]
      rw [if_pos (by omega), if_neg (by omega), if_neg (by omega)]
      congr 1; omega
theorem parseMag_digits (u : Nat) (hu : u < 18446744073709551616) : parseMag (decDigits u) = .ok u := by
  unfold parseMag; rw [if_neg (decDigits_ne u)]; exact parseUint10_digits u hu
theorem atoi_itoa {n : Int} (h : I64 n) : atoiAll (itoa n) = .ok n := by
  unfold I64 at h
  by_cases h0 : n < 0
  · have e : itoa n = 45 :: decDigits n.natAbs := by unfold itoa; rw [if_pos h0]
    rw [e]
    simp only [atoiAll]
    rw [if_pos (by decide), parseMag_digits _ (by omega)]
    simp only
    rw [if_neg (by simp), if_neg (by omega)]
    rw [if_pos (by decide)]
    congr 1
    all_goals omega
  · have e : itoa n = decDigits n.toNat := by unfold itoa; rw [if_neg h0]
    rw [e]
    cases hd : decDigits n.toNat with
    | nil => exact absurd hd (decDigits_ne _)
    | cons c r =>
      have hc := decDigits_all n.toNat c (by rw [hd]; exact List.mem_cons_self)
      simp only [atoiAll]
      rw [if_neg (by omega), ← hd, parseMag_digits _ (by omega)]
      simp only
      rw [if_neg (by omega), if_neg (by omega), if_neg (by omega)]
      congr 1
      all_goals omega
def parseN (l : List UInt8) : Int := match atoiAll l with | .ok v => if itoa v = l then v else 0 | _ => 0
def parseB (l : List UInt8) : Bool := match atoiAll l with | .ok v => decide (itoa v = l) | _ => false
theorem parse_some {l : List UInt8} {m : Int} (hm : I64 m) (h : itoa m = l) : parseN l = m ∧ parseB l = true := by
  subst h; unfold parseN parseB; rw [atoi_itoa hm]; simp
theorem atoi_i64 {l : List UInt8} {v : Int} (h : atoiAll l = .ok v) : I64 v := by
  rw [← parseIntB_64] at h
  have := parseIntB_bounds h
  unfold I64; omega
theorem parse_none {l : List UInt8} (h : ∀ m, I64 m → itoa m ≠ l) : parseN l = 0 ∧ parseB l = false := by
  unfold parseN parseB
  rcases ha : atoiAll l with v | _ | _
  · have := h v (atoi_i64 ha)
    simp [this]
  · simp
  · simp
theorem parseN_i64 (l : List UInt8) : I64 (parseN l) := by
  unfold parseN
  rcases ha : atoiAll l with v | _ | _
  · simp only
    split
    · exact atoi_i64 ha
    · decide
  · simp only; decide
  · simp only; decide
theorem nDigits_le {u k : Nat} (h : u < 10 ^ k) (hk : 1 ≤ k) : nDigits u ≤ k := by
  induction k generalizing u with
  | zero => omega
  | succ k ih =>
    by_cases h1 : u < 10
    · rw [nDigits_small h1]; omega
    · rw [nDigits_big h1]
      have hk1 : 1 ≤ k := by
        rcases Nat.eq_zero_or_pos k with e | e
        · subst e; simp at h; omega
        · exact e
      have := ih (u := u / 10) (by rw [Nat.pow_succ] at h; omega) hk1
      omega
theorem itoa_len {n : Int} (h : I64 n) : 1 ≤ (itoa n).length ∧ (itoa n).length ≤ 20 := by
  unfold I64 at h
  have h3 : n.natAbs < 10 ^ 19 := by omega
  have h2 := nDigits_le (k := 19) h3 (by omega)
  have h4 := nDigits_pos n.natAbs
  unfold itoa
  split
  · rw [List.length_cons, decDigits_length]; omega
  · rename_i h0
    have e : n.toNat = n.natAbs := by omega
    rw [e, decDigits_length]; omega
end Go.Proofs.YtccigjelbnjcoaaGreatDoor.NumC
namespace Go.Proofs.YtccigjelbnjcoaaGreatDoor.AddrC
set_option linter.unusedVariables false
open Go.Proofs.YtccigjelbnjcoaaGreatDoor.NumC
def Cell (r c : Int) : Prop := (1 ≤ r ∧ r ≤ 1000) ∧ (1 ≤ c ∧ c ≤ 50)
instance (r c : Int) : Decidable (Cell r c) := by unfold Cell; infer_instance
def cutL : Nat → List UInt8 → Nat × List UInt8
  | k, [] => (k, [])
  | k, x :: l => if x.toNat < 65 ∨ 90 < x.toNat then (k, x :: l) else if 50 < k * 26 + (x.toNat - 64) then (0, []) else cutL (k * 26 + (x.toNat - 64)) l
theorem cutL_nil (k : Nat) : cutL k [] = (k, []) := rfl
theorem cutL_stop {k : Nat} {x : UInt8} {l : List UInt8} (h : x.toNat < 65 ∨ 90 < x.toNat) : cutL k (x :: l) = (k, x :: l) := by unfold cutL; rw [if_pos h]
theorem cutL_big {k : Nat} {x : UInt8} {l : List UInt8} (h : ¬ (x.toNat < 65 ∨ 90 < x.toNat)) (h2 : 50 < k * 26 + (x.toNat - 64)) : cutL k (x :: l) = (0, []) := by unfold cutL; rw [if_neg h, if_pos h2]
theorem cutL_on {k : Nat} {x : UInt8} {l : List UInt8} (h : ¬ (x.toNat < 65 ∨ 90 < x.toNat)) (h2 : ¬ 50 < k * 26 + (x.toNat - 64)) : cutL k (x :: l) = cutL (k * 26 + (x.toNat - 64)) l := by rw [cutL, if_neg h, if_neg h2]
def pOK (s : List UInt8) : Bool := decide ((cutL 0 s).1 ≠ 0 ∧ parseB (cutL 0 s).2 = true ∧ 1 ≤ parseN (cutL 0 s).2 ∧ parseN (cutL 0 s).2 ≤ 1000)
def pR (s : List UInt8) : Int := if pOK s then parseN (cutL 0 s).2 else 0
def pC (s : List UInt8) : Int := if pOK s then ((cutL 0 s).1 : Int) else 0
end Go.Proofs.YtccigjelbnjcoaaGreatDoor.AddrC
namespace Go.Proofs.YtccigjelbnjcoaaGreatDoor.LexC
set_option linter.unusedVariables false
open Go.Proofs.YtccigjelbnjcoaaGreatDoor.NumC
def digB (c : UInt8) : Bool := decide (48 ≤ c.toNat ∧ c.toNat ≤ 57)
def letB (c : UInt8) : Bool := decide ((97 ≤ c.toNat ∧ c.toNat ≤ 122) ∨ (65 ≤ c.toNat ∧ c.toNat ≤ 90))
def wordB (c : UInt8) : Bool := letB c || digB c
def upC (c : UInt8) : UInt8 := if 97 ≤ c.toNat ∧ c.toNat ≤ 122 then c - 32 else c
def upL (l : List UInt8) : List UInt8 := l.map upC
def numV (l : List UInt8) : Nat := l.foldl (fun a c => a * 10 + (c.toNat - 48)) 0
def txtL : List UInt8 → Option (List UInt8 × Nat)
  | [] => none
  | c :: l => if c = 34 then (match l with
      | 34 :: l' => (txtL l').map fun r => (34 :: r.1, r.2 + 2)
      | _ => some ([], 1))
    else (txtL l).map fun r => (c :: r.1, r.2 + 1)
theorem txtL_no {c : UInt8} {l : List UInt8} (h : c ≠ 34) : txtL (c :: l) = (txtL l).map fun r => (c :: r.1, r.2 + 1) := by
  conv => lhs; unfold txtL
  rw [if_neg h]
theorem txtL_two (l : List UInt8) : txtL (34 :: 34 :: l) = (txtL l).map fun r => (34 :: r.1, r.2 + 2) := by
  conv => lhs; unfold txtL
  rw [if_pos rfl]; rfl
theorem txtL_one {l : List UInt8} (h : ∀ l', l ≠ 34 :: l') : txtL (34 :: l) = some ([], 1) := by
  conv => lhs; unfold txtL
  rw [if_pos rfl]
  split
  · exact absurd rfl (h _)
  · rfl
theorem txtL_nil : txtL [] = none := rfl
def sign2 (c d : UInt8) : Bool := (c == 60 && (d == 62 || d == 61)) || (c == 62 && d == 61)
def sign1 (c : UInt8) : Bool := [43, 45, 42, 47, 37, 94, 38, 61, 60, 62, 40, 41, 44, 58].contains c
structure Tok where
  k : Int
  n : Int
  s : ByteArray
  at_ : Int
  deriving DecidableEq
def nob : ByteArray := { data := #[] }
def str (l : List UInt8) : ByteArray := ⟨l.toArray⟩
def signT (c : UInt8) : List UInt8 → Option (Int × Int × List UInt8 × Nat)
  | d :: _ => if sign2 c d = true then some (4, 0, [c, d], 2) else if sign1 c = true then some (4, 0, [c], 1) else none
  | [] => if sign1 c = true then some (4, 0, [c], 1) else none
def tokL (c : UInt8) (l : List UInt8) : Option (Int × Int × List UInt8 × Nat) :=
  if digB c = true then (if numV ((c :: l).takeWhile digB) < 9223372036854775808 then some (1, numV ((c :: l).takeWhile digB), [], ((c :: l).takeWhile digB).length) else none)
  else if letB c = true then some (3, 0, upL ((c :: l).takeWhile wordB), ((c :: l).takeWhile wordB).length)
  else if c = 34 then (txtL l).map fun r => (2, 0, r.1, r.2 + 1)
  else signT c l
def nextL : List UInt8 → Option (Int × Int × List UInt8 × Nat)
  | [] => none
  | c :: l => tokL c l
theorem nextL_cons (c : UInt8) (l : List UInt8) : nextL (c :: l) = tokL c l := rfl
structure Res where
  toks : List Tok
  at_ : Int
  err : Int
  deriving DecidableEq
def cutF : Nat → List UInt8 → Nat → List Tok → Res
  | 0, _, _, acc => ⟨acc, 0, 0⟩
  | _ + 1, [], _, acc => ⟨acc, 0, 0⟩
  | f + 1, c :: l, i, acc => if c = 32 then cutF f l (i + 1) acc else
    match nextL (c :: l) with
    | none => ⟨[], i, 12⟩
    | some (k, n, s, m) => cutF f ((c :: l).drop m) (i + m) (acc ++ [⟨k, n, str s, i⟩])
def cutL (l : List UInt8) : Res := if 300 < l.length then ⟨[], 0, 2⟩ else cutF (l.length + 1) l 0 []
theorem digB_iff {c : UInt8} : digB c = true ↔ 48 ≤ c.toNat ∧ c.toNat ≤ 57 := by unfold digB; exact decide_eq_true_iff
theorem letB_iff {c : UInt8} : letB c = true ↔ ((97 ≤ c.toNat ∧ c.toNat ≤ 122) ∨ (65 ≤ c.toNat ∧ c.toNat ≤ 90)) := by unfold letB; exact decide_eq_true_iff
theorem upC_up {c : UInt8} (h : 97 ≤ c.toNat ∧ c.toNat ≤ 122) : upC c = c - 32 := if_pos h
theorem upC_no {c : UInt8} (h : ¬ (97 ≤ c.toNat ∧ c.toNat ≤ 122)) : upC c = c := if_neg h
theorem sub32 {c : UInt8} (h : 97 ≤ c.toNat) : (c - 32).toNat = c.toNat - 32 := by
  rw [UInt8.toNat_sub_of_le]
  · rfl
  · rw [UInt8.le_iff_toNat_le]; show 32 ≤ c.toNat; omega
theorem upL_len (l : List UInt8) : (upL l).length = l.length := by unfold upL; exact List.length_map _
theorem drop_cons {l : List UInt8} {i : Nat} (h : i < l.length) : l.drop i = l[i] :: l.drop (i + 1) := List.drop_eq_getElem_cons h
theorem take_run {p : UInt8 → Bool} {l : List UInt8} {i n : Nat} (h1 : ∀ k, i ≤ k → k < n → ∃ h : k < l.length, p l[k] = true) (h2 : n = l.length ∨ ∃ h : n < l.length, p l[n] = false) (hi : i ≤ n) (hn : n ≤ l.length) :
    (l.drop i).takeWhile p = (l.take n).drop i := by
  induction hk : n - i generalizing i with
  | zero =>
    have hin : i = n := by omega
    subst hin
    rcases h2 with rfl | ⟨h, hp⟩
    · simp
    · rw [drop_cons h, List.takeWhile_cons, hp]
      simp
  | succ k ih =>
    obtain ⟨h, hp⟩ := h1 i (Nat.le_refl _) (by omega)
    have h3 : i < (l.take n).length := by rw [List.length_take]; omega
    rw [drop_cons h, List.takeWhile_cons, hp, if_pos rfl, List.drop_eq_getElem_cons h3, List.getElem_take, ih (fun k hk hkn => h1 k (by omega) hkn) (by omega) (by omega)]
theorem take_len {p : UInt8 → Bool} {l : List UInt8} {i n : Nat} (h : (l.drop i).takeWhile p = (l.take n).drop i) (hi : i ≤ n) (hn : n ≤ l.length) : ((l.drop i).takeWhile p).length = n - i := by
  rw [h, List.length_drop, List.length_take]; omega
end Go.Proofs.YtccigjelbnjcoaaGreatDoor.LexC
namespace Go.Proofs.YtccigjelbnjcoaaGreatDoor.ValueC
set_option linter.unusedVariables false
open Go.Proofs.YtccigjelbnjcoaaGreatDoor.NumC
structure Val where
  k : Int
  n : Int
  s : ByteArray
  deriving DecidableEq
def nos : ByteArray := { data := #[] }
theorem size_nos {s : ByteArray} (h : s.size = 0) : s = nos := by
  obtain ⟨⟨l⟩⟩ := s
  have : l.length = 0 := h
  rw [List.length_eq_zero_iff] at this
  subst this; rfl
def GoodP (a : Val) : Prop :=
  (a.k = 0 ∧ a.n = 0 ∧ a.s.size = 0) ∨ (a.k = 1 ∧ (a.n = 0 ∨ a.n = 1) ∧ a.s.size = 0) ∨ (a.k = 2 ∧ a.s.size = 0) ∨ (a.k = 3 ∧ a.n = 0 ∧ a.s.size ≤ 200) ∨ (a.k = 4 ∧ (1 ≤ a.n ∧ a.n ≤ 8) ∧ a.s.size = 0)
instance (a : Val) : Decidable (GoodP a) := by unfold GoodP; infer_instance
def goodB (a : Val) : Bool := decide (GoodP a)
theorem goodB_t {a : Val} (h : GoodP a) : goodB a = true := decide_eq_true h
theorem goodB_f {a : Val} (h : ¬ GoodP a) : goodB a = false := decide_eq_false h
def sameB (a b : Val) : Bool := decide (a = b)
def rankN (k : Int) : Int := if k = 2 then 1 else if k = 3 then 2 else if k = 1 then 3 else 0
def bl (x y : ByteArray) : Bool := Op.bytesLess x.data.toList y.data.toList
def ltP (a b : Val) : Prop := rankN a.k < rankN b.k ∨ (rankN a.k = rankN b.k ∧ (a.n < b.n ∨ (a.n = b.n ∧ bl a.s b.s = true)))
instance (a b : Val) : Decidable (ltP a b) := by unfold ltP; infer_instance
def Ord (a : Val) : Prop := GoodP a ∧ a.k ≠ 4
instance (a : Val) : Decidable (Ord a) := by unfold Ord; infer_instance
end Go.Proofs.YtccigjelbnjcoaaGreatDoor.ValueC
