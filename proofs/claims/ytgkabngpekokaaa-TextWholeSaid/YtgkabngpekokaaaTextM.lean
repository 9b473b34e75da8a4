/-
  What functions make of texts, as plain functions, and what follows of them.
-/
import Derived.Test.YtgkabngpekokaaaValueM
import Derived.Test.YtgkabngpekokaaaLexM
namespace Go.Proofs.Ytgkabngpekokaaa.TextC
set_option linter.unusedVariables false
open Go.Proofs.Ytgkabngpekokaaa.ValueC (Val failV failV_yes ofV nos)
open Go.Proofs.Ytgkabngpekokaaa.LexC (upC upL str)

/-- A text's value; a part of a text. -/
def txtV (s : ByteArray) : Val := ⟨3, 0, s⟩
def lngV : Val := ⟨4, 7, nos⟩
def argV : Val := ⟨4, 5, nos⟩
def nonV : Val := ⟨4, 8, nos⟩
def midV (s : ByteArray) (at_ n : Int) : Val :=
  if 200 < s.size then lngV else if at_ < 1 ∨ n < 0 then argV else if (s.size : Int) < at_ then txtV nos
  else txtV (s.extract (at_ - 1).toNat ((at_ - 1).toNat + min n.toNat (s.size - (at_ - 1).toNat)))
def leftV (s : ByteArray) (n : Int) : Val := midV s 1 n
def rightV (s : ByteArray) (n : Int) : Val :=
  if 200 < s.size then lngV else if n < 0 then argV else txtV (s.extract (s.size - min n.toNat s.size) s.size)
/-- Does it stand there? The first place from i on. -/
def standsB (what s : ByteArray) (j : Nat) : Bool := decide (j + what.size ≤ s.size) && decide (s.extract j (j + what.size) = what)
def firstN (what s : ByteArray) : Nat → Nat → Option Nat
  | 0, _ => none
  | f + 1, i => if i + what.size ≤ s.size then (if s.extract i (i + what.size) = what then some i else firstN what s f (i + 1)) else none
def findV (what s : ByteArray) (at_ : Int) : Val :=
  if 200 < what.size ∨ 200 < s.size then lngV else if at_ < 1 then argV else if (s.size : Int) + 1 < at_ then nonV
  else match firstN what s (s.size + 1 - (at_ - 1).toNat) (at_ - 1).toNat with
    | some i => ⟨2, (i : Int) + 1, nos⟩
    | none => nonV
/-- Turned to lower case. -/
def loC (b : UInt8) : UInt8 := if 65 ≤ b.toNat ∧ b.toNat ≤ 90 then b + 32 else b
def loL (l : List UInt8) : List UInt8 := l.map loC
def upperV (s : ByteArray) : Val := if 200 < s.size then lngV else txtV (str (upL s.data.toList))
def lowerV (s : ByteArray) : Val := if 200 < s.size then lngV else txtV (str (loL s.data.toList))
/-- So many times. -/
def repS (s : ByteArray) : Nat → ByteArray
  | 0 => nos
  | n + 1 => repS s n ++ s
def repeatV (s : ByteArray) (n : Int) : Val := if 200 < s.size then lngV else if n < 0 then argV else if s.size = 0 then txtV nos else if 200 < n then lngV else ofV (repS s n.toNat)
def joinV (a b : ByteArray) : Val := if 200 < a.size ∨ 200 < b.size then lngV else ofV (a ++ b)
def lenV (s : ByteArray) : Val := if 200 < s.size then lngV else ⟨2, s.size, nos⟩

theorem size_ext {s : ByteArray} {i j : Nat} (hi : i ≤ j) (hj : j ≤ s.size) : (s.extract i j).size = j - i := by
  rw [ByteArray.size_extract, Nat.min_eq_left hj]
theorem ext_all (s : ByteArray) : s.extract 0 s.size = s := ByteArray.extract_zero_size
theorem ext_join (s : ByteArray) (i j k : Nat) (h1 : i ≤ j) (h2 : j ≤ k) : s.extract i j ++ s.extract j k = s.extract i k := by
  rw [ByteArray.extract_append_extract, Nat.min_eq_left h1, Nat.max_eq_right h2]
theorem ext_none (s : ByteArray) (i : Nat) : s.extract i i = nos := by
  apply ByteArray.ext; rw [ByteArray.data_extract]; simp [nos, Nat.min_le_left]
theorem ext_ext (s : ByteArray) (p m : Nat) (hp : p ≤ s.size) : (s.extract p s.size).extract 0 m = s.extract p (p + min m (s.size - p)) := by
  rw [ByteArray.extract_extract, Nat.add_zero]
  congr 1
  omega
theorem ofV_small {s : ByteArray} (h : s.size ≤ 200) : ofV s = txtV s := by unfold ofV; rw [if_neg (by omega)]; rfl
/-- The first bytes and the rest. -/
theorem left_of (s : ByteArray) (n : Nat) (hs : s.size ≤ 200) : leftV s n = txtV (s.extract 0 (min n s.size)) := by
  unfold leftV midV
  rw [if_neg (by omega), if_neg (by omega)]
  by_cases h : (s.size : Int) < 1
  · have h0 : s.size = 0 := by omega
    rw [if_pos h, h0, Nat.min_zero, ext_none]
  · rw [if_neg h]
    have e : ((1 : Int) - 1).toNat = 0 := rfl
    rw [e]
    simp only [Int.toNat_natCast, Nat.zero_add, Nat.sub_zero]
theorem rest_of (s : ByteArray) (n m : Nat) (hs : s.size ≤ 200) : midV s ((n : Int) + 1) m = txtV (s.extract (min n s.size) (min n s.size + min m (s.size - min n s.size))) := by
  unfold midV
  rw [if_neg (by omega), if_neg (by omega)]
  by_cases h : (s.size : Int) < (n : Int) + 1
  · rw [if_pos h, Nat.min_eq_right (by omega), Nat.sub_self, Nat.min_zero, Nat.add_zero, ext_none]
  · have hm : min n s.size = n := Nat.min_eq_left (by omega)
    have e : ((n : Int) + 1 - 1).toNat = n := by omega
    rw [if_neg h, hm, e, Int.toNat_natCast]
theorem right_of (s : ByteArray) (n : Nat) (hs : s.size ≤ 200) : rightV s n = txtV (s.extract (s.size - min n s.size) s.size) := by
  unfold rightV
  rw [if_neg (by omega), if_neg (by omega), Int.toNat_natCast]
theorem whole_join (s : ByteArray) (n : Nat) (hs : s.size ≤ 200) : joinV (leftV s n).s (midV s ((n : Int) + 1) 300).s = txtV s := by
  have h3 : midV s ((n : Int) + 1) 300 = midV s ((n : Int) + 1) ((300 : Nat) : Int) := rfl
  rw [left_of s n hs, h3, rest_of s n 300 hs]
  have e : min n s.size + min 300 (s.size - min n s.size) = s.size := by omega
  rw [e]
  show joinV (s.extract 0 (min n s.size)) (s.extract (min n s.size) s.size) = _
  unfold joinV
  rw [if_neg (by rw [size_ext (by omega) (by omega), size_ext (by omega) (by omega)]; omega), ext_join s 0 _ _ (by omega) (by omega), ext_all, ofV_small hs]
theorem whole_right (s : ByteArray) (n : Nat) (hs : s.size ≤ 200) (h : n ≤ s.size) : (leftV s ((s.size : Int) - n)).s ++ (rightV s n).s = s := by
  have e : ((s.size : Int) - n) = ((s.size - n : Nat) : Int) := by omega
  rw [e, left_of s _ hs, right_of s n hs]
  show s.extract 0 (min (s.size - n) s.size) ++ s.extract (s.size - min n s.size) s.size = s
  rw [Nat.min_eq_left (by omega), Nat.min_eq_left h, ext_join s 0 _ _ (by omega) (by omega), ext_all]
/-- A part is found where it was taken, or ahead of it. -/
theorem first_le (what s : ByteArray) : ∀ (f i j : Nat), i ≤ j → j < i + f → j + what.size ≤ s.size → s.extract j (j + what.size) = what → ∃ k, firstN what s f i = some k ∧ k ≤ j
  | 0, i, j, h1, h2, _, _ => by omega
  | f + 1, i, j, h1, h2, h3, h4 => by
    unfold firstN
    rw [if_pos (by omega)]
    by_cases e : s.extract i (i + what.size) = what
    · exact ⟨i, by rw [if_pos e], h1⟩
    · rw [if_neg e]
      have hne : i ≠ j := fun x => e (by rw [x]; exact h4)
      exact first_le what s f (i + 1) j (by omega) (by omega) h3 h4
theorem part_found (s : ByteArray) (n k : Nat) (hs : s.size ≤ 200) : ∃ m : Nat, findV (midV s ((n : Int) + 1) k).s s 1 = ⟨2, (m : Int) + 1, nos⟩ ∧ m ≤ n := by
  rw [rest_of s n k hs]
  show ∃ m : Nat, findV (s.extract (min n s.size) (min n s.size + min k (s.size - min n s.size))) s 1 = _ ∧ _
  have hsz := size_ext (s := s) (i := min n s.size) (j := min n s.size + min k (s.size - min n s.size)) (by omega) (by omega)
  generalize hw : s.extract (min n s.size) (min n s.size + min k (s.size - min n s.size)) = what at hsz
  unfold findV
  rw [if_neg (by omega), if_neg (by omega), if_neg (by omega)]
  have e : ((1 : Int) - 1).toNat = 0 := rfl
  rw [e]
  obtain ⟨m, h1, h2⟩ := first_le what s (s.size + 1 - 0) 0 (min n s.size) (by omega) (by omega) (by omega) (by
    rw [hsz, show min n s.size + (min n s.size + min k (s.size - min n s.size) - min n s.size) = min n s.size + min k (s.size - min n s.size) from by omega]
    exact hw)
  rw [h1]
  exact ⟨m, rfl, by omega⟩
theorem loC_lo {c : UInt8} (h : 65 ≤ c.toNat ∧ c.toNat ≤ 90) : loC c = c + 32 := if_pos h
theorem loC_no {c : UInt8} (h : ¬ (65 ≤ c.toNat ∧ c.toNat ≤ 90)) : loC c = c := if_neg h
theorem add32 {c : UInt8} (h : c.toNat ≤ 90) : (c + 32).toNat = c.toNat + 32 := by rw [UInt8.toNat_add]; show (c.toNat + 32) % 256 = _; omega
theorem loL_len (l : List UInt8) : (loL l).length = l.length := by unfold loL; exact List.length_map ..
theorem loL_at (s : ByteArray) (j : Nat) (h1 : j < (loL s.data.toList).length) (h2 : j < s.size) : (loL s.data.toList)[j] = loC s[j] := by simp only [loL, List.getElem_map]; rfl
/-- Turned twice. -/
theorem up_lo (b : UInt8) : upC (loC b) = upC b := by
  have key : ∀ n : Fin 256, upC (loC (UInt8.ofNat n.val)) = upC (UInt8.ofNat n.val) := by decide +kernel
  have := key ⟨b.toNat, b.toNat_lt⟩
  simpa using this
theorem lo_up (b : UInt8) : loC (upC b) = loC b := by
  have key : ∀ n : Fin 256, loC (upC (UInt8.ofNat n.val)) = loC (UInt8.ofNat n.val) := by decide +kernel
  have := key ⟨b.toNat, b.toNat_lt⟩
  simpa using this
theorem upL_loL (l : List UInt8) : upL (loL l) = upL l := by
  unfold upL loL
  rw [List.map_map]
  exact List.map_congr_left fun b _ => up_lo b
theorem loL_upL (l : List UInt8) : loL (upL l) = loL l := by
  unfold upL loL
  rw [List.map_map]
  exact List.map_congr_left fun b _ => lo_up b
theorem str_size (l : List UInt8) : (str l).size = l.length := by unfold str; rfl
theorem str_list (l : List UInt8) : (str l).data.toList = l := by unfold str; simp
theorem up_size (s : ByteArray) : (str (upL s.data.toList)).size = s.size := by rw [str_size]; unfold upL; rw [List.length_map]; rfl
theorem lo_size (s : ByteArray) : (str (loL s.data.toList)).size = s.size := by rw [str_size]; unfold loL; rw [List.length_map]; rfl
theorem rep_size (s : ByteArray) (n : Nat) : (repS s n).size = s.size * n := by
  induction n with
  | zero => rfl
  | succ n ih => show (repS s n ++ s).size = _; rw [ByteArray.size_append, ih, Nat.mul_succ]
theorem rep_front (s : ByteArray) (n : Nat) (h : 0 < n) : (repS s n).extract 0 s.size = s := by
  induction n with
  | zero => omega
  | succ n ih =>
    show (repS s n ++ s).extract 0 s.size = s
    by_cases h0 : n = 0
    · subst h0
      show (nos ++ s).extract 0 s.size = s
      rw [show nos ++ s = s from by apply ByteArray.ext; rw [ByteArray.data_append]; simp [nos], ext_all]
    · have hz : s.size ≤ (repS s n).size := by
        rw [rep_size]
        have := Nat.mul_le_mul_left s.size (show 1 ≤ n by omega)
        omega
      have := ih (by omega)
      rw [ByteArray.extract_append, Nat.zero_sub, Nat.sub_eq_zero_of_le hz, ext_none, this]
      apply ByteArray.ext; rw [ByteArray.data_append]; simp [nos]
theorem rep_back (s : ByteArray) (n : Nat) (h : 0 < n) : (repS s n).extract ((repS s n).size - s.size) (repS s n).size = s := by
  cases n with
  | zero => omega
  | succ n =>
    show (repS s n ++ s).extract ((repS s n ++ s).size - s.size) (repS s n ++ s).size = s
    rw [ByteArray.size_append, Nat.add_sub_cancel]
    exact ByteArray.extract_append_eq_right rfl rfl
end Go.Proofs.Ytgkabngpekokaaa.TextC
