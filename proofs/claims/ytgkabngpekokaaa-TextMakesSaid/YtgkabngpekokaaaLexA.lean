/-
  Contracts of lex's reference: digit, letter, Quote.
-/
import Derived.Test.YtgkabngpekokaaaLexM
import Derived.Test.YtgkabngpekokaaaNumR
import Derived.Test.YtgkabngpekokaaaNumA
import Derived.Laws.IdiomStrings
import Derived.LoopTactic
import Derived.LoopN
import Derived.Lib.Strings
namespace Go.Proofs.Ytgkabngpekokaaa.LexC
set_option linter.unusedVariables false
open Go.RowKit Go.Proofs.Ytgkabngpekokaaa.NumC

theorem u8_lt (c : UInt8) : c.toNat < 256 := c.toNat_lt
theorem list_len (s : ByteArray) : s.size = s.data.toList.length := by unfold ByteArray.size; exact Array.length_toList.symm
theorem rets_ {s s' : ByteArray} (h : s = s') : Ending.returned (.string s) = .returned (.string s') := by rw [h]

theorem take_snoc (s : ByteArray) (k : Nat) (h : k < s.size) : s.data.toList.take (k + 1) = s.data.toList.take k ++ [s[k]] := by
  rw [List.take_succ_eq_append_getElem (by rw [← list_len]; exact h)]; rfl
theorem quB_snoc (l : List UInt8) (c : UInt8) : quB (l ++ [c]) = quB l ++ quC c := by unfold quB; rw [List.flatMap_append]; simp
theorem quC_34 {c : UInt8} (h : c.toNat = 34) : quC c = [34, c] := by
  have : c = 34 := UInt8.toNat_inj.1 h
  subst this; rfl
theorem quC_no {c : UInt8} (h : c.toNat ≠ 34) : quC c = [c] := if_neg fun e => h (by rw [e]; rfl)
theorem quC_len (c : UInt8) : (quC c).length ≤ 2 := by unfold quC; split <;> simp
theorem quB_len (l : List UInt8) : (quB l).length ≤ 2 * l.length + 1 := by
  unfold quB
  induction l with
  | nil => simp
  | cons c l ih =>
    have := quC_len c
    simp only [List.flatMap_cons, List.length_cons, List.length_append] at ih ⊢; omega
theorem str_app (x y : List UInt8) : str x ++ str y = str (x ++ y) := ByteArray.mk_append_mk x y
theorem str_size (x : List UInt8) : (str x).size = x.length := by show x.toArray.size = _; simp
theorem one_str (s : ByteArray) (k : Nat) (h : k < s.size) : s.extract k (k + 1) = str [s[k]] := by
  apply ByteArray.ext
  apply Array.toList_inj.1
  rw [Lib.extract_data, show k + 1 - k = 1 from by omega, List.drop_eq_getElem_cons (by rw [← list_len]; exact h)]
  rfl
end Go.Proofs.Ytgkabngpekokaaa.LexC
