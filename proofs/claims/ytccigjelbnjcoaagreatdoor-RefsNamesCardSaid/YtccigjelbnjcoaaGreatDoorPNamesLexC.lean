/-
  Contracts of lex's reference: number, text.
-/
import Derived.Test.YtccigjelbnjcoaaGreatDoorPNamesLexA
import Derived.Test.YtccigjelbnjcoaaGreatDoorPNamesNumG
import Derived.Deep.QuietTactic
import Derived.BigQuiet
import Derived.IntWalk
namespace Go.Proofs.YtccigjelbnjcoaaGreatDoor.LexC
set_option linter.unusedVariables false
open Go.RowKit Go.Proofs.YtccigjelbnjcoaaGreatDoor.NumC
def tokV (t : Tok) : Value := .agg #[.int .i64 t.k, .int .i64 t.n, .string t.s, .int .i64 t.at_]
def zeroT : Tok := ⟨0, 0, nob, 0⟩
theorem tok_eq {t t' : Tok} {m m' : Int} (h : t = t') (h2 : m = m') : Ending.returned (.tuple #[.agg #[.int .i64 t.k, .int .i64 t.n, .string t.s, .int .i64 t.at_], .int .i64 m]) = .returned (.tuple #[tokV t', .int .i64 m']) := by subst h h2; rfl
def numR (l : List UInt8) (i : Nat) : Tok × Int := if numV ((l.drop i).takeWhile digB) < 9223372036854775808 then (⟨1, numV ((l.drop i).takeWhile digB), nob, i⟩, ((l.drop i).takeWhile digB).length) else (zeroT, 0)
def textR (l : List UInt8) (i : Nat) : Tok × Int := match txtL (l.drop (i + 1)) with
  | some r => (⟨2, 0, str r.1, i⟩, r.2 + 1)
  | none => (zeroT, 0)
def Txt (l : List UInt8) (i n : Nat) (acc : List UInt8) : Prop := txtL (l.drop (i + 1)) = (txtL (l.drop n)).map fun r => (acc ++ r.1, (n - (i + 1)) + r.2)
theorem Txt.nil (l : List UInt8) (i : Nat) : Txt l i (i + 1) [] := by
  unfold Txt
  cases txtL (l.drop (i + 1)) <;> simp
theorem Txt.more {l : List UInt8} {i n : Nat} {acc : List UInt8} (h : Txt l i n acc) (hi : i < n) (hn : n < l.length) (hc : l[n] ≠ 34) : Txt l i (n + 1) (acc ++ [l[n]]) := by
  unfold Txt at *
  rw [h, drop_cons hn, txtL_no hc]
  cases txtL (l.drop (n + 1)) with
  | none => rfl
  | some r => simp; omega
theorem Txt.two {l : List UInt8} {i n : Nat} {acc : List UInt8} (h : Txt l i n acc) (hi : i < n) (hn : n + 1 < l.length) (hc : l[n] = 34) (hd : l[n + 1] = 34) : Txt l i (n + 2) (acc ++ [34]) := by
  unfold Txt at *
  rw [h, drop_cons (show n < l.length by omega), drop_cons hn, hc, hd, txtL_two]
  cases txtL (l.drop (n + 2)) with
  | none => rfl
  | some r => simp; omega
theorem Txt.end_ {l : List UInt8} {i n : Nat} {acc : List UInt8} (h : Txt l i n acc) (hi : i < n) (hn : n < l.length) (hc : l[n] = 34) (hd : ∀ h : n + 1 < l.length, l[n + 1] ≠ 34) : textR l i = (⟨2, 0, str acc, i⟩, (n : Int) + 1 - i) := by
  unfold Txt at h
  have e : txtL (l.drop n) = some ([], 1) := by
    rw [drop_cons hn, hc]
    refine txtL_one fun l' e2 => ?_
    by_cases h2 : n + 1 < l.length
    · have := hd h2
      rw [drop_cons h2] at e2
      injection e2 with h3 h4
      exact this h3
    · rw [List.drop_eq_nil_of_le (by omega)] at e2; cases e2
  rw [e] at h
  unfold textR
  rw [h]
  simp; omega
theorem Txt.no {l : List UInt8} {i n : Nat} {acc : List UInt8} (h : Txt l i n acc) (hn : l.length ≤ n) : textR l i = (zeroT, 0) := by
  unfold Txt at h
  rw [List.drop_eq_nil_of_le hn, txtL_nil] at h
  unfold textR
  rw [h]; rfl
end Go.Proofs.YtccigjelbnjcoaaGreatDoor.LexC
namespace Go.Proofs.YtccigjelbnjcoaaGreatDoor.LexC
set_option linter.unusedVariables false
open Go.RowKit Go.Proofs.YtccigjelbnjcoaaGreatDoor.NumC
def nextR (l : List UInt8) (i : Nat) : Tok × Int := match nextL (l.drop i) with
  | some (k, n, s, m) => (⟨k, n, str s, i⟩, m)
  | none => (zeroT, 0)
theorem next_digit {l : List UInt8} {i : Nat} (h : i < l.length) (hd : digB l[i] = true) : nextR l i = numR l i := by
  unfold nextR numR
  rw [drop_cons h, nextL_cons, tokL, if_pos hd]
  by_cases hv : numV ((l[i] :: l.drop (i + 1)).takeWhile digB) < 9223372036854775808
  · rw [if_pos hv, if_pos hv]; rfl
  · rw [if_neg hv, if_neg hv]
theorem next_text {l : List UInt8} {i : Nat} (h : i < l.length) (hc : l[i] = 34) : nextR l i = textR l i := by
  unfold nextR textR
  rw [drop_cons h, nextL_cons, tokL, hc, if_neg (by decide), if_neg (by decide), if_pos rfl]
  cases txtL (l.drop (i + 1)) with
  | none => rfl
  | some r => rfl
end Go.Proofs.YtccigjelbnjcoaaGreatDoor.LexC
namespace Go.Proofs.YtccigjelbnjcoaaGreatDoor.LexC
set_option linter.unusedVariables false
open Go.RowKit Go.Proofs.YtccigjelbnjcoaaGreatDoor.NumC
theorem heap_one (w : World) (o : Obj) : (w.alloc o).heap.size = w.heap.size + 1 := by simp
end Go.Proofs.YtccigjelbnjcoaaGreatDoor.LexC
