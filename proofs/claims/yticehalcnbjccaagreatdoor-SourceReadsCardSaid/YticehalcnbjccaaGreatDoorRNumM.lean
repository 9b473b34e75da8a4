/-
  Plain arithmetic for package num: sizes of numbers, a number or that there is none. No program in it.
-/
import Derived.WalkKit
namespace Go.Proofs.YticehalcnbjccaaGreatDoor.NumC
set_option maxRecDepth 100000
set_option maxHeartbeats 8000000
set_option linter.unusedVariables false
open Go.RowKit
def I64 (a : Int) : Prop := -9223372036854775808 ≤ a ∧ a ≤ 9223372036854775807
instance (n : Int) : Decidable (I64 n) := by unfold I64; infer_instance
def siz (a : Int) : Int := if a < 0 then -a else a
theorem siz_neg {a : Int} (h : a < 0) : siz a = -a := by unfold siz; rw [if_pos h]
theorem siz_pos {a : Int} (h : ¬ a < 0) : siz a = a := by unfold siz; rw [if_neg h]
theorem siz_bd {a : Int} (h : I64 a) : 0 ≤ siz a ∧ siz a ≤ 9223372036854775808 := by unfold siz I64 at *; split <;> omega
theorem siz_nonneg (a : Int) : 0 ≤ siz a := by unfold siz; split <;> omega
theorem ret2 {x x' : Int} {b b' : Bool} (hx : x = x') (hb : b = b') : Ending.returned (.tuple #[.int .i64 x, .bool b]) = .returned (.tuple #[.int .i64 x', .bool b']) := by subst hx hb; rfl
theorem ret1 {b b' : Bool} (hb : b = b') : Ending.returned (.bool b) = .returned (.bool b') := by subst hb; rfl
def fitN (n : Int) : Int := if I64 n then n else 0
def fitB (n : Int) : Bool := decide (I64 n)
theorem fitN_yes {n : Int} (h : I64 n) : fitN n = n := by unfold fitN; rw [if_pos h]
theorem fitN_no {n : Int} (h : ¬ I64 n) : fitN n = 0 := by unfold fitN; rw [if_neg h]
theorem fitB_yes {n : Int} (h : I64 n) : fitB n = true := by unfold fitB; exact decide_eq_true h
theorem fitB_no {n : Int} (h : ¬ I64 n) : fitB n = false := by unfold fitB; exact decide_eq_false h
def sgd (b : Bool) (u : Int) : Int := if b then -u else u
theorem i64_sgd_f {u : Int} (h0 : 0 ≤ u) (h1 : u < 9223372036854775808) : I64 (sgd false u) := by show I64 u; unfold I64; omega
theorem i64_sgd_f' {u : Int} (h1 : ¬ u < 9223372036854775808) : ¬ I64 (sgd false u) := by show ¬ I64 u; unfold I64; omega
theorem i64_sgd_t {u : Int} (h0 : 0 ≤ u) (h1 : u ≤ 9223372036854775808) : I64 (sgd true u) := by show I64 (-u); unfold I64; omega
theorem i64_sgd_t' {u : Int} (h1 : ¬ u ≤ 9223372036854775808) : ¬ I64 (sgd true u) := by show ¬ I64 (-u); unfold I64; omega
theorem sgd_f (u : Int) : sgd false u = u := rfl
theorem sgd_t (u : Int) : sgd true u = -u := rfl
def pw (a : Int) (k : Nat) : Int := a ^ k
end Go.Proofs.YticehalcnbjccaaGreatDoor.NumC
