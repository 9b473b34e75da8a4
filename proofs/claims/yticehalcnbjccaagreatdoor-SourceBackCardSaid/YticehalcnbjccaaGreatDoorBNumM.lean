/-
  Plain arithmetic for package num: sizes of numbers, a number or that there is none. No program in it.
-/
import Derived.WalkKit
namespace Go.Proofs.YticehalcnbjccaaGreatDoor.NumC
set_option linter.unusedVariables false
open Go.RowKit
def I64 (a : Int) : Prop := -9223372036854775808 ≤ a ∧ a ≤ 9223372036854775807
instance (n : Int) : Decidable (I64 n) := by unfold I64; infer_instance
theorem i64_of_wf {a : Int} (h : (Lit.int .i64 a).wf = true) : I64 a := by
  simp [Lit.wf, IntKind.min, IntKind.max, IntKind.signed, IntKind.bits] at h; unfold I64; omega
theorem ret2 {x x' : Int} {b b' : Bool} (hx : x = x') (hb : b = b') : Ending.returned (.tuple #[.int .i64 x, .bool b]) = .returned (.tuple #[.int .i64 x', .bool b']) := by subst hx hb; rfl
theorem ret1 {b b' : Bool} (hb : b = b') : Ending.returned (.bool b) = .returned (.bool b') := by subst hb; rfl
def pw (a : Int) (k : Nat) : Int := a ^ k
end Go.Proofs.YticehalcnbjccaaGreatDoor.NumC
