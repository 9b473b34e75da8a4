/-
  Plain arithmetic for package num: sizes of numbers, a number or that there is none. No program in it.
-/
import Derived.WalkKit
namespace Go.Proofs.YtakamedgdiffbaaGreatDoor.NumC
set_option linter.unusedVariables false
open Go.RowKit
def I64 (a : Int) : Prop := -9223372036854775808 ≤ a ∧ a ≤ 9223372036854775807
instance (n : Int) : Decidable (I64 n) := by unfold I64; infer_instance
theorem ret1 {b b' : Bool} (hb : b = b') : Ending.returned (.bool b) = .returned (.bool b') := by subst hb; rfl
def pw (a : Int) (k : Nat) : Int := a ^ k
end Go.Proofs.YtakamedgdiffbaaGreatDoor.NumC
