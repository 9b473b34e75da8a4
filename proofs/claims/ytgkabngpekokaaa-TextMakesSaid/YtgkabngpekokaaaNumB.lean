/-
  Contracts of package num: Mul, Div, Mod. Nothing is assumed but that the arguments are numbers of their kinds.
-/
import Derived.Test.YtgkabngpekokaaaNumA
import Derived.Test.YtgkabngpekokaaaShelf
namespace Go.Proofs.Ytgkabngpekokaaa.NumC
set_option linter.unusedVariables false
open Go.RowKit

theorem mul64_any (x y : Int) (w : World) (h0 : 0 ≤ x) (h1 : x ≤ 18446744073709551615) (h2 : 0 ≤ y) (h3 : y ≤ 18446744073709551615) :
    Calls Try.prog 56 #[.int .u64 x, .int .u64 y] w fun e w' => e = .returned (.tuple #[.int .u64 (x * y / 18446744073709551616), .int .u64 (x * y % 18446744073709551616)]) ∧ w = w' := by
  obtain ⟨m, rfl⟩ := Int.eq_ofNat_of_zero_le h0
  obtain ⟨n, rfl⟩ := Int.eq_ofNat_of_zero_le h2
  exact (Try.bits_Mul64 m n (by omega) (by omega) w).mono fun e w' ⟨he, hw⟩ => ⟨by rw [he]; simp, hw.symm⟩
theorem mul64_small (x y : Int) (w : World) (h0 : 0 ≤ x) (h1 : x ≤ 18446744073709551615) (h2 : 0 ≤ y) (h3 : y ≤ 18446744073709551615) (h4 : 0 ≤ x * y) (h : x * y ≤ 18446744073709551615) :
    Calls Try.prog 56 #[.int .u64 x, .int .u64 y] w fun e w' => e = .returned (.tuple #[.int .u64 0, .int .u64 (x * y)]) ∧ w = w' :=
  (mul64_any x y w h0 h1 h2 h3).mono fun e w' ⟨he, hw⟩ => ⟨by rw [he, show x * y / 18446744073709551616 = 0 from by omega, show x * y % 18446744073709551616 = x * y from by omega], hw⟩
theorem mul64_big (x y : Int) (w : World) (h0 : 0 ≤ x) (h1 : x ≤ 18446744073709551615) (h2 : 0 ≤ y) (h3 : y ≤ 18446744073709551615) (h : ¬ x * y ≤ 18446744073709551615) :
    Calls Try.prog 56 #[.int .u64 x, .int .u64 y] w fun e w' => ∃ hi lo, 0 < hi ∧ e = .returned (.tuple #[.int .u64 hi, .int .u64 lo]) ∧ w = w' :=
  (mul64_any x y w h0 h1 h2 h3).mono fun e w' ⟨he, hw⟩ => ⟨_, _, by omega, he, hw⟩

end Go.Proofs.Ytgkabngpekokaaa.NumC
