/-
  Contracts of package num: Mul, Div, Mod. Nothing is assumed but that the arguments are numbers of their kinds.
-/
import Derived.Test.YtkfgcnomojopdaaDoorNumA
import Derived.Test.YtkfgcnomojopdaaDoorShelf
namespace Go.Proofs.YtkfgcnomojopdaaDoor.NumC
set_option linter.unusedVariables false
open Go.RowKit

theorem mul64_any (x y : Int) (w : World) (h0 : 0 ≤ x) (h1 : x ≤ 18446744073709551615) (h2 : 0 ≤ y) (h3 : y ≤ 18446744073709551615) :
    Calls Tryd.prog 30 #[.int .u64 x, .int .u64 y] w fun e w' => e = .returned (.tuple #[.int .u64 (x * y / 18446744073709551616), .int .u64 (x * y % 18446744073709551616)]) ∧ w = w' := by
  obtain ⟨m, rfl⟩ := Int.eq_ofNat_of_zero_le h0
  obtain ⟨n, rfl⟩ := Int.eq_ofNat_of_zero_le h2
  exact (Tryd.bits_Mul64 m n (by omega) (by omega) w).mono fun e w' ⟨he, hw⟩ => ⟨by rw [he]; simp, hw.symm⟩
theorem mul64_small (x y : Int) (w : World) (h0 : 0 ≤ x) (h1 : x ≤ 18446744073709551615) (h2 : 0 ≤ y) (h3 : y ≤ 18446744073709551615) (h4 : 0 ≤ x * y) (h : x * y ≤ 18446744073709551615) :
    Calls Tryd.prog 30 #[.int .u64 x, .int .u64 y] w fun e w' => e = .returned (.tuple #[.int .u64 0, .int .u64 (x * y)]) ∧ w = w' :=
  (mul64_any x y w h0 h1 h2 h3).mono fun e w' ⟨he, hw⟩ => ⟨by rw [he, show x * y / 18446744073709551616 = 0 from by omega, show x * y % 18446744073709551616 = x * y from by omega], hw⟩
theorem mul64_big (x y : Int) (w : World) (h0 : 0 ≤ x) (h1 : x ≤ 18446744073709551615) (h2 : 0 ≤ y) (h3 : y ≤ 18446744073709551615) (h : ¬ x * y ≤ 18446744073709551615) :
    Calls Tryd.prog 30 #[.int .u64 x, .int .u64 y] w fun e w' => ∃ hi lo, 0 < hi ∧ e = .returned (.tuple #[.int .u64 hi, .int .u64 lo]) ∧ w = w' :=
  (mul64_any x y w h0 h1 h2 h3).mono fun e w' ⟨he, hw⟩ => ⟨_, _, by omega, he, hw⟩

set_option maxHeartbeats 400000 in
theorem mul (a b : Int) (w : World) (ha : I64 a) (hb : I64 b) :
    Calls Tryd.prog 11 #[.int .i64 a, .int .i64 b] w fun e w' => e = .returned (.tuple #[.int .i64 (fitN (a * b)), .bool (fitB (a * b))]) ∧ w = w' := by
  have Sa := siz_bd ha; have Sb := siz_bd hb
  have Sp := siz_mul_nonneg a b
  by_cases h : siz a * siz b ≤ 18446744073709551615
  · have E := Lib.hid (sgd_mul a b)
    go_enter Tryd.func11, Tryd.ntmps11
    go_wp2_with fail
    refine (sizes _ _ _ ha hb).mono ?_; rintro e w' ⟨rfl, rfl⟩
    go_wp2_with fail
    refine (mul64_small _ _ _ Sa.1 (by omega) Sb.1 (by omega) Sp h).mono ?_; rintro e w' ⟨rfl, rfl⟩
    go_wp2_with fail
    refine (signed _ _ _ Sp h).mono ?_; rintro e w' ⟨rfl, rfl⟩
    go_wp2
    go_ret2
    exact ⟨ret2 (congrArg fitN E.out) (congrArg fitB E.out), rfl⟩
  · have E := Lib.hid (mul_over h)
    go_enter Tryd.func11, Tryd.ntmps11
    go_wp2_with fail
    refine (sizes _ _ _ ha hb).mono ?_; rintro e w' ⟨rfl, rfl⟩
    go_wp2_with fail
    refine (mul64_big _ _ _ Sa.1 (by omega) Sb.1 (by omega) (by omega)).mono ?_; rintro e w' ⟨hi, lo, h5, rfl, rfl⟩
    go_wp2
    go_ret2
    exact ⟨ret2 (by rw [fitN_no E.out]) (by rw [fitB_no E.out]), rfl⟩

set_option maxHeartbeats 400000 in
theorem div (a b : Int) (w : World) (ha : I64 a) (hb : I64 b) :
    Calls Tryd.prog 16 #[.int .i64 a, .int .i64 b] w fun e w' => e = .returned (.tuple #[.int .i64 (divN a b), .bool (divB a b)]) ∧ w = w' := by
  by_cases h : b = 0
  · subst h
    go_enter Tryd.func16, Tryd.ntmps16
    go_wp2
    go_ret2
    exact ⟨ret2 rfl rfl, rfl⟩
  · have E := Lib.hid (sgd_div a b)
    have h1 : (b == 0) = false := by simpa using h
    have Sa := siz_bd ha; have Sb := siz_bd hb; have S1 := siz_pos' h
    have Sd := siz_div_bd ha h
    have E1 := Lib.hid (divN_1 (a := a) h); have E2 := Lib.hid (divB_1 (a := a) h)
    clear h
    go_enter Tryd.func16, Tryd.ntmps16
    go_wp2_with fail
    refine (sizes _ _ _ ha hb).mono ?_; rintro e w' ⟨rfl, rfl⟩
    go_wp2_with fail
    refine (signed _ _ _ Sd.1 (by omega)).mono ?_; rintro e w' ⟨rfl, rfl⟩
    go_wp2
    go_ret2
    exact ⟨ret2 (by rw [E1.out]; exact congrArg fitN E.out) (by rw [E2.out]; exact congrArg fitB E.out), rfl⟩

set_option maxHeartbeats 400000 in
theorem mod (a b : Int) (w : World) (ha : I64 a) (hb : I64 b) :
    Calls Tryd.prog 17 #[.int .i64 a, .int .i64 b] w fun e w' => e = .returned (.tuple #[.int .i64 (modN a b), .bool (divB a b)]) ∧ w = w' := by
  cases h : divB a b
  · have E : Hid (modN a b = 0) := Lib.hid (by unfold modN; rw [h]; rfl)
    have G := Lib.hid h; clear h
    go_enter Tryd.func17, Tryd.ntmps17
    go_wp2_with fail
    refine (div _ _ _ ha hb).mono ?_; rw [G.out]; rintro e w' ⟨rfl, rfl⟩
    go_wp2
    go_ret2
    exact ⟨ret2 E.out.symm rfl, rfl⟩
  · have E : Hid (modN a b = a.tmod b) := Lib.hid (by unfold modN; rw [h]; rfl)
    have F := Lib.hid (mod_eq ha hb h)
    have G := Lib.hid h; clear h
    go_enter Tryd.func17, Tryd.ntmps17
    go_wp2_with fail
    refine (div _ _ _ ha hb).mono ?_; rw [G.out]; rintro e w' ⟨rfl, rfl⟩
    go_wp2
    go_ret2
    exact ⟨ret2 (by rw [E.out]; exact F.out) rfl, rfl⟩
end Go.Proofs.YtkfgcnomojopdaaDoor.NumC
