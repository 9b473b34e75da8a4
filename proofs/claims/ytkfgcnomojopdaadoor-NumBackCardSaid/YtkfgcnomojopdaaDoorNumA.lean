/-
  Contracts of package num: sizes, apart, signed, Add, Sub. Nothing is assumed but that the arguments are numbers of their kinds.
-/
import Derived.Test.YtkfgcnomojopdaaDoorProg
import Derived.Test.YtkfgcnomojopdaaDoorNumM
import Derived.WalkKit
import Derived.WalkSpells
import Derived.WalkLawsBesides
import Derived.Deep.QuietTactic
import Derived.BigQuiet
import Derived.Lib.Hide
namespace Go.Proofs.YtkfgcnomojopdaaDoor.NumC
set_option linter.unusedVariables false
open Go.RowKit

set_option maxHeartbeats 400000 in
theorem sizes (a b : Int) (w : World) (ha : I64 a) (hb : I64 b) :
    Calls Tryd.prog 29 #[.int .i64 a, .int .i64 b] w fun e w' => e = .returned (.tuple #[.int .u64 (siz a), .int .u64 (siz b), .bool (decide (a < 0) != decide (b < 0))]) ∧ w = w' := by
  by_cases h1 : a < 0 <;> by_cases h2 : b < 0 <;>
  · go_enter Tryd.func29, Tryd.ntmps29
    go_wp2
    go_ret3
    refine ⟨ret3 ?_ ?_ ?_, rfl⟩
    · first | (refine wrap_neg ?_ ha; omega) | (refine wrap_pos ?_ ha; omega)
    · first | (refine wrap_neg ?_ hb; omega) | (refine wrap_pos ?_ hb; omega)
    · rw [Bool.eq_iff_iff]; simp; omega

set_option maxHeartbeats 400000 in
theorem apart (a b : Int) (c : Bool) (w : World) (ha : I64 a) (hb : I64 b) (hc : apartB a b = c) :
    Calls Tryd.prog 28 #[.int .i64 a, .int .i64 b] w fun e w' => e = .returned (.bool c) ∧ w = w' := by
  have H := Lib.hid hc; clear hc
  go_enter Tryd.func28, Tryd.ntmps28
  go_wp2_with (go_at_call 29; refine (sizes _ _ _ ha hb).mono ?_; rintro e w' ⟨rfl, rfl⟩)
  go_ret
  exact ⟨ret1 H.out, rfl⟩

set_option maxHeartbeats 400000 in
theorem signed (u : Int) (b : Bool) (w : World) (h0 : 0 ≤ u) (h1 : u ≤ 18446744073709551615) :
    Calls Tryd.prog 31 #[.int .u64 u, .bool b] w fun e w' => e = .returned (.tuple #[.int .i64 (fitN (sgd b u)), .bool (fitB (sgd b u))]) ∧ w = w' := by
  cases b
  · by_cases h : u < 9223372036854775808
    · have H := Lib.hid (i64_sgd_f h0 h)
      go_enter Tryd.func31, Tryd.ntmps31
      go_wp2
      go_ret2
      exact ⟨ret2 (by rw [fitN_yes H.out, sgd_f]) (by rw [fitB_yes H.out]), rfl⟩
    · have H := Lib.hid (i64_sgd_f' h)
      go_enter Tryd.func31, Tryd.ntmps31
      go_wp2
      go_ret2
      exact ⟨ret2 (by rw [fitN_no H.out]) (by rw [fitB_no H.out]), rfl⟩
  · by_cases h : u ≤ 9223372036854775808
    · have H := Lib.hid (i64_sgd_t h0 h)
      go_enter Tryd.func31, Tryd.ntmps31
      go_wp2
      go_ret2
      exact ⟨ret2 (by rw [fitN_yes H.out, sgd_t]; exact wrap_back h0 h) (by rw [fitB_yes H.out]), rfl⟩
    · have H := Lib.hid (i64_sgd_t' h)
      go_enter Tryd.func31, Tryd.ntmps31
      go_wp2
      go_ret2
      exact ⟨ret2 (by rw [fitN_no H.out]) (by rw [fitB_no H.out]), rfl⟩

set_option maxHeartbeats 400000 in
theorem add (a b : Int) (w : World) (ha : I64 a) (hb : I64 b) :
    Calls Tryd.prog 9 #[.int .i64 a, .int .i64 b] w fun e w' => e = .returned (.tuple #[.int .i64 (fitN (a + b)), .bool (fitB (a + b))]) ∧ w = w' := by
  cases h1 : apartB a b
  · cases h2 : apartB a (wrap64 (a + b))
    · have H := Lib.hid (add_fits ha hb h1 h2)
      have G1 := Lib.hid h1; have G2 := Lib.hid h2; clear h1 h2
      go_enter Tryd.func9, Tryd.ntmps9
      go_wp2_with fail
      refine (apart _ _ _ _ ha hb G1.out).mono ?_; rintro e w' ⟨rfl, rfl⟩
      go_wp2_with fail
      refine (apart _ _ _ _ ha (i64_wrap _) G2.out).mono ?_; rintro e w' ⟨rfl, rfl⟩
      go_wp2
      go_ret2
      exact ⟨ret2 (by rw [fitN_yes H.out, wrap_i64 H.out]) (by rw [fitB_yes H.out]), rfl⟩
    · have H := Lib.hid (add_over ha hb h1 h2)
      have G1 := Lib.hid h1; have G2 := Lib.hid h2; clear h1 h2
      go_enter Tryd.func9, Tryd.ntmps9
      go_wp2_with fail
      refine (apart _ _ _ _ ha hb G1.out).mono ?_; rintro e w' ⟨rfl, rfl⟩
      go_wp2_with fail
      refine (apart _ _ _ _ ha (i64_wrap _) G2.out).mono ?_; rintro e w' ⟨rfl, rfl⟩
      go_wp2
      go_ret2
      exact ⟨ret2 (by rw [fitN_no H.out]) (by rw [fitB_no H.out]), rfl⟩
  · have H := Lib.hid (add_apart ha hb h1)
    have G1 := Lib.hid h1; clear h1
    go_enter Tryd.func9, Tryd.ntmps9
    go_wp2_with fail
    refine (apart _ _ _ _ ha hb G1.out).mono ?_; rintro e w' ⟨rfl, rfl⟩
    go_wp2
    go_ret2
    exact ⟨ret2 (by rw [fitN_yes H.out, wrap_i64 H.out]) (by rw [fitB_yes H.out]), rfl⟩

set_option maxHeartbeats 400000 in
theorem sub (a b : Int) (w : World) (ha : I64 a) (hb : I64 b) :
    Calls Tryd.prog 10 #[.int .i64 a, .int .i64 b] w fun e w' => e = .returned (.tuple #[.int .i64 (fitN (a - b)), .bool (fitB (a - b))]) ∧ w = w' := by
  cases h1 : apartB a b
  · have H := Lib.hid (sub_apart ha hb h1)
    have G1 := Lib.hid h1; clear h1
    go_enter Tryd.func10, Tryd.ntmps10
    go_wp2_with fail
    refine (apart _ _ _ _ ha hb G1.out).mono ?_; rintro e w' ⟨rfl, rfl⟩
    go_wp2
    go_ret2
    exact ⟨ret2 (by rw [fitN_yes H.out, wrap_i64 H.out]) (by rw [fitB_yes H.out]), rfl⟩
  · cases h2 : apartB a (wrap64 (a - b))
    · have H := Lib.hid (sub_fits ha hb h1 h2)
      have G1 := Lib.hid h1; have G2 := Lib.hid h2; clear h1 h2
      go_enter Tryd.func10, Tryd.ntmps10
      go_wp2_with fail
      refine (apart _ _ _ _ ha hb G1.out).mono ?_; rintro e w' ⟨rfl, rfl⟩
      go_wp2_with fail
      refine (apart _ _ _ _ ha (i64_wrap _) G2.out).mono ?_; rintro e w' ⟨rfl, rfl⟩
      go_wp2
      go_ret2
      exact ⟨ret2 (by rw [fitN_yes H.out, wrap_i64 H.out]) (by rw [fitB_yes H.out]), rfl⟩
    · have H := Lib.hid (sub_over ha hb h1 h2)
      have G1 := Lib.hid h1; have G2 := Lib.hid h2; clear h1 h2
      go_enter Tryd.func10, Tryd.ntmps10
      go_wp2_with fail
      refine (apart _ _ _ _ ha hb G1.out).mono ?_; rintro e w' ⟨rfl, rfl⟩
      go_wp2_with fail
      refine (apart _ _ _ _ ha (i64_wrap _) G2.out).mono ?_; rintro e w' ⟨rfl, rfl⟩
      go_wp2
      go_ret2
      exact ⟨ret2 (by rw [fitN_no H.out]) (by rw [fitB_no H.out]), rfl⟩
end Go.Proofs.YtkfgcnomojopdaaDoor.NumC
