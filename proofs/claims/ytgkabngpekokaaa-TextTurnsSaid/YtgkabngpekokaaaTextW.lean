/-
  What every statement of text asks besides answers true; a text as a value; a field of a value.
-/
import Derived.Test.YtgkabngpekokaaaTextZ
namespace Go.Proofs.Ytgkabngpekokaaa.TextC
set_option linter.unusedVariables false
set_option linter.unusedSimpArgs false
open Go.RowKit Go.Proofs.Ytgkabngpekokaaa.NumC
open Go.Proofs.Ytgkabngpekokaaa.ValueC (Val failV failV_yes ofV nos rfail rof sameB keepValue)

set_option maxHeartbeats 1000000 in
theorem cstr (s : ByteArray) (w : World) : Calls Try.prog 28 #[.string s] w (VPost (txtV s) w) := by
  go_enter Try.func28, Try.ntmps28
  have hB := Below.refl w.heap.size w
  go_wp2
  refine bodyPost_ret (v := .agg #[.int .i64 3, .int .i64 0, .string s]) (by simp [results, Try.results28, go_sem]) rfl ⟨rfl, ?_⟩
  repeat (first | with_reducible exact hB | with_reducible refine Below.setCell ?_ (by simp <;> omega) _ | with_reducible refine Below.alloc ?_ (by simp <;> omega) _)
theorem keep_self (x : Val) (w : World) : Calls Try.prog 9 #[.agg #[.int .i64 x.k, .int .i64 x.n, .string x.s], .agg #[.int .i64 x.k, .int .i64 x.n, .string x.s]] w fun e w' => e = .returned (.bool true) ∧ Below w.heap.size w w' := by
  have h : sameB x x = true := decide_eq_true rfl
  rw [← h]; exact keepValue x x w
theorem field0 (k n : Int) (s : ByteArray) (w : World) : (Instr.field 25 (.agg #[.int .i64 k, .int .i64 n, .string s]) 0).run Try.prog w = .ok (.int .i64 k) w := by kernel_rfl
theorem field1 (k n : Int) (s : ByteArray) (w : World) : (Instr.field 25 (.agg #[.int .i64 k, .int .i64 n, .string s]) 1).run Try.prog w = .ok (.int .i64 n) w := by kernel_rfl
theorem field2 (k n : Int) (s : ByteArray) (w : World) : (Instr.field 25 (.agg #[.int .i64 k, .int .i64 n, .string s]) 2).run Try.prog w = .ok (.string s) w := by kernel_rfl
set_option maxHeartbeats 1000000 in
set_option maxRecDepth 100000 in
theorem cwakes9 (w : World) {m : Int} (hM : MaxIs w m) : Calls Try.prog 8 #[] w fun e w' => e = .returned (.bool true) ∧ Below w.heap.size w w' := by
  have M := Lib.hid (show midV { data := #[97, 98, 99, 100, 101] } 2 3 = ⟨3, 0, { data := #[98, 99, 100] }⟩ by decide +kernel)
  have S1 := Lib.hid (show txtV { data := #[98, 99, 100] } = ⟨3, 0, { data := #[98, 99, 100] }⟩ from rfl)
  have F4 := Lib.hid (show findV { data := #[99] } { data := #[97, 98, 99] } 4 = ⟨4, 8, nos⟩ by decide +kernel)
  have F1 := Lib.hid (show findV { data := #[99] } { data := #[97, 98, 99] } 1 = ⟨2, 3, nos⟩ by decide +kernel)
  have R := Lib.hid (show repeatV { data := #[97, 98] } 2 = ⟨3, 0, { data := #[97, 98, 97, 98] }⟩ by decide +kernel)
  have S2 := Lib.hid (show txtV { data := #[97, 98, 97, 98] } = ⟨3, 0, { data := #[97, 98, 97, 98] }⟩ from rfl)
  have L := Lib.hid (show leftV { data := #[97] } (-1) = ⟨4, 5, nos⟩ by decide +kernel)
  have B := Below.refl w.heap.size w
  have q1 := field1
  go_enter Try.func8, Try.ntmps8
  go_wp2_with fail
  refine (cMid { data := #[97, 98, 99, 100, 101] } 2 3 _ (by decide)).mono ?_; rw [M.out]; rintro e x1 ⟨rfl, hb1⟩
  replace B := B.trans (hb1.mono B.size)
  replace hM := cell_later hb1 hM
  go_wp2_with fail
  refine (cstr { data := #[98, 99, 100] } _).mono ?_; rw [S1.out]; rintro e x2 ⟨rfl, hb2⟩
  replace B := B.trans (hb2.mono B.size)
  replace hM := cell_later hb2 hM
  go_wp2_with fail
  refine (keep_self ⟨3, 0, { data := #[98, 99, 100] }⟩ _).mono ?_; rintro e x3 ⟨rfl, hb3⟩
  replace B := B.trans (hb3.mono B.size)
  replace hM := cell_later hb3 hM
  go_wp2_with fail
  refine (cFind { data := #[99] } { data := #[97, 98, 99] } 4 _ (by decide) hM).mono ?_; rw [F4.out]; rintro e x4 ⟨rfl, hb4⟩
  replace B := B.trans (hb4.mono B.size)
  replace hM := cell_later hb4 hM
  go_wp2_with fail
  refine (cFind { data := #[99] } { data := #[97, 98, 99] } 1 _ (by decide) hM).mono ?_; rw [F1.out]; rintro e x5 ⟨rfl, hb5⟩
  replace B := B.trans (hb5.mono B.size)
  replace hM := cell_later hb5 hM
  go_wp2_with fail
  refine (cRepeat { data := #[97, 98] } 2 _ (by decide)).mono ?_; rw [R.out]; rintro e x6 ⟨rfl, hb6⟩
  replace B := B.trans (hb6.mono B.size)
  replace hM := cell_later hb6 hM
  go_wp2_with fail
  refine (cstr { data := #[97, 98, 97, 98] } _).mono ?_; rw [S2.out]; rintro e x7 ⟨rfl, hb7⟩
  replace B := B.trans (hb7.mono B.size)
  replace hM := cell_later hb7 hM
  go_wp2_with fail
  refine (keep_self ⟨3, 0, { data := #[97, 98, 97, 98] }⟩ _).mono ?_; rintro e x8 ⟨rfl, hb8⟩
  replace B := B.trans (hb8.mono B.size)
  replace hM := cell_later hb8 hM
  go_wp2_with fail
  refine (cLeft { data := #[97] } (-1) _).mono ?_; rw [L.out]; rintro e x9 ⟨rfl, hb9⟩
  replace B := B.trans (hb9.mono B.size)
  replace hM := cell_later hb9 hM
  go_wp2
  go_ret
  exact ⟨ret1 rfl, B⟩
end Go.Proofs.Ytgkabngpekokaaa.TextC
