/-
  The walk of the statement TextParts.
-/
import Derived.Test.YtgkabngpekokaaaTextW
namespace Go.Proofs.Ytgkabngpekokaaa.TextC
set_option linter.unusedVariables false
set_option linter.unusedSimpArgs false
open Go.RowKit Go.Proofs.Ytgkabngpekokaaa.NumC
open Go.Proofs.Ytgkabngpekokaaa.ValueC (Val failV failV_yes ofV nos rfail rof sameB keepValue)

set_option maxHeartbeats 1000000 in
set_option maxRecDepth 100000 in
theorem textParts (s : ByteArray) (a n : Int) (w : World) (ha : -9223372036854775808 ≤ a ∧ a ≤ 9223372036854775807) (hn : -9223372036854775808 ≤ n ∧ n ≤ 9223372036854775807) {mx : Int} (hM : MaxIs w mx) : Calls Try.prog 3 #[.string s, .int .i64 a, .int .i64 n] w fun e w' => e = .returned (.bool true) ∧ Below w.heap.size w w' := by
  have B := Below.refl w.heap.size w
  by_cases hs : 2000 < s.size
  · have hs2 : (2000 : Int) < (s.size : Int) := by omega
    go_enter Try.func3, Try.ntmps3
    go_wp2_with fail
    refine (cwakes9 _ hM).mono ?_; rintro e x1 ⟨rfl, hb1⟩
    replace B := B.trans (hb1.mono B.size)
    replace hM := cell_later hb1 hM
    go_wp2
    go_ret
    exact ⟨ret1 rfl, B⟩
  · have hs2 : ¬ (2000 : Int) < (s.size : Int) := by omega
    have H1 := Lib.hid (fun W => cLeft s n W)
    have H2 := Lib.hid (fun W => rLeft s n W)
    have H3 := Lib.hid (fun W => cRight s n W)
    have H4 := Lib.hid (fun W => rRight s n W)
    have H5 := Lib.hid (fun W => cMid s a n W ha)
    have H6 := Lib.hid (fun W => rMid s a n W ha)
    generalize leftV s n = V1 at *
    generalize rightV s n = V2 at *
    generalize midV s a n = V3 at *
    go_enter Try.func3, Try.ntmps3
    go_wp2_with fail
    refine (H1.out _).mono ?_; rintro e x2 ⟨rfl, hb2⟩
    replace B := B.trans (hb2.mono B.size)
    replace hM := cell_later hb2 hM
    go_wp2_with fail
    refine (H2.out _).mono ?_; rintro e x3 ⟨rfl, hb3⟩
    replace B := B.trans (hb3.mono B.size)
    replace hM := cell_later hb3 hM
    go_wp2_with fail
    refine (keep_self V1 _).mono ?_; rintro e x4 ⟨rfl, hb4⟩
    replace B := B.trans (hb4.mono B.size)
    replace hM := cell_later hb4 hM
    go_wp2_with fail
    refine (H3.out _).mono ?_; rintro e x5 ⟨rfl, hb5⟩
    replace B := B.trans (hb5.mono B.size)
    replace hM := cell_later hb5 hM
    go_wp2_with fail
    refine (H4.out _).mono ?_; rintro e x6 ⟨rfl, hb6⟩
    replace B := B.trans (hb6.mono B.size)
    replace hM := cell_later hb6 hM
    go_wp2_with fail
    refine (keep_self V2 _).mono ?_; rintro e x7 ⟨rfl, hb7⟩
    replace B := B.trans (hb7.mono B.size)
    replace hM := cell_later hb7 hM
    go_wp2_with fail
    refine (H5.out _).mono ?_; rintro e x8 ⟨rfl, hb8⟩
    replace B := B.trans (hb8.mono B.size)
    replace hM := cell_later hb8 hM
    go_wp2_with fail
    refine (H6.out _).mono ?_; rintro e x9 ⟨rfl, hb9⟩
    replace B := B.trans (hb9.mono B.size)
    replace hM := cell_later hb9 hM
    go_wp2_with fail
    refine (keep_self V3 _).mono ?_; rintro e x10 ⟨rfl, hb10⟩
    replace B := B.trans (hb10.mono B.size)
    replace hM := cell_later hb10 hM
    go_wp2_with fail
    refine (cwakes9 _ hM).mono ?_; rintro e x11 ⟨rfl, hb11⟩
    replace B := B.trans (hb11.mono B.size)
    replace hM := cell_later hb11 hM
    go_wp2
    go_ret
    exact ⟨ret1 rfl, B⟩
end Go.Proofs.Ytgkabngpekokaaa.TextC
