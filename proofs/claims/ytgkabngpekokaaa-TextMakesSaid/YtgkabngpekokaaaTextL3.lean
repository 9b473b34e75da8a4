/-
  The walk of the statement TextMakes.
-/
import Derived.Test.YtgkabngpekokaaaTextW
namespace Go.Proofs.Ytgkabngpekokaaa.TextC
set_option linter.unusedVariables false
set_option linter.unusedSimpArgs false
open Go.RowKit Go.Proofs.Ytgkabngpekokaaa.NumC
open Go.Proofs.Ytgkabngpekokaaa.ValueC (Val failV failV_yes ofV nos rfail rof sameB keepValue)

set_option maxHeartbeats 1000000 in
set_option maxRecDepth 100000 in
theorem textMakes (s t : ByteArray) (n : Int) (w : World) (hn : -9223372036854775808 ≤ n ∧ n ≤ 9223372036854775807) {mx : Int} (hM : MaxIs w mx) : Calls Try.prog 5 #[.string s, .string t, .int .i64 n] w fun e w' => e = .returned (.bool true) ∧ Below w.heap.size w w' := by
  have B := Below.refl w.heap.size w
  by_cases hs : 2000 < s.size
  · have hs2 : (2000 : Int) < (s.size : Int) := by omega
    go_enter Try.func5, Try.ntmps5
    go_wp2_with fail
    refine (cwakes9 _ hM).mono ?_; rintro e x18 ⟨rfl, hb18⟩
    replace B := B.trans (hb18.mono B.size)
    replace hM := cell_later hb18 hM
    go_wp2
    go_ret
    exact ⟨ret1 rfl, B⟩
  · have hs2 : ¬ (2000 : Int) < (s.size : Int) := by omega
    by_cases ht : 2000 < t.size
    · have ht2 : (2000 : Int) < (t.size : Int) := by omega
      go_enter Try.func5, Try.ntmps5
      go_wp2_with fail
      refine (cwakes9 _ hM).mono ?_; rintro e x19 ⟨rfl, hb19⟩
      replace B := B.trans (hb19.mono B.size)
      replace hM := cell_later hb19 hM
      go_wp2
      go_ret
      exact ⟨ret1 rfl, B⟩
    · have ht2 : ¬ (2000 : Int) < (t.size : Int) := by omega
      have H1 := Lib.hid (fun W => cUpper s W)
      have H2 := Lib.hid (fun W => rUpper s W)
      generalize upperV s = V1 at *
      have H3 := Lib.hid (fun W => cLower s W)
      have H4 := Lib.hid (fun W => rLower s W)
      generalize lowerV s = V2 at *
      have H5 := Lib.hid (fun W => cRepeat s n W hn)
      have H6 := Lib.hid (fun W => rRepeat s n W hn)
      generalize repeatV s n = V3 at *
      have H7 := Lib.hid (fun W => cJoin s t W (by omega))
      have H8 := Lib.hid (fun W => rJoin s t W)
      generalize joinV s t = V4 at *
      have H9 := Lib.hid (fun W => cLen s W)
      have H10 := Lib.hid (fun W => rLen s W)
      generalize lenV s = V5 at *
      go_enter Try.func5, Try.ntmps5
      go_wp2_with fail
      refine (H1.out _).mono ?_; rintro e x20 ⟨rfl, hb20⟩
      replace B := B.trans (hb20.mono B.size)
      replace hM := cell_later hb20 hM
      go_wp2_with fail
      refine (H2.out _).mono ?_; rintro e x21 ⟨rfl, hb21⟩
      replace B := B.trans (hb21.mono B.size)
      replace hM := cell_later hb21 hM
      go_wp2_with fail
      refine (keep_self V1 _).mono ?_; rintro e x22 ⟨rfl, hb22⟩
      replace B := B.trans (hb22.mono B.size)
      replace hM := cell_later hb22 hM
      go_wp2_with fail
      refine (H3.out _).mono ?_; rintro e x23 ⟨rfl, hb23⟩
      replace B := B.trans (hb23.mono B.size)
      replace hM := cell_later hb23 hM
      go_wp2_with fail
      refine (H4.out _).mono ?_; rintro e x24 ⟨rfl, hb24⟩
      replace B := B.trans (hb24.mono B.size)
      replace hM := cell_later hb24 hM
      go_wp2_with fail
      refine (keep_self V2 _).mono ?_; rintro e x25 ⟨rfl, hb25⟩
      replace B := B.trans (hb25.mono B.size)
      replace hM := cell_later hb25 hM
      go_wp2_with fail
      refine (H5.out _).mono ?_; rintro e x26 ⟨rfl, hb26⟩
      replace B := B.trans (hb26.mono B.size)
      replace hM := cell_later hb26 hM
      go_wp2_with fail
      refine (H6.out _).mono ?_; rintro e x27 ⟨rfl, hb27⟩
      replace B := B.trans (hb27.mono B.size)
      replace hM := cell_later hb27 hM
      go_wp2_with fail
      refine (keep_self V3 _).mono ?_; rintro e x28 ⟨rfl, hb28⟩
      replace B := B.trans (hb28.mono B.size)
      replace hM := cell_later hb28 hM
      go_wp2_with fail
      refine (H7.out _).mono ?_; rintro e x29 ⟨rfl, hb29⟩
      replace B := B.trans (hb29.mono B.size)
      replace hM := cell_later hb29 hM
      go_wp2_with fail
      refine (H8.out _).mono ?_; rintro e x30 ⟨rfl, hb30⟩
      replace B := B.trans (hb30.mono B.size)
      replace hM := cell_later hb30 hM
      go_wp2_with fail
      refine (keep_self V4 _).mono ?_; rintro e x31 ⟨rfl, hb31⟩
      replace B := B.trans (hb31.mono B.size)
      replace hM := cell_later hb31 hM
      go_wp2_with fail
      refine (H9.out _).mono ?_; rintro e x32 ⟨rfl, hb32⟩
      replace B := B.trans (hb32.mono B.size)
      replace hM := cell_later hb32 hM
      go_wp2_with fail
      refine (H10.out _).mono ?_; rintro e x33 ⟨rfl, hb33⟩
      replace B := B.trans (hb33.mono B.size)
      replace hM := cell_later hb33 hM
      go_wp2_with fail
      refine (keep_self V5 _).mono ?_; rintro e x34 ⟨rfl, hb34⟩
      replace B := B.trans (hb34.mono B.size)
      replace hM := cell_later hb34 hM
      go_wp2_with fail
      refine (cwakes9 _ hM).mono ?_; rintro e x35 ⟨rfl, hb35⟩
      replace B := B.trans (hb35.mono B.size)
      replace hM := cell_later hb35 hM
      go_wp2
      go_ret
      exact ⟨ret1 rfl, B⟩
end Go.Proofs.Ytgkabngpekokaaa.TextC
