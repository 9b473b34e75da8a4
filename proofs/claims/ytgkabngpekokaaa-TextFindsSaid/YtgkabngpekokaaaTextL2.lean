/-
  The walk of the statement TextFinds.
-/
import Derived.Test.YtgkabngpekokaaaTextW
namespace Go.Proofs.Ytgkabngpekokaaa.TextC
set_option linter.unusedVariables false
set_option linter.unusedSimpArgs false
open Go.RowKit Go.Proofs.Ytgkabngpekokaaa.NumC
open Go.Proofs.Ytgkabngpekokaaa.ValueC (Val failV failV_yes ofV nos rfail rof sameB keepValue)

set_option maxHeartbeats 1000000 in
set_option maxRecDepth 100000 in
theorem textFinds (t s : ByteArray) (a : Int) (w : World) (ha : -9223372036854775808 ≤ a ∧ a ≤ 9223372036854775807) {mx : Int} (hM : MaxIs w mx) : Calls Try.prog 4 #[.string t, .string s, .int .i64 a] w fun e w' => e = .returned (.bool true) ∧ Below w.heap.size w w' := by
  have B := Below.refl w.heap.size w
  by_cases hs : 2000 < s.size
  · have hs2 : (2000 : Int) < (s.size : Int) := by omega
    go_enter Try.func4, Try.ntmps4
    go_wp2_with fail
    refine (cwakes9 _ hM).mono ?_; rintro e x12 ⟨rfl, hb12⟩
    replace B := B.trans (hb12.mono B.size)
    replace hM := cell_later hb12 hM
    go_wp2
    go_ret
    exact ⟨ret1 rfl, B⟩
  · have hs2 : ¬ (2000 : Int) < (s.size : Int) := by omega
    by_cases ht : 2000 < t.size
    · have ht2 : (2000 : Int) < (t.size : Int) := by omega
      go_enter Try.func4, Try.ntmps4
      go_wp2_with fail
      refine (cwakes9 _ hM).mono ?_; rintro e x13 ⟨rfl, hb13⟩
      replace B := B.trans (hb13.mono B.size)
      replace hM := cell_later hb13 hM
      go_wp2
      go_ret
      exact ⟨ret1 rfl, B⟩
    · have ht2 : ¬ (2000 : Int) < (t.size : Int) := by omega
      have H1 := Lib.hid (fun W (h : MaxIs W mx) => cFind t s a W ha h)
      have H2 := Lib.hid (fun W => rFind t s a W ha)
      generalize findV t s a = V1 at *
      go_enter Try.func4, Try.ntmps4
      go_wp2_with fail
      refine (H1.out _ hM).mono ?_; rintro e x14 ⟨rfl, hb14⟩
      replace B := B.trans (hb14.mono B.size)
      replace hM := cell_later hb14 hM
      go_wp2_with fail
      refine (H2.out _).mono ?_; rintro e x15 ⟨rfl, hb15⟩
      replace B := B.trans (hb15.mono B.size)
      replace hM := cell_later hb15 hM
      go_wp2_with fail
      refine (keep_self V1 _).mono ?_; rintro e x16 ⟨rfl, hb16⟩
      replace B := B.trans (hb16.mono B.size)
      replace hM := cell_later hb16 hM
      go_wp2_with fail
      refine (cwakes9 _ hM).mono ?_; rintro e x17 ⟨rfl, hb17⟩
      replace B := B.trans (hb17.mono B.size)
      replace hM := cell_later hb17 hM
      go_wp2
      go_ret
      exact ⟨ret1 rfl, B⟩
end Go.Proofs.Ytgkabngpekokaaa.TextC
