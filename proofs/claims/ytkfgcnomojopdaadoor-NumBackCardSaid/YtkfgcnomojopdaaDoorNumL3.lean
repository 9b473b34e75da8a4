/-
  The walk of the statement NumBack: for all arguments it answers true.
-/
import Derived.Test.YtkfgcnomojopdaaDoorNumW
import Derived.Test.YtkfgcnomojopdaaDoorNumT
namespace Go.Proofs.YtkfgcnomojopdaaDoor.NumC
set_option linter.unusedVariables false
open Go.RowKit

theorem ni64_tdiv {a b : Int} (ha : I64 a) (h0 : b ≠ 0) (h : ¬ I64 (a.tdiv b)) : a = -9223372036854775808 ∧ b = -1 := by
  have e : (a.tdiv b).natAbs = a.natAbs / b.natAbs := Int.natAbs_tdiv a b
  unfold I64 at ha h
  have h1 : a.natAbs / b.natAbs ≤ a.natAbs := Nat.div_le_self _ _
  have h2 : a.natAbs / b.natAbs = 9223372036854775808 := by rw [← e]; omega
  have h3 : ¬ 2 ≤ b.natAbs := by
    intro h4
    have := Nat.div_le_div_left h4 (show 0 < 2 by omega) (a := a.natAbs)
    omega
  have h5 : a = -9223372036854775808 := by omega
  have h6 : b = 1 ∨ b = -1 := by omega
  rcases h6 with rfl | rfl
  · rw [Int.tdiv_one] at h; omega
  · exact ⟨h5, rfl⟩
theorem div_no {a b : Int} (ha : I64 a) (h : divB a b = false) : b = 0 ∨ (b ≠ 0 ∧ a = -9223372036854775808 ∧ b = -1) := by
  by_cases h0 : b = 0
  · exact Or.inl h0
  · rw [divB_1 h0] at h
    exact Or.inr ⟨h0, ni64_tdiv ha h0 (of_decide_eq_false h)⟩
theorem back_sum {a b : Int} (ha : I64 a) (h : I64 (a + b)) : fitN (fitN (a + b) - b) = a ∧ fitB (fitN (a + b) - b) = true := by
  rw [fitN_yes h, show a + b - b = a from by omega]; exact ⟨fitN_yes ha, fitB_yes ha⟩
theorem div_prod {a b : Int} (ha : I64 a) (hb : I64 b) (h : divB a b = true) : fitN (divN a b * b) = a - a.tmod b ∧ fitB (divN a b * b) = true ∧ modN a b = a.tmod b := by
  have hb0 := divB_ne h
  have hm : modN a b = a.tmod b := by unfold modN; rw [h]; rfl
  have h1 := h
  rw [divB_1 hb0] at h1
  have hq : I64 (a.tdiv b) := of_decide_eq_true h1
  rw [divN_1 hb0, fitN_yes hq]
  have e := Int.mul_tdiv_add_tmod a b
  have e2 : a.tdiv b * b = a - a.tmod b := by rw [Int.mul_comm]; omega
  rw [e2]
  have hi : I64 (a - a.tmod b) := by
    have h3 : (a.tmod b).natAbs ≤ a.natAbs := by rw [Int.natAbs_tmod]; exact Nat.mod_le _ _
    unfold I64 at *
    by_cases h4 : 0 ≤ a
    · have := Int.tmod_nonneg b h4; omega
    · have h5 : 0 ≤ (-a).tmod b := Int.tmod_nonneg b (by omega)
      rw [Int.neg_tmod] at h5; omega
  exact ⟨fitN_yes hi, fitB_yes hi, hm⟩
theorem back_add {a b : Int} (ha : I64 a) : fitN (a - a.tmod b + a.tmod b) = a ∧ fitB (a - a.tmod b + a.tmod b) = true := by
  rw [show a - a.tmod b + a.tmod b = a from by omega]; exact ⟨fitN_yes ha, fitB_yes ha⟩
theorem mod_sign {a b : Int} (h : a.tmod b ≠ 0) : (a.tmod b < 0 ↔ a < 0) := by
  by_cases h4 : 0 ≤ a
  · have := Int.tmod_nonneg b h4; omega
  · have h5 : 0 ≤ (-a).tmod b := Int.tmod_nonneg b (by omega)
    rw [Int.neg_tmod] at h5; omega

theorem divN_i64 (a b : Int) : I64 (divN a b) := by
  unfold divN; split
  · decide
  · exact fitN_i64 _

set_option maxRecDepth 100000 in
set_option maxHeartbeats 2000000 in
theorem numBack_yes (a b : Int) (w : World) (ha : I64 a) (hb : I64 b) (hl : LibIs w) (h : I64 (a + b)) :
    Calls Tryd.prog 6 #[.int .i64 a, .int .i64 b] w fun e w' => e = .returned (.bool true) ∧ Below w.heap.size w w' := by
  have A2 := Lib.hid (fitB_yes h)
  have S := Lib.hid (back_sum ha h)
  clear h
  cases hd : divB a b
  · have D := Lib.hid hd
    rcases div_no ha hd with h0 | ⟨h0, h1, h2⟩
    · have b0 : (b == 0) = true := beq_iff_eq.2 h0
      clear hd h0
      go_enter Tryd.func6, Tryd.ntmps6
      go_wp2_with fail
      refine (add _ _ _ ha hb).mono ?_; rw [A2.out]; rintro e w' ⟨rfl, rfl⟩
      go_wp2_with fail
      refine (sub _ _ _ (fitN_i64 _) hb).mono ?_; rw [S.out.1, S.out.2]; rintro e w' ⟨rfl, rfl⟩
      go_wp2_with fail
      refine (div _ _ _ ha hb).mono ?_; rw [D.out]; rintro e w' ⟨rfl, rfl⟩
      go_wp2_with fail
      refine (mod _ _ _ ha hb).mono ?_; rw [D.out]; rintro e w' ⟨rfl, rfl⟩
      go_wp2_with fail
      refine (wakes _ hl).mono ?_; rintro e w6 ⟨rfl, hb6⟩
      go_wp2
      go_ret
      exact ⟨ret1 rfl, hb6⟩
    · have b0 : (b == 0) = false := beq_eq_false_iff_ne.2 h0
      have b1 : (b == -1) = true := beq_iff_eq.2 h2
      have b2 : (a == -9223372036854775808) = true := beq_iff_eq.2 h1
      clear hd h0 h1 h2
      go_enter Tryd.func6, Tryd.ntmps6
      go_wp2_with fail
      refine (add _ _ _ ha hb).mono ?_; rw [A2.out]; rintro e w' ⟨rfl, rfl⟩
      go_wp2_with fail
      refine (sub _ _ _ (fitN_i64 _) hb).mono ?_; rw [S.out.1, S.out.2]; rintro e w' ⟨rfl, rfl⟩
      go_wp2_with fail
      refine (div _ _ _ ha hb).mono ?_; rw [D.out]; rintro e w' ⟨rfl, rfl⟩
      go_wp2_with fail
      refine (mod _ _ _ ha hb).mono ?_; rw [D.out]; rintro e w' ⟨rfl, rfl⟩
      go_wp2_with fail
      refine (wakes _ hl).mono ?_; rintro e w6 ⟨rfl, hb6⟩
      go_wp2
      go_ret
      exact ⟨ret1 rfl, hb6⟩
  · obtain ⟨p1, p2, p3⟩ := div_prod ha hb hd
    have sg := mod_sign (a := a) (b := b)
    have im : Hid (I64 (a - a.tmod b)) := Lib.hid (by rw [← p1]; exact fitN_i64 _)
    have ir := Lib.hid (tmod_i64 ha hb)
    have B := Lib.hid (back_add (b := b) ha)
    have D := Lib.hid hd
    have P1 := Lib.hid p1; have P2 := Lib.hid p2; have M := Lib.hid p3
    clear hd p1 p2 p3
    generalize a.tmod b = r at *
    by_cases hr : r = 0
    · have hr0 : (r == 0) = true := beq_iff_eq.2 hr
      clear sg hr
      go_enter Tryd.func6, Tryd.ntmps6
      go_wp2_with fail
      refine (add _ _ _ ha hb).mono ?_; rw [A2.out]; rintro e w' ⟨rfl, rfl⟩
      go_wp2_with fail
      refine (sub _ _ _ (fitN_i64 _) hb).mono ?_; rw [S.out.1, S.out.2]; rintro e w' ⟨rfl, rfl⟩
      go_wp2_with fail
      refine (div _ _ _ ha hb).mono ?_; rw [D.out]; rintro e w' ⟨rfl, rfl⟩
      go_wp2_with fail
      refine (mod _ _ _ ha hb).mono ?_; rw [D.out, M.out]; rintro e w' ⟨rfl, rfl⟩
      go_wp2_with fail
      refine (mul _ _ _ (divN_i64 _ _) hb).mono ?_; rw [P1.out, P2.out]; rintro e w' ⟨rfl, rfl⟩
      go_wp2_with fail
      refine (add _ _ _ im.out ir.out).mono ?_; rw [B.out.1, B.out.2]; rintro e w' ⟨rfl, rfl⟩
      go_wp2_with fail
      refine (wakes _ hl).mono ?_; rintro e w6 ⟨rfl, hb6⟩
      go_wp2
      go_ret
      exact ⟨ret1 rfl, hb6⟩
    · have hr0 : (r == 0) = false := beq_eq_false_iff_ne.2 hr
      have hs : (decide (r < 0) == decide (a < 0)) = true := by
        have := sg hr
        rw [beq_iff_eq, decide_eq_decide]; exact this
      have HS := Lib.hid hs
      clear sg hr
      by_cases hr1 : r < 0 <;> by_cases ha1 : a < 0
      · have d1 : decide (r < 0) = true := decide_eq_true hr1
        have d2 : decide (a < 0) = true := decide_eq_true ha1
        go_enter Tryd.func6, Tryd.ntmps6
        go_wp2_with fail
        refine (add _ _ _ ha hb).mono ?_; rw [A2.out]; rintro e w' ⟨rfl, rfl⟩
        go_wp2_with fail
        refine (sub _ _ _ (fitN_i64 _) hb).mono ?_; rw [S.out.1, S.out.2]; rintro e w' ⟨rfl, rfl⟩
        go_wp2_with fail
        refine (div _ _ _ ha hb).mono ?_; rw [D.out]; rintro e w' ⟨rfl, rfl⟩
        go_wp2_with fail
        refine (mod _ _ _ ha hb).mono ?_; rw [D.out, M.out]; rintro e w' ⟨rfl, rfl⟩
        go_wp2_with fail
        refine (mul _ _ _ (divN_i64 _ _) hb).mono ?_; rw [P1.out, P2.out]; rintro e w' ⟨rfl, rfl⟩
        go_wp2_with fail
        refine (add _ _ _ im.out ir.out).mono ?_; rw [B.out.1, B.out.2]; rintro e w' ⟨rfl, rfl⟩
        go_wp2_with fail
        refine (wakes _ hl).mono ?_; rintro e w6 ⟨rfl, hb6⟩
        go_wp2
        go_ret
        exact ⟨ret1 rfl, hb6⟩
      · exfalso; have := HS.out; rw [decide_eq_true hr1, decide_eq_false ha1] at this; cases this
      · exfalso; have := HS.out; rw [decide_eq_false hr1, decide_eq_true ha1] at this; cases this
      · have d1 : decide (r < 0) = false := decide_eq_false hr1
        have d2 : decide (a < 0) = false := decide_eq_false ha1
        go_enter Tryd.func6, Tryd.ntmps6
        go_wp2_with fail
        refine (add _ _ _ ha hb).mono ?_; rw [A2.out]; rintro e w' ⟨rfl, rfl⟩
        go_wp2_with fail
        refine (sub _ _ _ (fitN_i64 _) hb).mono ?_; rw [S.out.1, S.out.2]; rintro e w' ⟨rfl, rfl⟩
        go_wp2_with fail
        refine (div _ _ _ ha hb).mono ?_; rw [D.out]; rintro e w' ⟨rfl, rfl⟩
        go_wp2_with fail
        refine (mod _ _ _ ha hb).mono ?_; rw [D.out, M.out]; rintro e w' ⟨rfl, rfl⟩
        go_wp2_with fail
        refine (mul _ _ _ (divN_i64 _ _) hb).mono ?_; rw [P1.out, P2.out]; rintro e w' ⟨rfl, rfl⟩
        go_wp2_with fail
        refine (add _ _ _ im.out ir.out).mono ?_; rw [B.out.1, B.out.2]; rintro e w' ⟨rfl, rfl⟩
        go_wp2_with fail
        refine (wakes _ hl).mono ?_; rintro e w6 ⟨rfl, hb6⟩
        go_wp2
        go_ret
        exact ⟨ret1 rfl, hb6⟩

set_option maxRecDepth 100000 in
set_option maxHeartbeats 2000000 in
theorem numBack_no (a b : Int) (w : World) (ha : I64 a) (hb : I64 b) (hl : LibIs w) (h : ¬ I64 (a + b)) :
    Calls Tryd.prog 6 #[.int .i64 a, .int .i64 b] w fun e w' => e = .returned (.bool true) ∧ Below w.heap.size w w' := by
  have A2 := Lib.hid (fitB_no h)
  clear h
  cases hd : divB a b
  · have D := Lib.hid hd
    rcases div_no ha hd with h0 | ⟨h0, h1, h2⟩
    · have b0 : (b == 0) = true := beq_iff_eq.2 h0
      clear hd h0
      go_enter Tryd.func6, Tryd.ntmps6
      go_wp2_with fail
      refine (add _ _ _ ha hb).mono ?_; rw [A2.out]; rintro e w' ⟨rfl, rfl⟩
      go_wp2_with fail
      refine (div _ _ _ ha hb).mono ?_; rw [D.out]; rintro e w' ⟨rfl, rfl⟩
      go_wp2_with fail
      refine (mod _ _ _ ha hb).mono ?_; rw [D.out]; rintro e w' ⟨rfl, rfl⟩
      go_wp2_with fail
      refine (wakes _ hl).mono ?_; rintro e w6 ⟨rfl, hb6⟩
      go_wp2
      go_ret
      exact ⟨ret1 rfl, hb6⟩
    · have b0 : (b == 0) = false := beq_eq_false_iff_ne.2 h0
      have b1 : (b == -1) = true := beq_iff_eq.2 h2
      have b2 : (a == -9223372036854775808) = true := beq_iff_eq.2 h1
      clear hd h0 h1 h2
      go_enter Tryd.func6, Tryd.ntmps6
      go_wp2_with fail
      refine (add _ _ _ ha hb).mono ?_; rw [A2.out]; rintro e w' ⟨rfl, rfl⟩
      go_wp2_with fail
      refine (div _ _ _ ha hb).mono ?_; rw [D.out]; rintro e w' ⟨rfl, rfl⟩
      go_wp2_with fail
      refine (mod _ _ _ ha hb).mono ?_; rw [D.out]; rintro e w' ⟨rfl, rfl⟩
      go_wp2_with fail
      refine (wakes _ hl).mono ?_; rintro e w6 ⟨rfl, hb6⟩
      go_wp2
      go_ret
      exact ⟨ret1 rfl, hb6⟩
  · obtain ⟨p1, p2, p3⟩ := div_prod ha hb hd
    have sg := mod_sign (a := a) (b := b)
    have im : Hid (I64 (a - a.tmod b)) := Lib.hid (by rw [← p1]; exact fitN_i64 _)
    have ir := Lib.hid (tmod_i64 ha hb)
    have B := Lib.hid (back_add (b := b) ha)
    have D := Lib.hid hd
    have P1 := Lib.hid p1; have P2 := Lib.hid p2; have M := Lib.hid p3
    clear hd p1 p2 p3
    generalize a.tmod b = r at *
    by_cases hr : r = 0
    · have hr0 : (r == 0) = true := beq_iff_eq.2 hr
      clear sg hr
      go_enter Tryd.func6, Tryd.ntmps6
      go_wp2_with fail
      refine (add _ _ _ ha hb).mono ?_; rw [A2.out]; rintro e w' ⟨rfl, rfl⟩
      go_wp2_with fail
      refine (div _ _ _ ha hb).mono ?_; rw [D.out]; rintro e w' ⟨rfl, rfl⟩
      go_wp2_with fail
      refine (mod _ _ _ ha hb).mono ?_; rw [D.out, M.out]; rintro e w' ⟨rfl, rfl⟩
      go_wp2_with fail
      refine (mul _ _ _ (divN_i64 _ _) hb).mono ?_; rw [P1.out, P2.out]; rintro e w' ⟨rfl, rfl⟩
      go_wp2_with fail
      refine (add _ _ _ im.out ir.out).mono ?_; rw [B.out.1, B.out.2]; rintro e w' ⟨rfl, rfl⟩
      go_wp2_with fail
      refine (wakes _ hl).mono ?_; rintro e w6 ⟨rfl, hb6⟩
      go_wp2
      go_ret
      exact ⟨ret1 rfl, hb6⟩
    · have hr0 : (r == 0) = false := beq_eq_false_iff_ne.2 hr
      have hs : (decide (r < 0) == decide (a < 0)) = true := by
        have := sg hr
        rw [beq_iff_eq, decide_eq_decide]; exact this
      have HS := Lib.hid hs
      clear sg hr
      by_cases hr1 : r < 0 <;> by_cases ha1 : a < 0
      · have d1 : decide (r < 0) = true := decide_eq_true hr1
        have d2 : decide (a < 0) = true := decide_eq_true ha1
        go_enter Tryd.func6, Tryd.ntmps6
        go_wp2_with fail
        refine (add _ _ _ ha hb).mono ?_; rw [A2.out]; rintro e w' ⟨rfl, rfl⟩
        go_wp2_with fail
        refine (div _ _ _ ha hb).mono ?_; rw [D.out]; rintro e w' ⟨rfl, rfl⟩
        go_wp2_with fail
        refine (mod _ _ _ ha hb).mono ?_; rw [D.out, M.out]; rintro e w' ⟨rfl, rfl⟩
        go_wp2_with fail
        refine (mul _ _ _ (divN_i64 _ _) hb).mono ?_; rw [P1.out, P2.out]; rintro e w' ⟨rfl, rfl⟩
        go_wp2_with fail
        refine (add _ _ _ im.out ir.out).mono ?_; rw [B.out.1, B.out.2]; rintro e w' ⟨rfl, rfl⟩
        go_wp2_with fail
        refine (wakes _ hl).mono ?_; rintro e w6 ⟨rfl, hb6⟩
        go_wp2
        go_ret
        exact ⟨ret1 rfl, hb6⟩
      · exfalso; have := HS.out; rw [decide_eq_true hr1, decide_eq_false ha1] at this; cases this
      · exfalso; have := HS.out; rw [decide_eq_false hr1, decide_eq_true ha1] at this; cases this
      · have d1 : decide (r < 0) = false := decide_eq_false hr1
        have d2 : decide (a < 0) = false := decide_eq_false ha1
        go_enter Tryd.func6, Tryd.ntmps6
        go_wp2_with fail
        refine (add _ _ _ ha hb).mono ?_; rw [A2.out]; rintro e w' ⟨rfl, rfl⟩
        go_wp2_with fail
        refine (div _ _ _ ha hb).mono ?_; rw [D.out]; rintro e w' ⟨rfl, rfl⟩
        go_wp2_with fail
        refine (mod _ _ _ ha hb).mono ?_; rw [D.out, M.out]; rintro e w' ⟨rfl, rfl⟩
        go_wp2_with fail
        refine (mul _ _ _ (divN_i64 _ _) hb).mono ?_; rw [P1.out, P2.out]; rintro e w' ⟨rfl, rfl⟩
        go_wp2_with fail
        refine (add _ _ _ im.out ir.out).mono ?_; rw [B.out.1, B.out.2]; rintro e w' ⟨rfl, rfl⟩
        go_wp2_with fail
        refine (wakes _ hl).mono ?_; rintro e w6 ⟨rfl, hb6⟩
        go_wp2
        go_ret
        exact ⟨ret1 rfl, hb6⟩

theorem numBack (a b : Int) (w : World) (ha : I64 a) (hb : I64 b) (hl : LibIs w) :
    Calls Tryd.prog 6 #[.int .i64 a, .int .i64 b] w fun e w' => e = .returned (.bool true) ∧ Below w.heap.size w w' := by
  by_cases h : I64 (a + b)
  · exact numBack_yes a b w ha hb hl h
  · exact numBack_no a b w ha hb hl h
end Go.Proofs.YtkfgcnomojopdaaDoor.NumC
