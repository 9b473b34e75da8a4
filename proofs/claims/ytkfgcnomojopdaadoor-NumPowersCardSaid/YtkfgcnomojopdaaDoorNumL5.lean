/-
  The walk of the statement NumPowers: for all arguments it answers true.
-/
import Derived.Test.YtkfgcnomojopdaaDoorNumW
import Derived.Test.YtkfgcnomojopdaaDoorNumC
namespace Go.Proofs.YtkfgcnomojopdaaDoor.NumC
set_option linter.unusedVariables false
open Go.RowKit

theorem pw_add (a : Int) (k l : Nat) : pw a k * pw a l = pw a (k + l) := by unfold pw; exact (Int.pow_add a k l).symm
theorem powN_k {a b : Int} (h : 0 ≤ b) : powN a b = fitN (pw a b.toNat) ∧ powB a b = fitB (pw a b.toNat) := by
  unfold powN powB; rw [if_neg (by omega), if_neg (by omega)]; exact ⟨rfl, rfl⟩
theorem powN_i64 (a b : Int) : I64 (powN a b) := by
  unfold powN; split
  · decide
  · exact fitN_i64 _
/-- What a power of a sum of exponents comes to. -/
theorem pow_sum {a k l : Int} (hk : 0 ≤ k) (hl : 0 ≤ l) (e : powB a k = true) (f : powB a l = true) :
    fitN (powN a k * powN a l) = powN a (k + l) ∧ fitB (powN a k * powN a l) = powB a (k + l) := by
  obtain ⟨k1, k2⟩ := powN_k (a := a) hk
  obtain ⟨l1, l2⟩ := powN_k (a := a) hl
  obtain ⟨s1, s2⟩ := powN_k (a := a) (show 0 ≤ k + l by omega)
  rw [k2] at e; rw [l2] at f
  rw [k1, l1, s1, s2, fitN_yes (of_decide_eq_true e), fitN_yes (of_decide_eq_true f), pw_add, show (k + l).toNat = k.toNat + l.toNat from by omega]
  exact ⟨rfl, rfl⟩
theorem pow_parts {a k l : Int} (hk : 0 ≤ k) (hl : 0 ≤ l) (g : powB a (k + l) = true) : powB a k = true ∧ powB a l = true := by
  rw [(powN_k (a := a) (show 0 ≤ k + l by omega)).2] at g
  have gi : I64 (pw a (k + l).toNat) := of_decide_eq_true g
  rw [(powN_k (a := a) hk).2, (powN_k (a := a) hl).2]
  exact ⟨fitB_yes (pw_before gi (by omega)), fitB_yes (pw_before gi (by omega))⟩

set_option maxRecDepth 100000 in
set_option maxHeartbeats 2000000 in
theorem numPowers_a (a b c x y z : Int) (w : World) (ha : I64 a) (hb : 0 ≤ b ∧ b ≤ 255) (hc : 0 ≤ c ∧ c ≤ 255) (hl : LibIs w)
    (X : Hid (powN a (b % 40) = x)) (Y : Hid (powN a (c % 40) = y)) (Z : Hid (powN a (b % 40 + c % 40) = z)) (ix : I64 x) (iy : I64 y)
    (e : Hid (powB a (b % 40) = true)) (f : Hid (powB a (c % 40) = true)) (g : Hid (powB a (b % 40 + c % 40) = true)) (M : Hid (fitN (x * y) = z ∧ fitB (x * y) = true)) (a0 : (a == 0) = false) :
    Calls Tryd.prog 8 #[.int .i64 a, .int .u8 b, .int .u8 c] w fun e w' => e = .returned (.bool true) ∧ Below w.heap.size w w' := by
  have ik : I64 (b % 40) := by unfold I64; omega
  have il : I64 (c % 40) := by unfold I64; omega
  have ikl : I64 (b % 40 + c % 40) := by unfold I64; omega
  have C1 := Lib.hid (Int.add_comm x a)
  have C2 := Lib.hid (Int.mul_comm x a)
  go_enter Tryd.func8, Tryd.ntmps8
  go_wp2_with fail
  refine (pow _ _ _ ha ik).mono ?_; rw [e.out, X.out]; rintro e w' ⟨rfl, rfl⟩
  go_wp2_with fail
  refine (pow _ _ _ ha il).mono ?_; rw [f.out, Y.out]; rintro e w' ⟨rfl, rfl⟩
  go_wp2_with fail
  refine (pow _ _ _ ha ikl).mono ?_; rw [g.out, Z.out]; rintro e w' ⟨rfl, rfl⟩
  go_wp2_with fail
  refine (mul _ _ _ ix iy).mono ?_; rw [M.out.1, M.out.2]; rintro e w' ⟨rfl, rfl⟩
  go_wp2_with fail
  refine (mul _ _ _ ix iy).mono ?_; rw [M.out.1, M.out.2]; rintro e w' ⟨rfl, rfl⟩
  go_wp2_with fail
  refine (add _ _ _ ha ix).mono ?_; rintro e w' ⟨rfl, rfl⟩
  go_wp2_with fail
  refine (add _ _ _ ix ha).mono ?_; rw [C1.out]; rintro e w' ⟨rfl, rfl⟩
  go_wp2_with fail
  refine (mul _ _ _ ha ix).mono ?_; rintro e w' ⟨rfl, rfl⟩
  go_wp2_with fail
  refine (mul _ _ _ ix ha).mono ?_; rw [C2.out]; rintro e w' ⟨rfl, rfl⟩
  go_wp2_with fail
  refine (wakes _ hl).mono ?_; rintro e w6 ⟨rfl, hb6⟩
  go_wp2
  go_ret
  exact ⟨ret1 rfl, hb6⟩

set_option maxRecDepth 100000 in
set_option maxHeartbeats 2000000 in
theorem numPowers_b (a b c x y z : Int) (w : World) (ha : I64 a) (hb : 0 ≤ b ∧ b ≤ 255) (hc : 0 ≤ c ∧ c ≤ 255) (hl : LibIs w)
    (X : Hid (powN a (b % 40) = x)) (Y : Hid (powN a (c % 40) = y)) (Z : Hid (powN a (b % 40 + c % 40) = z)) (ix : I64 x) (iy : I64 y)
    (e : Hid (powB a (b % 40) = true)) (f : Hid (powB a (c % 40) = true)) (g : Hid (powB a (b % 40 + c % 40) = true)) (M : Hid (fitN (x * y) = z ∧ fitB (x * y) = true)) (a0 : (a == 0) = true) :
    Calls Tryd.prog 8 #[.int .i64 a, .int .u8 b, .int .u8 c] w fun e w' => e = .returned (.bool true) ∧ Below w.heap.size w w' := by
  have ik : I64 (b % 40) := by unfold I64; omega
  have il : I64 (c % 40) := by unfold I64; omega
  have ikl : I64 (b % 40 + c % 40) := by unfold I64; omega
  have C1 := Lib.hid (Int.add_comm x a)
  have C2 := Lib.hid (Int.mul_comm x a)
  go_enter Tryd.func8, Tryd.ntmps8
  go_wp2_with fail
  refine (pow _ _ _ ha ik).mono ?_; rw [e.out, X.out]; rintro e w' ⟨rfl, rfl⟩
  go_wp2_with fail
  refine (pow _ _ _ ha il).mono ?_; rw [f.out, Y.out]; rintro e w' ⟨rfl, rfl⟩
  go_wp2_with fail
  refine (pow _ _ _ ha ikl).mono ?_; rw [g.out, Z.out]; rintro e w' ⟨rfl, rfl⟩
  go_wp2_with fail
  refine (mul _ _ _ ix iy).mono ?_; rw [M.out.1, M.out.2]; rintro e w' ⟨rfl, rfl⟩
  go_wp2_with fail
  refine (add _ _ _ ha ix).mono ?_; rintro e w' ⟨rfl, rfl⟩
  go_wp2_with fail
  refine (add _ _ _ ix ha).mono ?_; rw [C1.out]; rintro e w' ⟨rfl, rfl⟩
  go_wp2_with fail
  refine (mul _ _ _ ha ix).mono ?_; rintro e w' ⟨rfl, rfl⟩
  go_wp2_with fail
  refine (mul _ _ _ ix ha).mono ?_; rw [C2.out]; rintro e w' ⟨rfl, rfl⟩
  go_wp2_with fail
  refine (wakes _ hl).mono ?_; rintro e w6 ⟨rfl, hb6⟩
  go_wp2
  go_ret
  exact ⟨ret1 rfl, hb6⟩

set_option maxRecDepth 100000 in
set_option maxHeartbeats 2000000 in
theorem numPowers_c (a b c x y z : Int) (w : World) (ha : I64 a) (hb : 0 ≤ b ∧ b ≤ 255) (hc : 0 ≤ c ∧ c ≤ 255) (hl : LibIs w)
    (X : Hid (powN a (b % 40) = x)) (Y : Hid (powN a (c % 40) = y)) (Z : Hid (powN a (b % 40 + c % 40) = z)) (ix : I64 x) (iy : I64 y)
    (e : Hid (powB a (b % 40) = true)) (f : Hid (powB a (c % 40) = true)) (g : Hid (powB a (b % 40 + c % 40) = false)) (M : Hid (fitN (x * y) = z ∧ fitB (x * y) = false)) :
    Calls Tryd.prog 8 #[.int .i64 a, .int .u8 b, .int .u8 c] w fun e w' => e = .returned (.bool true) ∧ Below w.heap.size w w' := by
  have ik : I64 (b % 40) := by unfold I64; omega
  have il : I64 (c % 40) := by unfold I64; omega
  have ikl : I64 (b % 40 + c % 40) := by unfold I64; omega
  have C1 := Lib.hid (Int.add_comm x a)
  have C2 := Lib.hid (Int.mul_comm x a)
  go_enter Tryd.func8, Tryd.ntmps8
  go_wp2_with fail
  refine (pow _ _ _ ha ik).mono ?_; rw [e.out, X.out]; rintro e w' ⟨rfl, rfl⟩
  go_wp2_with fail
  refine (pow _ _ _ ha il).mono ?_; rw [f.out, Y.out]; rintro e w' ⟨rfl, rfl⟩
  go_wp2_with fail
  refine (pow _ _ _ ha ikl).mono ?_; rw [g.out, Z.out]; rintro e w' ⟨rfl, rfl⟩
  go_wp2_with fail
  refine (mul _ _ _ ix iy).mono ?_; rw [M.out.1, M.out.2]; rintro e w' ⟨rfl, rfl⟩
  go_wp2_with fail
  refine (add _ _ _ ha ix).mono ?_; rintro e w' ⟨rfl, rfl⟩
  go_wp2_with fail
  refine (add _ _ _ ix ha).mono ?_; rw [C1.out]; rintro e w' ⟨rfl, rfl⟩
  go_wp2_with fail
  refine (mul _ _ _ ha ix).mono ?_; rintro e w' ⟨rfl, rfl⟩
  go_wp2_with fail
  refine (mul _ _ _ ix ha).mono ?_; rw [C2.out]; rintro e w' ⟨rfl, rfl⟩
  go_wp2_with fail
  refine (wakes _ hl).mono ?_; rintro e w6 ⟨rfl, hb6⟩
  go_wp2
  go_ret
  exact ⟨ret1 rfl, hb6⟩

set_option maxRecDepth 100000 in
set_option maxHeartbeats 2000000 in
theorem numPowers_d (a b c x y z : Int) (w : World) (ha : I64 a) (hb : 0 ≤ b ∧ b ≤ 255) (hc : 0 ≤ c ∧ c ≤ 255) (hl : LibIs w)
    (X : Hid (powN a (b % 40) = x)) (Y : Hid (powN a (c % 40) = y)) (Z : Hid (powN a (b % 40 + c % 40) = z)) (ix : I64 x) (iy : I64 y)
    (ee ff : Bool) (e : Hid (powB a (b % 40) = ee)) (f : Hid (powB a (c % 40) = ff)) (g : Hid (powB a (b % 40 + c % 40) = false)) (h : ee = false ∨ ee = true ∧ ff = false) :
    Calls Tryd.prog 8 #[.int .i64 a, .int .u8 b, .int .u8 c] w fun e w' => e = .returned (.bool true) ∧ Below w.heap.size w w' := by
  rcases h with rfl | ⟨rfl, rfl⟩
  all_goals
    have ik : I64 (b % 40) := by unfold I64; omega
    have il : I64 (c % 40) := by unfold I64; omega
    have ikl : I64 (b % 40 + c % 40) := by unfold I64; omega
    have C1 := Lib.hid (Int.add_comm x a)
    have C2 := Lib.hid (Int.mul_comm x a)
    go_enter Tryd.func8, Tryd.ntmps8
    go_wp2_with fail
    refine (pow _ _ _ ha ik).mono ?_; rw [e.out, X.out]; rintro e w' ⟨rfl, rfl⟩
    go_wp2_with fail
    refine (pow _ _ _ ha il).mono ?_; rw [f.out, Y.out]; rintro e w' ⟨rfl, rfl⟩
    go_wp2_with fail
    refine (pow _ _ _ ha ikl).mono ?_; rw [g.out, Z.out]; rintro e w' ⟨rfl, rfl⟩
    go_wp2_with fail
    refine (add _ _ _ ha ix).mono ?_; rintro e w' ⟨rfl, rfl⟩
    go_wp2_with fail
    refine (add _ _ _ ix ha).mono ?_; rw [C1.out]; rintro e w' ⟨rfl, rfl⟩
    go_wp2_with fail
    refine (mul _ _ _ ha ix).mono ?_; rintro e w' ⟨rfl, rfl⟩
    go_wp2_with fail
    refine (mul _ _ _ ix ha).mono ?_; rw [C2.out]; rintro e w' ⟨rfl, rfl⟩
    go_wp2_with fail
    refine (wakes _ hl).mono ?_; rintro e w6 ⟨rfl, hb6⟩
    go_wp2
    go_ret
    exact ⟨ret1 rfl, hb6⟩


theorem numPowers (a b c : Int) (w : World) (ha : I64 a) (hb : 0 ≤ b ∧ b ≤ 255) (hc : 0 ≤ c ∧ c ≤ 255) (hl : LibIs w) :
    Calls Tryd.prog 8 #[.int .i64 a, .int .u8 b, .int .u8 c] w fun e w' => e = .returned (.bool true) ∧ Below w.heap.size w w' := by
  have hk : 0 ≤ b % 40 := by omega
  have hm : 0 ≤ c % 40 := by omega
  have X := Lib.hid (rfl : powN a (b % 40) = powN a (b % 40))
  have Y := Lib.hid (rfl : powN a (c % 40) = powN a (c % 40))
  have Z := Lib.hid (rfl : powN a (b % 40 + c % 40) = powN a (b % 40 + c % 40))
  have ix := powN_i64 a (b % 40); have iy := powN_i64 a (c % 40)
  cases g : powB a (b % 40 + c % 40)
  · cases e : powB a (b % 40)
    · exact numPowers_d a b c _ _ _ w ha hb hc hl X Y Z ix iy false _ (Lib.hid e) (Lib.hid rfl) (Lib.hid g) (Or.inl rfl)
    · cases f : powB a (c % 40)
      · exact numPowers_d a b c _ _ _ w ha hb hc hl X Y Z ix iy true false (Lib.hid e) (Lib.hid f) (Lib.hid g) (Or.inr ⟨rfl, rfl⟩)
      · exact numPowers_c a b c _ _ _ w ha hb hc hl X Y Z ix iy (Lib.hid e) (Lib.hid f) (Lib.hid g) (Lib.hid (by have := pow_sum hk hm e f; rwa [g] at this))
  · obtain ⟨e, f⟩ := pow_parts hk hm g
    have M := pow_sum hk hm e f
    rw [g] at M
    by_cases a0 : a = 0
    · exact numPowers_b a b c _ _ _ w ha hb hc hl X Y Z ix iy (Lib.hid e) (Lib.hid f) (Lib.hid g) (Lib.hid M) (beq_iff_eq.2 a0)
    · exact numPowers_a a b c _ _ _ w ha hb hc hl X Y Z ix iy (Lib.hid e) (Lib.hid f) (Lib.hid g) (Lib.hid M) (beq_eq_false_iff_ne.2 a0)
end Go.Proofs.YtkfgcnomojopdaaDoor.NumC
