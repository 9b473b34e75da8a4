/-
  Contracts of the reference's numbers: Sub, Mul. Nothing is assumed but that the arguments are numbers of their kinds.
-/
import Derived.Test.YtkfgcnomojopdaaDoorNumR
namespace Go.Proofs.YtkfgcnomojopdaaDoor.NumC
set_option linter.unusedVariables false
open Go.RowKit

theorem sub_least1 {a : Int} (h : 0 ≤ a) : ¬ I64 (a - -9223372036854775808) := by unfold I64; omega
theorem sub_least2 (a : Int) : a + 1 + 9223372036854775807 = a - -9223372036854775808 := by omega
theorem sub_neg (a b : Int) : a + -b = a - b := by omega

set_option maxHeartbeats 1000000 in
theorem rsub (a b : Int) (w : World) (ha : I64 a) (hb : I64 b) :
    Calls Tryd.prog 13 #[.int .i64 a, .int .i64 b] w fun e w' => e = .returned (.agg #[.int .i64 (fitN (a - b)), .bool (fitB (a - b))]) ∧ Below w.heap.size w w' := by
  have ha1 := ha; unfold I64 at ha1
  have hb1 := hb; unfold I64 at hb1
  by_cases h : b = -9223372036854775808
  · subst h
    by_cases h1 : 0 ≤ a
    · have E := Lib.hid (sub_least1 h1)
      go_enter Tryd.func13, Tryd.ntmps13
      go_wp2_with fail
      refine bodyPost_ret (v := .agg #[.int .i64 0, .bool false]) (by simp [results, Tryd.results13, go_sem]) rfl ⟨?_, ?_⟩
      · exact got_eq (by rw [fitN_no E.out]) (by rw [fitB_no E.out])
      · exact (Below.refl _ _).alloc (Nat.le_refl _) _
    · have h2 : a < 0 := by omega
      have E := Lib.hid (sub_least2 a)
      go_enter Tryd.func13, Tryd.ntmps13
      go_wp2_with fail
      refine (radd _ _ _ (by unfold I64; omega) (by unfold I64; omega)).mono ?_
      rw [E.out]
      rintro e w1 ⟨rfl, hb1⟩
      obtain ⟨hc, hf⟩ := bcell hb1
      go_wp2
      refine bodyPost_ret (v := .agg #[.int .i64 (fitN (a - -9223372036854775808)), .bool (fitB (a - -9223372036854775808))]) (by simp [results, Tryd.results13, go_sem, hc]) rfl ⟨rfl, ?_⟩
      exact ((below_of hb1).setCell (Nat.le_refl _) _).setCell (Nat.le_refl _) _
  · have h1 : (b == -9223372036854775808) = false := by simpa using h
    have hm : -9223372036854775808 < b := by omega
    have E := Lib.hid (sub_neg a b)
    clear h
    go_enter Tryd.func13, Tryd.ntmps13
    go_wp2_with fail
    refine (radd _ _ _ ha (by unfold I64; omega)).mono ?_
    rw [E.out]
    rintro e w1 ⟨rfl, hb1⟩
    obtain ⟨hc, hf⟩ := bcell hb1
    go_wp2
    refine bodyPost_ret (v := .agg #[.int .i64 (fitN (a - b)), .bool (fitB (a - b))]) (by simp [results, Tryd.results13, go_sem, hc]) rfl ⟨rfl, ?_⟩
    exact ((below_of hb1).setCell (Nat.le_refl _) _).setCell (Nat.le_refl _) _

theorem half (y : Int) (k : Nat) (hk : 1 ≤ k) : y / 2 ^ k = y / 2 ^ (k - 1) / 2 := by
  obtain ⟨m, rfl⟩ : ∃ m, k = m + 1 := ⟨k - 1, by omega⟩
  rw [Nat.add_sub_cancel, Int.pow_succ, Int.ediv_ediv_of_nonneg (Int.le_of_lt (Int.pow_pos (by omega)))]
theorem mul_bit1 {x y n : Int} {k : Nat} (hk : 1 ≤ k) (h : n = x * (y / 2 ^ k)) (hb : (y / 2 ^ (k - 1)) % 2 = 1) : n * 2 + x = x * (y / 2 ^ (k - 1)) := by
  rw [half y k hk] at h
  generalize y / 2 ^ (k - 1) = q at *
  obtain ⟨r, rfl⟩ : ∃ r, q = 2 * r + 1 := ⟨q / 2, by omega⟩
  rw [show (2 * r + 1) / 2 = r from by omega] at h
  subst h
  rw [Int.mul_add, Int.mul_one, Int.mul_assoc, Int.mul_comm r 2]
theorem mul_bit0 {x y n : Int} {k : Nat} (hk : 1 ≤ k) (h : n = x * (y / 2 ^ k)) (hb : ¬ (y / 2 ^ (k - 1)) % 2 = 1) : n * 2 = x * (y / 2 ^ (k - 1)) := by
  rw [half y k hk] at h
  generalize y / 2 ^ (k - 1) = q at *
  obtain ⟨r, rfl⟩ : ∃ r, q = 2 * r := ⟨q / 2, by omega⟩
  rw [show (2 * r) / 2 = r from by omega] at h
  subst h
  rw [Int.mul_assoc, Int.mul_comm r 2]
/-- What is too great on the way is too great in the end. -/
theorem mul_way {x y m : Int} {k : Nat} (hx : 0 ≤ x) (hy : 0 ≤ y) (h : m = x * (y / 2 ^ k)) (hm : 0 ≤ m) : m * 2 ^ k ≤ x * y := by
  subst h
  rw [Int.mul_assoc]
  exact Int.mul_le_mul_of_nonneg_left (Int.ediv_mul_le y (by have : (0 : Int) < 2 ^ k := Int.pow_pos (by omega); omega)) hx
theorem mul_way1 {x y m : Int} {k : Nat} (hx : 0 ≤ x) (hy : 0 ≤ y) (h : m = x * (y / 2 ^ k)) (hm : 18446744073709551616 ≤ m) : ¬ x * y ≤ 18446744073709551615 := by
  have h1 := mul_way hx hy h (by omega)
  have h2 : m * 1 ≤ m * 2 ^ k := Int.mul_le_mul_of_nonneg_left (by have : (0 : Int) < 2 ^ k := Int.pow_pos (by omega); omega) (by omega)
  omega
theorem mul_way2 {x y m : Int} {k : Nat} (hk : 1 ≤ k) (hx : 0 ≤ x) (hy : 0 ≤ y) (h : m = x * (y / 2 ^ k)) (hm : 9223372036854775808 ≤ m) : ¬ x * y ≤ 18446744073709551615 := by
  have h1 := mul_way hx hy h (by omega)
  have h2 : m * 2 ≤ m * 2 ^ k := by
    refine Int.mul_le_mul_of_nonneg_left ?_ (by omega)
    obtain ⟨j, rfl⟩ : ∃ j, k = j + 1 := ⟨k - 1, by omega⟩
    rw [Int.pow_succ]
    have : (0 : Int) < 2 ^ j := Int.pow_pos (by omega)
    omega
  omega
theorem mul_start {x y : Int} (hy0 : 0 ≤ y) (hy : y ≤ 9223372036854775808) : 0 = x * (y / 2 ^ 64) := by
  rw [show y / 2 ^ 64 = 0 from Int.ediv_eq_zero_of_lt hy0 (by omega)]; omega
theorem over_of {a b x y : Int} (E : siz a = x) (F : siz b = y) (h : ¬ x * y ≤ 18446744073709551615) : ¬ I64 (a * b) := by subst E F; exact mul_over h
theorem wrap_over {m : Int} (h0 : 18446744073709551616 ≤ m) (h1 : m < 36893488147419103232) : IntKind.u64.wrap m = m - 18446744073709551616 := by rw [IntKind.wrap_u64]; omega

set_option maxHeartbeats 2000000 in
theorem rmul (a b : Int) (w : World) (ha : I64 a) (hb : I64 b) :
    Calls Tryd.prog 14 #[.int .i64 a, .int .i64 b] w fun e w' => e = .returned (.agg #[.int .i64 (fitN (a * b)), .bool (fitB (a * b))]) ∧ Below w.heap.size w w' := by
  have Sa := siz_bd ha; have Sb := siz_bd hb
  have E := Lib.hid (sgd_mul a b)
  generalize hx : siz a = x at *
  generalize hy : siz b = y at *
  have HX := Lib.hid hx; have HY := Lib.hid hy; clear hx hy
  go_enter Tryd.func14, Tryd.ntmps14
  go_wp2_with fail
  refine (rwhole _ _ ha).mono ?_; rw [HX.out]; rintro e w' ⟨rfl, rfl⟩
  go_wp2_with fail
  refine (rwhole _ _ hb).mono ?_; rw [HY.out]; rintro e w' ⟨rfl, rfl⟩
  go_wp2
  go_loop [7, 8] (fun p i => ∃ k : Nat, ∃ n : Int, k ≤ 64 ∧ i = .int .i64 (k - 1) ∧ p = .int .u64 n ∧ 0 ≤ n ∧ n ≤ 18446744073709551615 ∧ Hid (n = x * (y / 2 ^ k))) (fun _ i => (intOf i + 1).toNat)
  case atStart => exact ⟨64, 0, by omega, rfl, rfl, by omega, by omega, Lib.hid (mul_start Sb.1 Sb.2)⟩
  case round =>
    obtain ⟨k, n, hk, rfl, rfl, hn0, hn1, HN⟩ := hrel
    by_cases hk0 : k = 0
    · subst hk0
      have HP : Hid (n = x * y) := Lib.hid (by have := HN.out; rwa [Int.pow_zero, Int.ediv_one] at this)
      by_cases hn2 : n = 0
      · have d3 : decide (0 < n) = false := decide_eq_false (by omega)
        have hs : Hid (sgd false n = a * b) := Lib.hid (by rw [← E.out, ← HP.out, hn2]; unfold sgd; simp)
        clear hn2
        by_cases h1 : a < 0 <;> by_cases h2 : b < 0
        all_goals
          first | have d1 : decide (a < 0) = false := decide_eq_false h1 | have d1 : decide (a < 0) = true := decide_eq_true h1
          first | have d2 : decide (b < 0) = false := decide_eq_false h2 | have d2 : decide (b < 0) = true := decide_eq_true h2
          go_wp2_with fail
          refine (rsigned _ _ _ hn0 hn1).mono ?_
          rw [hs.out]
          rintro e w1 ⟨rfl, hb1⟩
          obtain ⟨hc, hf⟩ := bcell hb1
          go_wp2
          refine bodyPost_ret (v := .agg #[.int .i64 (fitN (a * b)), .bool (fitB (a * b))]) (by simp [results, Tryd.results14, go_sem, hc]) rfl ⟨rfl, ?_⟩
          exact ((below_of hb1).setCell (Nat.le_refl _) _).setCell (Nat.le_refl _) _
      · have hn3 : 0 < n := by omega
        clear hn2
        by_cases h1 : a < 0 <;> by_cases h2 : b < 0
        all_goals
          first | have d1 : decide (a < 0) = false := decide_eq_false h1 | have d1 : decide (a < 0) = true := decide_eq_true h1
          first | have d2 : decide (b < 0) = false := decide_eq_false h2 | have d2 : decide (b < 0) = true := decide_eq_true h2
          have hs : Hid (sgd (decide (a < 0) != decide (b < 0)) n = a * b) := Lib.hid (by rw [HP.out]; exact E.out)
          rw [d1, d2] at hs
          go_wp2_with fail
          refine (rsigned _ _ _ hn0 hn1).mono ?_
          first | rw [show sgd true n = a * b from hs.out] | rw [show sgd false n = a * b from hs.out]
          rintro e w1 ⟨rfl, hb1⟩
          obtain ⟨hc, hf⟩ := bcell hb1
          go_wp2
          refine bodyPost_ret (v := .agg #[.int .i64 (fitN (a * b)), .bool (fitB (a * b))]) (by simp [results, Tryd.results14, go_sem, hc]) rfl ⟨rfl, ?_⟩
          exact ((below_of hb1).setCell (Nat.le_refl _) _).setCell (Nat.le_refl _) _
    · have hk1 : (1 : Int) ≤ k := by omega
      by_cases h1 : 9223372036854775808 ≤ n
      · have G := Lib.hid (over_of HX.out HY.out (mul_way2 (by omega) Sa.1 Sb.1 HN.out h1))
        go_wp2
        refine bodyPost_ret (v := .agg #[.int .i64 0, .bool false]) (by simp [results, Tryd.results14, go_sem]) rfl ⟨?_, ?_⟩
        · exact got_eq (by rw [fitN_no G.out]) (by rw [fitB_no G.out])
        · exact (Below.refl _ _).alloc (Nat.le_refl _) _
      · have h2 : n ≤ 9223372036854775807 := by omega
        have hq0 : 0 ≤ y / 2 ^ (k - 1) := Int.ediv_nonneg Sb.1 (by have : (0 : Int) < 2 ^ (k - 1) := Int.pow_pos (by omega); omega)
        have hq1 : y / 2 ^ (k - 1) ≤ 18446744073709551615 := by have := Int.ediv_le_self (2 ^ (k - 1)) Sb.1; omega
        have hbit := and_one_u64 (y / 2 ^ (k - 1)) hq0 hq1
        by_cases hb : (y / 2 ^ (k - 1)) % 2 = 1
        · have HM := Lib.hid (mul_bit1 (by omega) HN.out hb)
          have hb1 : (bits BinOp.and IntKind.u64 (y / 2 ^ (k - 1)) 1 == 1) = true := by rw [hbit, hb]; rfl
          clear hb hbit
          by_cases h3 : n * 2 + x ≤ 18446744073709551615
          · go_wp2
            go_round
            case rel => exact ⟨k - 1, n * 2 + x, by omega, congrArg _ (by omega), rfl, by omega, by omega, HM⟩
            case measure => simp [intOf]; omega
          · have G := Lib.hid (over_of HX.out HY.out (mul_way1 Sa.1 Sb.1 HM.out (by omega)))
            have hw := wrap_over (m := n * 2 + x) (by omega) (by omega)
            go_wp2
            refine bodyPost_ret (v := .agg #[.int .i64 0, .bool false]) (by simp [results, Tryd.results14, go_sem]) rfl ⟨?_, ?_⟩
            · exact got_eq (by rw [fitN_no G.out]) (by rw [fitB_no G.out])
            · exact (Below.refl _ _).alloc (Nat.le_refl _) _
        · have HM := Lib.hid (mul_bit0 (by omega) HN.out hb)
          have hb1 : (bits BinOp.and IntKind.u64 (y / 2 ^ (k - 1)) 1 == 1) = false := by rw [hbit]; simpa using hb
          clear hb hbit
          go_wp2
          go_round
          case rel => exact ⟨k - 1, n * 2, by omega, congrArg _ (by omega), rfl, by omega, by omega, HM⟩
          case measure => simp [intOf]; omega
end Go.Proofs.YtkfgcnomojopdaaDoor.NumC
