/-
  Contracts of the reference's numbers: Div, Mod, Gcd, Pow. Nothing is assumed but that the arguments are numbers of their kinds.
-/
import Derived.Test.YtkfgcnomojopdaaDoorNumS
import Derived.Test.YtkfgcnomojopdaaDoorNumC
namespace Go.Proofs.YtkfgcnomojopdaaDoor.NumC
set_option linter.unusedVariables false
open Go.RowKit

set_option maxHeartbeats 1000000 in
theorem rdiv (a b : Int) (w : World) (ha : I64 a) (hb : I64 b) :
    Calls Tryd.prog 20 #[.int .i64 a, .int .i64 b] w fun e w' => e = .returned (.agg #[.int .i64 (divN a b), .bool (divB a b)]) ∧ Below w.heap.size w w' := by
  by_cases h : b = 0
  · subst h
    go_enter Tryd.func20, Tryd.ntmps20
    go_wp2
    refine bodyPost_ret (v := .agg #[.int .i64 0, .bool false]) (by simp [results, Tryd.results20, go_sem]) rfl ⟨?_, ?_⟩
    · exact got_eq rfl rfl
    · exact (Below.refl _ _).alloc (Nat.le_refl _) _
  · have E := Lib.hid (sgd_div a b)
    have hb0 : (b == 0) = false := by simpa using h
    have Sa := siz_bd ha; have Sb := siz_bd hb; have S1 := siz_pos' h
    have Sd := siz_div_bd ha h
    have E1 := Lib.hid (divN_1 (a := a) h); have E2 := Lib.hid (divB_1 (a := a) h)
    clear h
    by_cases hn2 : siz a / siz b = 0
    · have d3 : decide (0 < siz a / siz b) = false := decide_eq_false (by omega)
      have hs : Hid (sgd false (siz a / siz b) = a.tdiv b) := Lib.hid (by rw [← E.out, hn2]; unfold sgd; simp)
      clear hn2
      by_cases h1 : a < 0 <;> by_cases h2 : b < 0
      all_goals
        first | have d1 : decide (a < 0) = false := decide_eq_false h1 | have d1 : decide (a < 0) = true := decide_eq_true h1
        first | have d2 : decide (b < 0) = false := decide_eq_false h2 | have d2 : decide (b < 0) = true := decide_eq_true h2
        go_enter Tryd.func20, Tryd.ntmps20
        go_wp2_with fail
        refine (rwhole _ _ ha).mono ?_; rintro e w' ⟨rfl, rfl⟩
        go_wp2_with fail
        refine (rwhole _ _ hb).mono ?_; rintro e w' ⟨rfl, rfl⟩
        go_wp2_with fail
        refine (rsigned _ _ _ Sd.1 (by omega)).mono ?_
        rw [hs.out]
        rintro e w1 ⟨rfl, hb1⟩
        obtain ⟨hc, hf⟩ := bcell hb1
        go_wp2
        refine bodyPost_ret (v := .agg #[.int .i64 (fitN (a.tdiv b)), .bool (fitB (a.tdiv b))]) (by simp [results, Tryd.results20, go_sem, hc]) rfl ⟨got_eq E1.out.symm E2.out.symm, ?_⟩
        exact ((below_of hb1).setCell (Nat.le_refl _) _).setCell (Nat.le_refl _) _
    · have hn3 : 0 < siz a / siz b := by omega
      clear hn2
      by_cases h1 : a < 0 <;> by_cases h2 : b < 0
      all_goals
        first | have d1 : decide (a < 0) = false := decide_eq_false h1 | have d1 : decide (a < 0) = true := decide_eq_true h1
        first | have d2 : decide (b < 0) = false := decide_eq_false h2 | have d2 : decide (b < 0) = true := decide_eq_true h2
        have hs : Hid (sgd (decide (a < 0) != decide (b < 0)) (siz a / siz b) = a.tdiv b) := Lib.hid E.out
        rw [d1, d2] at hs
        go_enter Tryd.func20, Tryd.ntmps20
        go_wp2_with fail
        refine (rwhole _ _ ha).mono ?_; rintro e w' ⟨rfl, rfl⟩
        go_wp2_with fail
        refine (rwhole _ _ hb).mono ?_; rintro e w' ⟨rfl, rfl⟩
        go_wp2_with fail
        refine (rsigned _ _ _ Sd.1 (by omega)).mono ?_
        first | rw [show sgd true (siz a / siz b) = a.tdiv b from hs.out] | rw [show sgd false (siz a / siz b) = a.tdiv b from hs.out]
        rintro e w1 ⟨rfl, hb1⟩
        obtain ⟨hc, hf⟩ := bcell hb1
        go_wp2
        refine bodyPost_ret (v := .agg #[.int .i64 (fitN (a.tdiv b)), .bool (fitB (a.tdiv b))]) (by simp [results, Tryd.results20, go_sem, hc]) rfl ⟨got_eq E1.out.symm E2.out.symm, ?_⟩
        exact ((below_of hb1).setCell (Nat.le_refl _) _).setCell (Nat.le_refl _) _

theorem divB_ne {a b : Int} (h : divB a b = true) : b ≠ 0 := by intro e; subst e; cases h
theorem sgd_mod_t {a b : Int} (h : a < 0) : sgd true (siz a % siz b) = a.tmod b := by
  rw [sgd_t, siz_natAbs, siz_natAbs, ← Int.natCast_emod, ← Int.natAbs_tmod]
  have h3 : 0 ≤ (-a).tmod b := Int.tmod_nonneg b (by omega)
  rw [Int.neg_tmod] at h3; omega
theorem sgd_mod_f {a b : Int} (h : ¬ a < 0) : sgd false (siz a % siz b) = a.tmod b := by
  rw [sgd_f, siz_natAbs, siz_natAbs, ← Int.natCast_emod, ← Int.natAbs_tmod]
  have h3 : 0 ≤ a.tmod b := Int.tmod_nonneg b (by omega)
  omega
theorem siz_mod_bd {a b : Int} (ha : I64 a) (hb' : I64 b) (hb : b ≠ 0) : 0 ≤ siz a % siz b ∧ siz a % siz b ≤ 9223372036854775808 := by
  have h2 := siz_pos' hb
  have h3 := siz_bd ha
  have h4 := siz_bd hb'
  refine ⟨Int.emod_nonneg _ (by omega), ?_⟩
  have := Int.emod_lt_of_pos (siz a) (show 0 < siz b by omega)
  omega

theorem got_field1 (n : Int) (b : Bool) (w : World) : (Instr.field 25 (.agg #[.int .i64 n, .bool b]) 1).run Tryd.prog w = .ok (.bool b) w := by kernel_rfl

set_option maxHeartbeats 1000000 in
theorem rmod (a b : Int) (w : World) (ha : I64 a) (hb : I64 b) :
    Calls Tryd.prog 21 #[.int .i64 a, .int .i64 b] w fun e w' => e = .returned (.agg #[.int .i64 (modN a b), .bool (divB a b)]) ∧ Below w.heap.size w w' := by
  by_cases h : b = 0
  · subst h
    have E : Hid (modN a 0 = 0) := Lib.hid rfl
    go_enter Tryd.func21, Tryd.ntmps21
    go_wp2
    refine bodyPost_ret (v := .agg #[.int .i64 0, .bool false]) (by simp [results, Tryd.results21, go_sem]) rfl ⟨?_, ?_⟩
    · exact got_eq E.out.symm rfl
    · exact (Below.refl _ _).alloc (Nat.le_refl _) _
  · have hb0 : (b == 0) = false := by simpa using h
    have hfld := got_field1
    cases hd : divB a b
    · have E : Hid (modN a b = 0) := Lib.hid (by unfold modN; rw [hd]; rfl)
      have D := Lib.hid hd; clear hd h
      go_enter Tryd.func21, Tryd.ntmps21
      go_wp2_with fail
      refine (rdiv _ _ _ ha hb).mono ?_; rw [D.out]; rintro e w1 ⟨rfl, hb1⟩
      obtain ⟨hc, hf⟩ := bcell hb1
      have hz := size_of hb1
      go_wp2
      refine bodyPost_ret (v := .agg #[.int .i64 0, .bool false]) (by simp [results, Tryd.results21, go_sem, hc]) rfl ⟨got_eq E.out.symm rfl, ?_⟩
      exact ((below_of hb1).setCell (Nat.le_refl _) _).setCell (Nat.le_refl _) _
    · have E : Hid (modN a b = a.tmod b) := Lib.hid (by unfold modN; rw [hd]; rfl)
      have Ei := Lib.hid (tmod_i64 ha hb)
      have Sm := siz_mod_bd ha hb h
      have Sa := siz_bd ha; have Sb := siz_bd hb; have S1 := siz_pos' h
      have D := Lib.hid hd; clear hd h
      by_cases h1 : a < 0
      · have Et := Lib.hid (sgd_mod_t (b := b) h1)
        by_cases hz0 : siz a % siz b = 0
        · have d3 : decide (0 < siz a % siz b) = false := decide_eq_false (by omega)
          have Et2 : Hid (sgd false (siz a % siz b) = a.tmod b) := Lib.hid (by rw [← Et.out, hz0]; rfl)
          clear hz0
          go_enter Tryd.func21, Tryd.ntmps21
          go_wp2_with fail
          refine (rdiv _ _ _ ha hb).mono ?_; rw [D.out]; rintro e w1 ⟨rfl, hb1⟩
          have hz := size_of hb1
          go_wp2_with fail
          refine (rwhole _ _ ha).mono ?_; rintro e w' ⟨rfl, rfl⟩
          go_wp2_with fail
          refine (rwhole _ _ hb).mono ?_; rintro e w' ⟨rfl, rfl⟩
          go_wp2_with fail
          refine (rsigned _ _ _ Sm.1 (by omega)).mono ?_
          rw [Et2.out]
          rintro e w2 ⟨rfl, hb2⟩
          have hb3 := below_then hb1 hb2
          obtain ⟨hc, hf⟩ := bcell hb3
          go_wp2
          refine bodyPost_ret (v := .agg #[.int .i64 (fitN (a.tmod b)), .bool (fitB (a.tmod b))]) (by simp [results, Tryd.results21, go_sem, hc]) rfl ⟨got_eq (by rw [E.out, fitN_yes Ei.out]) (by rw [fitB_yes Ei.out]), ?_⟩
          exact ((below_of hb3).setCell (Nat.le_refl _) _).setCell (Nat.le_refl _) _
        · have hz1 : 0 < siz a % siz b := by omega
          clear hz0
          go_enter Tryd.func21, Tryd.ntmps21
          go_wp2_with fail
          refine (rdiv _ _ _ ha hb).mono ?_; rw [D.out]; rintro e w1 ⟨rfl, hb1⟩
          have hz := size_of hb1
          go_wp2_with fail
          refine (rwhole _ _ ha).mono ?_; rintro e w' ⟨rfl, rfl⟩
          go_wp2_with fail
          refine (rwhole _ _ hb).mono ?_; rintro e w' ⟨rfl, rfl⟩
          go_wp2_with fail
          refine (rsigned _ _ _ Sm.1 (by omega)).mono ?_
          rw [Et.out]
          rintro e w2 ⟨rfl, hb2⟩
          have hb3 := below_then hb1 hb2
          obtain ⟨hc, hf⟩ := bcell hb3
          go_wp2
          refine bodyPost_ret (v := .agg #[.int .i64 (fitN (a.tmod b)), .bool (fitB (a.tmod b))]) (by simp [results, Tryd.results21, go_sem, hc]) rfl ⟨got_eq (by rw [E.out, fitN_yes Ei.out]) (by rw [fitB_yes Ei.out]), ?_⟩
          exact ((below_of hb3).setCell (Nat.le_refl _) _).setCell (Nat.le_refl _) _
      · have Et := Lib.hid (sgd_mod_f (b := b) h1)
        have d1 : decide (a < 0) = false := decide_eq_false h1
        generalize a.tmod b = m at E Ei Et
        go_enter Tryd.func21, Tryd.ntmps21
        go_wp2_with fail
        refine (rdiv _ _ _ ha hb).mono ?_; rw [D.out]; rintro e w1 ⟨rfl, hb1⟩
        have hz := size_of hb1
        go_wp2_with fail
        refine (rwhole _ _ ha).mono ?_; rintro e w' ⟨rfl, rfl⟩
        go_wp2_with fail
        refine (rwhole _ _ hb).mono ?_; rintro e w' ⟨rfl, rfl⟩
        go_wp2_with fail
        refine (rsigned _ _ _ Sm.1 (by omega)).mono ?_
        rw [Et.out]
        rintro e w2 ⟨rfl, hb2⟩
        have hb3 := below_then hb1 hb2
        obtain ⟨hc, hf⟩ := bcell hb3
        go_wp2
        refine bodyPost_ret (v := .agg #[.int .i64 (fitN m), .bool (fitB m)]) (by simp [results, Tryd.results21, go_sem, hc]) rfl ⟨got_eq (by rw [E.out, fitN_yes Ei.out]) (by rw [fitB_yes Ei.out]), ?_⟩
        exact ((below_of hb3).setCell (Nat.le_refl _) _).setCell (Nat.le_refl _) _

/-- The rest's steps: the product of both at least halves from the second step on. -/
theorem gcd_step {x y P : Int} (hx : 0 ≤ x) (hy : 0 < y) (hxy : y ≤ x) (h : x * y ≤ P) : y * (x % y) * 2 ≤ P := by
  have h0 : 0 ≤ x % y := Int.emod_nonneg _ (by omega)
  have h1 : x % y < y := Int.emod_lt_of_pos _ hy
  have h2 : x % y * 2 ≤ x := by
    have e := Int.emod_add_mul_ediv x y
    have hq : 1 ≤ x / y := by
      have := Int.ediv_le_ediv hy hxy
      rwa [Int.ediv_self (by omega)] at this
    have : y * 1 ≤ y * (x / y) := Int.mul_le_mul_of_nonneg_left hq (by omega)
    omega
  have h3 : y * (x % y * 2) ≤ y * x := Int.mul_le_mul_of_nonneg_left h2 (by omega)
  rw [Int.mul_assoc, Int.mul_comm x y] at *
  omega
theorem gcd_first {x y : Int} (hx0 : 0 ≤ x) (hx : x ≤ 9223372036854775808) (hy0 : 0 < y) (hy : y ≤ 9223372036854775808) : y * (x % y) ≤ 9223372036854775808 * 9223372036854775808 := by
  have h0 : 0 ≤ x % y := Int.emod_nonneg _ (by omega)
  have h1 : x % y < y := Int.emod_lt_of_pos _ hy0
  exact Int.mul_le_mul hy (by omega) h0 (by omega)
/-- What holds behind i steps. -/
def gcdInv (x y : Int) (i : Nat) : Prop := i = 0 ∨ (y ≤ x ∧ x * y * 2 ^ i ≤ 2 ^ 127)
theorem gcdInv_step {x y : Int} {i : Nat} (hx0 : 0 ≤ x) (hx : x ≤ 9223372036854775808) (hy0 : 0 < y) (hy : y ≤ 9223372036854775808) (h : gcdInv x y i) : gcdInv y (x % y) (i + 1) := by
  have h1 : x % y < y := Int.emod_lt_of_pos _ hy0
  refine Or.inr ⟨by omega, ?_⟩
  rcases h with rfl | ⟨h2, h3⟩
  · have := gcd_first hx0 hx hy0 hy
    generalize y * (x % y) = p at *
    omega
  · have h4 := gcd_step hx0 hy0 h2 (Int.le_refl _)
    rw [Int.pow_succ, ← Int.mul_assoc]
    have h5 : y * (x % y) * 2 * 2 ^ i ≤ x * y * 2 ^ i := Int.mul_le_mul_of_nonneg_right h4 (Int.le_of_lt (Int.pow_pos (by omega)))
    rw [Int.mul_assoc _ 2, Int.mul_comm 2, ← Int.mul_assoc] at h5
    exact Int.le_trans h5 h3
theorem gcdInv_end {x y : Int} {i : Nat} (hx0 : 0 ≤ x) (h : gcdInv x y i) (hi : 128 ≤ i) : ¬ 0 < y := by
  intro hy
  rcases h with rfl | ⟨h2, h3⟩
  · omega
  · have h4 : 1 * 1 ≤ x * y := Int.mul_le_mul (by omega) (by omega) (by omega) hx0
    have h5 : (2 : Int) ^ 128 ≤ 2 ^ i := by exact_mod_cast Nat.pow_le_pow_right (by omega : 0 < 2) hi
    have h6 : 1 * 2 ^ i ≤ x * y * 2 ^ i := Int.mul_le_mul_of_nonneg_right h4 (Int.le_of_lt (Int.pow_pos (by omega)))
    have h7 : (2 : Int) ^ 127 < 2 ^ 128 := by decide
    omega
theorem gcdI_nonneg (a b : Int) : 0 ≤ gcdI a b := by unfold gcdI; omega

set_option maxRecDepth 100000 in
set_option maxHeartbeats 1000000 in
theorem rgcd (a b : Int) (w : World) (ha : I64 a) (hb : I64 b) :
    Calls Tryd.prog 23 #[.int .i64 a, .int .i64 b] w fun e w' => e = .returned (.agg #[.int .i64 (fitN (gcdI a b)), .bool (fitB (gcdI a b))]) ∧ Below w.heap.size w w' := by
  have Sa := siz_bd ha; have Sb := siz_bd hb
  have E := Lib.hid (gcdI_siz a b)
  go_enter Tryd.func23, Tryd.ntmps23
  go_wp2_with fail
  refine (rwhole _ _ ha).mono ?_; rintro e w' ⟨rfl, rfl⟩
  go_wp2_with fail
  refine (rwhole _ _ hb).mono ?_; rintro e w' ⟨rfl, rfl⟩
  go_wp2
  go_loopw [5, 6, 7] (fun p q i wr => ∃ x y : Int, ∃ k : Nat, 0 ≤ x ∧ x ≤ 9223372036854775808 ∧ 0 ≤ y ∧ y ≤ 9223372036854775808 ∧ k ≤ 200 ∧ p = .int .u64 x ∧ q = .int .u64 y ∧ i = .int .i64 k ∧ Hid (gcdI x y = gcdI a b) ∧ Hid (gcdInv x y k) ∧ Below (w.alloc (Obj.cells #[Value.int IntKind.i64 0, Value.bool false] 25)).heap.size (w.alloc (Obj.cells #[Value.int IntKind.i64 0, Value.bool false] 25)) wr) (fun _ _ i _ => 200 - (intOf i).toNat)
  case atStart => exact ⟨siz a, siz b, 0, Sa.1, Sa.2, Sb.1, Sb.2, by omega, rfl, rfl, rfl, E, Lib.hid (Or.inl rfl), Below.refl _ _⟩
  case round =>
    obtain ⟨x, y, k, hx0, hx1, hy0, hy1, hk, rfl, rfl, rfl, hg, hi, hw⟩ := hrel
    by_cases h : y = 0
    · subst h
      have hg' := Lib.hid ((gcdI_0 hx0).symm.trans hg.out)
      have hy2 : decide ((0 : Int) < 0) = false := by decide
      by_cases hk2 : k < 200
      all_goals
        go_wp2_with fail
        refine (rsigned _ _ _ hx0 (by omega)).mono ?_
        rw [sgd_f, hg'.out]
        rintro e w1 ⟨rfl, hb1⟩
        have hb3 := hw.trans (hb1.mono hw.size)
        obtain ⟨hc, hf⟩ := bcell hb3
        go_wp2
        refine bodyPost_ret (v := .agg #[.int .i64 (fitN (gcdI a b)), .bool (fitB (gcdI a b))]) (by simp [results, Tryd.results23, go_sem, hc]) rfl ⟨rfl, ?_⟩
        exact ((below_of hb3).setCell (Nat.le_refl _) _).setCell (Nat.le_refl _) _
    · have hy2 : 0 < y := by omega
      have hk2 : k < 200 := by
        rcases Nat.lt_or_ge k 200 with h4 | h4
        · exact h4
        · exact absurd hy2 (gcdInv_end hx0 hi.out (by omega))
      have hr0 : 0 ≤ x % y := Int.emod_nonneg _ h
      have hr1 : x % y < y := Int.emod_lt_of_pos _ (by omega)
      have HG := Lib.hid ((gcdI_step hx0 hy0).trans hg.out)
      have HI := Lib.hid (gcdInv_step hx0 hx1 hy2 hy1 hi.out)
      clear h
      go_wp2
      go_quiet (fail)
      go_wp2
      go_roundw
      case rel => exact ⟨y, x % y, k + 1, hy0, hy1, hr0, by omega, by omega, rfl, rfl, by go_num, HG, HI, below_drewN hw _⟩
      case measure => simp [intOf]; omega
end Go.Proofs.YtkfgcnomojopdaaDoor.NumC
