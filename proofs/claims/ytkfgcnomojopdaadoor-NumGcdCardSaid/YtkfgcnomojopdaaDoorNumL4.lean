/-
  The walk of the statement NumGcd: for all arguments it answers true.
-/
import Derived.Test.YtkfgcnomojopdaaDoorNumW
import Derived.Test.YtkfgcnomojopdaaDoorNumC
namespace Go.Proofs.YtkfgcnomojopdaaDoor.NumC
set_option linter.unusedVariables false
open Go.RowKit

theorem gcdI_comm (a b : Int) : gcdI b a = gcdI a b := by unfold gcdI; rw [Nat.gcd_comm]
theorem gcdI_le {a b : Int} (ha : -2147483648 ≤ a ∧ a ≤ 2147483647) (hb : -2147483648 ≤ b ∧ b ≤ 2147483647) : 0 ≤ gcdI a b ∧ gcdI a b ≤ 2147483648 := by
  unfold gcdI
  refine ⟨by omega, ?_⟩
  by_cases h : a = 0
  · subst h; simp; omega
  · have := Nat.gcd_le_left b.natAbs (show 0 < a.natAbs by omega)
    omega
theorem gcdI_zero {a b : Int} (h : gcdI a b = 0) : a = 0 ∧ b = 0 := by
  unfold gcdI at h
  have h1 : Nat.gcd a.natAbs b.natAbs = 0 := by omega
  have h2 := Nat.eq_zero_of_gcd_eq_zero_left h1
  have h3 := Nat.eq_zero_of_gcd_eq_zero_right h1
  omega
theorem gcdI_dvd_l (a b : Int) : gcdI a b ∣ a := by
  unfold gcdI
  exact Int.natAbs_dvd_natAbs.1 (by rw [Int.natAbs_natCast]; exact Nat.gcd_dvd_left _ _)
theorem gcdI_dvd_r (a b : Int) : gcdI a b ∣ b := by rw [← gcdI_comm]; exact gcdI_dvd_l b a
theorem dvd_gcdI {a b d : Int} (h1 : d ∣ a) (h2 : d ∣ b) : d ∣ gcdI a b := by
  unfold gcdI
  refine Int.natAbs_dvd_natAbs.1 ?_
  rw [Int.natAbs_natCast]
  exact Nat.dvd_gcd (Int.natAbs_dvd_natAbs.2 h1) (Int.natAbs_dvd_natAbs.2 h2)
theorem tmod_ne {a d : Int} (h : ¬ d ∣ a) : (a.tmod d != 0) = true ∧ (a % d != 0) = true := by
  constructor
  · rw [bne_iff_ne]; intro e; exact h (Int.dvd_of_tmod_eq_zero e)
  · rw [bne_iff_ne]; intro e; exact h (Int.dvd_of_emod_eq_zero e)
theorem tmod_eq {a d : Int} (h : d ∣ a) : ((a.tmod d != 0) = false ∧ (a % d != 0) = false) ∧ (a.tmod d == 0) = true ∧ (a % d == 0) = true := by
  have h1 := Int.tmod_eq_zero_of_dvd h
  have h2 := Int.emod_eq_zero_of_dvd h
  rw [h1, h2]; exact ⟨⟨rfl, rfl⟩, rfl, rfl⟩

set_option maxRecDepth 100000 in
set_option maxHeartbeats 2000000 in
theorem numGcd (a b k : Int) (w : World) (ha : -2147483648 ≤ a ∧ a ≤ 2147483647) (hb : -2147483648 ≤ b ∧ b ≤ 2147483647) (hk : 0 ≤ k ∧ k ≤ 255) (hl : LibIs w) :
    Calls Tryd.prog 7 #[.int .i32 a, .int .i32 b, .int .u8 k] w fun e w' => e = .returned (.bool true) ∧ Below w.heap.size w w' := by
  have hg := gcdI_le ha hb
  have hi : I64 (gcdI a b) := by unfold I64; omega
  have G1 := Lib.hid (fitN_yes hi); have G2 := Lib.hid (fitB_yes hi)
  have C := Lib.hid (gcdI_comm a b)
  have ia : I64 a := by unfold I64; omega
  have ib : I64 b := by unfold I64; omega
  have Z := Lib.hid (@gcdI_zero a b)
  have da := gcdI_dvd_l a b; have db := gcdI_dvd_r a b
  have dd := Lib.hid (@dvd_gcdI a b (k + 1))
  generalize hgg : gcdI a b = g at da db dd Z C G1 G2 hi hg
  have GG := Lib.hid hgg; clear hgg
  by_cases h0 : g = 0
  · obtain ⟨za, zb⟩ := Z.out h0
    have g0 : (g == 0) = true := beq_iff_eq.2 h0
    have a0 : (a == 0) = true := beq_iff_eq.2 za
    have b0 : (b == 0) = true := beq_iff_eq.2 zb
    clear h0 za zb da db
    go_enter Tryd.func7, Tryd.ntmps7
    go_wp2_with fail
    refine (gcd _ _ _ ia ib).mono ?_; rw [GG.out, G1.out, G2.out]; rintro e w1 ⟨rfl, hb1⟩
    go_wp2_with fail
    refine (gcd _ _ _ ib ia).mono ?_; rw [C.out, G1.out, G2.out]; rintro e w2 ⟨rfl, hb2⟩
    have hB := hb1.trans (hb2.mono hb1.size)
    go_wp2_with fail
    refine (wakes _ (hl.below hB)).mono ?_; rintro e w3 ⟨rfl, hb3⟩
    go_wp2
    go_ret
    exact ⟨ret1 rfl, hB.trans (hb3.mono hB.size)⟩
  · have g1 : 1 ≤ g := by omega
    have g0 : (g == 0) = false := beq_eq_false_iff_ne.2 h0
    obtain ⟨⟨da1, da2⟩, da3, da4⟩ := tmod_eq da
    obtain ⟨⟨db1, db2⟩, db3, db4⟩ := tmod_eq db
    clear h0 da db
    have hd : 1 ≤ k + 1 := by omega
    by_cases p : k + 1 ∣ a
    · obtain ⟨⟨pa1, pa2⟩, pa3, pa4⟩ := tmod_eq p
      by_cases q : k + 1 ∣ b
      · obtain ⟨⟨pb1, pb2⟩, pb3, pb4⟩ := tmod_eq q
        obtain ⟨⟨pg1, pg2⟩, pg3, pg4⟩ := tmod_eq (dd.out p q)
        clear p q
        go_enter Tryd.func7, Tryd.ntmps7
        go_wp2_with fail
        refine (gcd _ _ _ ia ib).mono ?_; rw [GG.out, G1.out, G2.out]; rintro e w1 ⟨rfl, hb1⟩
        go_wp2_with fail
        refine (gcd _ _ _ ib ia).mono ?_; rw [C.out, G1.out, G2.out]; rintro e w2 ⟨rfl, hb2⟩
        have hB := hb1.trans (hb2.mono hb1.size)
        go_wp2_with fail
        refine (wakes _ (hl.below hB)).mono ?_; rintro e w3 ⟨rfl, hb3⟩
        go_wp2
        go_ret
        exact ⟨ret1 rfl, hB.trans (hb3.mono hB.size)⟩
      · obtain ⟨pb1, pb2⟩ := tmod_ne q
        clear p q
        go_enter Tryd.func7, Tryd.ntmps7
        go_wp2_with fail
        refine (gcd _ _ _ ia ib).mono ?_; rw [GG.out, G1.out, G2.out]; rintro e w1 ⟨rfl, hb1⟩
        go_wp2_with fail
        refine (gcd _ _ _ ib ia).mono ?_; rw [C.out, G1.out, G2.out]; rintro e w2 ⟨rfl, hb2⟩
        have hB := hb1.trans (hb2.mono hb1.size)
        go_wp2_with fail
        refine (wakes _ (hl.below hB)).mono ?_; rintro e w3 ⟨rfl, hb3⟩
        go_wp2
        go_ret
        exact ⟨ret1 rfl, hB.trans (hb3.mono hB.size)⟩
    · obtain ⟨pa1, pa2⟩ := tmod_ne p
      clear p
      go_enter Tryd.func7, Tryd.ntmps7
      go_wp2_with fail
      refine (gcd _ _ _ ia ib).mono ?_; rw [GG.out, G1.out, G2.out]; rintro e w1 ⟨rfl, hb1⟩
      go_wp2_with fail
      refine (gcd _ _ _ ib ia).mono ?_; rw [C.out, G1.out, G2.out]; rintro e w2 ⟨rfl, hb2⟩
      have hB := hb1.trans (hb2.mono hb1.size)
      go_wp2_with fail
      refine (wakes _ (hl.below hB)).mono ?_; rintro e w3 ⟨rfl, hb3⟩
      go_wp2
      go_ret
      exact ⟨ret1 rfl, hB.trans (hb3.mono hB.size)⟩
end Go.Proofs.YtkfgcnomojopdaaDoor.NumC
