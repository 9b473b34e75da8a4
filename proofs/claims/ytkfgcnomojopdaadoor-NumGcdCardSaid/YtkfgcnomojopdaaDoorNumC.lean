/-
  Contracts of package num: Pow, Gcd. Nothing is assumed but that the arguments are numbers of their kinds.
-/
import Derived.Test.YtkfgcnomojopdaaDoorNumB
namespace Go.Proofs.YtkfgcnomojopdaaDoor.NumC
set_option linter.unusedVariables false
open Go.RowKit

set_option maxHeartbeats 1000000 in
theorem pow (a b : Int) (w : World) (ha : I64 a) (hb : I64 b) :
    Calls Tryd.prog 18 #[.int .i64 a, .int .i64 b] w fun e w' => e = .returned (.tuple #[.int .i64 (powN a b), .bool (powB a b)]) ∧ w = w' := by
  have hb1 := hb; unfold I64 at hb1
  obtain ⟨hb1, hb2⟩ := hb1
  by_cases h0 : b < 0
  · have E1 := Lib.hid (powN_neg (a := a) h0); have E2 := Lib.hid (powB_neg (a := a) h0)
    go_enter Tryd.func18, Tryd.ntmps18
    go_wp2
    go_ret2
    exact ⟨ret2 E1.out.symm E2.out.symm, rfl⟩
  · have h0' : 0 ≤ b := by omega
    have E1 := Lib.hid (powN_pos (a := a) h0'); have E2 := Lib.hid (powB_pos (a := a) h0')
    have hr := rounds_bd (a := a) h0'
    have hn : ∃ n : Nat, rounds a b = n := ⟨(rounds a b).toNat, by omega⟩
    obtain ⟨n, hn⟩ := hn
    have HN : Hid (rounds a b = n) := Lib.hid hn
    have hnb : (n : Int) ≤ 9223372036854775807 := by omega
    have hsm : (-1 ≤ a ∧ a ≤ 1) ∨ (¬ -1 ≤ a ∨ ¬ a ≤ 1) := by omega
    rcases hsm with ⟨h1, h2⟩ | h1
    · have HM : Hid (min b (2 - b % 2) = n) := Lib.hid (by rw [← hn]; unfold rounds; rw [if_pos ⟨h1, h2⟩])
      clear hn hr
      go_enter Tryd.func18, Tryd.ntmps18
      go_wp2
      rw [HM.out]
      go_loop [6, 23] (fun p i => ∃ k : Nat, k ≤ n ∧ i = .int .i64 k ∧ p = .int .i64 (pw a k) ∧ Hid (I64 (pw a k))) (fun _ i => n - (intOf i).toNat)
      case atStart => exact ⟨0, Nat.zero_le _, rfl, by rw [pw_0], by rw [pw_0]; exact Lib.hid (by decide)⟩
      case round =>
        obtain ⟨k, hk, rfl, rfl, hpk⟩ := hrel
        by_cases hlt : k < n
        · have HS := Lib.hid (pw_succ a k)
          by_cases hf : I64 (pw a (k + 1))
          · have F1 : Hid (fitN (pw a k * a) = pw a (k + 1)) := Lib.hid (by rw [HS.out, fitN_yes hf])
            have F2 : Hid (fitB (pw a k * a) = true) := Lib.hid (by rw [HS.out, fitB_yes hf])
            go_wp2_with fail
            refine (mul _ _ _ hpk.out ha).mono ?_; rw [F1.out, F2.out]; rintro e w' ⟨rfl, rfl⟩
            go_wp2
            go_round
            case rel => exact ⟨k + 1, by omega, by go_num, rfl, hf⟩
            case measure => simp [intOf]; omega
          · have F1 : Hid (fitN (pw a k * a) = 0) := Lib.hid (by rw [HS.out, fitN_no hf])
            have F2 : Hid (fitB (pw a k * a) = false) := Lib.hid (by rw [HS.out, fitB_no hf])
            have F3 := Lib.hid (pw_stop hf (show k + 1 ≤ n by omega))
            go_wp2_with fail
            refine (mul _ _ _ hpk.out ha).mono ?_; rw [F1.out, F2.out]; rintro e w' ⟨rfl, rfl⟩
            go_wp2
            go_ret2
            exact ⟨ret2 (by rw [E1.out, HN.out, Int.toNat_natCast, fitN_no F3.out]) (by rw [E2.out, HN.out, Int.toNat_natCast, fitB_no F3.out]), rfl⟩
        · obtain rfl : k = n := by omega
          go_wp2
          go_ret2
          exact ⟨ret2 (by rw [E1.out, HN.out, Int.toNat_natCast, fitN_yes hpk.out]) (by rw [E2.out, HN.out, Int.toNat_natCast, fitB_yes hpk.out]), rfl⟩
    · obtain rfl : b = n := by rw [← hn]; unfold rounds; rw [if_neg (by omega)]
      clear hn hr
      rcases h1 with h1 | h1
      · go_enter Tryd.func18, Tryd.ntmps18
        go_wp2
        go_loop [6, 23] (fun p i => ∃ k : Nat, k ≤ n ∧ i = .int .i64 k ∧ p = .int .i64 (pw a k) ∧ Hid (I64 (pw a k))) (fun _ i => n - (intOf i).toNat)
        case atStart => exact ⟨0, Nat.zero_le _, rfl, by rw [pw_0], by rw [pw_0]; exact Lib.hid (by decide)⟩
        case round =>
          obtain ⟨k, hk, rfl, rfl, hpk⟩ := hrel
          by_cases hlt : k < n
          · have HS := Lib.hid (pw_succ a k)
            by_cases hf : I64 (pw a (k + 1))
            · have F1 : Hid (fitN (pw a k * a) = pw a (k + 1)) := Lib.hid (by rw [HS.out, fitN_yes hf])
              have F2 : Hid (fitB (pw a k * a) = true) := Lib.hid (by rw [HS.out, fitB_yes hf])
              go_wp2_with fail
              refine (mul _ _ _ hpk.out ha).mono ?_; rw [F1.out, F2.out]; rintro e w' ⟨rfl, rfl⟩
              go_wp2
              go_round
              case rel => exact ⟨k + 1, by omega, by go_num, rfl, hf⟩
              case measure => simp [intOf]; omega
            · have F1 : Hid (fitN (pw a k * a) = 0) := Lib.hid (by rw [HS.out, fitN_no hf])
              have F2 : Hid (fitB (pw a k * a) = false) := Lib.hid (by rw [HS.out, fitB_no hf])
              have F3 := Lib.hid (pw_stop hf (show k + 1 ≤ n by omega))
              go_wp2_with fail
              refine (mul _ _ _ hpk.out ha).mono ?_; rw [F1.out, F2.out]; rintro e w' ⟨rfl, rfl⟩
              go_wp2
              go_ret2
              exact ⟨ret2 (by rw [E1.out, HN.out, Int.toNat_natCast, fitN_no F3.out]) (by rw [E2.out, HN.out, Int.toNat_natCast, fitB_no F3.out]), rfl⟩
          · obtain rfl : k = n := by omega
            go_wp2
            go_ret2
            exact ⟨ret2 (by rw [E1.out, HN.out, Int.toNat_natCast, fitN_yes hpk.out]) (by rw [E2.out, HN.out, Int.toNat_natCast, fitB_yes hpk.out]), rfl⟩
      · go_enter Tryd.func18, Tryd.ntmps18
        go_wp2
        go_loop [6, 23] (fun p i => ∃ k : Nat, k ≤ n ∧ i = .int .i64 k ∧ p = .int .i64 (pw a k) ∧ Hid (I64 (pw a k))) (fun _ i => n - (intOf i).toNat)
        case atStart => exact ⟨0, Nat.zero_le _, rfl, by rw [pw_0], by rw [pw_0]; exact Lib.hid (by decide)⟩
        case round =>
          obtain ⟨k, hk, rfl, rfl, hpk⟩ := hrel
          by_cases hlt : k < n
          · have HS := Lib.hid (pw_succ a k)
            by_cases hf : I64 (pw a (k + 1))
            · have F1 : Hid (fitN (pw a k * a) = pw a (k + 1)) := Lib.hid (by rw [HS.out, fitN_yes hf])
              have F2 : Hid (fitB (pw a k * a) = true) := Lib.hid (by rw [HS.out, fitB_yes hf])
              go_wp2_with fail
              refine (mul _ _ _ hpk.out ha).mono ?_; rw [F1.out, F2.out]; rintro e w' ⟨rfl, rfl⟩
              go_wp2
              go_round
              case rel => exact ⟨k + 1, by omega, by go_num, rfl, hf⟩
              case measure => simp [intOf]; omega
            · have F1 : Hid (fitN (pw a k * a) = 0) := Lib.hid (by rw [HS.out, fitN_no hf])
              have F2 : Hid (fitB (pw a k * a) = false) := Lib.hid (by rw [HS.out, fitB_no hf])
              have F3 := Lib.hid (pw_stop hf (show k + 1 ≤ n by omega))
              go_wp2_with fail
              refine (mul _ _ _ hpk.out ha).mono ?_; rw [F1.out, F2.out]; rintro e w' ⟨rfl, rfl⟩
              go_wp2
              go_ret2
              exact ⟨ret2 (by rw [E1.out, HN.out, Int.toNat_natCast, fitN_no F3.out]) (by rw [E2.out, HN.out, Int.toNat_natCast, fitB_no F3.out]), rfl⟩
          · obtain rfl : k = n := by omega
            go_wp2
            go_ret2
            exact ⟨ret2 (by rw [E1.out, HN.out, Int.toNat_natCast, fitN_yes hpk.out]) (by rw [E2.out, HN.out, Int.toNat_natCast, fitB_yes hpk.out]), rfl⟩

theorem below_drewN {B : Nat} {a w : World} (h : Below B a w) (n : Nat) : Below B a (w.drewN n) := ⟨h.os, h.tape, h.output, h.size, h.block⟩

set_option maxHeartbeats 1000000 in
theorem gcd (a b : Int) (w : World) (ha : I64 a) (hb : I64 b) :
    Calls Tryd.prog 19 #[.int .i64 a, .int .i64 b] w fun e w' => e = .returned (.tuple #[.int .i64 (fitN (gcdI a b)), .bool (fitB (gcdI a b))]) ∧ Below w.heap.size w w' := by
  have Sa := siz_bd ha; have Sb := siz_bd hb
  have E := Lib.hid (gcdI_siz a b)
  go_enter Tryd.func19, Tryd.ntmps19
  go_wp2_with fail
  refine (sizes _ _ _ ha hb).mono ?_; rintro e w' ⟨rfl, rfl⟩
  go_wp2
  go_loopw [6, 7] (fun p q wr => ∃ x y : Int, 0 ≤ x ∧ x ≤ 9223372036854775808 ∧ 0 ≤ y ∧ y ≤ 9223372036854775808 ∧ p = .int .u64 x ∧ q = .int .u64 y ∧ Hid (gcdI x y = gcdI a b) ∧ Below w.heap.size w wr) (fun _ q _ => (intOf q).toNat)
  case atStart => exact ⟨siz a, siz b, Sa.1, Sa.2, Sb.1, Sb.2, rfl, rfl, E, Below.refl _ _⟩
  case round =>
    obtain ⟨x, y, hx0, hx1, hy0, hy1, rfl, rfl, hg, hw⟩ := hrel
    by_cases h : y = 0
    · subst h
      have hg' := Lib.hid ((gcdI_0 hx0).symm.trans hg.out)
      go_wp2_with fail
      refine (signed _ _ _ hx0 (by omega)).mono ?_; rintro e w' ⟨rfl, rfl⟩
      go_wp2
      go_ret2
      exact ⟨ret2 (by rw [sgd_f, hg'.out]) (by rw [sgd_f, hg'.out]), hw⟩
    · have hy2 : 1 ≤ y := by omega
      have hb1 : (y != 0) = true := by simpa using h
      have hr0 : 0 ≤ x % y := Int.emod_nonneg _ h
      have hr1 : x % y < y := Int.emod_lt_of_pos _ (by omega)
      have HG := Lib.hid ((gcdI_step hx0 hy0).trans hg.out)
      clear h
      go_wp2
      go_quiet (fail)
      go_wp2
      go_roundw
      case rel => exact ⟨y, x % y, hy0, hy1, hr0, by omega, rfl, rfl, HG, below_drewN hw _⟩
      case measure => simp [intOf]; omega
end Go.Proofs.YtkfgcnomojopdaaDoor.NumC
