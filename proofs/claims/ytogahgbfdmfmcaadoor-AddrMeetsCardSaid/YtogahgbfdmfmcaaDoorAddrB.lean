/-
  Contracts of package addr and of its reference: Meet, Has, Made, Count. Nothing is assumed but that the arguments are numbers of their kinds.
-/
import Derived.Test.YtogahgbfdmfmcaaDoorAddrA
namespace Go.Proofs.YtogahgbfdmfmcaaDoor.AddrC
set_option linter.unusedVariables false
open Go.RowKit Go.Proofs.YtogahgbfdmfmcaaDoor.NumC

/-- A cell is in a rectangle. -/
def HasP (a b c d r k : Int) : Prop := FineP a b c d ∧ a ≤ r ∧ r ≤ c ∧ b ≤ k ∧ k ≤ d
instance (a b c d r k : Int) : Decidable (HasP a b c d r k) := by unfold HasP; infer_instance
def hasB (a b c d r k : Int) : Bool := decide (HasP a b c d r k)
theorem meet_has (a b c d r k : Int) : meetB a b c d r k r k = hasB a b c d r k := by
  unfold meetB hasB
  rw [decide_eq_decide]
  unfold MeetP HasP FineP Cell
  omega
/-- How many cells a rectangle has. -/
def countN (a b c d : Int) : Int := if FineP a b c d then (c - a + 1) * (d - b + 1) else 0
theorem count_bd {a b c d : Int} (h : FineP a b c d) : 0 ≤ (c - a + 1) * (d - b + 1) ∧ (c - a + 1) * (d - b + 1) ≤ 50000 := by
  unfold FineP Cell at h
  have h1 : 0 ≤ c - a + 1 := by omega
  have h2 : 0 ≤ d - b + 1 := by omega
  refine ⟨Int.mul_nonneg h1 h2, ?_⟩
  have := Int.mul_le_mul (show c - a + 1 ≤ 1000 by omega) (show d - b + 1 ≤ 50 by omega) h2 (by omega)
  omega
theorem reti {x x' : Int} (hx : x = x') : Ending.returned (.int .i64 x) = .returned (.int .i64 x') := by subst hx; rfl
theorem below_cons {W w w1 : World} {n : Nat} (h : Below W.heap.size W w) (h2 : Below w.heap.size w w1) : Below W.heap.size W w1 := h.trans (h2.mono h.size)

set_option maxHeartbeats 1000000 in
theorem meet (a b c d a' b' c' d' : Int) (w : World) :
    Calls Tryd.prog 23 #[.agg #[.int .i64 a, .int .i64 b, .int .i64 c, .int .i64 d], .agg #[.int .i64 a', .int .i64 b', .int .i64 c', .int .i64 d']] w fun e w' => e = .returned (.bool (meetB a b c d a' b' c' d')) ∧ Below w.heap.size w w' := by
  by_cases h1 : FineP a b c d
  · have G1 : Hid (fineB a b c d = true) := Lib.hid (decide_eq_true h1)
    by_cases h2 : FineP a' b' c' d'
    · have G2 : Hid (fineB a' b' c' d' = true) := Lib.hid (decide_eq_true h2)
      have h : (a ≤ c' ∧ a' ≤ c ∧ b ≤ d' ∧ b' ≤ d) ∨ ¬ a ≤ c' ∨ (a ≤ c' ∧ ¬ a' ≤ c) ∨ (a ≤ c' ∧ a' ≤ c ∧ ¬ b ≤ d') ∨ (a ≤ c' ∧ a' ≤ c ∧ b ≤ d' ∧ ¬ b' ≤ d) := by omega
      have E : Hid (meetB a b c d a' b' c' d' = decide (a ≤ c' ∧ a' ≤ c ∧ b ≤ d' ∧ b' ≤ d)) := Lib.hid (by
        unfold meetB; rw [decide_eq_decide]; exact ⟨fun h => h.2.2, fun h => ⟨h1, h2, h⟩⟩)
      clear h1 h2
      rcases h with ⟨h3, h4, h5, h6⟩ | h3 | ⟨h3, h4⟩ | ⟨h3, h4, h5⟩ | ⟨h3, h4, h5, h6⟩
      all_goals
        go_enter Tryd.func23, Tryd.ntmps23
        go_wp2_with fail
        refine (fine _ _ _ _ _).mono ?_; rw [G1.out]; rintro e w1 ⟨rfl, hb1⟩
        obtain ⟨hc, hf⟩ := bcell hb1
        go_wp2_with fail
        refine (fine _ _ _ _ _).mono ?_; rw [G2.out]; rintro e w2 ⟨rfl, hb2⟩
        have hb3 := hb1.trans (hb2.mono hb1.size)
        clear hc hf
        obtain ⟨hc, hf⟩ := bcell hb3
        go_wp2
        go_ret
        refine ⟨ret1 ?_, below_of (below_of hb3)⟩
        rw [E.out]
        first | exact (decide_eq_true (by omega)).symm | exact (decide_eq_false (by omega)).symm | (rw [decide_eq_decide]; omega)
    · have G2 : Hid (fineB a' b' c' d' = false) := Lib.hid (decide_eq_false h2)
      have E : Hid (meetB a b c d a' b' c' d' = false) := Lib.hid (decide_eq_false fun h => h2 h.2.1)
      clear h1 h2
      go_enter Tryd.func23, Tryd.ntmps23
      go_wp2_with fail
      refine (fine _ _ _ _ _).mono ?_; rw [G1.out]; rintro e w1 ⟨rfl, hb1⟩
      obtain ⟨hc, hf⟩ := bcell hb1
      go_wp2_with fail
      refine (fine _ _ _ _ _).mono ?_; rw [G2.out]; rintro e w2 ⟨rfl, hb2⟩
      go_wp2
      go_ret
      exact ⟨ret1 E.out.symm, below_of (below_of (hb1.trans (hb2.mono hb1.size)))⟩
  · have G1 : Hid (fineB a b c d = false) := Lib.hid (decide_eq_false h1)
    have E : Hid (meetB a b c d a' b' c' d' = false) := Lib.hid (decide_eq_false fun h => h1 h.1)
    clear h1
    go_enter Tryd.func23, Tryd.ntmps23
    go_wp2_with fail
    refine (fine _ _ _ _ _).mono ?_; rw [G1.out]; rintro e w1 ⟨rfl, hb1⟩
    go_wp2
    go_ret
    exact ⟨ret1 E.out.symm, below_of (below_of hb1)⟩

set_option maxHeartbeats 1000000 in
theorem count (a b c d : Int) (w : World) :
    Calls Tryd.prog 25 #[.agg #[.int .i64 a, .int .i64 b, .int .i64 c, .int .i64 d]] w fun e w' => e = .returned (.int .i64 (countN a b c d)) ∧ Below w.heap.size w w' := by
  by_cases h1 : FineP a b c d
  · have G1 : Hid (fineB a b c d = true) := Lib.hid (decide_eq_true h1)
    have E : Hid (countN a b c d = (c - a + 1) * (d - b + 1)) := Lib.hid (if_pos h1)
    obtain ⟨m0, m1⟩ := count_bd h1
    unfold FineP Cell at h1
    obtain ⟨⟨⟨k1, k2⟩, k3, k4⟩, ⟨⟨k5, k6⟩, k7, k8⟩, k9, k10⟩ := h1
    go_enter Tryd.func25, Tryd.ntmps25
    go_wp2_with fail
    refine (fine _ _ _ _ _).mono ?_; rw [G1.out]; rintro e w1 ⟨rfl, hb1⟩
    obtain ⟨hc, hf⟩ := bcell hb1
    go_wp2
    go_ret
    exact ⟨reti E.out.symm, below_of hb1⟩
  · have G1 : Hid (fineB a b c d = false) := Lib.hid (decide_eq_false h1)
    have E : Hid (countN a b c d = 0) := Lib.hid (if_neg h1)
    clear h1
    go_enter Tryd.func25, Tryd.ntmps25
    go_wp2_with fail
    refine (fine _ _ _ _ _).mono ?_; rw [G1.out]; rintro e w1 ⟨rfl, hb1⟩
    go_wp2
    go_ret
    exact ⟨reti E.out.symm, below_of hb1⟩

set_option maxHeartbeats 1000000 in
theorem rmeet (a b c d a' b' c' d' : Int) (w : World) :
    Calls Tryd.prog 24 #[.agg #[.int .i64 a, .int .i64 b, .int .i64 c, .int .i64 d], .agg #[.int .i64 a', .int .i64 b', .int .i64 c', .int .i64 d']] w fun e w' => e = .returned (.bool (meetB a b c d a' b' c' d')) ∧ Below w.heap.size w w' := by
  by_cases h1 : FineP a b c d
  · have G1 : Hid (fineB a b c d = true) := Lib.hid (decide_eq_true h1)
    by_cases h2 : FineP a' b' c' d'
    · have G2 : Hid (fineB a' b' c' d' = true) := Lib.hid (decide_eq_true h2)
      have h : (a ≤ c' ∧ a' ≤ c ∧ b ≤ d' ∧ b' ≤ d) ∨ ¬ a ≤ c' ∨ (a ≤ c' ∧ ¬ a' ≤ c) ∨ (a ≤ c' ∧ a' ≤ c ∧ ¬ b ≤ d') ∨ (a ≤ c' ∧ a' ≤ c ∧ b ≤ d' ∧ ¬ b' ≤ d) := by omega
      have E : Hid (meetB a b c d a' b' c' d' = decide (a ≤ c' ∧ a' ≤ c ∧ b ≤ d' ∧ b' ≤ d)) := Lib.hid (by
        unfold meetB; rw [decide_eq_decide]; exact ⟨fun h => h.2.2, fun h => ⟨h1, h2, h⟩⟩)
      clear h1 h2
      rcases h with ⟨h3, h4, h5, h6⟩ | h3 | ⟨h3, h4⟩ | ⟨h3, h4, h5⟩ | ⟨h3, h4, h5, h6⟩
      all_goals
        go_enter Tryd.func24, Tryd.ntmps24
        go_wp2_with fail
        refine (rfine _ _ _ _ _).mono ?_; rw [G1.out]; rintro e w1 ⟨rfl, hb1⟩
        obtain ⟨hc, hf⟩ := bcell hb1
        go_wp2_with fail
        refine (rfine _ _ _ _ _).mono ?_; rw [G2.out]; rintro e w2 ⟨rfl, hb2⟩
        have hb3 := hb1.trans (hb2.mono hb1.size)
        clear hc hf
        obtain ⟨hc, hf⟩ := bcell hb3
        go_wp2
        go_ret
        refine ⟨ret1 ?_, below_of (below_of hb3)⟩
        rw [E.out]
        first | exact (decide_eq_true (by omega)).symm | exact (decide_eq_false (by omega)).symm | (rw [decide_eq_decide]; omega)
    · have G2 : Hid (fineB a' b' c' d' = false) := Lib.hid (decide_eq_false h2)
      have E : Hid (meetB a b c d a' b' c' d' = false) := Lib.hid (decide_eq_false fun h => h2 h.2.1)
      clear h1 h2
      go_enter Tryd.func24, Tryd.ntmps24
      go_wp2_with fail
      refine (rfine _ _ _ _ _).mono ?_; rw [G1.out]; rintro e w1 ⟨rfl, hb1⟩
      obtain ⟨hc, hf⟩ := bcell hb1
      go_wp2_with fail
      refine (rfine _ _ _ _ _).mono ?_; rw [G2.out]; rintro e w2 ⟨rfl, hb2⟩
      go_wp2
      go_ret
      exact ⟨ret1 E.out.symm, below_of (below_of (hb1.trans (hb2.mono hb1.size)))⟩
  · have G1 : Hid (fineB a b c d = false) := Lib.hid (decide_eq_false h1)
    have E : Hid (meetB a b c d a' b' c' d' = false) := Lib.hid (decide_eq_false fun h => h1 h.1)
    clear h1
    go_enter Tryd.func24, Tryd.ntmps24
    go_wp2_with fail
    refine (rfine _ _ _ _ _).mono ?_; rw [G1.out]; rintro e w1 ⟨rfl, hb1⟩
    go_wp2
    go_ret
    exact ⟨ret1 E.out.symm, below_of (below_of hb1)⟩

set_option maxHeartbeats 1000000 in
theorem rcount (a b c d : Int) (w : World) :
    Calls Tryd.prog 26 #[.agg #[.int .i64 a, .int .i64 b, .int .i64 c, .int .i64 d]] w fun e w' => e = .returned (.int .i64 (countN a b c d)) ∧ Below w.heap.size w w' := by
  by_cases h1 : FineP a b c d
  · have G1 : Hid (fineB a b c d = true) := Lib.hid (decide_eq_true h1)
    have E : Hid (countN a b c d = (c - a + 1) * (d - b + 1)) := Lib.hid (if_pos h1)
    obtain ⟨m0, m1⟩ := count_bd h1
    unfold FineP Cell at h1
    obtain ⟨⟨⟨k1, k2⟩, k3, k4⟩, ⟨⟨k5, k6⟩, k7, k8⟩, k9, k10⟩ := h1
    go_enter Tryd.func26, Tryd.ntmps26
    go_wp2_with fail
    refine (rfine _ _ _ _ _).mono ?_; rw [G1.out]; rintro e w1 ⟨rfl, hb1⟩
    obtain ⟨hc, hf⟩ := bcell hb1
    go_wp2
    go_ret
    exact ⟨reti E.out.symm, below_of hb1⟩
  · have G1 : Hid (fineB a b c d = false) := Lib.hid (decide_eq_false h1)
    have E : Hid (countN a b c d = 0) := Lib.hid (if_neg h1)
    clear h1
    go_enter Tryd.func26, Tryd.ntmps26
    go_wp2_with fail
    refine (rfine _ _ _ _ _).mono ?_; rw [G1.out]; rintro e w1 ⟨rfl, hb1⟩
    go_wp2
    go_ret
    exact ⟨reti E.out.symm, below_of hb1⟩

set_option maxHeartbeats 1000000 in
theorem has (a b c d r k : Int) (w : World) :
    Calls Tryd.prog 21 #[.agg #[.int .i64 a, .int .i64 b, .int .i64 c, .int .i64 d], .agg #[.int .i64 r, .int .i64 k]] w fun e w' => e = .returned (.bool (hasB a b c d r k)) ∧ Below w.heap.size w w' := by
  have E := Lib.hid (meet_has a b c d r k)
  go_enter Tryd.func21, Tryd.ntmps21
  go_wp2_with fail
  refine (meet _ _ _ _ _ _ _ _ _).mono ?_; rw [E.out]; rintro e w1 ⟨rfl, hb1⟩
  go_wp2
  go_ret
  exact ⟨rfl, below_of (below_of hb1)⟩

set_option maxHeartbeats 1000000 in
theorem rhas (a b c d r k : Int) (w : World) :
    Calls Tryd.prog 22 #[.agg #[.int .i64 a, .int .i64 b, .int .i64 c, .int .i64 d], .agg #[.int .i64 r, .int .i64 k]] w fun e w' => e = .returned (.bool (hasB a b c d r k)) ∧ Below w.heap.size w w' := by
  by_cases h1 : FineP a b c d
  · have G1 : Hid (fineB a b c d = true) := Lib.hid (decide_eq_true h1)
    have h : (a ≤ r ∧ r ≤ c ∧ b ≤ k ∧ k ≤ d) ∨ ¬ a ≤ r ∨ (a ≤ r ∧ ¬ r ≤ c) ∨ (a ≤ r ∧ r ≤ c ∧ ¬ b ≤ k) ∨ (a ≤ r ∧ r ≤ c ∧ b ≤ k ∧ ¬ k ≤ d) := by omega
    have E : Hid (hasB a b c d r k = decide (a ≤ r ∧ r ≤ c ∧ b ≤ k ∧ k ≤ d)) := Lib.hid (by
      unfold hasB; rw [decide_eq_decide]; exact ⟨fun h => h.2, fun h => ⟨h1, h⟩⟩)
    clear h1
    rcases h with ⟨h3, h4, h5, h6⟩ | h3 | ⟨h3, h4⟩ | ⟨h3, h4, h5⟩ | ⟨h3, h4, h5, h6⟩
    all_goals
      go_enter Tryd.func22, Tryd.ntmps22
      go_wp2_with fail
      refine (rfine _ _ _ _ _).mono ?_; rw [G1.out]; rintro e w1 ⟨rfl, hb1⟩
      obtain ⟨hc, hf⟩ := bcell hb1
      go_wp2
      go_ret
      refine ⟨ret1 ?_, below_of (below_of hb1)⟩
      rw [E.out]
      first | exact (decide_eq_true (by omega)).symm | exact (decide_eq_false (by omega)).symm | (rw [decide_eq_decide]; omega)
  · have G1 : Hid (fineB a b c d = false) := Lib.hid (decide_eq_false h1)
    have E : Hid (hasB a b c d r k = false) := Lib.hid (decide_eq_false fun h => h1 h.1)
    clear h1
    go_enter Tryd.func22, Tryd.ntmps22
    go_wp2_with fail
    refine (rfine _ _ _ _ _).mono ?_; rw [G1.out]; rintro e w1 ⟨rfl, hb1⟩
    go_wp2
    go_ret
    exact ⟨ret1 E.out.symm, below_of (below_of hb1)⟩
end Go.Proofs.YtogahgbfdmfmcaaDoor.AddrC
