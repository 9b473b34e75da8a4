/-
  Contracts of package addr and of its reference: Good, Before, Fine, Meet. Nothing is assumed but that the arguments are numbers of their kinds.
-/
import Derived.Test.YtccigjelbnjcoaaGreatDoorPNamesNumN
import Derived.Test.YtccigjelbnjcoaaGreatDoorPNamesNumR
namespace Go.Proofs.YtccigjelbnjcoaaGreatDoor.AddrC
set_option linter.unusedVariables false
open Go.RowKit Go.Proofs.YtccigjelbnjcoaaGreatDoor.NumC
def cellB (r c : Int) : Bool := decide (Cell r c)
theorem cellB_t {r c : Int} (h : Cell r c) : cellB r c = true := decide_eq_true h
theorem cellB_f {r c : Int} (h : ¬ Cell r c) : cellB r c = false := decide_eq_false h
def beforeB (r c r' c' : Int) : Bool := decide (r < r' ∨ r = r' ∧ c < c')
def FineP (a b c d : Int) : Prop := Cell a b ∧ Cell c d ∧ a ≤ c ∧ b ≤ d
instance (a b c d : Int) : Decidable (FineP a b c d) := by unfold FineP; infer_instance
def fineB (a b c d : Int) : Bool := decide (FineP a b c d)
def MeetP (a b c d a' b' c' d' : Int) : Prop := FineP a b c d ∧ FineP a' b' c' d' ∧ a ≤ c' ∧ a' ≤ c ∧ b ≤ d' ∧ b' ≤ d
instance (a b c d a' b' c' d' : Int) : Decidable (MeetP a b c d a' b' c' d') := by unfold MeetP; infer_instance
def meetB (a b c d a' b' c' d' : Int) : Bool := decide (MeetP a b c d a' b' c' d')
theorem grow {w w1 : World} {o : Obj} (hb1 : Below (w.alloc o).heap.size (w.alloc o) w1) : Below w.heap.size w w1 := below_of hb1
set_option maxHeartbeats 400000 in
theorem good (r c : Int) (w : World) :
    Calls Tryz.prog 54 #[.agg #[.int .i64 r, .int .i64 c]] w fun e w' => e = .returned (.bool (cellB r c)) ∧ Below w.heap.size w w' := by
  by_cases h : Cell r c
  · have E := Lib.hid (cellB_t h)
    obtain ⟨⟨h1, h2⟩, h3, h4⟩ := h
    go_enter Tryz.func54, Tryz.ntmps54
    go_wp2
    go_ret
    exact ⟨ret1 E.out.symm, (Below.refl _ _).alloc (Nat.le_refl _) _⟩
  · have E := Lib.hid (cellB_f h)
    have h' : ¬ 1 ≤ r ∨ (1 ≤ r ∧ ¬ r ≤ 1000) ∨ (1 ≤ r ∧ r ≤ 1000 ∧ ¬ 1 ≤ c) ∨ (1 ≤ r ∧ r ≤ 1000 ∧ 1 ≤ c ∧ ¬ c ≤ 50) := by unfold Cell at h; omega
    clear h
    rcases h' with h1 | ⟨h1, h2⟩ | ⟨h1, h2, h3⟩ | ⟨h1, h2, h3, h4⟩
    all_goals
      go_enter Tryz.func54, Tryz.ntmps54
      go_wp2
      go_ret
      exact ⟨ret1 E.out.symm, (Below.refl _ _).alloc (Nat.le_refl _) _⟩
set_option maxHeartbeats 400000 in
theorem before (r c r' c' : Int) (w : World) :
    Calls Tryz.prog 68 #[.agg #[.int .i64 r, .int .i64 c], .agg #[.int .i64 r', .int .i64 c']] w fun e w' => e = .returned (.bool (beforeB r c r' c')) ∧ Below w.heap.size w w' := by
  have B : ∀ {o1 o2 : Obj}, Below w.heap.size w ((w.alloc o1).alloc o2) := fun {o1 o2} => ((Below.refl _ _).alloc (Nat.le_refl _) _).alloc (by simp) _
  have h : r < r' ∨ r' < r ∨ (r = r' ∧ c < c') ∨ (r = r' ∧ ¬ c < c') := by omega
  rcases h with h | h | ⟨h, h2⟩ | ⟨h, h2⟩
  · have E : Hid (beforeB r c r' c' = true) := Lib.hid (decide_eq_true (Or.inl h))
    go_enter Tryz.func68, Tryz.ntmps68
    go_wp2
    go_ret
    exact ⟨ret1 E.out.symm, B⟩
  · have E : Hid (beforeB r c r' c' = false) := Lib.hid (decide_eq_false (by omega))
    have h1 : ¬ r < r' := by omega
    have h3 : (r == r') = false := beq_eq_false_iff_ne.2 (by omega)
    go_enter Tryz.func68, Tryz.ntmps68
    go_wp2
    go_ret
    exact ⟨ret1 E.out.symm, B⟩
  · subst h
    have E : Hid (beforeB r c r c' = true) := Lib.hid (decide_eq_true (Or.inr ⟨rfl, h2⟩))
    go_enter Tryz.func68, Tryz.ntmps68
    go_wp2
    go_ret
    exact ⟨ret1 E.out.symm, B⟩
  · subst h
    have E : Hid (beforeB r c r c' = false) := Lib.hid (decide_eq_false (by omega))
    go_enter Tryz.func68, Tryz.ntmps68
    go_wp2
    go_ret
    exact ⟨ret1 E.out.symm, B⟩
set_option maxHeartbeats 1000000 in
theorem fine (a b c d : Int) (w : World) :
    Calls Tryz.prog 38 #[.agg #[.int .i64 a, .int .i64 b, .int .i64 c, .int .i64 d]] w fun e w' => e = .returned (.bool (fineB a b c d)) ∧ Below w.heap.size w w' := by
  by_cases h1 : Cell a b
  · have G1 := Lib.hid (cellB_t h1)
    by_cases h2 : Cell c d
    · have G2 := Lib.hid (cellB_t h2)
      have h : (a ≤ c ∧ b ≤ d) ∨ ¬ a ≤ c ∨ (a ≤ c ∧ ¬ b ≤ d) := by omega
      rcases h with ⟨h3, h4⟩ | h3 | ⟨h3, h4⟩
      · have E : Hid (fineB a b c d = true) := Lib.hid (decide_eq_true ⟨h1, h2, h3, h4⟩)
        clear h1 h2
        go_enter Tryz.func38, Tryz.ntmps38
        go_wp2_with fail
        refine (good _ _ _).mono ?_; rw [G1.out]; rintro e w1 ⟨rfl, hb1⟩
        obtain ⟨hc, hf⟩ := bcell hb1
        go_wp2_with fail
        refine (good _ _ _).mono ?_; rw [G2.out]; rintro e w2 ⟨rfl, hb2⟩
        have hb3 := below_then hb1 hb2
        clear hc hf
        obtain ⟨hc, hf⟩ := bcell hb3
        go_wp2
        go_ret
        exact ⟨ret1 E.out.symm, grow hb3⟩
      all_goals
        have E : Hid (fineB a b c d = false) := Lib.hid (decide_eq_false (by unfold FineP; omega))
        clear h1 h2
        go_enter Tryz.func38, Tryz.ntmps38
        go_wp2_with fail
        refine (good _ _ _).mono ?_; rw [G1.out]; rintro e w1 ⟨rfl, hb1⟩
        obtain ⟨hc, hf⟩ := bcell hb1
        go_wp2_with fail
        refine (good _ _ _).mono ?_; rw [G2.out]; rintro e w2 ⟨rfl, hb2⟩
        have hb3 := below_then hb1 hb2
        clear hc hf
        obtain ⟨hc, hf⟩ := bcell hb3
        go_wp2
        go_ret
        exact ⟨ret1 (by first | exact E.out.symm | exact (decide_eq_false (by omega)).trans E.out.symm), grow hb3⟩
    · have G2 := Lib.hid (cellB_f h2)
      have E : Hid (fineB a b c d = false) := Lib.hid (decide_eq_false fun h => h2 h.2.1)
      clear h1 h2
      go_enter Tryz.func38, Tryz.ntmps38
      go_wp2_with fail
      refine (good _ _ _).mono ?_; rw [G1.out]; rintro e w1 ⟨rfl, hb1⟩
      obtain ⟨hc, hf⟩ := bcell hb1
      go_wp2_with fail
      refine (good _ _ _).mono ?_; rw [G2.out]; rintro e w2 ⟨rfl, hb2⟩
      go_wp2
      go_ret
      exact ⟨ret1 E.out.symm, grow (below_then hb1 hb2)⟩
  · have G1 := Lib.hid (cellB_f h1)
    have E : Hid (fineB a b c d = false) := Lib.hid (decide_eq_false fun h => h1 h.1)
    clear h1
    go_enter Tryz.func38, Tryz.ntmps38
    go_wp2_with fail
    refine (good _ _ _).mono ?_; rw [G1.out]; rintro e w1 ⟨rfl, hb1⟩
    go_wp2
    go_ret
    exact ⟨ret1 E.out.symm, grow hb1⟩
set_option maxHeartbeats 400000 in
theorem rgood (r c : Int) (w : World) :
    Calls Tryz.prog 22 #[.agg #[.int .i64 r, .int .i64 c]] w fun e w' => e = .returned (.bool (cellB r c)) ∧ Below w.heap.size w w' := by
  by_cases h : Cell r c
  · have E := Lib.hid (cellB_t h)
    obtain ⟨⟨h1, h2⟩, h3, h4⟩ := h
    go_enter Tryz.func22, Tryz.ntmps22
    go_wp2
    go_ret
    exact ⟨ret1 E.out.symm, (Below.refl _ _).alloc (Nat.le_refl _) _⟩
  · have E := Lib.hid (cellB_f h)
    have h' : ¬ 1 ≤ r ∨ (1 ≤ r ∧ ¬ r ≤ 1000) ∨ (1 ≤ r ∧ r ≤ 1000 ∧ ¬ 1 ≤ c) ∨ (1 ≤ r ∧ r ≤ 1000 ∧ 1 ≤ c ∧ ¬ c ≤ 50) := by unfold Cell at h; omega
    clear h
    rcases h' with h1 | ⟨h1, h2⟩ | ⟨h1, h2, h3⟩ | ⟨h1, h2, h3, h4⟩
    all_goals
      go_enter Tryz.func22, Tryz.ntmps22
      go_wp2
      go_ret
      exact ⟨ret1 E.out.symm, (Below.refl _ _).alloc (Nat.le_refl _) _⟩
set_option maxHeartbeats 1000000 in
theorem rfine (a b c d : Int) (w : World) :
    Calls Tryz.prog 41 #[.agg #[.int .i64 a, .int .i64 b, .int .i64 c, .int .i64 d]] w fun e w' => e = .returned (.bool (fineB a b c d)) ∧ Below w.heap.size w w' := by
  by_cases h1 : Cell a b
  · have G1 := Lib.hid (cellB_t h1)
    by_cases h2 : Cell c d
    · have G2 := Lib.hid (cellB_t h2)
      have h : (a ≤ c ∧ b ≤ d) ∨ ¬ a ≤ c ∨ (a ≤ c ∧ ¬ b ≤ d) := by omega
      rcases h with ⟨h3, h4⟩ | h3 | ⟨h3, h4⟩
      · have E : Hid (fineB a b c d = true) := Lib.hid (decide_eq_true ⟨h1, h2, h3, h4⟩)
        clear h1 h2
        go_enter Tryz.func41, Tryz.ntmps41
        go_wp2_with fail
        refine (rgood _ _ _).mono ?_; rw [G1.out]; rintro e w1 ⟨rfl, hb1⟩
        obtain ⟨hc, hf⟩ := bcell hb1
        go_wp2_with fail
        refine (rgood _ _ _).mono ?_; rw [G2.out]; rintro e w2 ⟨rfl, hb2⟩
        have hb3 := below_then hb1 hb2
        clear hc hf
        obtain ⟨hc, hf⟩ := bcell hb3
        go_wp2
        go_ret
        exact ⟨ret1 E.out.symm, grow hb3⟩
      all_goals
        have E : Hid (fineB a b c d = false) := Lib.hid (decide_eq_false (by unfold FineP; omega))
        clear h1 h2
        go_enter Tryz.func41, Tryz.ntmps41
        go_wp2_with fail
        refine (rgood _ _ _).mono ?_; rw [G1.out]; rintro e w1 ⟨rfl, hb1⟩
        obtain ⟨hc, hf⟩ := bcell hb1
        go_wp2_with fail
        refine (rgood _ _ _).mono ?_; rw [G2.out]; rintro e w2 ⟨rfl, hb2⟩
        have hb3 := below_then hb1 hb2
        clear hc hf
        obtain ⟨hc, hf⟩ := bcell hb3
        go_wp2
        go_ret
        exact ⟨ret1 (by first | exact E.out.symm | exact (decide_eq_false (by omega)).trans E.out.symm), grow hb3⟩
    · have G2 := Lib.hid (cellB_f h2)
      have E : Hid (fineB a b c d = false) := Lib.hid (decide_eq_false fun h => h2 h.2.1)
      clear h1 h2
      go_enter Tryz.func41, Tryz.ntmps41
      go_wp2_with fail
      refine (rgood _ _ _).mono ?_; rw [G1.out]; rintro e w1 ⟨rfl, hb1⟩
      obtain ⟨hc, hf⟩ := bcell hb1
      go_wp2_with fail
      refine (rgood _ _ _).mono ?_; rw [G2.out]; rintro e w2 ⟨rfl, hb2⟩
      go_wp2
      go_ret
      exact ⟨ret1 E.out.symm, grow (below_then hb1 hb2)⟩
  · have G1 := Lib.hid (cellB_f h1)
    have E : Hid (fineB a b c d = false) := Lib.hid (decide_eq_false fun h => h1 h.1)
    clear h1
    go_enter Tryz.func41, Tryz.ntmps41
    go_wp2_with fail
    refine (rgood _ _ _).mono ?_; rw [G1.out]; rintro e w1 ⟨rfl, hb1⟩
    go_wp2
    go_ret
    exact ⟨ret1 E.out.symm, grow hb1⟩
end Go.Proofs.YtccigjelbnjcoaaGreatDoor.AddrC
namespace Go.Proofs.YtccigjelbnjcoaaGreatDoor.AddrC
set_option linter.unusedVariables false
open Go.RowKit Go.Proofs.YtccigjelbnjcoaaGreatDoor.NumC
def HasP (a b c d r k : Int) : Prop := FineP a b c d ∧ a ≤ r ∧ r ≤ c ∧ b ≤ k ∧ k ≤ d
instance (a b c d r k : Int) : Decidable (HasP a b c d r k) := by unfold HasP; infer_instance
def hasB (a b c d r k : Int) : Bool := decide (HasP a b c d r k)
theorem meet_has (a b c d r k : Int) : meetB a b c d r k r k = hasB a b c d r k := by
  unfold meetB hasB
  rw [decide_eq_decide]
  unfold MeetP HasP FineP Cell
  omega
set_option maxHeartbeats 1000000 in
theorem meet (a b c d a' b' c' d' : Int) (w : World) :
    Calls Tryz.prog 35 #[.agg #[.int .i64 a, .int .i64 b, .int .i64 c, .int .i64 d], .agg #[.int .i64 a', .int .i64 b', .int .i64 c', .int .i64 d']] w fun e w' => e = .returned (.bool (meetB a b c d a' b' c' d')) ∧ Below w.heap.size w w' := by
  by_cases h1 : FineP a b c d
  · have G1 : Hid (fineB a b c d = true) := Lib.hid (decide_eq_true h1)
    by_cases h2 : FineP a' b' c' d'
    · have G2 : Hid (fineB a' b' c' d' = true) := Lib.hid (decide_eq_true h2)
      have h : (a ≤ c' ∧ a' ≤ c ∧ b ≤ d' ∧ b' ≤ d) ∨ ¬ a ≤ c' ∨ (a ≤ c' ∧ ¬ a' ≤ c) ∨ (a ≤ c' ∧ a' ≤ c ∧ ¬ b ≤ d') ∨ (a ≤ c' ∧ a' ≤ c ∧ b ≤ d' ∧ ¬ b' ≤ d) := by omega
      have E : Hid (meetB a b c d a' b' c' d' = decide (a ≤ c' ∧ a' ≤ c ∧ b ≤ d' ∧ b' ≤ d)) := Lib.hid (by
        unfold meetB; rw [decide_eq_decide]; exact ⟨fun h => h.2.2, fun h => ⟨h1, h2, h⟩⟩)
      clear h1 h2
      rcases h with ⟨h3, h4, h5, h6⟩ | h3 | ⟨h3, h4⟩ | ⟨h3, h4, h5⟩ | ⟨h3, h4, h5, h6⟩
      all_goals
        go_enter Tryz.func35, Tryz.ntmps35
        go_wp2_with fail
        refine (fine _ _ _ _ _).mono ?_; rw [G1.out]; rintro e w1 ⟨rfl, hb1⟩
        obtain ⟨hc, hf⟩ := bcell hb1
        go_wp2_with fail
        refine (fine _ _ _ _ _).mono ?_; rw [G2.out]; rintro e w2 ⟨rfl, hb2⟩
        have hb3 := hb1.trans (hb2.mono hb1.size)
        clear hc hf
        obtain ⟨hc, hf⟩ := bcell hb3
        go_wp2
        go_ret
        refine ⟨ret1 ?_, below_of (below_of hb3)⟩
        rw [E.out]
        first | exact (decide_eq_true (by omega)).symm | exact (decide_eq_false (by omega)).symm | (rw [decide_eq_decide]; omega)
    · have G2 : Hid (fineB a' b' c' d' = false) := Lib.hid (decide_eq_false h2)
      have E : Hid (meetB a b c d a' b' c' d' = false) := Lib.hid (decide_eq_false fun h => h2 h.2.1)
      clear h1 h2
      go_enter Tryz.func35, Tryz.ntmps35
      go_wp2_with fail
      refine (fine _ _ _ _ _).mono ?_; rw [G1.out]; rintro e w1 ⟨rfl, hb1⟩
      obtain ⟨hc, hf⟩ := bcell hb1
      go_wp2_with fail
      refine (fine _ _ _ _ _).mono ?_; rw [G2.out]; rintro e w2 ⟨rfl, hb2⟩
      go_wp2
      go_ret
      exact ⟨ret1 E.out.symm, below_of (below_of (hb1.trans (hb2.mono hb1.size)))⟩
  · have G1 : Hid (fineB a b c d = false) := Lib.hid (decide_eq_false h1)
    have E : Hid (meetB a b c d a' b' c' d' = false) := Lib.hid (decide_eq_false fun h => h1 h.1)
    clear h1
    go_enter Tryz.func35, Tryz.ntmps35
    go_wp2_with fail
    refine (fine _ _ _ _ _).mono ?_; rw [G1.out]; rintro e w1 ⟨rfl, hb1⟩
    go_wp2
    go_ret
    exact ⟨ret1 E.out.symm, below_of (below_of hb1)⟩
set_option maxHeartbeats 1000000 in
theorem has (a b c d r k : Int) (w : World) :
    Calls Tryz.prog 33 #[.agg #[.int .i64 a, .int .i64 b, .int .i64 c, .int .i64 d], .agg #[.int .i64 r, .int .i64 k]] w fun e w' => e = .returned (.bool (hasB a b c d r k)) ∧ Below w.heap.size w w' := by
  have E := Lib.hid (meet_has a b c d r k)
  go_enter Tryz.func33, Tryz.ntmps33
  go_wp2_with fail
  refine (meet _ _ _ _ _ _ _ _ _).mono ?_; rw [E.out]; rintro e w1 ⟨rfl, hb1⟩
  go_wp2
  go_ret
  exact ⟨rfl, below_of (below_of hb1)⟩
set_option maxHeartbeats 1000000 in
theorem rhas (a b c d r k : Int) (w : World) :
    Calls Tryz.prog 21 #[.agg #[.int .i64 a, .int .i64 b, .int .i64 c, .int .i64 d], .agg #[.int .i64 r, .int .i64 k]] w fun e w' => e = .returned (.bool (hasB a b c d r k)) ∧ Below w.heap.size w w' := by
  by_cases h1 : FineP a b c d
  · have G1 : Hid (fineB a b c d = true) := Lib.hid (decide_eq_true h1)
    have h : (a ≤ r ∧ r ≤ c ∧ b ≤ k ∧ k ≤ d) ∨ ¬ a ≤ r ∨ (a ≤ r ∧ ¬ r ≤ c) ∨ (a ≤ r ∧ r ≤ c ∧ ¬ b ≤ k) ∨ (a ≤ r ∧ r ≤ c ∧ b ≤ k ∧ ¬ k ≤ d) := by omega
    have E : Hid (hasB a b c d r k = decide (a ≤ r ∧ r ≤ c ∧ b ≤ k ∧ k ≤ d)) := Lib.hid (by
      unfold hasB; rw [decide_eq_decide]; exact ⟨fun h => h.2, fun h => ⟨h1, h⟩⟩)
    clear h1
    rcases h with ⟨h3, h4, h5, h6⟩ | h3 | ⟨h3, h4⟩ | ⟨h3, h4, h5⟩ | ⟨h3, h4, h5, h6⟩
    all_goals
      go_enter Tryz.func21, Tryz.ntmps21
      go_wp2_with fail
      refine (rfine _ _ _ _ _).mono ?_; rw [G1.out]; rintro e w1 ⟨rfl, hb1⟩
      obtain ⟨hc, hf⟩ := bcell hb1
      go_wp2
      go_ret
      refine ⟨ret1 ?_, below_of (below_of hb1)⟩
      rw [E.out]
      first | exact (decide_eq_true (by omega)).symm | exact (decide_eq_false (by omega)).symm | (rw [decide_eq_decide]; omega)
  · have G1 : Hid (fineB a b c d = false) := Lib.hid (decide_eq_false h1)
    have E : Hid (hasB a b c d r k = false) := Lib.hid (decide_eq_false fun h => h1 h.1)
    clear h1
    go_enter Tryz.func21, Tryz.ntmps21
    go_wp2_with fail
    refine (rfine _ _ _ _ _).mono ?_; rw [G1.out]; rintro e w1 ⟨rfl, hb1⟩
    go_wp2
    go_ret
    exact ⟨ret1 E.out.symm, below_of (below_of hb1)⟩
end Go.Proofs.YtccigjelbnjcoaaGreatDoor.AddrC
namespace Go.Proofs.YtccigjelbnjcoaaGreatDoor.AddrC
set_option linter.unusedVariables false
open Go.RowKit Go.Proofs.YtccigjelbnjcoaaGreatDoor.NumC
def madeB (a b c d : Int) : Bool := decide (Cell a b ∧ Cell c d)
def lo (x y : Int) : Int := if y < x then y else x
def hi (x y : Int) : Int := if x < y then y else x
def pick0 (b : Bool) (n : Int) : Int := if b then n else 0
def mA (a b c d : Int) : Int := pick0 (madeB a b c d) (lo a c)
def mB (a b c d : Int) : Int := pick0 (madeB a b c d) (lo b d)
def mC (a b c d : Int) : Int := pick0 (madeB a b c d) (hi a c)
def mD (a b c d : Int) : Int := pick0 (madeB a b c d) (hi b d)
theorem m_t {a b c d : Int} (h : madeB a b c d = true) : mA a b c d = lo a c ∧ mB a b c d = lo b d ∧ mC a b c d = hi a c ∧ mD a b c d = hi b d := by
  unfold mA mB mC mD; rw [h]; exact ⟨rfl, rfl, rfl, rfl⟩
theorem m_f {a b c d : Int} (h : madeB a b c d = false) : mA a b c d = 0 ∧ mB a b c d = 0 ∧ mC a b c d = 0 ∧ mD a b c d = 0 := by
  unfold mA mB mC mD; rw [h]; exact ⟨rfl, rfl, rfl, rfl⟩
set_option maxHeartbeats 1000000 in
theorem made (a b c d : Int) (w : World) :
    Calls Tryz.prog 175 #[.agg #[.int .i64 a, .int .i64 b], .agg #[.int .i64 c, .int .i64 d]] w fun e w' => e = .returned (.tuple #[.agg #[.int .i64 (mA a b c d), .int .i64 (mB a b c d), .int .i64 (mC a b c d), .int .i64 (mD a b c d)], .bool (madeB a b c d)]) ∧ Below w.heap.size w w' := by
  have l1 : (if c < a then c else a) = lo a c := rfl
  have l2 : (if d < b then d else b) = lo b d := rfl
  have l3 : (if a < c then c else a) = hi a c := rfl
  have l4 : (if b < d then d else b) = hi b d := rfl
  by_cases h1 : Cell a b
  · have G1 := Lib.hid (cellB_t h1)
    by_cases h2 : Cell c d
    · have G2 := Lib.hid (cellB_t h2)
      have hm : madeB a b c d = true := decide_eq_true ⟨h1, h2⟩
      have E := Lib.hid hm; have V := Lib.hid (m_t hm)
      clear h1 h2 hm
      rw [E.out, V.out.1, V.out.2.1, V.out.2.2.1, V.out.2.2.2]
      go_enter Tryz.func175, Tryz.ntmps175
      go_wp2_with fail
      refine (good _ _ _).mono ?_; rw [G1.out]; rintro e w1 ⟨rfl, hb1⟩
      obtain ⟨hc, hf⟩ := bcell hb1
      have hz := hb1.size
      go_wp2_with fail
      refine (good _ _ _).mono ?_; rw [G2.out]; rintro e w2 ⟨rfl, hb2⟩
      have hb3 := hb1.trans (hb2.mono hb1.size)
      clear hc hf hz
      obtain ⟨hc, hf⟩ := bcell hb3
      have hz : w.heap.size + 2 < w2.heap.size := by have := hb3.size; simp at this; omega
      have hB := below_of (below_of (below_of hb3))
      go_wp2
      refine bodyPost_ret (v := (.tuple #[.agg #[.int .i64 (lo a c), .int .i64 (lo b d), .int .i64 (hi a c), .int .i64 (hi b d)], .bool true])) (by simp [results, Tryz.results175, go_sem, hc]) rfl ⟨rfl, ?_⟩
      repeat (first | with_reducible exact hB | with_reducible refine Below.setCell ?_ (by simp <;> omega) _ | with_reducible refine Below.alloc ?_ (by simp <;> omega) _)
    · have G2 := Lib.hid (cellB_f h2)
      have hm : madeB a b c d = false := decide_eq_false fun h => h2 h.2
      have E := Lib.hid hm; have V := Lib.hid (m_f hm)
      clear h1 h2 hm
      rw [E.out, V.out.1, V.out.2.1, V.out.2.2.1, V.out.2.2.2]
      go_enter Tryz.func175, Tryz.ntmps175
      go_wp2_with fail
      refine (good _ _ _).mono ?_; rw [G1.out]; rintro e w1 ⟨rfl, hb1⟩
      obtain ⟨hc, hf⟩ := bcell hb1
      have hz := hb1.size
      go_wp2_with fail
      refine (good _ _ _).mono ?_; rw [G2.out]; rintro e w2 ⟨rfl, hb2⟩
      have hb3 := hb1.trans (hb2.mono hb1.size)
      clear hc hf hz
      obtain ⟨hc, hf⟩ := bcell hb3
      have hz : w.heap.size + 2 < w2.heap.size := by have := hb3.size; simp at this; omega
      have hB := below_of (below_of (below_of hb3))
      go_wp2
      refine bodyPost_ret (v := (.tuple #[.agg #[.int .i64 0, .int .i64 0, .int .i64 0, .int .i64 0], .bool false])) (by simp [results, Tryz.results175, go_sem, hc]) rfl ⟨rfl, ?_⟩
      repeat (first | with_reducible exact hB | with_reducible refine Below.setCell ?_ (by simp <;> omega) _ | with_reducible refine Below.alloc ?_ (by simp <;> omega) _)
  · have G1 := Lib.hid (cellB_f h1)
    have hm : madeB a b c d = false := decide_eq_false fun h => h1 h.1
    have E := Lib.hid hm; have V := Lib.hid (m_f hm)
    clear h1 hm
    rw [E.out, V.out.1, V.out.2.1, V.out.2.2.1, V.out.2.2.2]
    go_enter Tryz.func175, Tryz.ntmps175
    go_wp2_with fail
    refine (good _ _ _).mono ?_; rw [G1.out]; rintro e w1 ⟨rfl, hb1⟩
    obtain ⟨hc, hf⟩ := bcell hb1
    have hz : w.heap.size + 2 < w1.heap.size := by have := hb1.size; simp at this; omega
    have hB := below_of (below_of (below_of hb1))
    go_wp2
    refine bodyPost_ret (v := (.tuple #[.agg #[.int .i64 0, .int .i64 0, .int .i64 0, .int .i64 0], .bool false])) (by simp [results, Tryz.results175, go_sem, hc]) rfl ⟨rfl, ?_⟩
    repeat (first | with_reducible exact hB | with_reducible refine Below.setCell ?_ (by simp <;> omega) _ | with_reducible refine Below.alloc ?_ (by simp <;> omega) _)
end Go.Proofs.YtccigjelbnjcoaaGreatDoor.AddrC
namespace Go.Proofs.YtccigjelbnjcoaaGreatDoor.TreeC
set_option linter.unusedVariables false
open Go.Proofs.YtccigjelbnjcoaaGreatDoor.NumC Go.Proofs.YtccigjelbnjcoaaGreatDoor.LexC
structure Fld where
  k : Int
  vk : Int
  vn : Int
  vs : ByteArray
  r1 : Int
  r2 : Int
  r3 : Int
  r4 : Int
  op : ByteArray
  deriving DecidableEq
inductive Fo where
  | nil
  | cons (f : Fld) (kids next : Fo)
  deriving DecidableEq
structure Nd where
  f : Fld
  kids : Fo
  deriving DecidableEq
def Fo.len : Fo → Nat
  | .nil => 0
  | .cons _ _ n => n.len + 1
def Fo.app : Fo → Fo → Fo
  | .nil, y => y
  | .cons f k n, y => .cons f k (n.app y)
def Nd.one (a : Nd) : Fo := .cons a.f a.kids .nil
theorem Fo.len_app (x y : Fo) : (x.app y).len = x.len + y.len := by
  induction x with
  | nil => simp [Fo.app, Fo.len]
  | cons f k n _ ih => simp only [Fo.app, Fo.len, ih]; omega
theorem Fo.app_nil (x : Fo) : x.app .nil = x := by
  induction x with
  | nil => rfl
  | cons f k n _ ih => simp only [Fo.app, ih]
theorem Fo.app_assoc (x y z : Fo) : (x.app y).app z = x.app (y.app z) := by
  induction x with
  | nil => rfl
  | cons f k n _ ih => simp only [Fo.app, ih]
def Fo.size : Fo → Nat
  | .nil => 0
  | .cons _ k n => 1 + k.size + n.size
def Fo.deep : Fo → Nat
  | .nil => 0
  | .cons _ k n => max (1 + k.deep) n.deep
def Nd.size (a : Nd) : Nat := 1 + a.kids.size
def Nd.deep (a : Nd) : Nat := 1 + a.kids.deep
theorem Fo.size_app (x y : Fo) : (x.app y).size = x.size + y.size := by
  induction x with
  | nil => simp [Fo.app, Fo.size]
  | cons f k n _ ih => simp only [Fo.app, Fo.size, ih]; omega
theorem Fo.deep_app (x y : Fo) : (x.app y).deep = max x.deep y.deep := by
  induction x with
  | nil => simp [Fo.app, Fo.deep]
  | cons f k n _ ih => simp only [Fo.app, Fo.deep, ih, Nat.max_assoc]
theorem Nd.one_size (a : Nd) : a.one.size = a.size := by simp [Nd.one, Fo.size, Nd.size]
theorem Nd.one_deep (a : Nd) : a.one.deep = a.deep := by simp [Nd.one, Fo.deep, Nd.deep]
theorem Nd.one_len (a : Nd) : a.one.len = 1 := rfl
def fld0 : Fld := ⟨0, 0, 0, nob, 0, 0, 0, 0, nob⟩
def zeroN : Nd := ⟨fld0, .nil⟩
def constN (vk vn : Int) (s : ByteArray) : Nd := ⟨⟨1, vk, vn, s, 0, 0, 0, 0, nob⟩, .nil⟩
def cellN (r c : Int) : Nd := ⟨⟨2, 0, 0, nob, r, c, 0, 0, nob⟩, .nil⟩
def rangeN (a b c d : Int) : Nd := ⟨⟨3, 0, 0, nob, a, b, c, d, nob⟩, .nil⟩
def negN (a : Nd) : Nd := ⟨⟨4, 0, 0, nob, 0, 0, 0, 0, nob⟩, a.one⟩
def pairN (op : List UInt8) (a b : Nd) : Nd := ⟨⟨5, 0, 0, nob, 0, 0, 0, 0, str op⟩, a.one.app b.one⟩
def callN (op : ByteArray) (l : Fo) : Nd := ⟨⟨6, 0, 0, nob, 0, 0, 0, 0, op⟩, l⟩
abbrev Bad := Int × Int
abbrev Out := Except Bad (Nd × Nat)
section
variable (l : List Tok) (n : Int)
def isSign (k : Nat) (s : List UInt8) : Bool := match l[k]? with
  | some t => decide (t.k = 4) && decide (t.s = str s)
  | none => false
def oneOf (k : Nat) (ss : List (List UInt8)) : Option (List UInt8) := ss.find? (isSign l k)
def badAt (k : Nat) : Bad := (13, match l[k]? with | some t => t.at_ | none => n)
def deepE : Bad := (14, 0)
def cmpS : List (List UInt8) := [[61], [60, 62], [60], [60, 61], [62], [62, 61]]
def sumS : List (List UInt8) := [[43], [45], [38]]
def mulS : List (List UInt8) := [[42], [47], [37]]
def rowF (part : Nat → Out) (ss : List (List UInt8)) : Nat → Nd → Nat → Out
  | 0, a, k => .ok (a, k)
  | g + 1, a, k => match oneOf l k ss with
    | none => .ok (a, k)
    | some op => match part (k + 1) with
      | .error e => .error e
      | .ok (b, k') => rowF part ss g (pairN op a b) k'
def closeF (k : Nat) : Except Bad Nat := if isSign l k [41] then .ok (k + 1) else .error (badAt l n k)
structure Lev where
  fm : Nat → Out
  pw : Nat → Out
  un : Nat → Out
variable (L : Lev) (into : Bool)
def argsF : Nat → Fo → Nat → Except Bad (Fo × Nat)
  | 0, _, k => .error (badAt l n k)
  | r + 1, acc, k => if into = false then .error deepE else match L.fm k with
    | .error e => .error e
    | .ok (a, k') => if isSign l k' [44] then argsF r (acc.app a.one) (k' + 1) else .ok (acc.app a.one, k')
def callF (t : Tok) (k : Nat) : Out :=
  if 8 < t.s.size then .error (badAt l n k)
  else if isSign l (k + 2) [41] then .ok (callN t.s .nil, k + 3)
  else match argsF l n L into 10 .nil (k + 2) with
    | .error e => .error e
    | .ok (al, k') => match closeF l n k' with
      | .error e => .error e
      | .ok k'' => .ok (callN t.s al, k'')
def trueB : ByteArray := str [84, 82, 85, 69]
def falseB : ByteArray := str [70, 65, 76, 83, 69]
def nameF (t : Tok) (k : Nat) : Out :=
  if isSign l (k + 1) [40] then callF l n L into t k
  else if t.s = trueB then .ok (constN 1 1 nob, k + 1)
  else if t.s = falseB then .ok (constN 1 0 nob, k + 1)
  else if AddrC.pOK t.s.data.toList = false then .error (badAt l n k)
  else if isSign l (k + 1) [58] then
    match l[k + 2]? with
    | none => .error (badAt l n (k + 2))
    | some u => if u.k = 3 ∧ isSign l (k + 3) [40] = false ∧ AddrC.pOK u.s.data.toList = true then
        .ok (rangeN (AddrC.mA (AddrC.pR t.s.data.toList) (AddrC.pC t.s.data.toList) (AddrC.pR u.s.data.toList) (AddrC.pC u.s.data.toList))
          (AddrC.mB (AddrC.pR t.s.data.toList) (AddrC.pC t.s.data.toList) (AddrC.pR u.s.data.toList) (AddrC.pC u.s.data.toList))
          (AddrC.mC (AddrC.pR t.s.data.toList) (AddrC.pC t.s.data.toList) (AddrC.pR u.s.data.toList) (AddrC.pC u.s.data.toList))
          (AddrC.mD (AddrC.pR t.s.data.toList) (AddrC.pC t.s.data.toList) (AddrC.pR u.s.data.toList) (AddrC.pC u.s.data.toList)), k + 3)
      else .error (badAt l n (k + 2))
  else .ok (cellN (AddrC.pR t.s.data.toList) (AddrC.pC t.s.data.toList), k + 1)
def parenF (k : Nat) : Out := if into = false then .error deepE else match L.fm k with
  | .error e => .error e
  | .ok (a, k') => match closeF l n k' with
    | .error e => .error e
    | .ok k'' => .ok (a, k'')
def partF (k : Nat) : Out := match l[k]? with
  | none => .error (badAt l n k)
  | some t =>
    if t.k = 1 then .ok (constN 2 t.n nob, k + 1)
    else if t.k = 2 then (if 200 < t.s.size then .error (badAt l n k) else .ok (constN 3 0 t.s, k + 1))
    else if t.k = 3 then nameF l n L into t k
    else if isSign l k [40] then parenF l n L into (k + 1)
    else .error (badAt l n k)
def unaryF (k : Nat) : Out := if isSign l k [45] then
    (if into = false then .error deepE else match L.un (k + 1) with
      | .error e => .error e
      | .ok (a, k') => .ok (negN a, k'))
  else partF l n L into k
def powerF (k : Nat) : Out := match unaryF l n L into k with
  | .error e => .error e
  | .ok (a, k') => if isSign l k' [94] then
      (if into = false then .error deepE else match L.pw (k' + 1) with
        | .error e => .error e
        | .ok (b, k'') => .ok (pairN [94] a b, k''))
    else .ok (a, k')
def productF (k : Nat) : Out := match powerF l n L into k with
  | .error e => .error e
  | .ok (a, k') => rowF l (powerF l n L into) mulS 400 a k'
def sumF (k : Nat) : Out := match productF l n L into k with
  | .error e => .error e
  | .ok (a, k') => rowF l (productF l n L into) sumS 400 a k'
def formulaF (k : Nat) : Out := match sumF l n L into k with
  | .error e => .error e
  | .ok (a, k') => match oneOf l k' cmpS with
    | none => .ok (a, k')
    | some op => match sumF l n L into (k' + 1) with
      | .error e => .error e
      | .ok (b, k'') => .ok (pairN op a b, k'')
end
def lev (l : List Tok) (n : Int) : Nat → Lev
  | 0 => ⟨fun _ => .error deepE, fun _ => .error deepE, fun _ => .error deepE⟩
  | r + 1 => ⟨formulaF l n (lev l n r) (decide (1 ≤ r)), powerF l n (lev l n r) (decide (1 ≤ r)), unaryF l n (lev l n r) (decide (1 ≤ r))⟩
def treeF (l : List Tok) (n : Int) : Except Bad Nd := match (lev l n 41).fm 0 with
  | .error e => .error e
  | .ok (a, k) => if k < l.length then .error (badAt l n k) else .ok a
structure PRes where
  nd : Nd
  at_ : Int
  err : Int
def parseL (s : List UInt8) : PRes :=
  if (cutL s).err ≠ 0 then ⟨zeroN, (cutL s).at_, (cutL s).err⟩
  else match treeF (cutL s).toks s.length with
    | .error e => ⟨zeroN, e.2, e.1⟩
    | .ok a => if 16 < a.deep then ⟨zeroN, 0, 14⟩ else ⟨a, 0, 0⟩
end Go.Proofs.YtccigjelbnjcoaaGreatDoor.TreeC
namespace Go.Proofs.YtccigjelbnjcoaaGreatDoor.TreeC
set_option linter.unusedVariables false
open Go.Proofs.YtccigjelbnjcoaaGreatDoor.NumC Go.Proofs.YtccigjelbnjcoaaGreatDoor.LexC
section
variable {l : List Tok} {n : Int} {L : Lev} {into : Bool} {k k' k'' : Nat} {a b : Nd} {e : Bad} {t : Tok} {op : List UInt8}
theorem unary_no (hs : isSign l k [45] = false) : unaryF l n L into k = partF l n L into k := by simp [unaryF, hs]
theorem unary_deep (hs : isSign l k [45] = true) (hi : into = false) : unaryF l n L into k = .error deepE := by simp [unaryF, hs, hi]
theorem unary_err (hs : isSign l k [45] = true) (hi : into = true) (h : L.un (k + 1) = .error e) : unaryF l n L into k = .error e := by simp [unaryF, hs, hi, h]
theorem unary_ok (hs : isSign l k [45] = true) (hi : into = true) (h : L.un (k + 1) = .ok (a, k')) : unaryF l n L into k = .ok (negN a, k') := by simp [unaryF, hs, hi, h]
theorem power_err (h : unaryF l n L into k = .error e) : powerF l n L into k = .error e := by simp [powerF, h]
theorem power_one (h : unaryF l n L into k = .ok (a, k')) (hs : isSign l k' [94] = false) : powerF l n L into k = .ok (a, k') := by simp [powerF, h, hs]
theorem power_deep (h : unaryF l n L into k = .ok (a, k')) (hs : isSign l k' [94] = true) (hi : into = false) : powerF l n L into k = .error deepE := by subst hi; simp [powerF, h, hs]
theorem power_bad (h : unaryF l n L into k = .ok (a, k')) (hs : isSign l k' [94] = true) (hi : into = true) (h2 : L.pw (k' + 1) = .error e) : powerF l n L into k = .error e := by subst hi; simp [powerF, h, hs, h2]
theorem power_ok (h : unaryF l n L into k = .ok (a, k')) (hs : isSign l k' [94] = true) (hi : into = true) (h2 : L.pw (k' + 1) = .ok (b, k'')) : powerF l n L into k = .ok (pairN [94] a b, k'') := by subst hi; simp [powerF, h, hs, h2]
theorem row_end {part : Nat → Out} {ss : List (List UInt8)} {g : Nat} (h : oneOf l k ss = none) : rowF l part ss (g + 1) a k = .ok (a, k) := by simp [rowF, h]
theorem row_bad {part : Nat → Out} {ss : List (List UInt8)} {g : Nat} (h : oneOf l k ss = some op) (h2 : part (k + 1) = .error e) : rowF l part ss (g + 1) a k = .error e := by simp [rowF, h, h2]
theorem row_go {part : Nat → Out} {ss : List (List UInt8)} {g : Nat} (h : oneOf l k ss = some op) (h2 : part (k + 1) = .ok (b, k')) : rowF l part ss (g + 1) a k = rowF l part ss g (pairN op a b) k' := by simp [rowF, h, h2]
theorem product_err (h : powerF l n L into k = .error e) : productF l n L into k = .error e := by simp [productF, h]
theorem product_go (h : powerF l n L into k = .ok (a, k')) : productF l n L into k = rowF l (powerF l n L into) mulS 400 a k' := by simp [productF, h]
theorem sum_err (h : productF l n L into k = .error e) : sumF l n L into k = .error e := by simp [sumF, h]
theorem sum_go (h : productF l n L into k = .ok (a, k')) : sumF l n L into k = rowF l (productF l n L into) sumS 400 a k' := by simp [sumF, h]
theorem formula_err (h : sumF l n L into k = .error e) : formulaF l n L into k = .error e := by simp [formulaF, h]
theorem formula_one (h : sumF l n L into k = .ok (a, k')) (h2 : oneOf l k' cmpS = none) : formulaF l n L into k = .ok (a, k') := by simp [formulaF, h, h2]
theorem formula_bad (h : sumF l n L into k = .ok (a, k')) (h2 : oneOf l k' cmpS = some op) (h3 : sumF l n L into (k' + 1) = .error e) : formulaF l n L into k = .error e := by simp [formulaF, h, h2, h3]
theorem formula_ok (h : sumF l n L into k = .ok (a, k')) (h2 : oneOf l k' cmpS = some op) (h3 : sumF l n L into (k' + 1) = .ok (b, k'')) : formulaF l n L into k = .ok (pairN op a b, k'') := by simp [formulaF, h, h2, h3]
theorem close_no (h : isSign l k [41] = false) : closeF l n k = .error (badAt l n k) := by simp [closeF, h]
theorem close_ok (h : isSign l k [41] = true) : closeF l n k = .ok (k + 1) := by simp [closeF, h]
theorem paren_deep (hi : into = false) : parenF l n L into k = .error deepE := by simp [parenF, hi]
theorem paren_err (hi : into = true) (h : L.fm k = .error e) : parenF l n L into k = .error e := by simp [parenF, hi, h]
theorem paren_open (hi : into = true) (h : L.fm k = .ok (a, k')) (h2 : isSign l k' [41] = false) : parenF l n L into k = .error (badAt l n k') := by simp [parenF, hi, h, close_no h2]
theorem paren_ok (hi : into = true) (h : L.fm k = .ok (a, k')) (h2 : isSign l k' [41] = true) : parenF l n L into k = .ok (a, k' + 1) := by simp [parenF, hi, h, close_ok h2]
theorem sign_lt {s : List UInt8} (h : isSign l k s = true) : k < l.length := by
  rcases Nat.lt_or_ge k l.length with h2 | h2
  · exact h2
  · unfold isSign at h; rw [List.getElem?_eq_none h2] at h; cases h
def Goes (l : List Tok) (f : Nat → Out) : Prop := ∀ k a k', f k = .ok (a, k') → k < k' ∧ k' ≤ l.length
theorem row_goes {part : Nat → Out} {ss : List (List UInt8)} (hp : Goes l part) : ∀ (g : Nat) (a : Nd) (k : Nat), k ≤ l.length → ∀ b k', rowF l part ss g a k = .ok (b, k') → k ≤ k' ∧ k' ≤ l.length := by
  intro g
  induction g with
  | zero => intro a k hk b k' h; simp only [rowF] at h; injection h with h; injection h with h1 h2; omega
  | succ g ih =>
    intro a k hk b k' h
    cases ho : oneOf l k ss with
    | none => rw [row_end ho] at h; injection h with h; injection h with h1 h2; omega
    | some op =>
      cases hq : part (k + 1) with
      | error e => rw [row_bad ho hq] at h; cases h
      | ok r =>
        obtain ⟨c, k2⟩ := r
        rw [row_go ho hq] at h
        have h1 := hp _ _ _ hq
        have := ih _ _ h1.2 _ _ h
        omega
structure LGoes (l : List Tok) (L : Lev) : Prop where
  fm : Goes l L.fm
  pw : Goes l L.pw
  un : Goes l L.un
theorem args_goes (hL : LGoes l L) : ∀ (r : Nat) (acc : Fo) (k : Nat), ∀ x k', argsF l n L into r acc k = .ok (x, k') → k < k' ∧ k' ≤ l.length := by
  intro r
  induction r with
  | zero => intro acc k x k' h; simp only [argsF] at h; cases h
  | succ r ih =>
    intro acc k x k' h
    unfold argsF at h
    split at h
    · cases h
    · cases hq : L.fm k with
      | error e => simp only [hq] at h; cases h
      | ok q =>
        obtain ⟨c, k2⟩ := q
        simp only [hq] at h
        have h1 := hL.fm _ _ _ hq
        split at h
        · have := ih _ _ _ _ h; omega
        · injection h with h; injection h with h2 h3; omega
theorem call_goes (hL : LGoes l L) (hs : isSign l (k + 1) [40] = true) (h : callF l n L into t k = .ok (a, k')) : k < k' ∧ k' ≤ l.length := by
  unfold callF at h
  split at h
  · cases h
  · split at h
    · rename_i h2
      have := sign_lt h2
      injection h with h; injection h with h3 h4; omega
    · cases hq : argsF l n L into 10 .nil (k + 2) with
      | error e => simp only [hq] at h; cases h
      | ok q =>
        obtain ⟨c, k2⟩ := q
        simp only [hq] at h
        have h1 := args_goes hL _ _ _ _ _ hq
        cases hc : isSign l k2 [41] with
        | false => rw [close_no hc] at h; cases h
        | true =>
          rw [close_ok hc] at h
          have := sign_lt hc
          injection h with h; injection h with h3 h4; omega
theorem name_goes (hL : LGoes l L) (hk : k < l.length) (h : nameF l n L into t k = .ok (a, k')) : k < k' ∧ k' ≤ l.length := by
  unfold nameF at h
  split at h
  · rename_i hs; exact call_goes hL hs h
  · split at h
    · injection h with h; injection h with h3 h4; omega
    · split at h
      · injection h with h; injection h with h3 h4; omega
      · split at h
        · cases h
        · split at h
          · cases hu : l[k + 2]? with
            | none => simp only [hu] at h; cases h
            | some u =>
              have : k + 2 < l.length := (List.getElem?_eq_some_iff.1 hu).1
              simp only [hu] at h
              split at h
              · injection h with h; injection h with h3 h4; omega
              · cases h
          · injection h with h; injection h with h3 h4; omega
theorem part_goes (hL : LGoes l L) : Goes l (partF l n L into) := by
  intro k a k' h
  unfold partF at h
  cases ht : l[k]? with
  | none => simp only [ht] at h; cases h
  | some t =>
    have hk : k < l.length := (List.getElem?_eq_some_iff.1 ht).1
    simp only [ht] at h
    split at h
    · injection h with h; injection h with h3 h4; omega
    · split at h
      · split at h
        · cases h
        · injection h with h; injection h with h3 h4; omega
      · split at h
        · exact name_goes hL hk h
        · split at h
          · cases hi : into with
            | false => rw [paren_deep hi] at h; cases h
            | true =>
              cases hq : L.fm (k + 1) with
              | error e => rw [paren_err hi hq] at h; cases h
              | ok q =>
                obtain ⟨c, k2⟩ := q
                have h1 := hL.fm _ _ _ hq
                cases hc : isSign l k2 [41] with
                | false => rw [paren_open hi hq hc] at h; cases h
                | true =>
                  rw [paren_ok hi hq hc] at h
                  have := sign_lt hc
                  injection h with h; injection h with h3 h4; omega
          · cases h
theorem unary_goes (hL : LGoes l L) : Goes l (unaryF l n L into) := by
  intro k a k' h
  cases hs : isSign l k [45] with
  | false => rw [unary_no hs] at h; exact part_goes hL _ _ _ h
  | true =>
    cases hi : into with
    | false => rw [unary_deep hs hi] at h; cases h
    | true =>
      cases hq : L.un (k + 1) with
      | error e => rw [unary_err hs hi hq] at h; cases h
      | ok q =>
        obtain ⟨c, k2⟩ := q
        have h1 := hL.un _ _ _ hq
        rw [unary_ok hs hi hq] at h
        injection h with h; injection h with h3 h4; omega
theorem power_goes (hL : LGoes l L) : Goes l (powerF l n L into) := by
  intro k a k' h
  cases hu : unaryF l n L into k with
  | error e => rw [power_err hu] at h; cases h
  | ok q =>
    obtain ⟨c, k1⟩ := q
    have h1 := unary_goes hL _ _ _ hu
    cases hs : isSign l k1 [94] with
    | false => rw [power_one hu hs] at h; injection h with h; injection h with h3 h4; omega
    | true =>
      cases hi : into with
      | false => rw [power_deep hu hs hi] at h; cases h
      | true =>
        cases hq : L.pw (k1 + 1) with
        | error e => rw [power_bad hu hs hi hq] at h; cases h
        | ok q =>
          obtain ⟨d, k2⟩ := q
          have h2 := hL.pw _ _ _ hq
          rw [power_ok hu hs hi hq] at h
          injection h with h; injection h with h3 h4; omega
theorem product_goes (hL : LGoes l L) : Goes l (productF l n L into) := by
  intro k a k' h
  cases hu : powerF l n L into k with
  | error e => rw [product_err hu] at h; cases h
  | ok q =>
    obtain ⟨c, k1⟩ := q
    have h1 := power_goes hL _ _ _ hu
    rw [product_go hu] at h
    have := row_goes (power_goes hL) _ _ _ h1.2 _ _ h
    omega
theorem sum_goes (hL : LGoes l L) : Goes l (sumF l n L into) := by
  intro k a k' h
  cases hu : productF l n L into k with
  | error e => rw [sum_err hu] at h; cases h
  | ok q =>
    obtain ⟨c, k1⟩ := q
    have h1 := product_goes hL _ _ _ hu
    rw [sum_go hu] at h
    have := row_goes (product_goes hL) _ _ _ h1.2 _ _ h
    omega
theorem formula_goes (hL : LGoes l L) : Goes l (formulaF l n L into) := by
  intro k a k' h
  cases hu : sumF l n L into k with
  | error e => rw [formula_err hu] at h; cases h
  | ok q =>
    obtain ⟨c, k1⟩ := q
    have h1 := sum_goes hL _ _ _ hu
    cases ho : oneOf l k1 cmpS with
    | none => rw [formula_one hu ho] at h; injection h with h; injection h with h3 h4; omega
    | some op =>
      cases hq : sumF l n L into (k1 + 1) with
      | error e => rw [formula_bad hu ho hq] at h; cases h
      | ok q =>
        obtain ⟨d, k2⟩ := q
        have h2 := sum_goes hL _ _ _ hq
        rw [formula_ok hu ho hq] at h
        injection h with h; injection h with h3 h4; omega
end
theorem lev_goes (l : List Tok) (n : Int) : ∀ r, LGoes l (lev l n r) := by
  intro r
  induction r with
  | zero => refine ⟨?_, ?_, ?_⟩ <;> (intro k a k' h; cases h)
  | succ r ih => exact ⟨formula_goes ih, power_goes ih, unary_goes ih⟩
end Go.Proofs.YtccigjelbnjcoaaGreatDoor.TreeC
