/-
  Contracts of package addr and of its reference: Good, Before, Fine, Meet. Nothing is assumed but that the arguments are numbers of their kinds.
-/
import Derived.Test.YtakamedgdiffbaaGreatDoorPPlaysNumN
import Derived.Test.YtakamedgdiffbaaGreatDoorPPlaysNumR
namespace Go.Proofs.YtakamedgdiffbaaGreatDoor.AddrC
set_option linter.unusedVariables false
open Go.RowKit Go.Proofs.YtakamedgdiffbaaGreatDoor.NumC
def cellB (r c : Int) : Bool := decide (Cell r c)
theorem cellB_t {r c : Int} (h : Cell r c) : cellB r c = true := decide_eq_true h
theorem cellB_f {r c : Int} (h : ¬ Cell r c) : cellB r c = false := decide_eq_false h
def beforeB (r c r' c' : Int) : Bool := decide (r < r' ∨ r = r' ∧ c < c')
def FineP (a b c d : Int) : Prop := Cell a b ∧ Cell c d ∧ a ≤ c ∧ b ≤ d
instance (a b c d : Int) : Decidable (FineP a b c d) := by unfold FineP; infer_instance
def fineB (a b c d : Int) : Bool := decide (FineP a b c d)
def MeetP (a b c d a' b' c' d' : Int) : Prop := FineP a b c d ∧ FineP a' b' c' d' ∧ a ≤ c' ∧ a' ≤ c ∧ b ≤ d' ∧ b' ≤ d
instance (a b c d a' b' c' d' : Int) : Decidable (MeetP a b c d a' b' c' d') := by unfold MeetP; infer_instance
def meetB (a b c d a' b' c' d' : Int) : Bool := decide (MeetP a b c d a' b' c' d')
theorem grow {w w1 : World} {o : Obj} (hb1 : Below (w.alloc o).heap.size (w.alloc o) w1) : Below w.heap.size w w1 := below_of hb1
set_option maxHeartbeats 400000 in
theorem good (r c : Int) (w : World) :
    Calls Tryz.prog 25 #[.agg #[.int .i64 r, .int .i64 c]] w fun e w' => e = .returned (.bool (cellB r c)) ∧ Below w.heap.size w w' := by
  by_cases h : Cell r c
  · have E := Lib.hid (cellB_t h)
    obtain ⟨⟨h1, h2⟩, h3, h4⟩ := h
    go_enter Tryz.func25, Tryz.ntmps25
    go_wp2
    go_ret
    exact ⟨ret1 E.out.symm, (Below.refl _ _).alloc (Nat.le_refl _) _⟩
  · have E := Lib.hid (cellB_f h)
    have h' : ¬ 1 ≤ r ∨ (1 ≤ r ∧ ¬ r ≤ 1000) ∨ (1 ≤ r ∧ r ≤ 1000 ∧ ¬ 1 ≤ c) ∨ (1 ≤ r ∧ r ≤ 1000 ∧ 1 ≤ c ∧ ¬ c ≤ 50) := by unfold Cell at h; omega
    clear h
    rcases h' with h1 | ⟨h1, h2⟩ | ⟨h1, h2, h3⟩ | ⟨h1, h2, h3, h4⟩
    all_goals
      go_enter Tryz.func25, Tryz.ntmps25
      go_wp2
      go_ret
      exact ⟨ret1 E.out.symm, (Below.refl _ _).alloc (Nat.le_refl _) _⟩
set_option maxHeartbeats 400000 in
theorem before (r c r' c' : Int) (w : World) :
    Calls Tryz.prog 70 #[.agg #[.int .i64 r, .int .i64 c], .agg #[.int .i64 r', .int .i64 c']] w fun e w' => e = .returned (.bool (beforeB r c r' c')) ∧ Below w.heap.size w w' := by
  have B : ∀ {o1 o2 : Obj}, Below w.heap.size w ((w.alloc o1).alloc o2) := fun {o1 o2} => ((Below.refl _ _).alloc (Nat.le_refl _) _).alloc (by simp) _
  have h : r < r' ∨ r' < r ∨ (r = r' ∧ c < c') ∨ (r = r' ∧ ¬ c < c') := by omega
  rcases h with h | h | ⟨h, h2⟩ | ⟨h, h2⟩
  · have E : Hid (beforeB r c r' c' = true) := Lib.hid (decide_eq_true (Or.inl h))
    go_enter Tryz.func70, Tryz.ntmps70
    go_wp2
    go_ret
    exact ⟨ret1 E.out.symm, B⟩
  · have E : Hid (beforeB r c r' c' = false) := Lib.hid (decide_eq_false (by omega))
    have h1 : ¬ r < r' := by omega
    have h3 : (r == r') = false := beq_eq_false_iff_ne.2 (by omega)
    go_enter Tryz.func70, Tryz.ntmps70
    go_wp2
    go_ret
    exact ⟨ret1 E.out.symm, B⟩
  · subst h
    have E : Hid (beforeB r c r c' = true) := Lib.hid (decide_eq_true (Or.inr ⟨rfl, h2⟩))
    go_enter Tryz.func70, Tryz.ntmps70
    go_wp2
    go_ret
    exact ⟨ret1 E.out.symm, B⟩
  · subst h
    have E : Hid (beforeB r c r c' = false) := Lib.hid (decide_eq_false (by omega))
    go_enter Tryz.func70, Tryz.ntmps70
    go_wp2
    go_ret
    exact ⟨ret1 E.out.symm, B⟩
set_option maxHeartbeats 1000000 in
theorem fine (a b c d : Int) (w : World) :
    Calls Tryz.prog 54 #[.agg #[.int .i64 a, .int .i64 b, .int .i64 c, .int .i64 d]] w fun e w' => e = .returned (.bool (fineB a b c d)) ∧ Below w.heap.size w w' := by
  by_cases h1 : Cell a b
  · have G1 := Lib.hid (cellB_t h1)
    by_cases h2 : Cell c d
    · have G2 := Lib.hid (cellB_t h2)
      have h : (a ≤ c ∧ b ≤ d) ∨ ¬ a ≤ c ∨ (a ≤ c ∧ ¬ b ≤ d) := by omega
      rcases h with ⟨h3, h4⟩ | h3 | ⟨h3, h4⟩
      · have E : Hid (fineB a b c d = true) := Lib.hid (decide_eq_true ⟨h1, h2, h3, h4⟩)
        clear h1 h2
        go_enter Tryz.func54, Tryz.ntmps54
        go_wp2_with fail
        refine (good _ _ _).mono ?_; rw [G1.out]; rintro e w1 ⟨rfl, hb1⟩
        obtain ⟨hc, hf⟩ := bcell hb1
        go_wp2_with fail
        refine (good _ _ _).mono ?_; rw [G2.out]; rintro e w2 ⟨rfl, hb2⟩
        have hb3 := below_then hb1 hb2
        clear hc hf
        obtain ⟨hc, hf⟩ := bcell hb3
        go_wp2
        go_ret
        exact ⟨ret1 E.out.symm, grow hb3⟩
      all_goals
        have E : Hid (fineB a b c d = false) := Lib.hid (decide_eq_false (by unfold FineP; omega))
        clear h1 h2
        go_enter Tryz.func54, Tryz.ntmps54
        go_wp2_with fail
        refine (good _ _ _).mono ?_; rw [G1.out]; rintro e w1 ⟨rfl, hb1⟩
        obtain ⟨hc, hf⟩ := bcell hb1
        go_wp2_with fail
        refine (good _ _ _).mono ?_; rw [G2.out]; rintro e w2 ⟨rfl, hb2⟩
        have hb3 := below_then hb1 hb2
        clear hc hf
        obtain ⟨hc, hf⟩ := bcell hb3
        go_wp2
        go_ret
        exact ⟨ret1 (by first | exact E.out.symm | exact (decide_eq_false (by omega)).trans E.out.symm), grow hb3⟩
    · have G2 := Lib.hid (cellB_f h2)
      have E : Hid (fineB a b c d = false) := Lib.hid (decide_eq_false fun h => h2 h.2.1)
      clear h1 h2
      go_enter Tryz.func54, Tryz.ntmps54
      go_wp2_with fail
      refine (good _ _ _).mono ?_; rw [G1.out]; rintro e w1 ⟨rfl, hb1⟩
      obtain ⟨hc, hf⟩ := bcell hb1
      go_wp2_with fail
      refine (good _ _ _).mono ?_; rw [G2.out]; rintro e w2 ⟨rfl, hb2⟩
      go_wp2
      go_ret
      exact ⟨ret1 E.out.symm, grow (below_then hb1 hb2)⟩
  · have G1 := Lib.hid (cellB_f h1)
    have E : Hid (fineB a b c d = false) := Lib.hid (decide_eq_false fun h => h1 h.1)
    clear h1
    go_enter Tryz.func54, Tryz.ntmps54
    go_wp2_with fail
    refine (good _ _ _).mono ?_; rw [G1.out]; rintro e w1 ⟨rfl, hb1⟩
    go_wp2
    go_ret
    exact ⟨ret1 E.out.symm, grow hb1⟩
set_option maxHeartbeats 400000 in
theorem rgood (r c : Int) (w : World) :
    Calls Tryz.prog 29 #[.agg #[.int .i64 r, .int .i64 c]] w fun e w' => e = .returned (.bool (cellB r c)) ∧ Below w.heap.size w w' := by
  by_cases h : Cell r c
  · have E := Lib.hid (cellB_t h)
    obtain ⟨⟨h1, h2⟩, h3, h4⟩ := h
    go_enter Tryz.func29, Tryz.ntmps29
    go_wp2
    go_ret
    exact ⟨ret1 E.out.symm, (Below.refl _ _).alloc (Nat.le_refl _) _⟩
  · have E := Lib.hid (cellB_f h)
    have h' : ¬ 1 ≤ r ∨ (1 ≤ r ∧ ¬ r ≤ 1000) ∨ (1 ≤ r ∧ r ≤ 1000 ∧ ¬ 1 ≤ c) ∨ (1 ≤ r ∧ r ≤ 1000 ∧ 1 ≤ c ∧ ¬ c ≤ 50) := by unfold Cell at h; omega
    clear h
    rcases h' with h1 | ⟨h1, h2⟩ | ⟨h1, h2, h3⟩ | ⟨h1, h2, h3, h4⟩
    all_goals
      go_enter Tryz.func29, Tryz.ntmps29
      go_wp2
      go_ret
      exact ⟨ret1 E.out.symm, (Below.refl _ _).alloc (Nat.le_refl _) _⟩
set_option maxHeartbeats 400000 in
theorem rbefore (r c r' c' : Int) (w : World) :
    Calls Tryz.prog 32 #[.agg #[.int .i64 r, .int .i64 c], .agg #[.int .i64 r', .int .i64 c']] w fun e w' => e = .returned (.bool (beforeB r c r' c')) ∧ Below w.heap.size w w' := by
  have B : ∀ {o1 o2 : Obj}, Below w.heap.size w ((w.alloc o1).alloc o2) := fun {o1 o2} => ((Below.refl _ _).alloc (Nat.le_refl _) _).alloc (by simp) _
  have h : r < r' ∨ r' < r ∨ (r = r' ∧ c < c') ∨ (r = r' ∧ ¬ c < c') := by omega
  rcases h with h | h | ⟨h, h2⟩ | ⟨h, h2⟩
  · have E : Hid (beforeB r c r' c' = true) := Lib.hid (decide_eq_true (Or.inl h))
    go_enter Tryz.func32, Tryz.ntmps32
    go_wp2
    go_ret
    exact ⟨ret1 E.out.symm, B⟩
  · have E : Hid (beforeB r c r' c' = false) := Lib.hid (decide_eq_false (by omega))
    have h1 : ¬ r < r' := by omega
    have h3 : (r == r') = false := beq_eq_false_iff_ne.2 (by omega)
    go_enter Tryz.func32, Tryz.ntmps32
    go_wp2
    go_ret
    exact ⟨ret1 E.out.symm, B⟩
  · subst h
    have E : Hid (beforeB r c r c' = true) := Lib.hid (decide_eq_true (Or.inr ⟨rfl, h2⟩))
    go_enter Tryz.func32, Tryz.ntmps32
    go_wp2
    go_ret
    exact ⟨ret1 E.out.symm, B⟩
  · subst h
    have E : Hid (beforeB r c r c' = false) := Lib.hid (decide_eq_false (by omega))
    go_enter Tryz.func32, Tryz.ntmps32
    go_wp2
    go_ret
    exact ⟨ret1 E.out.symm, B⟩
set_option maxHeartbeats 1000000 in
theorem rfine (a b c d : Int) (w : World) :
    Calls Tryz.prog 30 #[.agg #[.int .i64 a, .int .i64 b, .int .i64 c, .int .i64 d]] w fun e w' => e = .returned (.bool (fineB a b c d)) ∧ Below w.heap.size w w' := by
  by_cases h1 : Cell a b
  · have G1 := Lib.hid (cellB_t h1)
    by_cases h2 : Cell c d
    · have G2 := Lib.hid (cellB_t h2)
      have h : (a ≤ c ∧ b ≤ d) ∨ ¬ a ≤ c ∨ (a ≤ c ∧ ¬ b ≤ d) := by omega
      rcases h with ⟨h3, h4⟩ | h3 | ⟨h3, h4⟩
      · have E : Hid (fineB a b c d = true) := Lib.hid (decide_eq_true ⟨h1, h2, h3, h4⟩)
        clear h1 h2
        go_enter Tryz.func30, Tryz.ntmps30
        go_wp2_with fail
        refine (rgood _ _ _).mono ?_; rw [G1.out]; rintro e w1 ⟨rfl, hb1⟩
        obtain ⟨hc, hf⟩ := bcell hb1
        go_wp2_with fail
        refine (rgood _ _ _).mono ?_; rw [G2.out]; rintro e w2 ⟨rfl, hb2⟩
        have hb3 := below_then hb1 hb2
        clear hc hf
        obtain ⟨hc, hf⟩ := bcell hb3
        go_wp2
        go_ret
        exact ⟨ret1 E.out.symm, grow hb3⟩
      all_goals
        have E : Hid (fineB a b c d = false) := Lib.hid (decide_eq_false (by unfold FineP; omega))
        clear h1 h2
        go_enter Tryz.func30, Tryz.ntmps30
        go_wp2_with fail
        refine (rgood _ _ _).mono ?_; rw [G1.out]; rintro e w1 ⟨rfl, hb1⟩
        obtain ⟨hc, hf⟩ := bcell hb1
        go_wp2_with fail
        refine (rgood _ _ _).mono ?_; rw [G2.out]; rintro e w2 ⟨rfl, hb2⟩
        have hb3 := below_then hb1 hb2
        clear hc hf
        obtain ⟨hc, hf⟩ := bcell hb3
        go_wp2
        go_ret
        exact ⟨ret1 (by first | exact E.out.symm | exact (decide_eq_false (by omega)).trans E.out.symm), grow hb3⟩
    · have G2 := Lib.hid (cellB_f h2)
      have E : Hid (fineB a b c d = false) := Lib.hid (decide_eq_false fun h => h2 h.2.1)
      clear h1 h2
      go_enter Tryz.func30, Tryz.ntmps30
      go_wp2_with fail
      refine (rgood _ _ _).mono ?_; rw [G1.out]; rintro e w1 ⟨rfl, hb1⟩
      obtain ⟨hc, hf⟩ := bcell hb1
      go_wp2_with fail
      refine (rgood _ _ _).mono ?_; rw [G2.out]; rintro e w2 ⟨rfl, hb2⟩
      go_wp2
      go_ret
      exact ⟨ret1 E.out.symm, grow (below_then hb1 hb2)⟩
  · have G1 := Lib.hid (cellB_f h1)
    have E : Hid (fineB a b c d = false) := Lib.hid (decide_eq_false fun h => h1 h.1)
    clear h1
    go_enter Tryz.func30, Tryz.ntmps30
    go_wp2_with fail
    refine (rgood _ _ _).mono ?_; rw [G1.out]; rintro e w1 ⟨rfl, hb1⟩
    go_wp2
    go_ret
    exact ⟨ret1 E.out.symm, grow hb1⟩
end Go.Proofs.YtakamedgdiffbaaGreatDoor.AddrC
namespace Go.Proofs.YtakamedgdiffbaaGreatDoor.AddrC
set_option linter.unusedVariables false
open Go.RowKit Go.Proofs.YtakamedgdiffbaaGreatDoor.NumC
def HasP (a b c d r k : Int) : Prop := FineP a b c d ∧ a ≤ r ∧ r ≤ c ∧ b ≤ k ∧ k ≤ d
instance (a b c d r k : Int) : Decidable (HasP a b c d r k) := by unfold HasP; infer_instance
def hasB (a b c d r k : Int) : Bool := decide (HasP a b c d r k)
set_option maxHeartbeats 1000000 in
theorem rhas (a b c d r k : Int) (w : World) :
    Calls Tryz.prog 72 #[.agg #[.int .i64 a, .int .i64 b, .int .i64 c, .int .i64 d], .agg #[.int .i64 r, .int .i64 k]] w fun e w' => e = .returned (.bool (hasB a b c d r k)) ∧ Below w.heap.size w w' := by
  by_cases h1 : FineP a b c d
  · have G1 : Hid (fineB a b c d = true) := Lib.hid (decide_eq_true h1)
    have h : (a ≤ r ∧ r ≤ c ∧ b ≤ k ∧ k ≤ d) ∨ ¬ a ≤ r ∨ (a ≤ r ∧ ¬ r ≤ c) ∨ (a ≤ r ∧ r ≤ c ∧ ¬ b ≤ k) ∨ (a ≤ r ∧ r ≤ c ∧ b ≤ k ∧ ¬ k ≤ d) := by omega
    have E : Hid (hasB a b c d r k = decide (a ≤ r ∧ r ≤ c ∧ b ≤ k ∧ k ≤ d)) := Lib.hid (by
      unfold hasB; rw [decide_eq_decide]; exact ⟨fun h => h.2, fun h => ⟨h1, h⟩⟩)
    clear h1
    rcases h with ⟨h3, h4, h5, h6⟩ | h3 | ⟨h3, h4⟩ | ⟨h3, h4, h5⟩ | ⟨h3, h4, h5, h6⟩
    all_goals
      go_enter Tryz.func72, Tryz.ntmps72
      go_wp2_with fail
      refine (rfine _ _ _ _ _).mono ?_; rw [G1.out]; rintro e w1 ⟨rfl, hb1⟩
      obtain ⟨hc, hf⟩ := bcell hb1
      go_wp2
      go_ret
      refine ⟨ret1 ?_, below_of (below_of hb1)⟩
      rw [E.out]
      first | exact (decide_eq_true (by omega)).symm | exact (decide_eq_false (by omega)).symm | (rw [decide_eq_decide]; omega)
  · have G1 : Hid (fineB a b c d = false) := Lib.hid (decide_eq_false h1)
    have E : Hid (hasB a b c d r k = false) := Lib.hid (decide_eq_false fun h => h1 h.1)
    clear h1
    go_enter Tryz.func72, Tryz.ntmps72
    go_wp2_with fail
    refine (rfine _ _ _ _ _).mono ?_; rw [G1.out]; rintro e w1 ⟨rfl, hb1⟩
    go_wp2
    go_ret
    exact ⟨ret1 E.out.symm, below_of (below_of hb1)⟩
end Go.Proofs.YtakamedgdiffbaaGreatDoor.AddrC
namespace Go.Proofs.YtakamedgdiffbaaGreatDoor.AddrC
set_option linter.unusedVariables false
open Go.RowKit Go.Proofs.YtakamedgdiffbaaGreatDoor.NumC
def madeB (a b c d : Int) : Bool := decide (Cell a b ∧ Cell c d)
def lo (x y : Int) : Int := if y < x then y else x
def hi (x y : Int) : Int := if x < y then y else x
def pick0 (b : Bool) (n : Int) : Int := if b then n else 0
def mA (a b c d : Int) : Int := pick0 (madeB a b c d) (lo a c)
end Go.Proofs.YtakamedgdiffbaaGreatDoor.AddrC
namespace Go.Proofs.YtakamedgdiffbaaGreatDoor.TreeC
set_option linter.unusedVariables false
open Go.Proofs.YtakamedgdiffbaaGreatDoor.NumC Go.Proofs.YtakamedgdiffbaaGreatDoor.LexC
structure Fld where
  k : Int
  vk : Int
  vn : Int
  vs : ByteArray
  r1 : Int
  r2 : Int
  r3 : Int
  r4 : Int
  op : ByteArray
  deriving DecidableEq
inductive Fo where
  | nil
  | cons (f : Fld) (kids next : Fo)
  deriving DecidableEq
structure Nd where
  f : Fld
  kids : Fo
  deriving DecidableEq
abbrev Bad := Int × Int
abbrev Out := Except Bad (Nd × Nat)
section
variable (l : List Tok) (n : Int)
def isSign (k : Nat) (s : List UInt8) : Bool := match l[k]? with
  | some t => decide (t.k = 4) && decide (t.s = str s)
  | none => false
def badAt (k : Nat) : Bad := (13, match l[k]? with | some t => t.at_ | none => n)
def closeF (k : Nat) : Except Bad Nat := if isSign l k [41] then .ok (k + 1) else .error (badAt l n k)
structure Lev where
  fm : Nat → Out
  pw : Nat → Out
  un : Nat → Out
variable (L : Lev) (into : Bool)
end
end Go.Proofs.YtakamedgdiffbaaGreatDoor.TreeC
namespace Go.Proofs.YtakamedgdiffbaaGreatDoor.TreeC
set_option linter.unusedVariables false
open Go.Proofs.YtakamedgdiffbaaGreatDoor.NumC Go.Proofs.YtakamedgdiffbaaGreatDoor.LexC
section
variable {l : List Tok} {n : Int} {L : Lev} {into : Bool} {k k' k'' : Nat} {a b : Nd} {e : Bad} {t : Tok} {op : List UInt8}
theorem close_ok (h : isSign l k [41] = true) : closeF l n k = .ok (k + 1) := by simp [closeF, h]
def Goes (l : List Tok) (f : Nat → Out) : Prop := ∀ k a k', f k = .ok (a, k') → k < k' ∧ k' ≤ l.length
end
end Go.Proofs.YtakamedgdiffbaaGreatDoor.TreeC
