/-
  Contracts of package value's reference and of the statements' helpers: Good, Fail, Of, Value, large. Nothing is assumed but that the arguments are numbers of their kinds.
-/
import Derived.Test.YtbgjdfghcnblcaaGreatDoorMNum
import Derived.Test.YtbgjdfghcnblcaaGreatDoorMNumE
import Derived.Test.YtbgjdfghcnblcaaGreatDoorMNumG
import Derived.Test.YtbgjdfghcnblcaaGreatDoorShelf
import Derived.Laws.StructEq
import Derived.LoopN
namespace Go.Proofs.YtbgjdfghcnblcaaGreatDoor.ValueC
set_option linter.unusedVariables false
open Go.RowKit Go.Proofs.YtbgjdfghcnblcaaGreatDoor.NumC

theorem grown {w : World} {o : Obj} : Below w.heap.size w (w.alloc o) := (Below.refl _ _).alloc (Nat.le_refl _) _
theorem yes_none {s : ByteArray} (h : s.size = 0) : s.toList.isEmpty = true ∧ (s.toList == []) = true := by
  rw [size_nos h]; exact ⟨by rw [Lib.toList_data]; rfl, by rw [Lib.toList_data]; rfl⟩
theorem not_none {s : ByteArray} (h : ¬ s.size = 0) : s.toList.isEmpty = false ∧ (s.toList == []) = false := by
  have : s.toList ≠ [] := by
    rw [Lib.toList_data]; intro e; apply h
    show s.data.size = 0
    rw [← Array.length_toList, e]; rfl
  exact ⟨by simpa using this, beq_eq_false_iff_ne.2 this⟩

set_option maxHeartbeats 1000000 in
theorem rgood_of (k n : Int) (s : ByteArray) (w : World) :
    Calls Tryz.prog 62 #[.agg #[.int .i64 k, .int .i64 n, .string s]] w fun e w' => e = .returned (.bool (goodB ⟨k, n, s⟩)) ∧ Below w.heap.size w w' := by
  by_cases hk0 : k = 0
  · subst hk0
    by_cases hn0 : n = 0
    · subst hn0
      by_cases hs : s.size = 0
      · have hs1 := (yes_none hs).1
        have hs2 := (yes_none hs).2
        have E : Hid (goodB ⟨0, 0, s⟩ = true) := Lib.hid (goodB_t (Or.inl ⟨rfl, rfl, hs⟩))
        go_enter Tryz.func62, Tryz.ntmps62
        go_wp2
        go_ret
        exact ⟨ret1 E.out.symm, grown⟩
      · have hs1 := (not_none hs).1
        have hs2 := (not_none hs).2
        have E : Hid (goodB ⟨0, 0, s⟩ = false) := Lib.hid (goodB_f (fun h => by unfold GoodP at h; simp only at h; omega))
        go_enter Tryz.func62, Tryz.ntmps62
        go_wp2
        go_ret
        exact ⟨ret1 E.out.symm, grown⟩
    · have n0 : (n == 0) = false := beq_eq_false_iff_ne.2 hn0
      have E : Hid (goodB ⟨0, n, s⟩ = false) := Lib.hid (goodB_f (fun h => by unfold GoodP at h; simp only at h; omega))
      go_enter Tryz.func62, Tryz.ntmps62
      go_wp2
      go_ret
      exact ⟨ret1 E.out.symm, grown⟩
  have k0 : (k == 0) = false := beq_eq_false_iff_ne.2 hk0
  by_cases hk1 : k = 1
  · subst hk1
    by_cases hn0 : n = 0
    · subst hn0
      by_cases hs : s.size = 0
      · have hs1 := (yes_none hs).1
        have hs2 := (yes_none hs).2
        have E : Hid (goodB ⟨1, 0, s⟩ = true) := Lib.hid (goodB_t (Or.inr (Or.inl ⟨rfl, Or.inl rfl, hs⟩)))
        go_enter Tryz.func62, Tryz.ntmps62
        go_wp2
        go_ret
        exact ⟨ret1 E.out.symm, grown⟩
      · have hs1 := (not_none hs).1
        have hs2 := (not_none hs).2
        have E : Hid (goodB ⟨1, 0, s⟩ = false) := Lib.hid (goodB_f (fun h => by unfold GoodP at h; simp only at h; omega))
        go_enter Tryz.func62, Tryz.ntmps62
        go_wp2
        go_ret
        exact ⟨ret1 E.out.symm, grown⟩
    · have n0 : (n == 0) = false := beq_eq_false_iff_ne.2 hn0
      by_cases hn1 : n = 1
      · subst hn1
        by_cases hs : s.size = 0
        · have hs1 := (yes_none hs).1
          have hs2 := (yes_none hs).2
          have E : Hid (goodB ⟨1, 1, s⟩ = true) := Lib.hid (goodB_t (Or.inr (Or.inl ⟨rfl, Or.inr rfl, hs⟩)))
          go_enter Tryz.func62, Tryz.ntmps62
          go_wp2
          go_ret
          exact ⟨ret1 E.out.symm, grown⟩
        · have hs1 := (not_none hs).1
          have hs2 := (not_none hs).2
          have E : Hid (goodB ⟨1, 1, s⟩ = false) := Lib.hid (goodB_f (fun h => by unfold GoodP at h; simp only at h; omega))
          go_enter Tryz.func62, Tryz.ntmps62
          go_wp2
          go_ret
          exact ⟨ret1 E.out.symm, grown⟩
      · have n1 : (n == 1) = false := beq_eq_false_iff_ne.2 hn1
        have E : Hid (goodB ⟨1, n, s⟩ = false) := Lib.hid (goodB_f (fun h => by unfold GoodP at h; simp only at h; omega))
        go_enter Tryz.func62, Tryz.ntmps62
        go_wp2
        go_ret
        exact ⟨ret1 E.out.symm, grown⟩
  have k1 : (k == 1) = false := beq_eq_false_iff_ne.2 hk1
  by_cases hk2 : k = 2
  · subst hk2
    by_cases hs : s.size = 0
    · have hs1 := (yes_none hs).1
      have hs2 := (yes_none hs).2
      have E : Hid (goodB ⟨2, n, s⟩ = true) := Lib.hid (goodB_t (Or.inr (Or.inr (Or.inl ⟨rfl, hs⟩))))
      go_enter Tryz.func62, Tryz.ntmps62
      go_wp2
      go_ret
      exact ⟨ret1 E.out.symm, grown⟩
    · have hs1 := (not_none hs).1
      have hs2 := (not_none hs).2
      have E : Hid (goodB ⟨2, n, s⟩ = false) := Lib.hid (goodB_f (fun h => by unfold GoodP at h; simp only at h; omega))
      go_enter Tryz.func62, Tryz.ntmps62
      go_wp2
      go_ret
      exact ⟨ret1 E.out.symm, grown⟩
  have k2 : (k == 2) = false := beq_eq_false_iff_ne.2 hk2
  by_cases hk3 : k = 3
  · subst hk3
    by_cases hn0 : n = 0
    · subst hn0
      by_cases hs : s.size ≤ 200
      · have hs1 : decide ((s.size : Int) ≤ 200) = true := decide_eq_true (by omega)
        have E : Hid (goodB ⟨3, 0, s⟩ = true) := Lib.hid (goodB_t (Or.inr (Or.inr (Or.inr (Or.inl ⟨rfl, rfl, hs⟩)))))
        go_enter Tryz.func62, Tryz.ntmps62
        go_wp2
        go_ret
        exact ⟨ret1 E.out.symm, grown⟩
      · have hs1 : decide ((s.size : Int) ≤ 200) = false := decide_eq_false (by omega)
        have E : Hid (goodB ⟨3, 0, s⟩ = false) := Lib.hid (goodB_f (fun h => by unfold GoodP at h; simp only at h; omega))
        go_enter Tryz.func62, Tryz.ntmps62
        go_wp2
        go_ret
        exact ⟨ret1 E.out.symm, grown⟩
    · have n0 : (n == 0) = false := beq_eq_false_iff_ne.2 hn0
      have E : Hid (goodB ⟨3, n, s⟩ = false) := Lib.hid (goodB_f (fun h => by unfold GoodP at h; simp only at h; omega))
      go_enter Tryz.func62, Tryz.ntmps62
      go_wp2
      go_ret
      exact ⟨ret1 E.out.symm, grown⟩
  have k3 : (k == 3) = false := beq_eq_false_iff_ne.2 hk3
  by_cases hk4 : k = 4
  · subst hk4
    by_cases hn1 : 1 ≤ n
    · by_cases hn8 : n ≤ 8
      · skip
        by_cases hs : s.size = 0
        · have hs1 := (yes_none hs).1
          have hs2 := (yes_none hs).2
          have E : Hid (goodB ⟨4, n, s⟩ = true) := Lib.hid (goodB_t (Or.inr (Or.inr (Or.inr (Or.inr ⟨rfl, ⟨hn1, hn8⟩, hs⟩)))))
          go_enter Tryz.func62, Tryz.ntmps62
          go_wp2
          go_ret
          exact ⟨ret1 E.out.symm, grown⟩
        · have hs1 := (not_none hs).1
          have hs2 := (not_none hs).2
          have E : Hid (goodB ⟨4, n, s⟩ = false) := Lib.hid (goodB_f (fun h => by unfold GoodP at h; simp only at h; omega))
          go_enter Tryz.func62, Tryz.ntmps62
          go_wp2
          go_ret
          exact ⟨ret1 E.out.symm, grown⟩
      · have hn9 : decide (n ≤ 8) = false := decide_eq_false hn8
        have E : Hid (goodB ⟨4, n, s⟩ = false) := Lib.hid (goodB_f (fun h => by unfold GoodP at h; simp only at h; omega))
        go_enter Tryz.func62, Tryz.ntmps62
        go_wp2
        go_ret
        exact ⟨ret1 E.out.symm, grown⟩
    · have hn9 : decide (1 ≤ n) = false := decide_eq_false hn1
      have E : Hid (goodB ⟨4, n, s⟩ = false) := Lib.hid (goodB_f (fun h => by unfold GoodP at h; simp only at h; omega))
      go_enter Tryz.func62, Tryz.ntmps62
      go_wp2
      go_ret
      exact ⟨ret1 E.out.symm, grown⟩
  have k4 : (k == 4) = false := beq_eq_false_iff_ne.2 hk4
  have E : Hid (goodB ⟨k, n, s⟩ = false) := Lib.hid (goodB_f (fun h => by unfold GoodP at h; simp only at h; omega))
  go_enter Tryz.func62, Tryz.ntmps62
  go_wp2
  go_ret
  exact ⟨ret1 E.out.symm, grown⟩
theorem rgood (a : Val) (w : World) :
    Calls Tryz.prog 62 #[.agg #[.int .i64 a.k, .int .i64 a.n, .string a.s]] w fun e w' => e = .returned (.bool (goodB a)) ∧ Below w.heap.size w w' := rgood_of a.k a.n a.s w

theorem same_iff {k n k' n' : Int} {s s' : ByteArray} : sameB ⟨k, n, s⟩ ⟨k', n', s'⟩ = decide (k = k' ∧ n = n' ∧ s = s') := by
  unfold sameB; rw [decide_eq_decide]; exact ⟨fun h => by injection h with h1 h2 h3; exact ⟨h1, h2, h3⟩, fun ⟨h1, h2, h3⟩ => by subst h1 h2 h3; rfl⟩
theorem str_ne {s s' : ByteArray} (h : ¬ s = s') : (s.toList == s'.toList) = false := by
  rw [beq_eq_false_iff_ne]; intro e; apply h
  rw [Lib.toList_data, Lib.toList_data] at e
  exact WideShapes.bytes_inj e

set_option maxHeartbeats 400000 in
theorem keepValue_of (k n k' n' : Int) (s s' : ByteArray) (w : World) :
    Calls Tryz.prog 26 #[.agg #[.int .i64 k, .int .i64 n, .string s], .agg #[.int .i64 k', .int .i64 n', .string s']] w fun e w' => e = .returned (.bool (sameB ⟨k, n, s⟩ ⟨k', n', s'⟩)) ∧ Below w.heap.size w w' := by
  by_cases h1 : k = k'
  · subst h1
    by_cases h2 : n = n'
    · subst h2
      by_cases h3 : s = s'
      · subst h3
        have E : Hid (sameB ⟨k, n, s⟩ ⟨k, n, s⟩ = true) := Lib.hid (same_iff.trans (decide_eq_true ⟨rfl, rfl, rfl⟩))
        go_enter Tryz.func26, Tryz.ntmps26
        go_wp2
        go_ret
        exact ⟨ret1 E.out.symm, grown.trans (grown.mono grown.size)⟩
      · have b3 := str_ne h3
        have E : Hid (sameB ⟨k, n, s⟩ ⟨k, n, s'⟩ = false) := Lib.hid (same_iff.trans (decide_eq_false fun h => h3 h.2.2))
        clear h3
        go_enter Tryz.func26, Tryz.ntmps26
        go_wp2
        go_ret
        exact ⟨ret1 E.out.symm, grown.trans (grown.mono grown.size)⟩
    · have b2 : (n == n') = false := beq_eq_false_iff_ne.2 h2
      have E : Hid (sameB ⟨k, n, s⟩ ⟨k, n', s'⟩ = false) := Lib.hid (same_iff.trans (decide_eq_false fun h => h2 h.2.1))
      clear h2
      go_enter Tryz.func26, Tryz.ntmps26
      go_wp2
      go_ret
      exact ⟨ret1 E.out.symm, grown.trans (grown.mono grown.size)⟩
  · have b1 : (k == k') = false := beq_eq_false_iff_ne.2 h1
    have E : Hid (sameB ⟨k, n, s⟩ ⟨k', n', s'⟩ = false) := Lib.hid (same_iff.trans (decide_eq_false fun h => h1 h.1))
    clear h1
    go_enter Tryz.func26, Tryz.ntmps26
    go_wp2
    go_ret
    exact ⟨ret1 E.out.symm, grown.trans (grown.mono grown.size)⟩
theorem keepValue (a b : Val) (w : World) :
    Calls Tryz.prog 26 #[.agg #[.int .i64 (a).k, .int .i64 (a).n, .string (a).s], .agg #[.int .i64 (b).k, .int .i64 (b).n, .string (b).s]] w fun e w' => e = .returned (.bool (sameB a b)) ∧ Below w.heap.size w w' := keepValue_of a.k a.n b.k b.n a.s b.s w

end Go.Proofs.YtbgjdfghcnblcaaGreatDoor.ValueC

/-
  Contracts of package value: Good, Fail, ordered, Of, Same, rank, and of the library's cmp.Compare at the types that Compare asks. Nothing is assumed but that the arguments are numbers of their kinds.
-/
namespace Go.Proofs.YtbgjdfghcnblcaaGreatDoor.ValueC
set_option linter.unusedVariables false
open Go.RowKit Go.Proofs.YtbgjdfghcnblcaaGreatDoor.NumC

set_option maxHeartbeats 1000000 in
theorem cgood_of (k n : Int) (s : ByteArray) (w : World) :
    Calls Tryz.prog 90 #[.agg #[.int .i64 k, .int .i64 n, .string s]] w fun e w' => e = .returned (.bool (goodB ⟨k, n, s⟩)) ∧ Below w.heap.size w w' := by
  by_cases hk0 : k = 0
  · subst hk0
    by_cases hn0 : n = 0
    · subst hn0
      by_cases hs : s.size = 0
      · have hs1 := (yes_none hs).1
        have hs2 := (yes_none hs).2
        have E : Hid (goodB ⟨0, 0, s⟩ = true) := Lib.hid (goodB_t (Or.inl ⟨rfl, rfl, hs⟩))
        go_enter Tryz.func90, Tryz.ntmps90
        go_wp2
        go_ret
        exact ⟨ret1 E.out.symm, grown⟩
      · have hs1 := (not_none hs).1
        have hs2 := (not_none hs).2
        have E : Hid (goodB ⟨0, 0, s⟩ = false) := Lib.hid (goodB_f (fun h => by unfold GoodP at h; simp only at h; omega))
        go_enter Tryz.func90, Tryz.ntmps90
        go_wp2
        go_ret
        exact ⟨ret1 E.out.symm, grown⟩
    · have n0 : (n == 0) = false := beq_eq_false_iff_ne.2 hn0
      have E : Hid (goodB ⟨0, n, s⟩ = false) := Lib.hid (goodB_f (fun h => by unfold GoodP at h; simp only at h; omega))
      go_enter Tryz.func90, Tryz.ntmps90
      go_wp2
      go_ret
      exact ⟨ret1 E.out.symm, grown⟩
  have k0 : (k == 0) = false := beq_eq_false_iff_ne.2 hk0
  by_cases hk1 : k = 1
  · subst hk1
    by_cases hn0 : n = 0
    · subst hn0
      by_cases hs : s.size = 0
      · have hs1 := (yes_none hs).1
        have hs2 := (yes_none hs).2
        have E : Hid (goodB ⟨1, 0, s⟩ = true) := Lib.hid (goodB_t (Or.inr (Or.inl ⟨rfl, Or.inl rfl, hs⟩)))
        go_enter Tryz.func90, Tryz.ntmps90
        go_wp2
        go_ret
        exact ⟨ret1 E.out.symm, grown⟩
      · have hs1 := (not_none hs).1
        have hs2 := (not_none hs).2
        have E : Hid (goodB ⟨1, 0, s⟩ = false) := Lib.hid (goodB_f (fun h => by unfold GoodP at h; simp only at h; omega))
        go_enter Tryz.func90, Tryz.ntmps90
        go_wp2
        go_ret
        exact ⟨ret1 E.out.symm, grown⟩
    · have n0 : (n == 0) = false := beq_eq_false_iff_ne.2 hn0
      by_cases hn1 : n = 1
      · subst hn1
        by_cases hs : s.size = 0
        · have hs1 := (yes_none hs).1
          have hs2 := (yes_none hs).2
          have E : Hid (goodB ⟨1, 1, s⟩ = true) := Lib.hid (goodB_t (Or.inr (Or.inl ⟨rfl, Or.inr rfl, hs⟩)))
          go_enter Tryz.func90, Tryz.ntmps90
          go_wp2
          go_ret
          exact ⟨ret1 E.out.symm, grown⟩
        · have hs1 := (not_none hs).1
          have hs2 := (not_none hs).2
          have E : Hid (goodB ⟨1, 1, s⟩ = false) := Lib.hid (goodB_f (fun h => by unfold GoodP at h; simp only at h; omega))
          go_enter Tryz.func90, Tryz.ntmps90
          go_wp2
          go_ret
          exact ⟨ret1 E.out.symm, grown⟩
      · have n1 : (n == 1) = false := beq_eq_false_iff_ne.2 hn1
        have E : Hid (goodB ⟨1, n, s⟩ = false) := Lib.hid (goodB_f (fun h => by unfold GoodP at h; simp only at h; omega))
        go_enter Tryz.func90, Tryz.ntmps90
        go_wp2
        go_ret
        exact ⟨ret1 E.out.symm, grown⟩
  have k1 : (k == 1) = false := beq_eq_false_iff_ne.2 hk1
  by_cases hk2 : k = 2
  · subst hk2
    by_cases hs : s.size = 0
    · have hs1 := (yes_none hs).1
      have hs2 := (yes_none hs).2
      have E : Hid (goodB ⟨2, n, s⟩ = true) := Lib.hid (goodB_t (Or.inr (Or.inr (Or.inl ⟨rfl, hs⟩))))
      go_enter Tryz.func90, Tryz.ntmps90
      go_wp2
      go_ret
      exact ⟨ret1 E.out.symm, grown⟩
    · have hs1 := (not_none hs).1
      have hs2 := (not_none hs).2
      have E : Hid (goodB ⟨2, n, s⟩ = false) := Lib.hid (goodB_f (fun h => by unfold GoodP at h; simp only at h; omega))
      go_enter Tryz.func90, Tryz.ntmps90
      go_wp2
      go_ret
      exact ⟨ret1 E.out.symm, grown⟩
  have k2 : (k == 2) = false := beq_eq_false_iff_ne.2 hk2
  by_cases hk3 : k = 3
  · subst hk3
    by_cases hn0 : n = 0
    · subst hn0
      by_cases hs : s.size ≤ 200
      · have hs1 : decide ((s.size : Int) ≤ 200) = true := decide_eq_true (by omega)
        have E : Hid (goodB ⟨3, 0, s⟩ = true) := Lib.hid (goodB_t (Or.inr (Or.inr (Or.inr (Or.inl ⟨rfl, rfl, hs⟩)))))
        go_enter Tryz.func90, Tryz.ntmps90
        go_wp2
        go_ret
        exact ⟨ret1 E.out.symm, grown⟩
      · have hs1 : decide ((s.size : Int) ≤ 200) = false := decide_eq_false (by omega)
        have E : Hid (goodB ⟨3, 0, s⟩ = false) := Lib.hid (goodB_f (fun h => by unfold GoodP at h; simp only at h; omega))
        go_enter Tryz.func90, Tryz.ntmps90
        go_wp2
        go_ret
        exact ⟨ret1 E.out.symm, grown⟩
    · have n0 : (n == 0) = false := beq_eq_false_iff_ne.2 hn0
      have E : Hid (goodB ⟨3, n, s⟩ = false) := Lib.hid (goodB_f (fun h => by unfold GoodP at h; simp only at h; omega))
      go_enter Tryz.func90, Tryz.ntmps90
      go_wp2
      go_ret
      exact ⟨ret1 E.out.symm, grown⟩
  have k3 : (k == 3) = false := beq_eq_false_iff_ne.2 hk3
  by_cases hk4 : k = 4
  · subst hk4
    by_cases hn1 : 1 ≤ n
    · by_cases hn8 : n ≤ 8
      · skip
        by_cases hs : s.size = 0
        · have hs1 := (yes_none hs).1
          have hs2 := (yes_none hs).2
          have E : Hid (goodB ⟨4, n, s⟩ = true) := Lib.hid (goodB_t (Or.inr (Or.inr (Or.inr (Or.inr ⟨rfl, ⟨hn1, hn8⟩, hs⟩)))))
          go_enter Tryz.func90, Tryz.ntmps90
          go_wp2
          go_ret
          exact ⟨ret1 E.out.symm, grown⟩
        · have hs1 := (not_none hs).1
          have hs2 := (not_none hs).2
          have E : Hid (goodB ⟨4, n, s⟩ = false) := Lib.hid (goodB_f (fun h => by unfold GoodP at h; simp only at h; omega))
          go_enter Tryz.func90, Tryz.ntmps90
          go_wp2
          go_ret
          exact ⟨ret1 E.out.symm, grown⟩
      · have hn9 : decide (n ≤ 8) = false := decide_eq_false hn8
        have E : Hid (goodB ⟨4, n, s⟩ = false) := Lib.hid (goodB_f (fun h => by unfold GoodP at h; simp only at h; omega))
        go_enter Tryz.func90, Tryz.ntmps90
        go_wp2
        go_ret
        exact ⟨ret1 E.out.symm, grown⟩
    · have hn9 : decide (1 ≤ n) = false := decide_eq_false hn1
      have E : Hid (goodB ⟨4, n, s⟩ = false) := Lib.hid (goodB_f (fun h => by unfold GoodP at h; simp only at h; omega))
      go_enter Tryz.func90, Tryz.ntmps90
      go_wp2
      go_ret
      exact ⟨ret1 E.out.symm, grown⟩
  have k4 : (k == 4) = false := beq_eq_false_iff_ne.2 hk4
  have E : Hid (goodB ⟨k, n, s⟩ = false) := Lib.hid (goodB_f (fun h => by unfold GoodP at h; simp only at h; omega))
  go_enter Tryz.func90, Tryz.ntmps90
  go_wp2
  go_ret
  exact ⟨ret1 E.out.symm, grown⟩
theorem good (a : Val) (w : World) :
    Calls Tryz.prog 90 #[.agg #[.int .i64 a.k, .int .i64 a.n, .string a.s]] w fun e w' => e = .returned (.bool (goodB a)) ∧ Below w.heap.size w w' := cgood_of a.k a.n a.s w

def ordB (a : Val) : Bool := decide (Ord a)

theorem clone (s : ByteArray) (w : World) (h : s.size ≤ 281474976710656) :
    Calls Tryz.prog 21 #[.string s] w fun e w' => e = .returned (.string s) ∧ Below w.heap.size w w' := by
  go_enter Tryz.func21, Tryz.ntmps21
  go_wp2_with fail
  refine (Tryz.stringslite_Clone s _ h).mono ?_; rintro e w1 ⟨rfl, hb1⟩
  go_wp2
  go_ret
  exact ⟨rfl, hb1⟩

theorem eqs (k n k' n' : Int) (s s' : ByteArray) (W : World) :
    (binOp .eql 23 (.agg #[.int .i64 k, .int .i64 n, .string s]) (.agg #[.int .i64 k', .int .i64 n', .string s'])).run Tryz.prog W = .ok (.bool (sameB ⟨k, n, s⟩ ⟨k', n', s'⟩)) W := by
  have hS : Tryz.prog.underlying 23 = some (.struct (Tryz.prog.fieldsOf 23)) := by kernel_rfl
  have hp : Tryz.prog.stoodInHeld 23 = false := by kernel_rfl
  have a1 := Tryz.isAgg3; have z1 := Tryz.sizeOf3; have u1 := Tryz.underlying3
  have a2 := Tryz.isAgg2; have z2 := Tryz.sizeOf2; have u2 := Tryz.underlying2
  have a3 := Tryz.isAgg9; have z3 := Tryz.sizeOf9; have u3 := Tryz.underlying9
  rw [run_eql_struct, show (10000 : Nat) = 9999 + 1 from rfl, run_equalIn_agg W 9999 23 _ _ hS hp]
  simp only [Program.fieldsOf, Tryz.underlying23]
  rw [same_iff]
  go_simp
  by_cases h1 : k = k' <;> by_cases h2 : n = n' <;> by_cases h3 : s = s' <;> simp [h1, h2, h3, Lib.toList_data]
  all_goals (first | exact fun e => h3 (ByteArray.ext e) | skip)

set_option maxHeartbeats 400000 in
theorem same (a b : Val) (w : World) :
    Calls Tryz.prog 53 #[.agg #[.int .i64 (a).k, .int .i64 (a).n, .string (a).s], .agg #[.int .i64 (b).k, .int .i64 (b).n, .string (b).s]] w fun e w' => e = .returned (.bool (sameB a b)) ∧ Below w.heap.size w w' := by
  have Q := eqs a.k a.n b.k b.n a.s b.s
  go_enter Tryz.func53, Tryz.ntmps53
  go_wp2
  go_ret
  exact ⟨ret1 rfl, grown.trans (grown.mono grown.size)⟩

def cmpI (x y : Int) : Int := if x < y then -1 else if y < x then 1 else 0
def cmpS (x y : ByteArray) : Int := if bl x y then -1 else if bl y x then 1 else 0

def orN (x y z : Int) : Int := if x ≠ 0 then x else if y ≠ 0 then y else z
theorem ne_b {x : Int} (h : x ≠ 0) : (x == 0) = false ∧ (x != 0) = true := ⟨beq_eq_false_iff_ne.2 h, by rw [bne, beq_eq_false_iff_ne.2 h]; rfl⟩
end Go.Proofs.YtbgjdfghcnblcaaGreatDoor.ValueC
