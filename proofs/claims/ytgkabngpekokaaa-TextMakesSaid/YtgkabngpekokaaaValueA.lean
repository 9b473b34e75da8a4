/-
  Contracts of package value's reference and of the statements' helpers: Good, Fail, Of, Value, large. Nothing is assumed but that the arguments are numbers of their kinds.
-/
import Derived.Test.YtgkabngpekokaaaValueM
import Derived.Test.YtgkabngpekokaaaNumE
import Derived.Test.YtgkabngpekokaaaNumG
namespace Go.Proofs.Ytgkabngpekokaaa.ValueC
set_option linter.unusedVariables false
open Go.RowKit Go.Proofs.Ytgkabngpekokaaa.NumC

theorem grown {w : World} {o : Obj} : Below w.heap.size w (w.alloc o) := (Below.refl _ _).alloc (Nat.le_refl _) _
theorem yes_none {s : ByteArray} (h : s.size = 0) : s.toList.isEmpty = true ∧ (s.toList == []) = true := by
  rw [size_nos h]; exact ⟨by rw [Lib.toList_data]; rfl, by rw [Lib.toList_data]; rfl⟩
theorem not_none {s : ByteArray} (h : ¬ s.size = 0) : s.toList.isEmpty = false ∧ (s.toList == []) = false := by
  have : s.toList ≠ [] := by
    rw [Lib.toList_data]; intro e; apply h
    show s.data.size = 0
    rw [← Array.length_toList, e]; rfl
  exact ⟨by simpa using this, beq_eq_false_iff_ne.2 this⟩

set_option maxHeartbeats 400000 in
theorem rfail (c : Int) (w : World) :
    Calls Try.prog 30 #[.int .i64 c] w fun e w' => e = .returned (.agg #[.int .i64 (failV c).k, .int .i64 (failV c).n, .string (failV c).s]) ∧ Below w.heap.size w w' := by
  by_cases h1 : 1 ≤ c
  · by_cases h2 : c ≤ 8
    · have E := Lib.hid (failV_yes ⟨h1, h2⟩)
      have hB := Below.refl w.heap.size w
      go_enter Try.func30, Try.ntmps30
      go_wp2
      refine bodyPost_ret (v := .agg #[.int .i64 4, .int .i64 c, .string { data := #[] }]) (by simp [results, Try.results30, go_sem]) rfl ⟨by rw [E.out]; try rfl, ?_⟩
      repeat (first | with_reducible exact hB | with_reducible refine Below.setCell ?_ (by simp <;> omega) _ | with_reducible refine Below.alloc ?_ (by simp <;> omega) _)
    · have E := Lib.hid (failV_no (c := c) (by omega))
      have hB := Below.refl w.heap.size w
      go_enter Try.func30, Try.ntmps30
      go_wp2
      refine bodyPost_ret (v := .agg #[.int .i64 0, .int .i64 0, .string { data := #[] }]) (by simp [results, Try.results30, go_sem]) rfl ⟨by rw [E.out]; try rfl, ?_⟩
      repeat (first | with_reducible exact hB | with_reducible refine Below.setCell ?_ (by simp <;> omega) _ | with_reducible refine Below.alloc ?_ (by simp <;> omega) _)
  · have E := Lib.hid (failV_no (c := c) (by omega))
    have hB := Below.refl w.heap.size w
    go_enter Try.func30, Try.ntmps30
    go_wp2
    refine bodyPost_ret (v := .agg #[.int .i64 0, .int .i64 0, .string { data := #[] }]) (by simp [results, Try.results30, go_sem]) rfl ⟨by rw [E.out]; try rfl, ?_⟩
    repeat (first | with_reducible exact hB | with_reducible refine Below.setCell ?_ (by simp <;> omega) _ | with_reducible refine Below.alloc ?_ (by simp <;> omega) _)

set_option maxHeartbeats 400000 in
theorem rof (s : ByteArray) (w : World) :
    Calls Try.prog 31 #[.string s] w fun e w' => e = .returned (.agg #[.int .i64 (ofV s).k, .int .i64 (ofV s).n, .string (ofV s).s]) ∧ Below w.heap.size w w' := by
  by_cases h : 200 < s.size
  · have E : Hid (ofV s = ⟨4, 7, nos⟩) := Lib.hid (if_pos h)
    go_enter Try.func31, Try.ntmps31
    go_wp2_with fail
    refine (rfail 7 _).mono ?_; rw [failV_yes (by omega)]; rintro e w1 ⟨rfl, hb1⟩
    obtain ⟨hc, hf⟩ := bcell hb1
    have hz := size_of hb1
    have hB := below_of hb1
    go_wp2
    refine bodyPost_ret (v := .agg #[.int .i64 4, .int .i64 7, .string { data := #[] }]) (by simp [results, Try.results31, go_sem, hc, nos]) rfl ⟨by rw [E.out]; try rfl, ?_⟩
    repeat (first | with_reducible exact hB | with_reducible refine Below.setCell ?_ (by simp <;> omega) _ | with_reducible refine Below.alloc ?_ (by simp <;> omega) _)
  · have E : Hid (ofV s = ⟨3, 0, s⟩) := Lib.hid (if_neg h)
    have hB := Below.refl w.heap.size w
    go_enter Try.func31, Try.ntmps31
    go_wp2
    refine bodyPost_ret (v := .agg #[.int .i64 3, .int .i64 0, .string s]) (by simp [results, Try.results31, go_sem]) rfl ⟨by rw [E.out]; try rfl, ?_⟩
    repeat (first | with_reducible exact hB | with_reducible refine Below.setCell ?_ (by simp <;> omega) _ | with_reducible refine Below.alloc ?_ (by simp <;> omega) _)

theorem same_iff {k n k' n' : Int} {s s' : ByteArray} : sameB ⟨k, n, s⟩ ⟨k', n', s'⟩ = decide (k = k' ∧ n = n' ∧ s = s') := by
  unfold sameB; rw [decide_eq_decide]; exact ⟨fun h => by injection h with h1 h2 h3; exact ⟨h1, h2, h3⟩, fun ⟨h1, h2, h3⟩ => by subst h1 h2 h3; rfl⟩
theorem str_ne {s s' : ByteArray} (h : ¬ s = s') : (s.toList == s'.toList) = false := by
  rw [beq_eq_false_iff_ne]; intro e; apply h
  rw [Lib.toList_data, Lib.toList_data] at e
  exact WideShapes.bytes_inj e

set_option maxHeartbeats 400000 in
theorem keepValue_of (k n k' n' : Int) (s s' : ByteArray) (w : World) :
    Calls Try.prog 9 #[.agg #[.int .i64 k, .int .i64 n, .string s], .agg #[.int .i64 k', .int .i64 n', .string s']] w fun e w' => e = .returned (.bool (sameB ⟨k, n, s⟩ ⟨k', n', s'⟩)) ∧ Below w.heap.size w w' := by
  by_cases h1 : k = k'
  · subst h1
    by_cases h2 : n = n'
    · subst h2
      by_cases h3 : s = s'
      · subst h3
        have E : Hid (sameB ⟨k, n, s⟩ ⟨k, n, s⟩ = true) := Lib.hid (same_iff.trans (decide_eq_true ⟨rfl, rfl, rfl⟩))
        go_enter Try.func9, Try.ntmps9
        go_wp2
        go_ret
        exact ⟨ret1 E.out.symm, grown.trans (grown.mono grown.size)⟩
      · have b3 := str_ne h3
        have E : Hid (sameB ⟨k, n, s⟩ ⟨k, n, s'⟩ = false) := Lib.hid (same_iff.trans (decide_eq_false fun h => h3 h.2.2))
        clear h3
        go_enter Try.func9, Try.ntmps9
        go_wp2
        go_ret
        exact ⟨ret1 E.out.symm, grown.trans (grown.mono grown.size)⟩
    · have b2 : (n == n') = false := beq_eq_false_iff_ne.2 h2
      have E : Hid (sameB ⟨k, n, s⟩ ⟨k, n', s'⟩ = false) := Lib.hid (same_iff.trans (decide_eq_false fun h => h2 h.2.1))
      clear h2
      go_enter Try.func9, Try.ntmps9
      go_wp2
      go_ret
      exact ⟨ret1 E.out.symm, grown.trans (grown.mono grown.size)⟩
  · have b1 : (k == k') = false := beq_eq_false_iff_ne.2 h1
    have E : Hid (sameB ⟨k, n, s⟩ ⟨k', n', s'⟩ = false) := Lib.hid (same_iff.trans (decide_eq_false fun h => h1 h.1))
    clear h1
    go_enter Try.func9, Try.ntmps9
    go_wp2
    go_ret
    exact ⟨ret1 E.out.symm, grown.trans (grown.mono grown.size)⟩
theorem keepValue (a b : Val) (w : World) :
    Calls Try.prog 9 #[.agg #[.int .i64 (a).k, .int .i64 (a).n, .string (a).s], .agg #[.int .i64 (b).k, .int .i64 (b).n, .string (b).s]] w fun e w' => e = .returned (.bool (sameB a b)) ∧ Below w.heap.size w w' := keepValue_of a.k a.n b.k b.n a.s b.s w

end Go.Proofs.Ytgkabngpekokaaa.ValueC
