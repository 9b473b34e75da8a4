/-
  Contracts of package value: Good, Fail, ordered, Of, Same, rank, and of the library's cmp.Compare at the types that Compare asks. Nothing is assumed but that the arguments are numbers of their kinds.
-/
import Derived.Test.YtgkabngpekokaaaValueA
import Derived.Test.YtgkabngpekokaaaShelf
import Derived.Laws.StructEq
import Derived.LoopN
namespace Go.Proofs.Ytgkabngpekokaaa.ValueC
set_option linter.unusedVariables false
open Go.RowKit Go.Proofs.Ytgkabngpekokaaa.NumC

set_option maxHeartbeats 400000 in
theorem fail (c : Int) (w : World) :
    Calls Try.prog 33 #[.int .i64 c] w fun e w' => e = .returned (.agg #[.int .i64 (failV c).k, .int .i64 (failV c).n, .string (failV c).s]) ∧ Below w.heap.size w w' := by
  by_cases h1 : 1 ≤ c
  · by_cases h2 : c ≤ 8
    · have E := Lib.hid (failV_yes ⟨h1, h2⟩)
      have hB := Below.refl w.heap.size w
      go_enter Try.func33, Try.ntmps33
      go_wp2
      refine bodyPost_ret (v := .agg #[.int .i64 4, .int .i64 c, .string { data := #[] }]) (by simp [results, Try.results33, go_sem]) rfl ⟨by rw [E.out]; try rfl, ?_⟩
      repeat (first | with_reducible exact hB | with_reducible refine Below.setCell ?_ (by simp <;> omega) _ | with_reducible refine Below.alloc ?_ (by simp <;> omega) _)
    · have E := Lib.hid (failV_no (c := c) (by omega))
      have hB := Below.refl w.heap.size w
      go_enter Try.func33, Try.ntmps33
      go_wp2
      refine bodyPost_ret (v := .agg #[.int .i64 0, .int .i64 0, .string { data := #[] }]) (by simp [results, Try.results33, go_sem]) rfl ⟨by rw [E.out]; try rfl, ?_⟩
      repeat (first | with_reducible exact hB | with_reducible refine Below.setCell ?_ (by simp <;> omega) _ | with_reducible refine Below.alloc ?_ (by simp <;> omega) _)
  · have E := Lib.hid (failV_no (c := c) (by omega))
    have hB := Below.refl w.heap.size w
    go_enter Try.func33, Try.ntmps33
    go_wp2
    refine bodyPost_ret (v := .agg #[.int .i64 0, .int .i64 0, .string { data := #[] }]) (by simp [results, Try.results33, go_sem]) rfl ⟨by rw [E.out]; try rfl, ?_⟩
    repeat (first | with_reducible exact hB | with_reducible refine Below.setCell ?_ (by simp <;> omega) _ | with_reducible refine Below.alloc ?_ (by simp <;> omega) _)


def ordB (a : Val) : Bool := decide (Ord a)

theorem clone (s : ByteArray) (w : World) (h : s.size ≤ 281474976710656) :
    Calls Try.prog 42 #[.string s] w fun e w' => e = .returned (.string s) ∧ Below w.heap.size w w' := by
  go_enter Try.func42, Try.ntmps42
  go_wp2_with fail
  refine (Try.stringslite_Clone s _ h).mono ?_; rintro e w1 ⟨rfl, hb1⟩
  go_wp2
  go_ret
  exact ⟨rfl, hb1⟩

set_option maxHeartbeats 400000 in
theorem of (s : ByteArray) (w : World) :
    Calls Try.prog 35 #[.string s] w fun e w' => e = .returned (.agg #[.int .i64 (ofV s).k, .int .i64 (ofV s).n, .string (ofV s).s]) ∧ Below w.heap.size w w' := by
  by_cases h : 200 < s.size
  · have E : Hid (ofV s = ⟨4, 7, nos⟩) := Lib.hid (if_pos h)
    go_enter Try.func35, Try.ntmps35
    go_wp2_with fail
    refine (fail 7 _).mono ?_; rw [failV_yes (by omega)]; rintro e w1 ⟨rfl, hb1⟩
    obtain ⟨hc, hf⟩ := bcell hb1
    have hz := size_of hb1
    have hB := below_of hb1
    go_wp2
    refine bodyPost_ret (v := .agg #[.int .i64 4, .int .i64 7, .string { data := #[] }]) (by simp [results, Try.results35, go_sem, hc, nos]) rfl ⟨by rw [E.out]; try rfl, ?_⟩
    repeat (first | with_reducible exact hB | with_reducible refine Below.setCell ?_ (by simp <;> omega) _ | with_reducible refine Below.alloc ?_ (by simp <;> omega) _)
  · have E : Hid (ofV s = ⟨3, 0, s⟩) := Lib.hid (if_neg h)
    go_enter Try.func35, Try.ntmps35
    go_wp2_with fail
    refine (clone s _ (by omega)).mono ?_; rintro e w1 ⟨rfl, hb1⟩
    obtain ⟨hc, hf⟩ := bcell hb1
    have hz := size_of hb1
    have hB := below_of hb1
    go_wp2
    refine bodyPost_ret (v := .agg #[.int .i64 3, .int .i64 0, .string s]) (by simp [results, Try.results35, go_sem, hc]) rfl ⟨by rw [E.out]; try rfl, ?_⟩
    repeat (first | with_reducible exact hB | with_reducible refine Below.setCell ?_ (by simp <;> omega) _ | with_reducible refine Below.alloc ?_ (by simp <;> omega) _)

theorem eqs (k n k' n' : Int) (s s' : ByteArray) (W : World) :
    (binOp .eql 25 (.agg #[.int .i64 k, .int .i64 n, .string s]) (.agg #[.int .i64 k', .int .i64 n', .string s'])).run Try.prog W = .ok (.bool (sameB ⟨k, n, s⟩ ⟨k', n', s'⟩)) W := by
  have hS : Try.prog.underlying 25 = some (.struct (Try.prog.fieldsOf 25)) := by kernel_rfl
  have hp : Try.prog.stoodInHeld 25 = false := by kernel_rfl
  have a1 := Try.isAgg3; have z1 := Try.sizeOf3; have u1 := Try.underlying3
  have a2 := Try.isAgg2; have z2 := Try.sizeOf2; have u2 := Try.underlying2
  have a3 := Try.isAgg9; have z3 := Try.sizeOf9; have u3 := Try.underlying9
  rw [run_eql_struct, show (10000 : Nat) = 9999 + 1 from rfl, run_equalIn_agg W 9999 25 _ _ hS hp]
  simp only [Program.fieldsOf, Try.underlying25]
  rw [same_iff]
  go_simp
  by_cases h1 : k = k' <;> by_cases h2 : n = n' <;> by_cases h3 : s = s' <;> simp [h1, h2, h3, Lib.toList_data]
  all_goals (first | exact fun e => h3 (ByteArray.ext e) | skip)

def cmpI (x y : Int) : Int := if x < y then -1 else if y < x then 1 else 0
def cmpS (x y : ByteArray) : Int := if bl x y then -1 else if bl y x then 1 else 0

def orN (x y z : Int) : Int := if x ≠ 0 then x else if y ≠ 0 then y else z
theorem ne_b {x : Int} (h : x ≠ 0) : (x == 0) = false ∧ (x != 0) = true := ⟨beq_eq_false_iff_ne.2 h, by rw [bne, beq_eq_false_iff_ne.2 h]; rfl⟩
end Go.Proofs.Ytgkabngpekokaaa.ValueC
