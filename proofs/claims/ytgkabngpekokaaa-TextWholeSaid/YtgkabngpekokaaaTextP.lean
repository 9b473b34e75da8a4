/-
  What the library's search and its repetition tell, in the words of text's plain functions; what the cases of text's functions come to.
-/
import Derived.Test.YtgkabngpekokaaaTextM
import Derived.Lib.Index
import Derived.Lib.Repeat
namespace Go.Proofs.Ytgkabngpekokaaa.TextC
set_option linter.unusedVariables false
open Go.Proofs.Ytgkabngpekokaaa.ValueC (Val failV failV_yes ofV nos)
open Go.Proofs.Ytgkabngpekokaaa.LexC (upC upL str)

theorem ext_list (s : ByteArray) (a b : Nat) : (s.extract a b).data.toList = (s.data.toList.drop a).take (b - a) := by
  rw [ByteArray.data_extract, Array.toList_extract]
theorem size_list (s : ByteArray) : s.data.toList.length = s.size := rfl
theorem stands_iff {what s : ByteArray} {j : Nat} (hj : j ≤ s.size) : what.data.toList.isPrefixOf (s.data.toList.drop j) = true ↔ j + what.size ≤ s.size ∧ s.extract j (j + what.size) = what := by
  rw [List.isPrefixOf_iff_prefix]
  constructor
  · rintro ⟨t, h⟩
    have hl := congrArg List.length h
    rw [List.length_append, List.length_drop, size_list, size_list] at hl
    refine ⟨by omega, ?_⟩
    apply ByteArray.ext
    apply Array.toList_inj.1
    rw [ext_list, ← h, show j + what.size - j = what.data.toList.length from by rw [size_list]; omega, List.take_left]
  · rintro ⟨h1, h2⟩
    have := ext_list s j (j + what.size)
    rw [h2] at this
    rw [this]
    exact List.take_prefix _ _
theorem firstN_some {what s : ByteArray} : ∀ (f i k : Nat), firstN what s f i = some k → i ≤ k ∧ k + what.size ≤ s.size ∧ s.extract k (k + what.size) = what ∧ ∀ j, i ≤ j → j < k → ¬ s.extract j (j + what.size) = what
  | 0, i, k, h => by simp [firstN] at h
  | f + 1, i, k, h => by
    unfold firstN at h
    split at h
    · rename_i hr
      split at h
      · rename_i he
        obtain rfl := Option.some.inj h
        exact ⟨Nat.le_refl _, hr, he, fun j h1 h2 => by omega⟩
      · rename_i he
        obtain ⟨h1, h2, h3, h4⟩ := firstN_some f (i + 1) k h
        refine ⟨by omega, h2, h3, fun j g1 g2 => ?_⟩
        by_cases e : j = i
        · subst e; exact he
        · exact h4 j (by omega) g2
    · simp at h
theorem firstN_none {what s : ByteArray} : ∀ (f i : Nat), firstN what s f i = none → ∀ j, i ≤ j → j < i + f → j + what.size ≤ s.size → ¬ s.extract j (j + what.size) = what
  | 0, i, _, j, h1, h2, _ => by omega
  | f + 1, i, h, j, h1, h2, h3 => by
    unfold firstN at h
    rw [if_pos (by omega)] at h
    split at h
    · simp at h
    · rename_i he
      by_cases e : j = i
      · subst e; exact he
      · exact firstN_none f (i + 1) h j (by omega) (by omega) h3
theorem index_first {what s : ByteArray} {p : Nat} (hp : p ≤ s.size) : Lib.index (s.extract p s.size).data.toList what.data.toList = match firstN what s (s.size + 1 - p) p with | some k => ((k - p : Nat) : Int) | none => -1 := by
  have e : (s.extract p s.size).data.toList = s.data.toList.drop p := by rw [ext_list, List.take_of_length_le (by rw [List.length_drop, size_list]; omega)]
  rw [e]
  have hl : (s.data.toList.drop p).length = s.size - p := by rw [List.length_drop, size_list]
  have hocc : ∀ j, j ≤ s.size - p → (Lib.occAt (s.data.toList.drop p) what.data.toList j = true ↔ p + j + what.size ≤ s.size ∧ s.extract (p + j) (p + j + what.size) = what) := fun j hj => by
    unfold Lib.occAt
    rw [List.drop_drop]
    exact stands_iff (by omega)
  split
  · rename_i k hk
    obtain ⟨h1, h2, h3, h4⟩ := firstN_some _ _ _ hk
    refine Lib.index_first (by rw [hl]; omega) ((hocc _ (by omega)).2 ?_) fun j hj => ?_
    · rw [show p + (k - p) = k from by omega]; exact ⟨h2, h3⟩
    · refine Bool.eq_false_iff.2 fun h => ?_
      obtain ⟨g1, g2⟩ := (hocc j (by omega)).1 h
      exact h4 (p + j) (by omega) (by omega) g2
  · rename_i hk
    refine Lib.index_none fun j hj => Bool.eq_false_iff.2 fun h => ?_
    rw [hl] at hj
    obtain ⟨g1, g2⟩ := (hocc j hj).1 h
    exact firstN_none _ _ hk (p + j) (by omega) (by omega) g1 g2
theorem repL_comm (l : List UInt8) : ∀ n, Lib.repeatL l n ++ l = l ++ Lib.repeatL l n
  | 0 => by simp [Lib.repeatL]
  | n + 1 => by show (l ++ Lib.repeatL l n) ++ l = l ++ (l ++ Lib.repeatL l n); rw [List.append_assoc, repL_comm l n]
theorem rep_list (s : ByteArray) : ∀ n, (repS s n).data.toList = Lib.repeatL s.data.toList n
  | 0 => rfl
  | n + 1 => by
    show (repS s n ++ s).data.toList = s.data.toList ++ Lib.repeatL s.data.toList n
    rw [← repL_comm, ← rep_list s n]; simp
theorem rep_is (s : ByteArray) (n : Nat) : (⟨(Lib.repeatL s.data.toList n).toArray⟩ : ByteArray) = repS s n := by
  apply ByteArray.ext; apply Array.toList_inj.1; rw [rep_list]
theorem rep_nos {s : ByteArray} (h : s.size = 0) : ∀ n, repS s n = nos
  | 0 => rfl
  | n + 1 => by
    show repS s n ++ s = _
    rw [rep_nos h n]
    apply ByteArray.ext; rw [ByteArray.data_append, Array.eq_empty_of_size_eq_zero (show s.data.size = 0 from h)]; rfl
/-- The faults, and what is told where there is none. -/
theorem mid_long {s : ByteArray} {a n : Int} (h : 200 < s.size) : midV s a n = lngV := by unfold midV; rw [if_pos h]
theorem mid_arg {s : ByteArray} {a n : Int} (h : ¬ 200 < s.size) (h2 : a < 1 ∨ n < 0) : midV s a n = argV := by unfold midV; rw [if_neg h, if_pos h2]
theorem right_long {s : ByteArray} {n : Int} (h : 200 < s.size) : rightV s n = lngV := by unfold rightV; rw [if_pos h]
theorem right_arg {s : ByteArray} {n : Int} (h : ¬ 200 < s.size) (h2 : n < 0) : rightV s n = argV := by unfold rightV; rw [if_neg h, if_pos h2]
/-- The last bytes are those from so many ahead of the end on. -/
theorem right_mid (s : ByteArray) (q : Nat) (h : ¬ 200 < s.size) : rightV s q = midV s (((s.size - min q s.size : Nat) : Int) + 1) q := by
  rw [right_of s q (by omega), rest_of s _ q (by omega)]
  have e : min (s.size - min q s.size) s.size = s.size - min q s.size := by omega
  rw [e, show s.size - min q s.size + min q (s.size - (s.size - min q s.size)) = s.size from by omega]
theorem find_place {what s : ByteArray} {p k : Nat} (h1 : what.size ≤ 200) (h2 : s.size ≤ 200) (h4 : p ≤ s.size) (h : firstN what s (s.size + 1 - p) p = some k) : findV what s ((p : Int) + 1) = ⟨2, (k : Int) + 1, nos⟩ := by
  unfold findV
  rw [if_neg (by omega), if_neg (by omega), if_neg (by omega), show ((p : Int) + 1 - 1).toNat = p from by omega, h]
theorem find_none {what s : ByteArray} {p : Nat} (h1 : what.size ≤ 200) (h2 : s.size ≤ 200) (h4 : p ≤ s.size) (h : firstN what s (s.size + 1 - p) p = none) : findV what s ((p : Int) + 1) = nonV := by
  unfold findV
  rw [if_neg (by omega), if_neg (by omega), if_neg (by omega), show ((p : Int) + 1 - 1).toNat = p from by omega, h]
theorem find_long {what s : ByteArray} {a : Int} (h : 200 < what.size ∨ 200 < s.size) : findV what s a = lngV := by unfold findV; rw [if_pos h]
theorem find_arg {what s : ByteArray} {a : Int} (h : ¬ (200 < what.size ∨ 200 < s.size)) (h2 : a < 1) : findV what s a = argV := by unfold findV; rw [if_neg h, if_pos h2]
theorem find_behind {what s : ByteArray} {a : Int} (h : ¬ (200 < what.size ∨ 200 < s.size)) (h2 : ¬ a < 1) (h3 : (s.size : Int) + 1 < a) : findV what s a = nonV := by unfold findV; rw [if_neg h, if_neg h2, if_pos h3]
/-- So many times, or once more than may be: the same. -/
theorem repeat_of {s : ByteArray} {q : Nat} (h : ¬ 200 < s.size) : repeatV s q = ofV (repS s (min q 201)) := by
  unfold repeatV
  rw [if_neg h, if_neg (by omega)]
  by_cases h0 : s.size = 0
  · rw [if_pos h0, rep_nos h0]; rfl
  · rw [if_neg h0]
    by_cases h2 : (200 : Int) < (q : Int)
    · rw [if_pos h2, show min q 201 = 201 from by omega]
      unfold ofV
      rw [if_pos (by rw [rep_size]; have := Nat.mul_le_mul_right 201 (show 1 ≤ s.size by omega); omega)]; rfl
    · rw [if_neg h2, show min q 201 = q from by omega, Int.toNat_natCast]
theorem join_sum {s t : ByteArray} (h : 200 < s.size + t.size) : joinV s t = lngV := by
  unfold joinV
  split
  · rfl
  · unfold ofV; rw [if_pos (by rw [ByteArray.size_append]; exact h)]; rfl
theorem join_of {s t : ByteArray} (h : ¬ 200 < s.size + t.size) : joinV s t = ofV (s ++ t) := by unfold joinV; rw [if_neg (by omega)]
end Go.Proofs.Ytgkabngpekokaaa.TextC
