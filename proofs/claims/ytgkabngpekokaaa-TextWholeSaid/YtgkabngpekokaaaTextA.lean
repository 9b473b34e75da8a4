/-
  Contracts of text's reference: Left, Right, Mid, Upper, Join, Len.
-/
import Derived.Test.YtgkabngpekokaaaTextM
import Derived.Test.YtgkabngpekokaaaValueA
import Derived.Test.YtgkabngpekokaaaLexB
import Derived.Lib.MinMax
namespace Go.Proofs.Ytgkabngpekokaaa.TextC
set_option linter.unusedVariables false
set_option linter.unusedSimpArgs false
open Go.RowKit Go.Proofs.Ytgkabngpekokaaa.NumC
open Go.Proofs.Ytgkabngpekokaaa.ValueC (Val failV failV_yes ofV nos rfail rof)
open Go.Proofs.Ytgkabngpekokaaa.LexC (upC upL str rupper)

/-- What is told: a value. -/
def VPost (V : Val) (w : World) (e : Ending) (w' : World) : Prop := e = .returned (.agg #[.int .i64 V.k, .int .i64 V.n, .string V.s]) ∧ Below w.heap.size w w'
theorem rlong (s : ByteArray) (w : World) : Calls Try.prog 29 #[.string s] w fun e w' => e = .returned (.bool (decide (200 < s.size))) ∧ w' = w := by
  have h : ((200 : Int) < (s.size : Int)) = (200 < s.size) := by apply propext; omega
  by_cases hs : 200 < s.size
  · rw [decide_eq_true hs]
    have h1 : (200 : Int) < (s.size : Int) := by omega
    go_enter Try.func29, Try.ntmps29
    go_wp2
    go_ret
    exact ⟨rfl, rfl⟩
  · rw [decide_eq_false hs]
    have h1 : ¬ (200 : Int) < (s.size : Int) := by omega
    go_enter Try.func29, Try.ntmps29
    go_wp2
    go_ret
    exact ⟨rfl, rfl⟩
set_option maxHeartbeats 1000000 in
theorem rnum (n : Int) (w : World) : Calls Try.prog 38 #[.int .i64 n] w (VPost ⟨2, n, nos⟩ w) := by
  have hw : IntKind.i64.wrap n = n ∨ True := Or.inr trivial
  go_enter Try.func38, Try.ntmps38
  have hB := Below.refl w.heap.size w
  go_wp2
  refine bodyPost_ret (v := .agg #[.int .i64 2, .int .i64 n, .string { data := #[] }]) (by simp [results, Try.results38, go_sem]) rfl ⟨rfl, hB.alloc (Nat.le_refl _) _⟩
set_option maxHeartbeats 1000000 in
set_option maxRecDepth 100000 in
theorem rMid (s : ByteArray) (a n : Int) (w : World) (ha : -9223372036854775808 ≤ a ∧ a ≤ 9223372036854775807) : Calls Try.prog 15 #[.string s, .int .i64 a, .int .i64 n] w (VPost (midV s a n) w) := by
  by_cases hs : 200 < s.size
  · have E : Hid (midV s a n = lngV) := Lib.hid (by unfold midV; rw [if_pos hs])
    go_enter Try.func15, Try.ntmps15
    go_wp2_with fail
    refine (rlong _ _).mono ?_; rw [decide_eq_true hs]; rintro e w0 ⟨rfl, rfl⟩
    go_wp2_with fail
    refine (rfail 7 _).mono ?_; rw [failV_yes (by omega)]; rintro e w1 ⟨rfl, hb1⟩
    obtain ⟨hc, hf⟩ := bcell hb1
    have hz := size_of hb1
    have hB := below_of hb1
    go_wp2
    refine bodyPost_ret (v := .agg #[.int .i64 4, .int .i64 7, .string { data := #[] }]) (by simp [results, Try.results15, go_sem, hc, nos, txtV]) rfl ⟨by rw [E.out]; try (first | rfl | simp [lngV, argV, nonV, txtV, nos]), ?_⟩
    repeat (first | with_reducible exact hB | with_reducible refine Below.setCell ?_ (by simp <;> omega) _ | with_reducible refine Below.alloc ?_ (by simp <;> omega) _)
  · by_cases hn : a < 1 ∨ n < 0
    · have E : Hid (midV s a n = argV) := Lib.hid (by unfold midV; rw [if_neg hs, if_pos hn])
      have hn2 : a < 1 ∨ (¬ a < 1 ∧ n < 0) := by omega
      clear hn
      rcases hn2 with h1 | ⟨h1, h2⟩
      all_goals
        go_enter Try.func15, Try.ntmps15
        go_wp2_with fail
        refine (rlong _ _).mono ?_; rw [decide_eq_false hs]; rintro e w0 ⟨rfl, rfl⟩
        go_wp2_with fail
        refine (rfail 5 _).mono ?_; rw [failV_yes (by omega)]; rintro e w1 ⟨rfl, hb1⟩
        obtain ⟨hc, hf⟩ := bcell hb1
        have hz := size_of hb1
        have hB := below_of hb1
        go_wp2
        refine bodyPost_ret (v := .agg #[.int .i64 4, .int .i64 5, .string { data := #[] }]) (by simp [results, Try.results15, go_sem, hc, nos, txtV]) rfl ⟨by rw [E.out]; try (first | rfl | simp [lngV, argV, nonV, txtV, nos]), ?_⟩
        repeat (first | with_reducible exact hB | with_reducible refine Below.setCell ?_ (by simp <;> omega) _ | with_reducible refine Below.alloc ?_ (by simp <;> omega) _)
    · have h1 : ¬ a < 1 := fun h => hn (Or.inl h)
      have h2 : ¬ n < 0 := fun h => hn (Or.inr h)
      by_cases h3 : (s.size : Int) < a
      · have E : Hid (midV s a n = txtV nos) := Lib.hid (by unfold midV; rw [if_neg hs, if_neg hn, if_pos h3])
        clear hn
        go_enter Try.func15, Try.ntmps15
        go_wp2_with fail
        refine (rlong _ _).mono ?_; rw [decide_eq_false hs]; rintro e w0 ⟨rfl, rfl⟩
        go_wp2_with fail
        refine (rof { data := #[] } _).mono ?_; rw [ofV_small (by decide)]; rintro e w1 ⟨rfl, hb1⟩
        obtain ⟨hc, hf⟩ := bcell hb1
        have hz := size_of hb1
        have hB := below_of hb1
        go_wp2
        refine bodyPost_ret (v := .agg #[.int .i64 3, .int .i64 0, .string { data := #[] }]) (by simp [results, Try.results15, go_sem, hc, nos, txtV]) rfl ⟨by rw [E.out]; try (first | rfl | simp [lngV, argV, nonV, txtV, nos]), ?_⟩
        repeat (first | with_reducible exact hB | with_reducible refine Below.setCell ?_ (by simp <;> omega) _ | with_reducible refine Below.alloc ?_ (by simp <;> omega) _)
      · obtain ⟨p, rfl⟩ : ∃ p : Nat, a = (p : Int) + 1 := ⟨(a - 1).toNat, by omega⟩
        obtain ⟨q, rfl⟩ : ∃ q : Nat, n = (q : Int) := ⟨n.toNat, by omega⟩
        have E : Hid (midV s ((p : Int) + 1) q = txtV (s.extract p (p + min q (s.size - p)))) := Lib.hid (by
          unfold midV
          rw [if_neg hs, if_neg hn, if_neg h3, show ((p : Int) + 1 - 1).toNat = p from by omega, Int.toNat_natCast])
        clear hn
        have g1 : (p : Int) ≤ (s.size : Int) := by omega
        have g3 : IntKind.i64.wrap (p : Int) = (p : Int) := by rw [IntKind.wrap_i64]; omega
        have hsz : (s.extract p s.size).size = s.size - p := size_ext (by omega) (Nat.le_refl _)
        have mn : min (q : Int) ((s.size - p : Nat) : Int) = ((min q (s.size - p) : Nat) : Int) := by omega
        have g4 : min q (s.size - p) ≤ s.size - p := Nat.min_le_right _ _
        have X1 := ext_ext s p (min q (s.size - p)) (by omega)
        rw [Nat.min_eq_left g4] at X1
        have hs3 : p + min q (s.size - p) ≤ s.size := by omega
        have hs2 : (s.extract p (p + min q (s.size - p))).size ≤ 200 := by rw [size_ext (by omega) hs3]; omega
        generalize min q (s.size - p) = y at *
        go_enter Try.func15, Try.ntmps15
        go_wp2_with fail
        refine (rlong _ _).mono ?_; rw [decide_eq_false hs]; rintro e w0 ⟨rfl, rfl⟩
        go_wp2_with fail
        all_goals
          refine (rof _ _).mono ?_
          rw [ofV_small hs2]; rintro e w1 ⟨rfl, hb1⟩
          obtain ⟨hc, hf⟩ := bcell hb1
          have hz := size_of hb1
          have hB := below_of hb1
          go_wp2
          refine bodyPost_ret (v := .agg #[.int .i64 3, .int .i64 0, .string (s.extract p (p + y))]) (by simp [results, Try.results15, go_sem, hc, nos, txtV]) rfl ⟨by rw [E.out]; try (first | rfl | simp [lngV, argV, nonV, txtV, nos]), ?_⟩
          repeat (first | with_reducible exact hB | with_reducible refine Below.setCell ?_ (by simp <;> omega) _ | with_reducible refine Below.alloc ?_ (by simp <;> omega) _)
set_option maxHeartbeats 1000000 in
set_option maxRecDepth 100000 in
theorem rLeft (s : ByteArray) (n : Int) (w : World) : Calls Try.prog 11 #[.string s, .int .i64 n] w (VPost (leftV s n) w) := by
  have hcall := rMid s 1 n
  unfold leftV
  generalize midV s 1 n = V at *
  go_enter Try.func11, Try.ntmps11
  go_wp2_with fail
  refine (hcall _ (by decide)).mono ?_; rintro e w1 ⟨rfl, hb1⟩
  obtain ⟨hc, hf⟩ := bcell hb1
  have hz := size_of hb1
  have hB := below_of hb1
  go_wp2
  refine bodyPost_ret (v := .agg #[.int .i64 V.k, .int .i64 V.n, .string V.s]) (by simp [results, Try.results11, go_sem, hc, nos, txtV]) rfl ⟨rfl, ?_⟩
  repeat (first | with_reducible exact hB | with_reducible refine Below.setCell ?_ (by simp <;> omega) _ | with_reducible refine Below.alloc ?_ (by simp <;> omega) _)
set_option maxHeartbeats 1000000 in
set_option maxRecDepth 100000 in
theorem rRight (s : ByteArray) (n : Int) (w : World) : Calls Try.prog 13 #[.string s, .int .i64 n] w (VPost (rightV s n) w) := by
  by_cases hs : 200 < s.size
  · have E : Hid (rightV s n = lngV) := Lib.hid (by unfold rightV; rw [if_pos hs])
    go_enter Try.func13, Try.ntmps13
    go_wp2_with fail
    refine (rlong _ _).mono ?_; rw [decide_eq_true hs]; rintro e w0 ⟨rfl, rfl⟩
    go_wp2_with fail
    refine (rfail 7 _).mono ?_; rw [failV_yes (by omega)]; rintro e w1 ⟨rfl, hb1⟩
    obtain ⟨hc, hf⟩ := bcell hb1
    have hz := size_of hb1
    have hB := below_of hb1
    go_wp2
    refine bodyPost_ret (v := .agg #[.int .i64 4, .int .i64 7, .string { data := #[] }]) (by simp [results, Try.results13, go_sem, hc, nos, txtV]) rfl ⟨by rw [E.out]; try (first | rfl | simp [lngV, argV, nonV, txtV, nos]), ?_⟩
    repeat (first | with_reducible exact hB | with_reducible refine Below.setCell ?_ (by simp <;> omega) _ | with_reducible refine Below.alloc ?_ (by simp <;> omega) _)
  · by_cases hn : n < 0
    · have E : Hid (rightV s n = argV) := Lib.hid (by unfold rightV; rw [if_neg hs, if_pos hn])
      go_enter Try.func13, Try.ntmps13
      go_wp2_with fail
      refine (rlong _ _).mono ?_; rw [decide_eq_false hs]; rintro e w0 ⟨rfl, rfl⟩
      go_wp2_with fail
      refine (rfail 5 _).mono ?_; rw [failV_yes (by omega)]; rintro e w1 ⟨rfl, hb1⟩
      obtain ⟨hc, hf⟩ := bcell hb1
      have hz := size_of hb1
      have hB := below_of hb1
      go_wp2
      refine bodyPost_ret (v := .agg #[.int .i64 4, .int .i64 5, .string { data := #[] }]) (by simp [results, Try.results13, go_sem, hc, nos, txtV]) rfl ⟨by rw [E.out]; try (first | rfl | simp [lngV, argV, nonV, txtV, nos]), ?_⟩
      repeat (first | with_reducible exact hB | with_reducible refine Below.setCell ?_ (by simp <;> omega) _ | with_reducible refine Below.alloc ?_ (by simp <;> omega) _)
    · obtain ⟨q, rfl⟩ : ∃ q : Nat, n = (q : Int) := ⟨n.toNat, by omega⟩
      have E : Hid (rightV s q = txtV (s.extract (s.size - min q s.size) s.size)) := Lib.hid (by unfold rightV; rw [if_neg hs, if_neg hn, Int.toNat_natCast])
      have hs2 : (s.extract (s.size - min q s.size) s.size).size ≤ 200 := by rw [size_ext (by omega) (by omega)]; omega
      have hm : q ≤ s.size ∨ s.size < q := by omega
      rcases hm with hm | hm
      · have g1 : (q : Int) ≤ (s.size : Int) := by omega
        have g2 : (s.size : Int) - (q : Int) = ((s.size - q : Nat) : Int) := by omega
        have mn : min (q : Int) (s.size : Int) = (q : Int) := by omega
        rw [Nat.min_eq_left hm] at E hs2
        go_enter Try.func13, Try.ntmps13
        go_wp2_with fail
        refine (rlong _ _).mono ?_; rw [decide_eq_false hs]; rintro e w0 ⟨rfl, rfl⟩
        go_wp2_with fail
        refine (rof _ _).mono ?_; rw [ofV_small hs2]; rintro e w1 ⟨rfl, hb1⟩
        obtain ⟨hc, hf⟩ := bcell hb1
        have hz := size_of hb1
        have hB := below_of hb1
        go_wp2
        refine bodyPost_ret (v := .agg #[.int .i64 3, .int .i64 0, .string (s.extract (s.size - q) s.size)]) (by simp [results, Try.results13, go_sem, hc, nos, txtV]) rfl ⟨by rw [E.out]; try (first | rfl | simp [lngV, argV, nonV, txtV, nos]), ?_⟩
        repeat (first | with_reducible exact hB | with_reducible refine Below.setCell ?_ (by simp <;> omega) _ | with_reducible refine Below.alloc ?_ (by simp <;> omega) _)
      · have g1 : ¬ (q : Int) ≤ (s.size : Int) := by omega
        rw [Nat.min_eq_right (by omega), Nat.sub_self, ext_all] at E hs2
        have mn : min (q : Int) (s.size : Int) = (s.size : Int) := by omega
        go_enter Try.func13, Try.ntmps13
        go_wp2_with fail
        refine (rlong _ _).mono ?_; rw [decide_eq_false hs]; rintro e w0 ⟨rfl, rfl⟩
        go_wp2_with fail
        refine (rof _ _).mono ?_; rw [ofV_small hs2]; rintro e w1 ⟨rfl, hb1⟩
        obtain ⟨hc, hf⟩ := bcell hb1
        have hz := size_of hb1
        have hB := below_of hb1
        go_wp2
        refine bodyPost_ret (v := .agg #[.int .i64 3, .int .i64 0, .string s]) (by simp [results, Try.results13, go_sem, hc, nos, txtV]) rfl ⟨by rw [E.out]; try (first | rfl | simp [lngV, argV, nonV, txtV, nos]), ?_⟩
        repeat (first | with_reducible exact hB | with_reducible refine Below.setCell ?_ (by simp <;> omega) _ | with_reducible refine Below.alloc ?_ (by simp <;> omega) _)
set_option maxHeartbeats 1000000 in
set_option maxRecDepth 100000 in
theorem rUpper (s : ByteArray) (w : World) : Calls Try.prog 19 #[.string s] w (VPost (upperV s) w) := by
  by_cases hs : 200 < s.size
  · have E : Hid (upperV s = lngV) := Lib.hid (by unfold upperV; rw [if_pos hs])
    go_enter Try.func19, Try.ntmps19
    go_wp2_with fail
    refine (rlong _ _).mono ?_; rw [decide_eq_true hs]; rintro e w0 ⟨rfl, rfl⟩
    go_wp2_with fail
    refine (rfail 7 _).mono ?_; rw [failV_yes (by omega)]; rintro e w1 ⟨rfl, hb1⟩
    obtain ⟨hc, hf⟩ := bcell hb1
    have hz := size_of hb1
    have hB := below_of hb1
    go_wp2
    refine bodyPost_ret (v := .agg #[.int .i64 4, .int .i64 7, .string { data := #[] }]) (by simp [results, Try.results19, go_sem, hc, nos, txtV]) rfl ⟨by rw [E.out]; try (first | rfl | simp [lngV, argV, nonV, txtV, nos]), ?_⟩
    repeat (first | with_reducible exact hB | with_reducible refine Below.setCell ?_ (by simp <;> omega) _ | with_reducible refine Below.alloc ?_ (by simp <;> omega) _)
  · have E : Hid (upperV s = txtV (str (upL s.data.toList))) := Lib.hid (by unfold upperV; rw [if_neg hs])
    have hs2 : (str (upL s.data.toList)).size ≤ 200 := by rw [up_size]; omega
    go_enter Try.func19, Try.ntmps19
    go_wp2_with fail
    refine (rlong _ _).mono ?_; rw [decide_eq_false hs]; rintro e w0 ⟨rfl, rfl⟩
    go_wp2_with fail
    refine (rupper s _ (by omega)).mono ?_; rintro e w1 ⟨rfl, hb0⟩
    generalize str (upL s.data.toList) = t at *
    go_wp2_with fail
    refine (rof _ _).mono ?_; rw [ofV_small hs2]; rintro e w2 ⟨rfl, hb2⟩
    have hb1 := hb0.trans (hb2.mono hb0.size)
    obtain ⟨hc, hf⟩ := bcell hb1
    have hz := size_of hb1
    have hB := below_of hb1
    go_wp2
    refine bodyPost_ret (v := .agg #[.int .i64 3, .int .i64 0, .string t]) (by simp [results, Try.results19, go_sem, hc, nos, txtV]) rfl ⟨by rw [E.out]; try (first | rfl | simp [lngV, argV, nonV, txtV, nos]), ?_⟩
    repeat (first | with_reducible exact hB | with_reducible refine Below.setCell ?_ (by simp <;> omega) _ | with_reducible refine Below.alloc ?_ (by simp <;> omega) _)
set_option maxHeartbeats 1000000 in
set_option maxRecDepth 100000 in
theorem rJoin (a b : ByteArray) (w : World) : Calls Try.prog 25 #[.string a, .string b] w (VPost (joinV a b) w) := by
  by_cases hs : 200 < a.size
  · have E : Hid (joinV a b = lngV) := Lib.hid (by unfold joinV; rw [if_pos (Or.inl hs)])
    go_enter Try.func25, Try.ntmps25
    go_wp2_with fail
    refine (rlong _ _).mono ?_; rw [decide_eq_true hs]; rintro e w0 ⟨rfl, rfl⟩
    go_wp2_with fail
    refine (rfail 7 _).mono ?_; rw [failV_yes (by omega)]; rintro e w1 ⟨rfl, hb1⟩
    obtain ⟨hc, hf⟩ := bcell hb1
    have hz := size_of hb1
    have hB := below_of hb1
    go_wp2
    refine bodyPost_ret (v := .agg #[.int .i64 4, .int .i64 7, .string { data := #[] }]) (by simp [results, Try.results25, go_sem, hc, nos, txtV]) rfl ⟨by rw [E.out]; try (first | rfl | simp [lngV, argV, nonV, txtV, nos]), ?_⟩
    repeat (first | with_reducible exact hB | with_reducible refine Below.setCell ?_ (by simp <;> omega) _ | with_reducible refine Below.alloc ?_ (by simp <;> omega) _)
  · by_cases ht : 200 < b.size
    · have E : Hid (joinV a b = lngV) := Lib.hid (by unfold joinV; rw [if_pos (Or.inr ht)])
      go_enter Try.func25, Try.ntmps25
      go_wp2_with fail
      refine (rlong _ _).mono ?_; rw [decide_eq_false hs]; rintro e w0 ⟨rfl, rfl⟩
      go_wp2_with fail
      refine (rlong _ _).mono ?_; rw [decide_eq_true ht]; rintro e w8 ⟨rfl, rfl⟩
      go_wp2_with fail
      refine (rfail 7 _).mono ?_; rw [failV_yes (by omega)]; rintro e w1 ⟨rfl, hb1⟩
      obtain ⟨hc, hf⟩ := bcell hb1
      have hz := size_of hb1
      have hB := below_of hb1
      go_wp2
      refine bodyPost_ret (v := .agg #[.int .i64 4, .int .i64 7, .string { data := #[] }]) (by simp [results, Try.results25, go_sem, hc, nos, txtV]) rfl ⟨by rw [E.out]; try (first | rfl | simp [lngV, argV, nonV, txtV, nos]), ?_⟩
      repeat (first | with_reducible exact hB | with_reducible refine Below.setCell ?_ (by simp <;> omega) _ | with_reducible refine Below.alloc ?_ (by simp <;> omega) _)
    · have E : Hid (joinV a b = ofV (a ++ b)) := Lib.hid (by unfold joinV; rw [if_neg (by omega)])
      go_enter Try.func25, Try.ntmps25
      go_wp2_with fail
      refine (rlong _ _).mono ?_; rw [decide_eq_false hs]; rintro e w0 ⟨rfl, rfl⟩
      go_wp2_with fail
      refine (rlong _ _).mono ?_; rw [decide_eq_false ht]; rintro e w8 ⟨rfl, rfl⟩
      go_wp2_with fail
      refine (rof _ _).mono ?_; skip; rintro e w1 ⟨rfl, hb1⟩
      obtain ⟨hc, hf⟩ := bcell hb1
      have hz := size_of hb1
      have hB := below_of hb1
      generalize ofV (a ++ b) = V at *
      go_wp2
      refine bodyPost_ret (v := .agg #[.int .i64 V.k, .int .i64 V.n, .string V.s]) (by simp [results, Try.results25, go_sem, hc, nos, txtV]) rfl ⟨by rw [E.out]; try (first | rfl | simp [lngV, argV, nonV, txtV, nos]), ?_⟩
      repeat (first | with_reducible exact hB | with_reducible refine Below.setCell ?_ (by simp <;> omega) _ | with_reducible refine Below.alloc ?_ (by simp <;> omega) _)
set_option maxHeartbeats 1000000 in
set_option maxRecDepth 100000 in
theorem rLen (s : ByteArray) (w : World) : Calls Try.prog 27 #[.string s] w (VPost (lenV s) w) := by
  by_cases hs : 200 < s.size
  · have E : Hid (lenV s = lngV) := Lib.hid (by unfold lenV; rw [if_pos hs])
    go_enter Try.func27, Try.ntmps27
    go_wp2_with fail
    refine (rlong _ _).mono ?_; rw [decide_eq_true hs]; rintro e w0 ⟨rfl, rfl⟩
    go_wp2_with fail
    refine (rfail 7 _).mono ?_; rw [failV_yes (by omega)]; rintro e w1 ⟨rfl, hb1⟩
    obtain ⟨hc, hf⟩ := bcell hb1
    have hz := size_of hb1
    have hB := below_of hb1
    go_wp2
    refine bodyPost_ret (v := .agg #[.int .i64 4, .int .i64 7, .string { data := #[] }]) (by simp [results, Try.results27, go_sem, hc, nos, txtV]) rfl ⟨by rw [E.out]; try (first | rfl | simp [lngV, argV, nonV, txtV, nos]), ?_⟩
    repeat (first | with_reducible exact hB | with_reducible refine Below.setCell ?_ (by simp <;> omega) _ | with_reducible refine Below.alloc ?_ (by simp <;> omega) _)
  · have E : Hid (lenV s = ⟨2, s.size, nos⟩) := Lib.hid (by unfold lenV; rw [if_neg hs])
    go_enter Try.func27, Try.ntmps27
    go_wp2_with fail
    refine (rlong _ _).mono ?_; rw [decide_eq_false hs]; rintro e w0 ⟨rfl, rfl⟩
    go_wp2_with fail
    refine (rnum _ _).mono ?_; skip; rintro e w1 ⟨rfl, hb1⟩
    obtain ⟨hc, hf⟩ := bcell hb1
    have hz := size_of hb1
    have hB := below_of hb1
    go_wp2
    refine bodyPost_ret (v := .agg #[.int .i64 2, .int .i64 (s.size : Int), .string { data := #[] }]) (by simp [results, Try.results27, go_sem, hc, nos, txtV]) rfl ⟨by rw [E.out]; try (first | rfl | simp [lngV, argV, nonV, txtV, nos]), ?_⟩
    repeat (first | with_reducible exact hB | with_reducible refine Below.setCell ?_ (by simp <;> omega) _ | with_reducible refine Below.alloc ?_ (by simp <;> omega) _)
end Go.Proofs.Ytgkabngpekokaaa.TextC
