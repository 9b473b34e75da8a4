/-
  Contracts of package text's nine functions.
-/
import Derived.Test.YtgkabngpekokaaaTextZ1
import Derived.Test.YtgkabngpekokaaaTextP
namespace Go.Proofs.Ytgkabngpekokaaa.TextC
set_option linter.unusedVariables false
set_option linter.unusedSimpArgs false
open Go.RowKit Go.Proofs.Ytgkabngpekokaaa.NumC
open Go.Proofs.Ytgkabngpekokaaa.ValueC (Val failV failV_yes ofV nos)
open Go.Proofs.Ytgkabngpekokaaa.LexC (upC upL str Soft add_off)

set_option maxHeartbeats 1000000 in
set_option maxRecDepth 100000 in
theorem cMid_long (s : ByteArray) (a n : Int) (w : World) (hs : 200 < s.size) : Calls Try.prog 14 #[.string s, .int .i64 a, .int .i64 n] w (VPost (midV s a n) w) := by
  have E := Lib.hid (mid_long (a := a) (n := n) hs)
  by_cases h1 : a < 1
  · have d1 : decide (1 ≤ a) = false := decide_eq_false (by omega)
    go_enter Try.func14, Try.ntmps14
    go_wp2_with fail
    refine (cbarred _ _ _).mono ?_; rw [bar_long (by omega)]; rintro e w0 ⟨rfl, rfl⟩
    go_wp2_with fail
    refine (ValueC.fail 7 _).mono ?_; rw [failV_yes (by omega)]; rintro e w1 ⟨rfl, hb1⟩
    obtain ⟨hc, hf⟩ := bcell hb1
    have hz := size_of hb1
    have hB := below_of hb1
    go_wp2
    refine bodyPost_ret (v := .agg #[.int .i64 4, .int .i64 7, .string { data := #[] }]) (by simp [results, Try.results14, go_sem, hc, nos, txtV, lngV, argV, nonV]) rfl ⟨by rw [E.out]; try (first | rfl | simp [lngV, argV, nonV, txtV, nos]), ?_⟩
    repeat (first | with_reducible exact hB | with_reducible refine Below.setCell ?_ (by simp <;> omega) _ | with_reducible refine Below.alloc ?_ (by simp <;> omega) _)
  · by_cases h2 : n < 0
    · have d1 : decide (1 ≤ a) = true := decide_eq_true (by omega)
      have d2 : decide (0 ≤ n) = false := decide_eq_false (by omega)
      go_enter Try.func14, Try.ntmps14
      go_wp2_with fail
      refine (cbarred _ _ _).mono ?_; rw [bar_long (by omega)]; rintro e w0 ⟨rfl, rfl⟩
      go_wp2_with fail
      refine (ValueC.fail 7 _).mono ?_; rw [failV_yes (by omega)]; rintro e w1 ⟨rfl, hb1⟩
      obtain ⟨hc, hf⟩ := bcell hb1
      have hz := size_of hb1
      have hB := below_of hb1
      go_wp2
      refine bodyPost_ret (v := .agg #[.int .i64 4, .int .i64 7, .string { data := #[] }]) (by simp [results, Try.results14, go_sem, hc, nos, txtV, lngV, argV, nonV]) rfl ⟨by rw [E.out]; try (first | rfl | simp [lngV, argV, nonV, txtV, nos]), ?_⟩
      repeat (first | with_reducible exact hB | with_reducible refine Below.setCell ?_ (by simp <;> omega) _ | with_reducible refine Below.alloc ?_ (by simp <;> omega) _)
    · have d1 : decide (1 ≤ a) = true := decide_eq_true (by omega)
      have d2 : decide (0 ≤ n) = true := decide_eq_true (by omega)
      go_enter Try.func14, Try.ntmps14
      go_wp2_with fail
      refine (cbarred _ _ _).mono ?_; rw [bar_long (by omega)]; rintro e w0 ⟨rfl, rfl⟩
      go_wp2_with fail
      refine (ValueC.fail 7 _).mono ?_; rw [failV_yes (by omega)]; rintro e w1 ⟨rfl, hb1⟩
      obtain ⟨hc, hf⟩ := bcell hb1
      have hz := size_of hb1
      have hB := below_of hb1
      go_wp2
      refine bodyPost_ret (v := .agg #[.int .i64 4, .int .i64 7, .string { data := #[] }]) (by simp [results, Try.results14, go_sem, hc, nos, txtV, lngV, argV, nonV]) rfl ⟨by rw [E.out]; try (first | rfl | simp [lngV, argV, nonV, txtV, nos]), ?_⟩
      repeat (first | with_reducible exact hB | with_reducible refine Below.setCell ?_ (by simp <;> omega) _ | with_reducible refine Below.alloc ?_ (by simp <;> omega) _)
set_option maxHeartbeats 1000000 in
set_option maxRecDepth 100000 in
theorem cMid_arg (s : ByteArray) (a n : Int) (w : World) (hs : ¬ 200 < s.size) (h : a < 1 ∨ n < 0) : Calls Try.prog 14 #[.string s, .int .i64 a, .int .i64 n] w (VPost (midV s a n) w) := by
  have E := Lib.hid (mid_arg hs h)
  by_cases h1 : a < 1
  · have d1 : decide (1 ≤ a) = false := decide_eq_false (by omega)
    go_enter Try.func14, Try.ntmps14
    go_wp2_with fail
    refine (cbarred _ _ _).mono ?_; rw [bar_arg (by omega)]; rintro e w0 ⟨rfl, rfl⟩
    go_wp2_with fail
    refine (ValueC.fail 5 _).mono ?_; rw [failV_yes (by omega)]; rintro e w1 ⟨rfl, hb1⟩
    obtain ⟨hc, hf⟩ := bcell hb1
    have hz := size_of hb1
    have hB := below_of hb1
    go_wp2
    refine bodyPost_ret (v := .agg #[.int .i64 4, .int .i64 5, .string { data := #[] }]) (by simp [results, Try.results14, go_sem, hc, nos, txtV, lngV, argV, nonV]) rfl ⟨by rw [E.out]; try (first | rfl | simp [lngV, argV, nonV, txtV, nos]), ?_⟩
    repeat (first | with_reducible exact hB | with_reducible refine Below.setCell ?_ (by simp <;> omega) _ | with_reducible refine Below.alloc ?_ (by simp <;> omega) _)
  · by_cases h2 : n < 0
    · have d1 : decide (1 ≤ a) = true := decide_eq_true (by omega)
      have d2 : decide (0 ≤ n) = false := decide_eq_false (by omega)
      go_enter Try.func14, Try.ntmps14
      go_wp2_with fail
      refine (cbarred _ _ _).mono ?_; rw [bar_arg (by omega)]; rintro e w0 ⟨rfl, rfl⟩
      go_wp2_with fail
      refine (ValueC.fail 5 _).mono ?_; rw [failV_yes (by omega)]; rintro e w1 ⟨rfl, hb1⟩
      obtain ⟨hc, hf⟩ := bcell hb1
      have hz := size_of hb1
      have hB := below_of hb1
      go_wp2
      refine bodyPost_ret (v := .agg #[.int .i64 4, .int .i64 5, .string { data := #[] }]) (by simp [results, Try.results14, go_sem, hc, nos, txtV, lngV, argV, nonV]) rfl ⟨by rw [E.out]; try (first | rfl | simp [lngV, argV, nonV, txtV, nos]), ?_⟩
      repeat (first | with_reducible exact hB | with_reducible refine Below.setCell ?_ (by simp <;> omega) _ | with_reducible refine Below.alloc ?_ (by simp <;> omega) _)
    · exact absurd h (by omega)
set_option maxHeartbeats 1000000 in
set_option maxRecDepth 100000 in
theorem cMid (s : ByteArray) (a n : Int) (w : World) (ha : -9223372036854775808 ≤ a ∧ a ≤ 9223372036854775807) : Calls Try.prog 14 #[.string s, .int .i64 a, .int .i64 n] w (VPost (midV s a n) w) := by
  by_cases hs : 200 < s.size
  · exact cMid_long s a n w hs
  by_cases h : a < 1 ∨ n < 0
  · exact cMid_arg s a n w hs h
  obtain ⟨p, rfl⟩ : ∃ p : Nat, a = (p : Int) + 1 := ⟨(a - 1).toNat, by omega⟩
  obtain ⟨q, rfl⟩ : ∃ q : Nat, n = (q : Int) := ⟨n.toNat, by omega⟩
  have E := Lib.hid (rest_of s p q (by omega))
  have g3 : IntKind.i64.wrap (p : Int) = (p : Int) := by rw [IntKind.wrap_i64]; omega
  have d1 : decide (1 ≤ (p : Int) + 1) = true := decide_eq_true (by omega)
  have d2 : decide (0 ≤ (q : Int)) = true := decide_eq_true (by omega)
  have W1 := Lib.hid (fun W => cwithin p q s.size W (by omega) (by omega))
  have l1 : min p s.size ≤ min p s.size + min q (s.size - min p s.size) := by omega
  have l2 : min p s.size + min q (s.size - min p s.size) ≤ s.size := by omega
  generalize min p s.size + min q (s.size - min p s.size) = hi at *
  generalize min p s.size = lo at *
  have hsz : (s.extract lo hi).size ≤ 200 := by rw [size_ext l1 l2]; omega
  have l3 : (lo : Int) ≤ (hi : Int) := by omega
  have l4 : (hi : Int) ≤ (s.size : Int) := by omega
  clear h ha
  go_enter Try.func14, Try.ntmps14
  go_wp2_with fail
  refine (cbarred _ _ _).mono ?_; rw [bar_ok (by omega)]; rintro e w0 ⟨rfl, rfl⟩
  go_wp2_with fail
  refine (W1.out _).mono ?_; rintro e w9 ⟨rfl, rfl⟩
  go_wp2_with fail
  refine (ValueC.of (s.extract lo hi) _).mono ?_; rw [ofV_small hsz]; rintro e w1 ⟨rfl, hb1⟩
  obtain ⟨hc, hf⟩ := bcell hb1
  have hz := size_of hb1
  have hB := below_of hb1
  go_wp2
  refine bodyPost_ret (v := .agg #[.int .i64 3, .int .i64 0, .string (s.extract lo hi)]) (by simp [results, Try.results14, go_sem, hc, nos, txtV, lngV, argV, nonV]) rfl ⟨by rw [E.out]; try (first | rfl | simp [lngV, argV, nonV, txtV, nos]), ?_⟩
  repeat (first | with_reducible exact hB | with_reducible refine Below.setCell ?_ (by simp <;> omega) _ | with_reducible refine Below.alloc ?_ (by simp <;> omega) _)
set_option maxHeartbeats 1000000 in
set_option maxRecDepth 100000 in
theorem cLeft (s : ByteArray) (n : Int) (w : World) : Calls Try.prog 10 #[.string s, .int .i64 n] w (VPost (leftV s n) w) := by
  have hcall := cMid s 1 n
  unfold leftV
  generalize midV s 1 n = V at *
  go_enter Try.func10, Try.ntmps10
  go_wp2_with fail
  refine (hcall _ (by decide)).mono ?_; rintro e w1 ⟨rfl, hb1⟩
  obtain ⟨hc, hf⟩ := bcell hb1
  have hz := size_of hb1
  have hB := below_of hb1
  go_wp2
  refine bodyPost_ret (v := .agg #[.int .i64 V.k, .int .i64 V.n, .string V.s]) (by simp [results, Try.results10, go_sem, hc, nos, txtV, lngV, argV, nonV]) rfl ⟨rfl, ?_⟩
  repeat (first | with_reducible exact hB | with_reducible refine Below.setCell ?_ (by simp <;> omega) _ | with_reducible refine Below.alloc ?_ (by simp <;> omega) _)
set_option maxHeartbeats 1000000 in
set_option maxRecDepth 100000 in
theorem cRight (s : ByteArray) (n : Int) (w : World) : Calls Try.prog 12 #[.string s, .int .i64 n] w (VPost (rightV s n) w) := by
  by_cases hs : 200 < s.size
  · have hcall := fun a W => cMid_long s a n W hs
    have E := Lib.hid (right_long (n := n) hs)
    simp only [mid_long hs] at hcall
    generalize hm : min n (s.size : Int) = m
    go_enter Try.func12, Try.ntmps12
    go_wp2_with fail
    refine (hcall _ _).mono ?_; rintro e w1 ⟨rfl, hb1⟩
    obtain ⟨hc, hf⟩ := bcell hb1
    have hz := size_of hb1
    have hB := below_of hb1
    go_wp2
    refine bodyPost_ret (v := .agg #[.int .i64 4, .int .i64 7, .string { data := #[] }]) (by simp [results, Try.results12, go_sem, hc, nos, txtV, lngV, argV, nonV]) rfl ⟨by rw [E.out]; try (first | rfl | simp [lngV, argV, nonV, txtV, nos]), ?_⟩
    repeat (first | with_reducible exact hB | with_reducible refine Below.setCell ?_ (by simp <;> omega) _ | with_reducible refine Below.alloc ?_ (by simp <;> omega) _)
  by_cases hn : n < 0
  · have hcall := fun a W => cMid_arg s a n W hs (Or.inr hn)
    have E := Lib.hid (right_arg hs hn)
    have E2 : ∀ a, midV s a n = argV := fun a => mid_arg hs (Or.inr hn)
    simp only [E2] at hcall
    clear E2
    go_enter Try.func12, Try.ntmps12
    go_wp2_with fail
    refine (hcall _ _).mono ?_; rintro e w1 ⟨rfl, hb1⟩
    obtain ⟨hc, hf⟩ := bcell hb1
    have hz := size_of hb1
    have hB := below_of hb1
    go_wp2
    refine bodyPost_ret (v := .agg #[.int .i64 4, .int .i64 5, .string { data := #[] }]) (by simp [results, Try.results12, go_sem, hc, nos, txtV, lngV, argV, nonV]) rfl ⟨by rw [E.out]; try (first | rfl | simp [lngV, argV, nonV, txtV, nos]), ?_⟩
    repeat (first | with_reducible exact hB | with_reducible refine Below.setCell ?_ (by simp <;> omega) _ | with_reducible refine Below.alloc ?_ (by simp <;> omega) _)
  obtain ⟨q, rfl⟩ : ∃ q : Nat, n = (q : Int) := ⟨n.toNat, by omega⟩
  have E := right_mid s q hs
  have hcall := cMid s (((s.size - min q s.size : Nat) : Int) + 1) q
  rw [← E] at hcall
  have m0 : min (q : Int) (s.size : Int) = ((min q s.size : Nat) : Int) := by omega
  have m1 : IntKind.i64.wrap ((s.size : Int) - ((min q s.size : Nat) : Int)) = ((s.size - min q s.size : Nat) : Int) := by rw [IntKind.wrap_i64]; omega
  have m2 : IntKind.i64.wrap (((s.size - min q s.size : Nat) : Int) + 1) = ((s.size - min q s.size : Nat) : Int) + 1 := by rw [IntKind.wrap_i64]; omega
  have m3 : s.size - min q s.size ≤ 200 := by omega
  generalize rightV s q = V at *
  generalize s.size - min q s.size = d at *
  generalize min q s.size = m at *
  clear E hn
  go_enter Try.func12, Try.ntmps12
  go_wp2_with fail
  refine (hcall _ (by omega)).mono ?_; rintro e w1 ⟨rfl, hb1⟩
  obtain ⟨hc, hf⟩ := bcell hb1
  have hz := size_of hb1
  have hB := below_of hb1
  go_wp2
  refine bodyPost_ret (v := .agg #[.int .i64 V.k, .int .i64 V.n, .string V.s]) (by simp [results, Try.results12, go_sem, hc, nos, txtV, lngV, argV, nonV]) rfl ⟨rfl, ?_⟩
  repeat (first | with_reducible exact hB | with_reducible refine Below.setCell ?_ (by simp <;> omega) _ | with_reducible refine Below.alloc ?_ (by simp <;> omega) _)
/-- What the search reads: its variable holds some number. -/
abbrev MaxIs (w : World) (m : Int) : Prop := w.cell? ⟨0, 0, none⟩ = some (.int .i64 m)
set_option maxHeartbeats 1000000 in
set_option maxRecDepth 100000 in
theorem cFind (t s : ByteArray) (a : Int) (w : World) (ha : -9223372036854775808 ≤ a ∧ a ≤ 9223372036854775807) {m : Int} (hM : MaxIs w m) : Calls Try.prog 16 #[.string t, .string s, .int .i64 a] w (VPost (findV t s a) w) := by
  by_cases hl : 200 < t.size ∨ 200 < s.size
  · have E := Lib.hid (find_long (a := a) hl)
    have hl2 : 200 < max (t.size : Int) (s.size : Int) := by omega
    by_cases h1 : a < 1
    · have d1 : decide (1 ≤ a) = false := decide_eq_false (by omega)
      go_enter Try.func16, Try.ntmps16
      go_wp2_with fail
      refine (cbarred _ _ _).mono ?_; rw [bar_long (by omega)]; rintro e w0 ⟨rfl, rfl⟩
      go_wp2_with fail
      refine (ValueC.fail 7 _).mono ?_; rw [failV_yes (by omega)]; rintro e w1 ⟨rfl, hb1⟩
      obtain ⟨hc, hf⟩ := bcell hb1
      have hz := size_of hb1
      have hB := below_of hb1
      go_wp2
      refine bodyPost_ret (v := .agg #[.int .i64 4, .int .i64 7, .string { data := #[] }]) (by simp [results, Try.results16, go_sem, hc, nos, txtV, lngV, argV, nonV]) rfl ⟨by rw [E.out]; try (first | rfl | simp [lngV, argV, nonV, txtV, nos]), ?_⟩
      repeat (first | with_reducible exact hB | with_reducible refine Below.setCell ?_ (by simp <;> omega) _ | with_reducible refine Below.alloc ?_ (by simp <;> omega) _)
    · have d1 : decide (1 ≤ a) = true := decide_eq_true (by omega)
      go_enter Try.func16, Try.ntmps16
      go_wp2_with fail
      refine (cbarred _ _ _).mono ?_; rw [bar_long (by omega)]; rintro e w0 ⟨rfl, rfl⟩
      go_wp2_with fail
      refine (ValueC.fail 7 _).mono ?_; rw [failV_yes (by omega)]; rintro e w1 ⟨rfl, hb1⟩
      obtain ⟨hc, hf⟩ := bcell hb1
      have hz := size_of hb1
      have hB := below_of hb1
      go_wp2
      refine bodyPost_ret (v := .agg #[.int .i64 4, .int .i64 7, .string { data := #[] }]) (by simp [results, Try.results16, go_sem, hc, nos, txtV, lngV, argV, nonV]) rfl ⟨by rw [E.out]; try (first | rfl | simp [lngV, argV, nonV, txtV, nos]), ?_⟩
      repeat (first | with_reducible exact hB | with_reducible refine Below.setCell ?_ (by simp <;> omega) _ | with_reducible refine Below.alloc ?_ (by simp <;> omega) _)
  · have hl2 : ¬ 200 < max (t.size : Int) (s.size : Int) := by omega
    by_cases h1 : a < 1
    · have E := Lib.hid (find_arg hl h1)
      have d1 : decide (1 ≤ a) = false := decide_eq_false (by omega)
      go_enter Try.func16, Try.ntmps16
      go_wp2_with fail
      refine (cbarred _ _ _).mono ?_; rw [bar_arg (by omega)]; rintro e w0 ⟨rfl, rfl⟩
      go_wp2_with fail
      refine (ValueC.fail 5 _).mono ?_; rw [failV_yes (by omega)]; rintro e w1 ⟨rfl, hb1⟩
      obtain ⟨hc, hf⟩ := bcell hb1
      have hz := size_of hb1
      have hB := below_of hb1
      go_wp2
      refine bodyPost_ret (v := .agg #[.int .i64 4, .int .i64 5, .string { data := #[] }]) (by simp [results, Try.results16, go_sem, hc, nos, txtV, lngV, argV, nonV]) rfl ⟨by rw [E.out]; try (first | rfl | simp [lngV, argV, nonV, txtV, nos]), ?_⟩
      repeat (first | with_reducible exact hB | with_reducible refine Below.setCell ?_ (by simp <;> omega) _ | with_reducible refine Below.alloc ?_ (by simp <;> omega) _)
    have d1 : decide (1 ≤ a) = true := decide_eq_true (by omega)
    have u1 : IntKind.i64.wrap ((s.size : Int) + 1) = (s.size : Int) + 1 := by rw [IntKind.wrap_i64]; omega
    by_cases h2 : (s.size : Int) + 1 < a
    · have E := Lib.hid (find_behind hl h1 h2)
      have d2 : decide ((s.size : Int) + 1 < a) = true := decide_eq_true h2
      go_enter Try.func16, Try.ntmps16
      go_wp2_with fail
      refine (cbarred _ _ _).mono ?_; rw [bar_ok (by omega)]; rintro e w0 ⟨rfl, rfl⟩
      go_wp2_with fail
      refine (ValueC.fail 8 _).mono ?_; rw [failV_yes (by omega)]; rintro e w1 ⟨rfl, hb1⟩
      obtain ⟨hc, hf⟩ := bcell hb1
      have hz := size_of hb1
      have hB := below_of hb1
      go_wp2
      refine bodyPost_ret (v := .agg #[.int .i64 4, .int .i64 8, .string { data := #[] }]) (by simp [results, Try.results16, go_sem, hc, nos, txtV, lngV, argV, nonV]) rfl ⟨by rw [E.out]; try (first | rfl | simp [lngV, argV, nonV, txtV, nos]), ?_⟩
      repeat (first | with_reducible exact hB | with_reducible refine Below.setCell ?_ (by simp <;> omega) _ | with_reducible refine Below.alloc ?_ (by simp <;> omega) _)
    obtain ⟨p, rfl⟩ : ∃ p : Nat, a = (p : Int) + 1 := ⟨(a - 1).toNat, by omega⟩
    have hps : p ≤ s.size := by omega
    have d2 : decide ((s.size : Int) + 1 < (p : Int) + 1) = false := decide_eq_false (by omega)
    have g1 : (p : Int) ≤ (s.size : Int) := by omega
    have g3 : IntKind.i64.wrap (p : Int) = (p : Int) := by rw [IntKind.wrap_i64]; omega
    have hx := index_first (what := t) (s := s) hps
    have sz : (s.extract p s.size).size < 4294967281 := by rw [size_ext hps (Nat.le_refl _)]; omega
    have S := fun W (h : MaxIs W m) => Try.strings_Index (s.extract p s.size) t m W sz h
    have hM2 : MaxIs (w.alloc (.cells #[.int .i64 0, .int .i64 0, .string { data := #[] }] 25)) m := by
      have hb : Below w.heap.size w (w.alloc (.cells #[.int .i64 0, .int .i64 0, .string { data := #[] }] 25)) := (Below.refl _ _).alloc (Nat.le_refl _) _
      exact cell_later hb hM
    cases hf : firstN t s (s.size + 1 - p) p with
    | none =>
      have E := Lib.hid (find_none (what := t) (s := s) (p := p) (by omega) (by omega) hps hf)
      rw [hf] at hx
      simp only [hx] at S
      clear hf hx sz ha hl
      go_enter Try.func16, Try.ntmps16
      go_wp2_with fail
      refine (cbarred _ _ _).mono ?_; rw [bar_ok (by omega)]; rintro e w0 ⟨rfl, rfl⟩
      go_wp2_with fail
      refine (S _ hM2).mono ?_; rintro e w9 ⟨rfl, rfl⟩
      go_wp2_with fail
      refine (ValueC.fail 8 _).mono ?_; rw [failV_yes (by omega)]; rintro e w1 ⟨rfl, hb1⟩
      obtain ⟨hc, hf⟩ := bcell hb1
      have hz := size_of hb1
      have hB := below_of hb1
      go_wp2
      refine bodyPost_ret (v := .agg #[.int .i64 4, .int .i64 8, .string { data := #[] }]) (by simp [results, Try.results16, go_sem, hc, nos, txtV, lngV, argV, nonV]) rfl ⟨by rw [E.out]; try (first | rfl | simp [lngV, argV, nonV, txtV, nos]), ?_⟩
      repeat (first | with_reducible exact hB | with_reducible refine Below.setCell ?_ (by simp <;> omega) _ | with_reducible refine Below.alloc ?_ (by simp <;> omega) _)
    | some k =>
      have E := Lib.hid (find_place (what := t) (s := s) (p := p) (by omega) (by omega) hps hf)
      obtain ⟨k1, k2, -, -⟩ := firstN_some _ _ _ hf
      rw [hf] at hx
      simp only [hx] at S
      have e1 : IntKind.i64.wrap ((p : Int) + 1 + ((k - p : Nat) : Int)) = (k : Int) + 1 := by rw [IntKind.wrap_i64]; omega
      have e2 : ¬ ((k - p : Nat) : Int) < 0 := by omega
      generalize ((k - p : Nat) : Int) = j at *
      clear hf hx sz ha hl
      go_enter Try.func16, Try.ntmps16
      go_wp2_with fail
      refine (cbarred _ _ _).mono ?_; rw [bar_ok (by omega)]; rintro e w0 ⟨rfl, rfl⟩
      go_wp2_with fail
      refine (S _ hM2).mono ?_; rintro e w9 ⟨rfl, rfl⟩
      go_wp2_with fail
      refine (cwhole ((k : Int) + 1) _).mono ?_; rintro e w1 ⟨rfl, hb1⟩
      obtain ⟨hc, hf⟩ := bcell hb1
      have hz := size_of hb1
      have hB := below_of hb1
      go_wp2
      refine bodyPost_ret (v := .agg #[.int .i64 2, .int .i64 ((k : Int) + 1), .string { data := #[] }]) (by simp [results, Try.results16, go_sem, hc, nos, txtV, lngV, argV, nonV]) rfl ⟨by rw [E.out]; try (first | rfl | simp [lngV, argV, nonV, txtV, nos]), ?_⟩
      repeat (first | with_reducible exact hB | with_reducible refine Below.setCell ?_ (by simp <;> omega) _ | with_reducible refine Below.alloc ?_ (by simp <;> omega) _)
theorem turn_up (c : UInt8) : (97 ≤ c.toNat ∧ c.toNat ≤ 122 → c ^^^ 32 = upC c) ∧ (¬ (97 ≤ c.toNat ∧ c.toNat ≤ 122) → upC c = c) := by
  have key : ∀ n : Fin 256, (97 ≤ (UInt8.ofNat n.val).toNat ∧ (UInt8.ofNat n.val).toNat ≤ 122 → UInt8.ofNat n.val ^^^ 32 = upC (UInt8.ofNat n.val)) ∧ (¬ (97 ≤ (UInt8.ofNat n.val).toNat ∧ (UInt8.ofNat n.val).toNat ≤ 122) → upC (UInt8.ofNat n.val) = UInt8.ofNat n.val) := by decide +kernel
  have := key ⟨c.toNat, c.toNat_lt⟩
  simpa only [UInt8.ofNat_toNat] using this
set_option maxHeartbeats 1000000 in
set_option maxRecDepth 100000 in
theorem cUpper (s : ByteArray) (w : World) : Calls Try.prog 18 #[.string s] w (VPost (upperV s) w) := by
  have hcall := fun W => cturned upC 97 122 s W turn_up
  change ∀ W, Calls Try.prog 39 #[.string s, .int .u8 97, .int .u8 122] W (VPost (upperV s) W) at hcall
  generalize upperV s = V at *
  go_enter Try.func18, Try.ntmps18
  go_wp2_with fail
  refine (hcall _).mono ?_; rintro e w1 ⟨rfl, hb1⟩
  obtain ⟨hc, hf⟩ := bcell hb1
  have hz := size_of hb1
  have hB := below_of hb1
  go_wp2
  refine bodyPost_ret (v := .agg #[.int .i64 V.k, .int .i64 V.n, .string V.s]) (by simp [results, Try.results18, go_sem, hc, nos, txtV, lngV, argV, nonV]) rfl ⟨rfl, ?_⟩
  repeat (first | with_reducible exact hB | with_reducible refine Below.setCell ?_ (by simp <;> omega) _ | with_reducible refine Below.alloc ?_ (by simp <;> omega) _)
theorem turn_lo (c : UInt8) : (65 ≤ c.toNat ∧ c.toNat ≤ 90 → c ^^^ 32 = loC c) ∧ (¬ (65 ≤ c.toNat ∧ c.toNat ≤ 90) → loC c = c) := by
  have key : ∀ n : Fin 256, (65 ≤ (UInt8.ofNat n.val).toNat ∧ (UInt8.ofNat n.val).toNat ≤ 90 → UInt8.ofNat n.val ^^^ 32 = loC (UInt8.ofNat n.val)) ∧ (¬ (65 ≤ (UInt8.ofNat n.val).toNat ∧ (UInt8.ofNat n.val).toNat ≤ 90) → loC (UInt8.ofNat n.val) = UInt8.ofNat n.val) := by decide +kernel
  have := key ⟨c.toNat, c.toNat_lt⟩
  simpa only [UInt8.ofNat_toNat] using this
set_option maxHeartbeats 1000000 in
set_option maxRecDepth 100000 in
theorem cLower (s : ByteArray) (w : World) : Calls Try.prog 20 #[.string s] w (VPost (lowerV s) w) := by
  have hcall := fun W => cturned loC 65 90 s W turn_lo
  change ∀ W, Calls Try.prog 39 #[.string s, .int .u8 65, .int .u8 90] W (VPost (lowerV s) W) at hcall
  generalize lowerV s = V at *
  go_enter Try.func20, Try.ntmps20
  go_wp2_with fail
  refine (hcall _).mono ?_; rintro e w1 ⟨rfl, hb1⟩
  obtain ⟨hc, hf⟩ := bcell hb1
  have hz := size_of hb1
  have hB := below_of hb1
  go_wp2
  refine bodyPost_ret (v := .agg #[.int .i64 V.k, .int .i64 V.n, .string V.s]) (by simp [results, Try.results20, go_sem, hc, nos, txtV, lngV, argV, nonV]) rfl ⟨rfl, ?_⟩
  repeat (first | with_reducible exact hB | with_reducible refine Below.setCell ?_ (by simp <;> omega) _ | with_reducible refine Below.alloc ?_ (by simp <;> omega) _)
set_option maxHeartbeats 1000000 in
set_option maxRecDepth 100000 in
theorem cRepeat (s : ByteArray) (n : Int) (w : World) (hn0 : -9223372036854775808 ≤ n ∧ n ≤ 9223372036854775807) : Calls Try.prog 22 #[.string s, .int .i64 n] w (VPost (repeatV s n) w) := by
  by_cases hs : 200 < s.size
  · have E : Hid (repeatV s n = lngV) := Lib.hid (by unfold repeatV; rw [if_pos hs])
    by_cases h2 : n < 0
    · have d2 : decide (0 ≤ n) = false := decide_eq_false (by omega)
      go_enter Try.func22, Try.ntmps22
      go_wp2_with fail
      refine (cbarred _ _ _).mono ?_; rw [bar_long (by omega)]; rintro e w0 ⟨rfl, rfl⟩
      go_wp2_with fail
      refine (ValueC.fail 7 _).mono ?_; rw [failV_yes (by omega)]; rintro e w1 ⟨rfl, hb1⟩
      obtain ⟨hc, hf⟩ := bcell hb1
      have hz := size_of hb1
      have hB := below_of hb1
      go_wp2
      refine bodyPost_ret (v := .agg #[.int .i64 4, .int .i64 7, .string { data := #[] }]) (by simp [results, Try.results22, go_sem, hc, nos, txtV, lngV, argV, nonV]) rfl ⟨by rw [E.out]; try (first | rfl | simp [lngV, argV, nonV, txtV, nos]), ?_⟩
      repeat (first | with_reducible exact hB | with_reducible refine Below.setCell ?_ (by simp <;> omega) _ | with_reducible refine Below.alloc ?_ (by simp <;> omega) _)
    · have d2 : decide (0 ≤ n) = true := decide_eq_true (by omega)
      go_enter Try.func22, Try.ntmps22
      go_wp2_with fail
      refine (cbarred _ _ _).mono ?_; rw [bar_long (by omega)]; rintro e w0 ⟨rfl, rfl⟩
      go_wp2_with fail
      refine (ValueC.fail 7 _).mono ?_; rw [failV_yes (by omega)]; rintro e w1 ⟨rfl, hb1⟩
      obtain ⟨hc, hf⟩ := bcell hb1
      have hz := size_of hb1
      have hB := below_of hb1
      go_wp2
      refine bodyPost_ret (v := .agg #[.int .i64 4, .int .i64 7, .string { data := #[] }]) (by simp [results, Try.results22, go_sem, hc, nos, txtV, lngV, argV, nonV]) rfl ⟨by rw [E.out]; try (first | rfl | simp [lngV, argV, nonV, txtV, nos]), ?_⟩
      repeat (first | with_reducible exact hB | with_reducible refine Below.setCell ?_ (by simp <;> omega) _ | with_reducible refine Below.alloc ?_ (by simp <;> omega) _)
  by_cases h2 : n < 0
  · have E : Hid (repeatV s n = argV) := Lib.hid (by unfold repeatV; rw [if_neg hs, if_pos h2])
    have d2 : decide (0 ≤ n) = false := decide_eq_false (by omega)
    go_enter Try.func22, Try.ntmps22
    go_wp2_with fail
    refine (cbarred _ _ _).mono ?_; rw [bar_arg (by omega)]; rintro e w0 ⟨rfl, rfl⟩
    go_wp2_with fail
    refine (ValueC.fail 5 _).mono ?_; rw [failV_yes (by omega)]; rintro e w1 ⟨rfl, hb1⟩
    obtain ⟨hc, hf⟩ := bcell hb1
    have hz := size_of hb1
    have hB := below_of hb1
    go_wp2
    refine bodyPost_ret (v := .agg #[.int .i64 4, .int .i64 5, .string { data := #[] }]) (by simp [results, Try.results22, go_sem, hc, nos, txtV, lngV, argV, nonV]) rfl ⟨by rw [E.out]; try (first | rfl | simp [lngV, argV, nonV, txtV, nos]), ?_⟩
    repeat (first | with_reducible exact hB | with_reducible refine Below.setCell ?_ (by simp <;> omega) _ | with_reducible refine Below.alloc ?_ (by simp <;> omega) _)
  have d2 : decide (0 ≤ n) = true := decide_eq_true (by omega)
  obtain ⟨q, rfl⟩ : ∃ q : Nat, n = (q : Int) := ⟨n.toNat, by omega⟩
  have E := Lib.hid (repeat_of (s := s) (q := q) hs)
  have m0 : min (q : Int) 201 = ((min q 201 : Nat) : Int) := by omega
  have m1 : min q 201 ≤ 201 := by omega
  have hm : s.size * min q 201 ≤ 140737488355328 := by
    have := Nat.mul_le_mul (show s.size ≤ 200 by omega) m1
    omega
  have R := fun W => Try.strings_Repeat s (min q 201) W (by omega) hm
  simp only [rep_is] at R
  generalize repS s (min q 201) = S at *
  generalize min q 201 = m at *
  clear hm
  go_enter Try.func22, Try.ntmps22
  go_wp2_with fail
  refine (cbarred _ _ _).mono ?_; rw [bar_ok (by omega)]; rintro e w0 ⟨rfl, rfl⟩
  go_wp2_with fail
  refine (R _).mono ?_; rintro e w8 ⟨rfl, hb8⟩
  go_wp2_with fail
  refine (ValueC.of S _).mono ?_; rintro e w9 ⟨rfl, hb9⟩
  have hb1 := below_then hb8 hb9
  obtain ⟨hc, hf⟩ := bcell hb1
  have hz := size_of hb1
  have hB := below_of hb1
  generalize ofV S = V at *
  go_wp2
  refine bodyPost_ret (v := .agg #[.int .i64 V.k, .int .i64 V.n, .string V.s]) (by simp [results, Try.results22, go_sem, hc, nos, txtV, lngV, argV, nonV]) rfl ⟨by rw [E.out], ?_⟩
  repeat (first | with_reducible exact hB | with_reducible refine Below.setCell ?_ (by simp <;> omega) _ | with_reducible refine Below.alloc ?_ (by simp <;> omega) _)
set_option maxHeartbeats 1000000 in
set_option maxRecDepth 100000 in
theorem cJoin (s t : ByteArray) (w : World) (hz0 : s.size + t.size ≤ 9223372036854775807) : Calls Try.prog 24 #[.string s, .string t] w (VPost (joinV s t) w) := by
  have u1 : IntKind.i64.wrap ((s.size : Int) + (t.size : Int)) = (s.size : Int) + (t.size : Int) := by rw [IntKind.wrap_i64]; omega
  by_cases hs : 200 < s.size + t.size
  · have E := Lib.hid (join_sum hs)
    have hs2 : (200 : Int) < (s.size : Int) + (t.size : Int) := by omega
    go_enter Try.func24, Try.ntmps24
    go_wp2_with fail
    refine (cbarred _ _ _).mono ?_; rw [bar_long (by omega)]; rintro e w0 ⟨rfl, rfl⟩
    go_wp2_with fail
    refine (ValueC.fail 7 _).mono ?_; rw [failV_yes (by omega)]; rintro e w1 ⟨rfl, hb1⟩
    obtain ⟨hc, hf⟩ := bcell hb1
    have hz := size_of hb1
    have hB := below_of hb1
    go_wp2
    refine bodyPost_ret (v := .agg #[.int .i64 4, .int .i64 7, .string { data := #[] }]) (by simp [results, Try.results24, go_sem, hc, nos, txtV, lngV, argV, nonV]) rfl ⟨by rw [E.out]; try (first | rfl | simp [lngV, argV, nonV, txtV, nos]), ?_⟩
    repeat (first | with_reducible exact hB | with_reducible refine Below.setCell ?_ (by simp <;> omega) _ | with_reducible refine Below.alloc ?_ (by simp <;> omega) _)
  · have E := Lib.hid (join_of hs)
    have hs2 : ¬ (200 : Int) < (s.size : Int) + (t.size : Int) := by omega
    have hz2 : ¬ 9223372036854775807 < s.size + t.size := by omega
    have O := fun W => ValueC.of (s ++ t) W
    generalize ofV (s ++ t) = V at *
    go_enter Try.func24, Try.ntmps24
    go_wp2_with fail
    refine (cbarred _ _ _).mono ?_; rw [bar_ok (by omega)]; rintro e w0 ⟨rfl, rfl⟩
    go_wp2_with fail
    refine (O _).mono ?_; rintro e w1 ⟨rfl, hb1⟩
    obtain ⟨hc, hf⟩ := bcell hb1
    have hz := size_of hb1
    have hB := below_of hb1
    go_wp2
    refine bodyPost_ret (v := .agg #[.int .i64 V.k, .int .i64 V.n, .string V.s]) (by simp [results, Try.results24, go_sem, hc, nos, txtV, lngV, argV, nonV]) rfl ⟨by rw [E.out], ?_⟩
    repeat (first | with_reducible exact hB | with_reducible refine Below.setCell ?_ (by simp <;> omega) _ | with_reducible refine Below.alloc ?_ (by simp <;> omega) _)
set_option maxHeartbeats 1000000 in
set_option maxRecDepth 100000 in
theorem cLen (s : ByteArray) (w : World) : Calls Try.prog 26 #[.string s] w (VPost (lenV s) w) := by
  by_cases hs : 200 < s.size
  · have E : Hid (lenV s = lngV) := Lib.hid (by unfold lenV; rw [if_pos hs])
    go_enter Try.func26, Try.ntmps26
    go_wp2_with fail
    refine (cbarred _ _ _).mono ?_; rw [bar_long (by omega)]; rintro e w0 ⟨rfl, rfl⟩
    go_wp2_with fail
    refine (ValueC.fail 7 _).mono ?_; rw [failV_yes (by omega)]; rintro e w1 ⟨rfl, hb1⟩
    obtain ⟨hc, hf⟩ := bcell hb1
    have hz := size_of hb1
    have hB := below_of hb1
    go_wp2
    refine bodyPost_ret (v := .agg #[.int .i64 4, .int .i64 7, .string { data := #[] }]) (by simp [results, Try.results26, go_sem, hc, nos, txtV, lngV, argV, nonV]) rfl ⟨by rw [E.out]; try (first | rfl | simp [lngV, argV, nonV, txtV, nos]), ?_⟩
    repeat (first | with_reducible exact hB | with_reducible refine Below.setCell ?_ (by simp <;> omega) _ | with_reducible refine Below.alloc ?_ (by simp <;> omega) _)
  · have E : Hid (lenV s = ⟨2, s.size, nos⟩) := Lib.hid (by unfold lenV; rw [if_neg hs])
    go_enter Try.func26, Try.ntmps26
    go_wp2_with fail
    refine (cbarred _ _ _).mono ?_; rw [bar_ok (by omega)]; rintro e w0 ⟨rfl, rfl⟩
    go_wp2_with fail
    refine (cwhole (s.size : Int) _).mono ?_; rintro e w1 ⟨rfl, hb1⟩
    obtain ⟨hc, hf⟩ := bcell hb1
    have hz := size_of hb1
    have hB := below_of hb1
    go_wp2
    refine bodyPost_ret (v := .agg #[.int .i64 2, .int .i64 (s.size : Int), .string { data := #[] }]) (by simp [results, Try.results26, go_sem, hc, nos, txtV, lngV, argV, nonV]) rfl ⟨by rw [E.out]; try (first | rfl | simp [lngV, argV, nonV, txtV, nos]), ?_⟩
    repeat (first | with_reducible exact hB | with_reducible refine Below.setCell ?_ (by simp <;> omega) _ | with_reducible refine Below.alloc ?_ (by simp <;> omega) _)
end Go.Proofs.Ytgkabngpekokaaa.TextC
