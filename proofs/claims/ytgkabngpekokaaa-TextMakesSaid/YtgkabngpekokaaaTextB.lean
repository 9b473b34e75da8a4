/-
  Contracts of text's reference: Find, Repeat, Lower.
-/
import Derived.Test.YtgkabngpekokaaaTextA
namespace Go.Proofs.Ytgkabngpekokaaa.TextC
set_option linter.unusedVariables false
set_option linter.unusedSimpArgs false
open Go.RowKit Go.Proofs.Ytgkabngpekokaaa.NumC
open Go.Proofs.Ytgkabngpekokaaa.ValueC (Val failV failV_yes ofV nos rfail rof)
open Go.Proofs.Ytgkabngpekokaaa.LexC (upC upL str Soft add_off)

theorem first_no {what s : ByteArray} {k : Nat} (h : ¬ k + what.size ≤ s.size) : ∀ f, firstN what s f k = none
  | 0 => rfl
  | f + 1 => by unfold firstN; rw [if_neg h]
theorem first_yes {what s : ByteArray} {k : Nat} (h : k + what.size ≤ s.size) (e : s.extract k (k + what.size) = what) : firstN what s (s.size + 1 - k) k = some k := by
  rw [show s.size + 1 - k = (s.size - k) + 1 from by omega]
  unfold firstN; rw [if_pos h, if_pos e]
theorem first_on {what s : ByteArray} {k : Nat} (h : k + what.size ≤ s.size) (e : ¬ s.extract k (k + what.size) = what) : firstN what s (s.size + 1 - k) k = firstN what s (s.size + 1 - (k + 1)) (k + 1) := by
  rw [show s.size + 1 - k = (s.size + 1 - (k + 1)) + 1 from by omega]
  conv => lhs; unfold firstN
  rw [if_pos h, if_neg e]
theorem list_eq {a b : ByteArray} (h : a.toList = b.toList) : a = b := ByteArray.ext (Array.toList_inj.1 (by rw [Lib.toList_data, Lib.toList_data] at h; exact h))
def ofOpt : Option Nat → Val
  | some i => ⟨2, (i : Int) + 1, nos⟩
  | none => nonV
theorem find_in {what s : ByteArray} {p : Nat} (h1 : what.size ≤ 200) (h2 : s.size ≤ 200) (h4 : p ≤ s.size) : findV what s ((p : Int) + 1) = ofOpt (firstN what s (s.size + 1 - p) p) := by
  unfold findV
  rw [if_neg (by omega), if_neg (by omega), if_neg (by omega), show ((p : Int) + 1 - 1).toNat = p from by omega]
  rfl
/-- The result's block, as it is made. -/
def atWork (w wr : World) : Prop := wr = w.alloc (Obj.cells #[Value.int .i64 0, Value.int .i64 0, Value.string { data := #[] }] 25)
set_option maxHeartbeats 1000000 in
set_option maxRecDepth 100000 in
theorem rFind (what s : ByteArray) (a : Int) (w : World) (ha : -9223372036854775808 ≤ a ∧ a ≤ 9223372036854775807) : Calls Try.prog 17 #[.string what, .string s, .int .i64 a] w (VPost (findV what s a) w) := by
  by_cases hs : 200 < what.size
  · have E : Hid (findV what s a = lngV) := Lib.hid (by unfold findV; rw [if_pos (Or.inl hs)])
    go_enter Try.func17, Try.ntmps17
    go_wp2_with fail
    refine (rlong _ _).mono ?_; rw [decide_eq_true hs]; rintro e w0 ⟨rfl, rfl⟩
    go_wp2_with fail
    refine (rfail 7 _).mono ?_; rw [failV_yes (by omega)]; rintro e w1 ⟨rfl, hb1⟩
    obtain ⟨hc, hf⟩ := bcell hb1
    have hz := size_of hb1
    have hB := below_of hb1
    go_wp2
    refine bodyPost_ret (v := .agg #[.int .i64 4, .int .i64 7, .string { data := #[] }]) (by simp [results, Try.results17, go_sem, hc, nos, txtV]) rfl ⟨by rw [E.out]; try (first | rfl | simp [lngV, argV, nonV, txtV, nos]), ?_⟩
    repeat (first | with_reducible exact hB | with_reducible refine Below.setCell ?_ (by simp <;> omega) _ | with_reducible refine Below.alloc ?_ (by simp <;> omega) _)
  · by_cases ht : 200 < s.size
    · have E : Hid (findV what s a = lngV) := Lib.hid (by unfold findV; rw [if_pos (Or.inr ht)])
      go_enter Try.func17, Try.ntmps17
      go_wp2_with fail
      refine (rlong _ _).mono ?_; rw [decide_eq_false hs]; rintro e w0 ⟨rfl, rfl⟩
      go_wp2_with fail
      refine (rlong _ _).mono ?_; rw [decide_eq_true ht]; rintro e w8 ⟨rfl, rfl⟩
      go_wp2_with fail
      refine (rfail 7 _).mono ?_; rw [failV_yes (by omega)]; rintro e w1 ⟨rfl, hb1⟩
      obtain ⟨hc, hf⟩ := bcell hb1
      have hz := size_of hb1
      have hB := below_of hb1
      go_wp2
      refine bodyPost_ret (v := .agg #[.int .i64 4, .int .i64 7, .string { data := #[] }]) (by simp [results, Try.results17, go_sem, hc, nos, txtV]) rfl ⟨by rw [E.out]; try (first | rfl | simp [lngV, argV, nonV, txtV, nos]), ?_⟩
      repeat (first | with_reducible exact hB | with_reducible refine Below.setCell ?_ (by simp <;> omega) _ | with_reducible refine Below.alloc ?_ (by simp <;> omega) _)
    · by_cases h1 : a < 1
      · have E : Hid (findV what s a = argV) := Lib.hid (by unfold findV; rw [if_neg (by omega), if_pos h1])
        go_enter Try.func17, Try.ntmps17
        go_wp2_with fail
        refine (rlong _ _).mono ?_; rw [decide_eq_false hs]; rintro e w0 ⟨rfl, rfl⟩
        go_wp2_with fail
        refine (rlong _ _).mono ?_; rw [decide_eq_false ht]; rintro e w8 ⟨rfl, rfl⟩
        go_wp2_with fail
        refine (rfail 5 _).mono ?_; rw [failV_yes (by omega)]; rintro e w1 ⟨rfl, hb1⟩
        obtain ⟨hc, hf⟩ := bcell hb1
        have hz := size_of hb1
        have hB := below_of hb1
        go_wp2
        refine bodyPost_ret (v := .agg #[.int .i64 4, .int .i64 5, .string { data := #[] }]) (by simp [results, Try.results17, go_sem, hc, nos, txtV]) rfl ⟨by rw [E.out]; try (first | rfl | simp [lngV, argV, nonV, txtV, nos]), ?_⟩
        repeat (first | with_reducible exact hB | with_reducible refine Below.setCell ?_ (by simp <;> omega) _ | with_reducible refine Below.alloc ?_ (by simp <;> omega) _)
      · by_cases h3 : (s.size : Int) + 1 < a
        · have E : Hid (findV what s a = nonV) := Lib.hid (by unfold findV; rw [if_neg (by omega), if_neg h1, if_pos h3])
          go_enter Try.func17, Try.ntmps17
          go_wp2_with fail
          refine (rlong _ _).mono ?_; rw [decide_eq_false hs]; rintro e w0 ⟨rfl, rfl⟩
          go_wp2_with fail
          refine (rlong _ _).mono ?_; rw [decide_eq_false ht]; rintro e w8 ⟨rfl, rfl⟩
          go_wp2_with fail
          refine (rfail 8 _).mono ?_; rw [failV_yes (by omega)]; rintro e w1 ⟨rfl, hb1⟩
          obtain ⟨hc, hf⟩ := bcell hb1
          have hz := size_of hb1
          have hB := below_of hb1
          go_wp2
          refine bodyPost_ret (v := .agg #[.int .i64 4, .int .i64 8, .string { data := #[] }]) (by simp [results, Try.results17, go_sem, hc, nos, txtV]) rfl ⟨by rw [E.out]; try (first | rfl | simp [lngV, argV, nonV, txtV, nos]), ?_⟩
          repeat (first | with_reducible exact hB | with_reducible refine Below.setCell ?_ (by simp <;> omega) _ | with_reducible refine Below.alloc ?_ (by simp <;> omega) _)
        · obtain ⟨p, rfl⟩ : ∃ p : Nat, a = (p : Int) + 1 := ⟨(a - 1).toNat, by omega⟩
          have E := Lib.hid (find_in (what := what) (s := s) (p := p) (by omega) (by omega) (by omega))
          have hps : p ≤ s.size := by omega
          have d5 : ¬ 200 < s.size := ht
          clear ha
          go_enter Try.func17, Try.ntmps17
          go_wp2_with fail
          refine (rlong _ _).mono ?_; rw [decide_eq_false hs]; rintro e w0 ⟨rfl, rfl⟩
          go_wp2_with fail
          refine (rlong _ _).mono ?_; rw [decide_eq_false ht]; rintro e w8 ⟨rfl, rfl⟩
          go_wp2
          go_loopw [7] (fun i wr => ∃ k : Nat, p ≤ k ∧ k ≤ s.size + 1 ∧ i = .int .i64 k ∧ Hid (atWork w wr) ∧ Hid (firstN what s (s.size + 1 - p) p = firstN what s (s.size + 1 - k) k)) (fun i _ => s.size + 1 - (intOf i).toNat)
          case atStart => exact ⟨p, Nat.le_refl _, by omega, by go_num, Lib.hid rfl, Lib.hid rfl⟩
          case round =>
            obtain ⟨k, hk, hk2, rfl, hW, hF⟩ := hrel
            have hW := hW.out
            unfold atWork at hW
            subst hW
            by_cases hle : k + what.size ≤ s.size
            · have g1 : (k : Int) + (what.size : Int) ≤ (s.size : Int) := by omega
              have g2 : IntKind.i64.wrap ((k : Int) + (what.size : Int)) = ((k + what.size : Nat) : Int) := by rw [IntKind.wrap_i64]; omega
              by_cases he : s.extract k (k + what.size) = what
              · have E1 := Lib.hid (E.out.trans (by rw [hF.out, first_yes hle he]; rfl : ofOpt _ = ⟨2, (k : Int) + 1, nos⟩))
                have b1 : ((s.extract k (k + what.size)).toList == what.toList) = true := by rw [he]; exact beq_self_eq_true _
                clear E hF he
                go_wp2_with fail
                refine (rnum _ _).mono ?_; rintro e w1 ⟨rfl, hb1⟩
                obtain ⟨hc, hf⟩ := bcell hb1
                have hz := size_of hb1
                have hB := below_of hb1
                go_wp2
                refine bodyPost_ret (v := .agg #[.int .i64 2, .int .i64 ((k : Int) + 1), .string { data := #[] }]) (by simp [results, Try.results17, go_sem, hc, nos, txtV]) rfl ⟨by rw [E1.out]; try (first | rfl | simp [lngV, argV, nonV, txtV, nos]), ?_⟩
                repeat (first | with_reducible exact hB | with_reducible refine Below.setCell ?_ (by simp <;> omega) _ | with_reducible refine Below.alloc ?_ (by simp <;> omega) _)
              · have F1 := Lib.hid (hF.out.trans (first_on hle he))
                have b1 : ((s.extract k (k + what.size)).toList == what.toList) = false := beq_eq_false_iff_ne.mpr (fun e => he (list_eq e))
                clear hF he
                go_wp2
                go_roundw
                case rel => exact ⟨k + 1, by omega, by omega, by go_num, Lib.hid rfl, F1⟩
                case measure => simp [intOf]; omega
            · have g1 : ¬ (k : Int) + (what.size : Int) ≤ (s.size : Int) := by omega
              have E1 := Lib.hid (E.out.trans (by rw [hF.out, first_no hle]; rfl : ofOpt _ = nonV))
              clear E hF
              go_wp2_with fail
              refine (rfail 8 _).mono ?_; rw [failV_yes (by omega)]; rintro e w1 ⟨rfl, hb1⟩
              obtain ⟨hc, hf⟩ := bcell hb1
              have hz := size_of hb1
              have hB := below_of hb1
              go_wp2
              refine bodyPost_ret (v := .agg #[.int .i64 4, .int .i64 8, .string { data := #[] }]) (by simp [results, Try.results17, go_sem, hc, nos, txtV]) rfl ⟨by rw [E1.out]; try (first | rfl | simp [lngV, argV, nonV, txtV, nos]), ?_⟩
              repeat (first | with_reducible exact hB | with_reducible refine Below.setCell ?_ (by simp <;> omega) _ | with_reducible refine Below.alloc ?_ (by simp <;> omega) _)
set_option maxHeartbeats 1000000 in
set_option maxRecDepth 100000 in
theorem rRepeat (s : ByteArray) (n : Int) (w : World) (hn0 : -9223372036854775808 ≤ n ∧ n ≤ 9223372036854775807) : Calls Try.prog 23 #[.string s, .int .i64 n] w (VPost (repeatV s n) w) := by
  by_cases hs : 200 < s.size
  · have E : Hid (repeatV s n = lngV) := Lib.hid (by unfold repeatV; rw [if_pos hs])
    go_enter Try.func23, Try.ntmps23
    go_wp2_with fail
    refine (rlong _ _).mono ?_; rw [decide_eq_true hs]; rintro e w0 ⟨rfl, rfl⟩
    go_wp2_with fail
    refine (rfail 7 _).mono ?_; rw [failV_yes (by omega)]; rintro e w1 ⟨rfl, hb1⟩
    obtain ⟨hc, hf⟩ := bcell hb1
    have hz := size_of hb1
    have hB := below_of hb1
    go_wp2
    refine bodyPost_ret (v := .agg #[.int .i64 4, .int .i64 7, .string { data := #[] }]) (by simp [results, Try.results23, go_sem, hc, nos, txtV]) rfl ⟨by rw [E.out]; try (first | rfl | simp [lngV, argV, nonV, txtV, nos]), ?_⟩
    repeat (first | with_reducible exact hB | with_reducible refine Below.setCell ?_ (by simp <;> omega) _ | with_reducible refine Below.alloc ?_ (by simp <;> omega) _)
  · by_cases hn : n < 0
    · have E : Hid (repeatV s n = argV) := Lib.hid (by unfold repeatV; rw [if_neg hs, if_pos hn])
      go_enter Try.func23, Try.ntmps23
      go_wp2_with fail
      refine (rlong _ _).mono ?_; rw [decide_eq_false hs]; rintro e w0 ⟨rfl, rfl⟩
      go_wp2_with fail
      refine (rfail 5 _).mono ?_; rw [failV_yes (by omega)]; rintro e w1 ⟨rfl, hb1⟩
      obtain ⟨hc, hf⟩ := bcell hb1
      have hz := size_of hb1
      have hB := below_of hb1
      go_wp2
      refine bodyPost_ret (v := .agg #[.int .i64 4, .int .i64 5, .string { data := #[] }]) (by simp [results, Try.results23, go_sem, hc, nos, txtV]) rfl ⟨by rw [E.out]; try (first | rfl | simp [lngV, argV, nonV, txtV, nos]), ?_⟩
      repeat (first | with_reducible exact hB | with_reducible refine Below.setCell ?_ (by simp <;> omega) _ | with_reducible refine Below.alloc ?_ (by simp <;> omega) _)
    · by_cases h0 : s.size = 0
      · have E : Hid (repeatV s n = txtV nos) := Lib.hid (by unfold repeatV; rw [if_neg hs, if_neg hn, if_pos h0])
        obtain rfl : s = { data := #[] } := ByteArray.ext (Array.eq_empty_of_size_eq_zero h0)
        go_enter Try.func23, Try.ntmps23
        go_wp2_with fail
        refine (rlong _ _).mono ?_; rw [decide_eq_false hs]; rintro e w0 ⟨rfl, rfl⟩
        go_wp2_with fail
        refine (rof { data := #[] } _).mono ?_; rw [ofV_small (by decide)]; rintro e w1 ⟨rfl, hb1⟩
        obtain ⟨hc, hf⟩ := bcell hb1
        have hz := size_of hb1
        have hB := below_of hb1
        go_wp2
        refine bodyPost_ret (v := .agg #[.int .i64 3, .int .i64 0, .string { data := #[] }]) (by simp [results, Try.results23, go_sem, hc, nos, txtV]) rfl ⟨by rw [E.out]; try (first | rfl | simp [lngV, argV, nonV, txtV, nos]), ?_⟩
        repeat (first | with_reducible exact hB | with_reducible refine Below.setCell ?_ (by simp <;> omega) _ | with_reducible refine Below.alloc ?_ (by simp <;> omega) _)
      · have b0 : (s.toList == []) = false := beq_eq_false_iff_ne.mpr (fun e => h0 (by rw [Lib.toList_data] at e; rw [show s = nos from ByteArray.ext (Array.toList_inj.1 e)]; rfl))
        by_cases h2 : 200 < n
        · have E : Hid (repeatV s n = lngV) := Lib.hid (by unfold repeatV; rw [if_neg hs, if_neg hn, if_neg h0, if_pos h2])
          go_enter Try.func23, Try.ntmps23
          go_wp2_with fail
          refine (rlong _ _).mono ?_; rw [decide_eq_false hs]; rintro e w0 ⟨rfl, rfl⟩
          go_wp2_with fail
          refine (rfail 7 _).mono ?_; rw [failV_yes (by omega)]; rintro e w1 ⟨rfl, hb1⟩
          obtain ⟨hc, hf⟩ := bcell hb1
          have hz := size_of hb1
          have hB := below_of hb1
          go_wp2
          refine bodyPost_ret (v := .agg #[.int .i64 4, .int .i64 7, .string { data := #[] }]) (by simp [results, Try.results23, go_sem, hc, nos, txtV]) rfl ⟨by rw [E.out]; try (first | rfl | simp [lngV, argV, nonV, txtV, nos]), ?_⟩
          repeat (first | with_reducible exact hB | with_reducible refine Below.setCell ?_ (by simp <;> omega) _ | with_reducible refine Below.alloc ?_ (by simp <;> omega) _)
        · obtain ⟨m, rfl⟩ : ∃ m : Nat, n = (m : Int) := ⟨n.toNat, by omega⟩
          have E : Hid (repeatV s m = ofV (repS s m)) := Lib.hid (by unfold repeatV; rw [if_neg hs, if_neg hn, if_neg h0, if_neg h2, Int.toNat_natCast])
          have hm : m ≤ 200 := by omega
          clear h0 hn0
          go_enter Try.func23, Try.ntmps23
          go_wp2_with fail
          refine (rlong _ _).mono ?_; rw [decide_eq_false hs]; rintro e w0 ⟨rfl, rfl⟩
          go_wp2
          go_loopw [5, 6] (fun o i wr => ∃ k : Nat, k ≤ m ∧ o = .string (repS s k) ∧ i = .int .i64 k ∧ Hid (atWork w wr)) (fun _ i _ => m - (intOf i).toNat)
          case atStart => exact ⟨0, Nat.zero_le _, rfl, rfl, Lib.hid rfl⟩
          case round =>
            obtain ⟨k, hk, rfl, rfl, hW⟩ := hrel
            have hW := hW.out
            unfold atWork at hW
            subst hW
            by_cases hlt : k < m
            · have E1 : Hid (repS s k ++ s = repS s (k + 1)) := Lib.hid rfl
              have z1 : ¬ 9223372036854775807 < (repS s k).size + s.size := by
                rw [rep_size]
                have := Nat.mul_le_mul (show s.size ≤ 200 by omega) (show k ≤ 200 by omega)
                omega
              go_wp2
              go_roundw
              case rel => exact ⟨k + 1, by omega, rfl, by go_num, Lib.hid rfl⟩
              case measure => simp [intOf]; omega
            · obtain rfl : k = m := by omega
              clear hlt
              generalize repS s k = t at *
              go_wp2_with fail
              refine (rof _ _).mono ?_; skip; rintro e w1 ⟨rfl, hb1⟩
              obtain ⟨hc, hf⟩ := bcell hb1
              have hz := size_of hb1
              have hB := below_of hb1
              generalize ofV t = V at *
              go_wp2
              refine bodyPost_ret (v := .agg #[.int .i64 V.k, .int .i64 V.n, .string V.s]) (by simp [results, Try.results23, go_sem, hc, nos, txtV]) rfl ⟨by rw [E.out]; try (first | rfl | simp [lngV, argV, nonV, txtV, nos]), ?_⟩
              repeat (first | with_reducible exact hB | with_reducible refine Below.setCell ?_ (by simp <;> omega) _ | with_reducible refine Below.alloc ?_ (by simp <;> omega) _)
/-- The cells of a row of bytes that is turned to lower case up to k. -/
def LoTo (wr : World) (g : Nat) (s : ByteArray) (k : Nat) : Prop := ∀ j (hj : j < s.size), wr.cell? ⟨g, j, none⟩ = some (.int .u8 (((if j < k then loC s[j] else s[j]).toNat : Nat) : Int))
theorem LoTo.at_ {wr : World} {g : Nat} {s : ByteArray} {k : Nat} (h : LoTo wr g s k) (hk : k < s.size) : wr.cell? ⟨g, k, none⟩ = some (.int .u8 (s[k].toNat : Int)) := by
  have := h k hk; rwa [if_neg (by omega)] at this
theorem LoTo.stay {wr : World} {g : Nat} {s : ByteArray} {k : Nat} (h : LoTo wr g s k) (hk : k < s.size) (hc : loC s[k] = s[k]) : LoTo wr g s (k + 1) := fun j hj => by
  have := h j hj
  by_cases e : j = k
  · subst e; rw [if_pos (by omega), hc]; rwa [if_neg (by omega)] at this
  · by_cases hjk : j < k
    · rw [if_pos (by omega)]; rwa [if_pos hjk] at this
    · rw [if_neg (by omega)]; rwa [if_neg hjk] at this
theorem LoTo.put {wr : World} {g : Nat} {s : ByteArray} {k : Nat} (h : LoTo wr g s k) (hk : k < s.size) : LoTo (wr.setCell ⟨g, k, none⟩ (.int .u8 ((loC s[k]).toNat : Int))) g s (k + 1) := fun j hj => by
  by_cases e : j = k
  · subst e
    rw [if_pos (by omega)]
    exact World.cell?_setCell_same _ _ _ (h.at_ hk)
  · rw [World.cell?_setCell_other _ _ _ _ (fun x => e (by injection x; omega))]
    have := h j hj
    by_cases hjk : j < k
    · rw [if_pos (by omega)]; rwa [if_pos hjk] at this
    · rw [if_neg (by omega)]; rwa [if_neg hjk] at this
/-- A row of a text's bytes, behind a block of a result's. -/
theorem row_start (W1 : World) (s : ByteArray) : LoTo (W1.drew.alloc (.cells (bytesRow s (grownCap W1 s.size 0 5)) 5 ((bytesRow s (grownCap W1 s.size 0 5)).size, (bytesRow s (grownCap W1 s.size 0 5)).size + 1))) W1.heap.size s 0 ∧ Soft (W1.drew.alloc (.cells (bytesRow s (grownCap W1 s.size 0 5)) 5 ((bytesRow s (grownCap W1 s.size 0 5)).size, (bytesRow s (grownCap W1 s.size 0 5)).size + 1))) W1.heap.size s.size ∧ Below W1.heap.size W1 (W1.drew.alloc (.cells (bytesRow s (grownCap W1 s.size 0 5)) 5 ((bytesRow s (grownCap W1 s.size 0 5)).size, (bytesRow s (grownCap W1 s.size 0 5)).size + 1))) := by
  refine ⟨fun j hj => ?_, fun j hj => ?_, (below_drewN' (Below.refl _ _) 1).alloc (Nat.le_refl _) _⟩
  · rw [if_neg (by omega)]
    have := World.cell?_alloc_mark W1.drew (bytesRow s (grownCap W1 s.size 0 5)) 5 ((bytesRow s (grownCap W1 s.size 0 5)).size, (bytesRow s (grownCap W1 s.size 0 5)).size + 1) j
    rw [show W1.drew.heap.size = W1.heap.size from rfl] at this
    rw [this]; exact bytesRow_at s _ j hj
  · have := World.frozen?_alloc_mark W1.drew (bytesRow s (grownCap W1 s.size 0 5)) 5 (bytesRow s (grownCap W1 s.size 0 5)).size ((bytesRow s (grownCap W1 s.size 0 5)).size + 1) j
    rw [show W1.drew.heap.size = W1.heap.size from rfl] at this
    rw [this]
    have h2 : j < (bytesRow s (grownCap W1 s.size 0 5)).size := by unfold bytesRow; simp; omega
    simp; omega
set_option maxHeartbeats 1000000 in
set_option maxRecDepth 100000 in
theorem rLower (s : ByteArray) (w : World) : Calls Try.prog 21 #[.string s] w (VPost (lowerV s) w) := by
  by_cases hs : 200 < s.size
  · have E : Hid (lowerV s = lngV) := Lib.hid (by unfold lowerV; rw [if_pos hs])
    go_enter Try.func21, Try.ntmps21
    go_wp2_with fail
    refine (rlong _ _).mono ?_; rw [decide_eq_true hs]; rintro e w0 ⟨rfl, rfl⟩
    go_wp2_with fail
    refine (rfail 7 _).mono ?_; rw [failV_yes (by omega)]; rintro e w1 ⟨rfl, hb1⟩
    obtain ⟨hc, hf⟩ := bcell hb1
    have hz := size_of hb1
    have hB := below_of hb1
    go_wp2
    refine bodyPost_ret (v := .agg #[.int .i64 4, .int .i64 7, .string { data := #[] }]) (by simp [results, Try.results21, go_sem, hc, nos, txtV]) rfl ⟨by rw [E.out]; try (first | rfl | simp [lngV, argV, nonV, txtV, nos]), ?_⟩
    repeat (first | with_reducible exact hB | with_reducible refine Below.setCell ?_ (by simp <;> omega) _ | with_reducible refine Below.alloc ?_ (by simp <;> omega) _)
  · have E : Hid (lowerV s = txtV (str (loL s.data.toList))) := Lib.hid (by unfold lowerV; rw [if_neg hs])
    have hs2 : (str (loL s.data.toList)).size ≤ 200 := by rw [lo_size]; omega
    have hz1 : (w.alloc (Obj.cells #[Value.int .i64 0, Value.int .i64 0, Value.string { data := #[] }] 25)).heap.size = w.heap.size + 1 := by simp
    have HC := run_bytes_of_string (P := Try.prog) (w.alloc (Obj.cells #[Value.int .i64 0, Value.int .i64 0, Value.string { data := #[] }] 25)) 9 44 5 s Try.underlying9 Try.underlying44 Try.underlying5
    obtain ⟨hcells, hsoft, hbel⟩ := row_start (w.alloc (Obj.cells #[Value.int .i64 0, Value.int .i64 0, Value.string { data := #[] }] 25)) s
    generalize hW : ((w.alloc (Obj.cells #[Value.int .i64 0, Value.int .i64 0, Value.string { data := #[] }] 25)).drew.alloc _) = W0 at hcells hsoft hbel
    rw [hW] at HC
    generalize grownCap (w.alloc (Obj.cells #[Value.int .i64 0, Value.int .i64 0, Value.string { data := #[] }] 25)) s.size 0 5 = cp at *
    clear hW
    rw [hz1] at HC hcells hsoft
    have HU := Lib.hid hcells
    have HF := Lib.hid hsoft
    clear hcells hsoft
    go_enter Try.func21, Try.ntmps21
    go_wp2_with fail
    refine (rlong _ _).mono ?_; rw [decide_eq_false hs]; rintro e w0 ⟨rfl, rfl⟩
    go_wp2
    go_loopw [4] (fun i wr => ∃ k : Nat, k ≤ s.size ∧ i = .int .i64 k ∧ Below (w.alloc (Obj.cells #[Value.int .i64 0, Value.int .i64 0, Value.string { data := #[] }] 25)).heap.size (w.alloc (Obj.cells #[Value.int .i64 0, Value.int .i64 0, Value.string { data := #[] }] 25)) wr ∧ Hid (LoTo wr (w.heap.size + 1) s k) ∧ Hid (Soft wr (w.heap.size + 1) s.size)) (fun i _ => s.size - (intOf i).toNat)
    case atStart => exact ⟨0, Nat.zero_le _, rfl, hbel, HU, HF⟩
    case round =>
      obtain ⟨k, hk, rfl, hB0, HU1, HF1⟩ := hrel
      by_cases hlt : k < s.size
      · have f0 := HU1.out.at_ hlt
        have z0 := HF1.out k hlt
        by_cases h1 : 65 ≤ s[k].toNat ∧ s[k].toNat ≤ 90
        · have U1 := Lib.hid (HU1.out.put hlt)
          have F1 := Lib.hid (HF1.out.put ⟨w.heap.size + 1, k, none⟩ (.int .u8 ((loC s[k]).toNat : Int)))
          have e1 : ((loC s[k]).toNat : Int) = (s[k].toNat : Int) + 32 := by rw [loC_lo h1, add32 h1.2]; omega
          rw [e1] at U1 F1
          have d1 : decide (65 ≤ (s[k].toNat : Int)) = true := decide_eq_true (by omega)
          have d2 : decide ((s[k].toNat : Int) ≤ 90) = true := decide_eq_true (by omega)
          have d3 : (s[k].toNat : Int) + 32 ≤ 255 := by omega
          have B1 := hB0.setCell (p := ⟨w.heap.size + 1, k, none⟩) (by simp) (.int .u8 ((s[k].toNat : Int) + 32))
          clear h1 e1
          go_wp2
          go_roundw
          case rel => exact ⟨k + 1, by omega, by go_num, B1, U1, F1⟩
          case measure => simp [intOf]; omega
        · have U1 := Lib.hid (HU1.out.stay hlt (loC_no h1))
          by_cases h2 : 65 ≤ s[k].toNat
          · have d1 : decide (65 ≤ (s[k].toNat : Int)) = true := decide_eq_true (by omega)
            have d2 : decide ((s[k].toNat : Int) ≤ 90) = false := decide_eq_false (by omega)
            clear h1
            go_wp2
            go_roundw
            case rel => exact ⟨k + 1, by omega, by go_num, hB0, U1, HF1⟩
            case measure => simp [intOf]; omega
          · have d1 : decide (65 ≤ (s[k].toNat : Int)) = false := decide_eq_false (by omega)
            clear h1 h2
            go_wp2
            go_roundw
            case rel => exact ⟨k + 1, by omega, by go_num, hB0, U1, HF1⟩
            case measure => simp [intOf]; omega
      · have hks : k = s.size := by omega
        have hul : (loL s.data.toList).length = s.size := by rw [loL_len]; rfl
        have HB := run_convert_bytes_back (P := Try.prog) wr 44 9 5 ⟨w.heap.size + 1, 0, none⟩ cp (loL s.data.toList) Try.underlying44 Try.underlying5 Try.underlying9 (fun j hj => by
          have := HU1.out j (by omega)
          rw [if_pos (by omega)] at this
          rw [loL_at s j hj (by omega), ← this, LexC.add_off])
        rw [hul] at HB
        clear hul hks
        go_wp2_with fail
        refine (rof (str (loL s.data.toList)) _).mono ?_; rw [ofV_small hs2]; rintro e w2 ⟨rfl, hb2⟩
        have hb1 := hB0.trans (hb2.mono hB0.size)
        obtain ⟨hc, hf⟩ := bcell hb1
        have hz := size_of hb1
        have hB := below_of hb1
        go_wp2
        refine bodyPost_ret (v := .agg #[.int .i64 3, .int .i64 0, .string (str (loL s.data.toList))]) (by simp [results, Try.results21, go_sem, hc, nos, txtV]) rfl ⟨by rw [E.out]; try (first | rfl | simp [lngV, argV, nonV, txtV, nos]), ?_⟩
        repeat (first | with_reducible exact hB | with_reducible refine Below.setCell ?_ (by simp <;> omega) _ | with_reducible refine Below.alloc ?_ (by simp <;> omega) _)
end Go.Proofs.Ytgkabngpekokaaa.TextC
