/-
  Contracts of lex's reference: signs, next.
-/
import Derived.Test.YtlbnlflfoafioaaDoorLexC
import Derived.Deep.QuietTactic
import Derived.BigQuiet
namespace Go.Proofs.YtlbnlflfoafioaaDoor.LexC
set_option linter.unusedVariables false
open Go.RowKit Go.Proofs.YtlbnlflfoafioaaDoor.NumC

def signL : List (List UInt8) := [[43], [45], [42], [47], [37], [94], [38], [61], [60], [62], [60, 62], [60, 61], [62, 61], [40], [41], [44], [58]]
def signCells : Array Value := #[.string { data := #[43] }, .string { data := #[45] }, .string { data := #[42] }, .string { data := #[47] }, .string { data := #[37] }, .string { data := #[94] }, .string { data := #[38] }, .string { data := #[61] }, .string { data := #[60] }, .string { data := #[62] }, .string { data := #[60, 62] }, .string { data := #[60, 61] }, .string { data := #[62, 61] }, .string { data := #[40] }, .string { data := #[41] }, .string { data := #[44] }, .string { data := #[58] }]
theorem signs_cell (m : Nat) (h : m < 17) : signCells[m]? = some (.string (str (signL.getD m []))) := by
  have : m = 0 ∨ m = 1 ∨ m = 2 ∨ m = 3 ∨ m = 4 ∨ m = 5 ∨ m = 6 ∨ m = 7 ∨ m = 8 ∨ m = 9 ∨ m = 10 ∨ m = 11 ∨ m = 12 ∨ m = 13 ∨ m = 14 ∨ m = 15 ∨ m = 16 := by omega
  rcases this with rfl | rfl | rfl | rfl | rfl | rfl | rfl | rfl | rfl | rfl | rfl | rfl | rfl | rfl | rfl | rfl | rfl <;> rfl
set_option maxRecDepth 100000 in
theorem rsigns (w : World) :
    Calls Tryd.prog 32 #[] w fun e w' => e = .returned (.slice (some ⟨w.heap.size, 0, none⟩) 17 17) ∧ w' = w.alloc (.cells signCells 9) := by
  go_enter Tryd.func32, Tryd.ntmps32
  go_wp2
  go_ret
  exact ⟨rfl, rfl⟩

/-- The place of a sign among all of them. -/
def signI (x : List UInt8) : Nat := signL.findIdx (· == x)
theorem signI_le (x : List UInt8) : signI x ≤ 17 := List.findIdx_le_length
theorem signI_at {x : List UInt8} (h : signI x < 17) : signL.getD (signI x) [] = x := by
  have h2 : signL.findIdx (· == x) < signL.length := h
  have := List.findIdx_getElem (w := h2)
  rw [beq_iff_eq] at this
  unfold signI
  rw [List.getD_eq_getElem?_getD, List.getElem?_eq_getElem h2]; exact this
theorem signI_lt {x : List UInt8} {m : Nat} (h : m < signI x) : signL.getD m [] ≠ x := by
  have h1 := signI_le x
  have h2 : m < signL.length := by show m < 17; omega
  have := List.not_of_lt_findIdx (p := (· == x)) (xs := signL) h
  intro e
  rw [List.getD_eq_getElem?_getD, List.getElem?_eq_getElem h2] at e
  have e2 : signL[m] = x := e
  rw [e2] at this; simp at this
theorem signI_two (c d : UInt8) : (signI [c, d] < 17) ↔ sign2 c d = true := by
  have : signI [c, d] < 17 ↔ [c, d] ∈ signL := by
    show signL.findIdx (· == [c, d]) < signL.length ↔ _
    rw [List.findIdx_lt_length]; simp
  rw [this]
  simp only [signL, sign2, List.mem_cons, List.cons.injEq, List.not_mem_nil, or_false, and_false, and_true, Bool.or_eq_true, Bool.and_eq_true, beq_iff_eq, reduceCtorEq, false_or]
  constructor
  · rintro (⟨h1, h2⟩ | ⟨h1, h2⟩ | ⟨h1, h2⟩)
    · exact Or.inl ⟨h1, Or.inl h2⟩
    · exact Or.inl ⟨h1, Or.inr h2⟩
    · exact Or.inr ⟨h1, h2⟩
  · rintro (⟨h1, h2 | h2⟩ | ⟨h1, h2⟩)
    · exact Or.inl ⟨h1, h2⟩
    · exact Or.inr (Or.inl ⟨h1, h2⟩)
    · exact Or.inr (Or.inr ⟨h1, h2⟩)
theorem signI_one (c : UInt8) : (signI [c] < 17) ↔ sign1 c = true := by
  have : signI [c] < 17 ↔ [c] ∈ signL := by
    show signL.findIdx (· == [c]) < signL.length ↔ _
    rw [List.findIdx_lt_length]; simp
  rw [this]
  simp only [signL, sign1, List.mem_cons, List.cons.injEq, List.not_mem_nil, or_false, and_false, and_true, List.contains_eq_mem, decide_eq_true_iff, false_or, List.nil_eq, List.cons_ne_nil]
/-- The token at a place. -/
def nextR (l : List UInt8) (i : Nat) : Tok × Int := match nextL (l.drop i) with
  | some (k, n, s, m) => (⟨k, n, str s, i⟩, m)
  | none => (zeroT, 0)
theorem next_digit {l : List UInt8} {i : Nat} (h : i < l.length) (hd : digB l[i] = true) : nextR l i = numR l i := by
  unfold nextR numR
  rw [drop_cons h, nextL_cons, tokL, if_pos hd]
  by_cases hv : numV ((l[i] :: l.drop (i + 1)).takeWhile digB) < 9223372036854775808
  · rw [if_pos hv, if_pos hv]; rfl
  · rw [if_neg hv, if_neg hv]
theorem next_letter {l : List UInt8} {i n : Nat} (h : i < l.length) (hd : digB l[i] = false) (hl : letB l[i] = true) (hi : i ≤ n) (hn : n ≤ l.length) (h1 : ∀ k, i ≤ k → k < n → ∃ h : k < l.length, wordB l[k] = true) (h2 : n = l.length ∨ ∃ h : n < l.length, wordB l[n] = false) :
    nextR l i = (⟨3, 0, str (upL ((l.take n).drop i)), i⟩, (n : Int) - i) := by
  have e := take_run h1 h2 hi hn
  rw [drop_cons h] at e
  unfold nextR
  rw [drop_cons h, nextL_cons, tokL, hd, if_neg Bool.false_ne_true, if_pos hl]
  simp only [e]
  rw [List.length_drop, List.length_take]
  congr 1; omega
theorem next_text {l : List UInt8} {i : Nat} (h : i < l.length) (hc : l[i] = 34) : nextR l i = textR l i := by
  unfold nextR textR
  rw [drop_cons h, nextL_cons, tokL, hc, if_neg (by decide), if_neg (by decide), if_pos rfl]
  cases txtL (l.drop (i + 1)) with
  | none => rfl
  | some r => rfl
theorem next_two {l : List UInt8} {i : Nat} (h : i + 1 < l.length) (hd : digB l[i] = false) (hl : letB l[i] = false) (hc : l[i] ≠ 34) (h2 : signI [l[i], l[i + 1]] < 17) : nextR l i = (⟨4, 0, str [l[i], l[i + 1]], i⟩, 2) := by
  unfold nextR
  rw [drop_cons (show i < l.length by omega), drop_cons h, nextL_cons, tokL, hd, hl, if_neg Bool.false_ne_true, if_neg Bool.false_ne_true, if_neg hc, signT]
  rw [if_pos ((signI_two _ _).1 h2)]; rfl
theorem next_one {l : List UInt8} {i : Nat} (h : i < l.length) (hd : digB l[i] = false) (hl : letB l[i] = false) (hc : l[i] ≠ 34) (h2 : ∀ h : i + 1 < l.length, ¬ signI [l[i], l[i + 1]] < 17) (h1 : signI [l[i]] < 17) : nextR l i = (⟨4, 0, str [l[i]], i⟩, 1) := by
  unfold nextR
  by_cases h3 : i + 1 < l.length
  · have := h2 h3
    rw [signI_two] at this
    rw [drop_cons h, drop_cons h3, nextL_cons, tokL, hd, hl, if_neg Bool.false_ne_true, if_neg Bool.false_ne_true, if_neg hc, signT]
    rw [if_neg this, if_pos ((signI_one _).1 h1)]; rfl
  · rw [drop_cons h, List.drop_eq_nil_of_le (show l.length ≤ i + 1 by omega), nextL_cons, tokL, hd, hl, if_neg Bool.false_ne_true, if_neg Bool.false_ne_true, if_neg hc, signT]
    rw [if_pos ((signI_one _).1 h1)]; rfl
theorem next_none {l : List UInt8} {i : Nat} (h : i < l.length) (hd : digB l[i] = false) (hl : letB l[i] = false) (hc : l[i] ≠ 34) (h2 : ∀ h : i + 1 < l.length, ¬ signI [l[i], l[i + 1]] < 17) (h1 : ¬ signI [l[i]] < 17) : nextR l i = (zeroT, 0) := by
  rw [signI_one] at h1
  unfold nextR
  by_cases h3 : i + 1 < l.length
  · have := h2 h3
    rw [signI_two] at this
    rw [drop_cons h, drop_cons h3, nextL_cons, tokL, hd, hl, if_neg Bool.false_ne_true, if_neg Bool.false_ne_true, if_neg hc, signT]
    rw [if_neg this, if_neg h1]
  · rw [drop_cons h, List.drop_eq_nil_of_le (show l.length ≤ i + 1 by omega), nextL_cons, tokL, hd, hl, if_neg Bool.false_ne_true, if_neg Bool.false_ne_true, if_neg hc, signT]
    rw [if_neg h1]

set_option maxRecDepth 100000 in
set_option maxHeartbeats 4000000 in
theorem rnext_digit (s : ByteArray) (i : Nat) (w : World) (hs : s.size ≤ 1000000) (hi : i < s.size) (hd : digB s[i] = true) :
    Calls Tryd.prog 16 #[.string s, .int .i64 i] w fun e w' => e = .returned (.tuple #[tokV (nextR s.data.toList i).1, .int .i64 (nextR s.data.toList i).2]) ∧ Below w.heap.size w w' := by
  have hll : i < s.data.toList.length := by rw [← list_len]; exact hi
  have E := Lib.hid (next_digit hll hd)
  have HD := Lib.hid hd
  clear hd
  go_enter Tryd.func16, Tryd.ntmps16
  go_wp2_with fail
  refine (rdigit s[i] _).mono ?_; rw [HD.out]; rintro e w' ⟨rfl, rfl⟩
  go_wp2_with fail
  refine (rnumber s i _ hs (by omega)).mono ?_; rintro e w1 ⟨rfl, hb1⟩
  have hB := below_of hb1
  obtain ⟨hc, hf⟩ := bcell hb1
  have hz := size_of hb1
  unfold tokV
  generalize numR s.data.toList i = R at *
  obtain ⟨⟨tk, tn, ts, ta⟩, m⟩ := R
  go_wp2
  refine bodyPost_ret (v := .tuple #[.agg #[.int .i64 tk, .int .i64 tn, .string ts, .int .i64 ta], .int .i64 m]) (by simp [results, Tryd.results16, go_sem, hc]) rfl ⟨by rw [E.out]; rfl, ?_⟩
  repeat (first | with_reducible exact hB | with_reducible refine Below.setCell ?_ (by first | omega | (simp <;> omega)) _ | with_reducible refine Below.alloc ?_ (by first | omega | (simp <;> omega)) _)

set_option maxRecDepth 100000 in
set_option maxHeartbeats 4000000 in
theorem rnext_text (s : ByteArray) (i : Nat) (w : World) (hs : s.size ≤ 1000000) (hi : i < s.size) (hd : s[i].toNat = 34) :
    Calls Tryd.prog 16 #[.string s, .int .i64 i] w fun e w' => e = .returned (.tuple #[tokV (nextR s.data.toList i).1, .int .i64 (nextR s.data.toList i).2]) ∧ Below w.heap.size w w' := by
  have hll : i < s.data.toList.length := by rw [← list_len]; exact hi
  have E := Lib.hid (next_text hll (UInt8.toNat_inj.1 hd))
  have HD : Hid (digB s[i] = false) := Lib.hid (Bool.eq_false_iff.2 fun h => by have := digB_iff.1 h; omega)
  have HL : Hid (letB s[i] = false) := Lib.hid (Bool.eq_false_iff.2 fun h => by have := letB_iff.1 h; omega)
  have c1 : ((s[i].toNat : Int) == 34) = true := by rw [hd]; rfl
  clear hd
  go_enter Tryd.func16, Tryd.ntmps16
  go_wp2_with fail
  refine (rdigit s[i] _).mono ?_; rw [HD.out]; rintro e w' ⟨rfl, rfl⟩
  go_wp2_with fail
  refine (rletter s[i] _).mono ?_; rw [HL.out]; rintro e w' ⟨rfl, rfl⟩
  go_wp2_with fail
  refine (rtext s i _ hs hi).mono ?_; rintro e w1 ⟨rfl, hb1⟩
  have hB := below_of hb1
  obtain ⟨hc, hf⟩ := bcell hb1
  have hz := size_of hb1
  unfold tokV
  generalize textR s.data.toList i = R at *
  obtain ⟨⟨tk, tn, ts, ta⟩, m⟩ := R
  go_wp2
  refine bodyPost_ret (v := .tuple #[.agg #[.int .i64 tk, .int .i64 tn, .string ts, .int .i64 ta], .int .i64 m]) (by simp [results, Tryd.results16, go_sem, hc]) rfl ⟨by rw [E.out]; rfl, ?_⟩
  repeat (first | with_reducible exact hB | with_reducible refine Below.setCell ?_ (by first | omega | (simp <;> omega)) _ | with_reducible refine Below.alloc ?_ (by first | omega | (simp <;> omega)) _)

set_option maxRecDepth 100000 in
set_option maxHeartbeats 4000000 in
theorem rnext_letter (s : ByteArray) (i : Nat) (w : World) (hs : s.size ≤ 1000000) (hi : i < s.size) (hd : digB s[i] = false) (hl : letB s[i] = true) :
    Calls Tryd.prog 16 #[.string s, .int .i64 i] w fun e w' => e = .returned (.tuple #[tokV (nextR s.data.toList i).1, .int .i64 (nextR s.data.toList i).2]) ∧ Below w.heap.size w w' := by
  have HD := Lib.hid hd; have HL := Lib.hid hl
  have hll : i < s.data.toList.length := by rw [← list_len]; exact hi
  have FIN : ∀ n, i ≤ n → n ≤ s.size → (∀ k, i ≤ k → k < n → ∃ h : k < s.data.toList.length, wordB s.data.toList[k] = true) → (n = s.data.toList.length ∨ ∃ h : n < s.data.toList.length, wordB s.data.toList[n] = false) → nextR s.data.toList i = (⟨3, 0, str (upL ((s.data.toList.take n).drop i)), i⟩, (n : Int) - i) :=
    fun n h1 h2 h3 h4 => next_letter hll hd hl h1 (by rw [← list_len]; exact h2) h3 h4
  have HF := Lib.hid FIN
  clear FIN hd hl
  go_enter Tryd.func16, Tryd.ntmps16
  go_wp2_with fail
  refine (rdigit s[i] _).mono ?_; rw [HD.out]; rintro e w' ⟨rfl, rfl⟩
  go_wp2_with fail
  refine (rletter s[i] _).mono ?_; rw [HL.out]; rintro e w' ⟨rfl, rfl⟩
  go_wp2_with fail
  go_loop [7] (fun a => ∃ n : Nat, i ≤ n ∧ n ≤ s.size ∧ a = .int .i64 n ∧ Hid (∀ k, i ≤ k → k < n → ∃ h : k < s.data.toList.length, wordB s.data.toList[k] = true)) (fun a => s.size - (intOf a).toNat)
  case atStart => exact ⟨i, Nat.le_refl _, by omega, rfl, Lib.hid fun k h1 h2 => by omega⟩
  case round =>
    obtain ⟨n, hin, hn, rfl, HW⟩ := hrel
    have LAST : (n = s.data.toList.length ∨ ∃ h : n < s.data.toList.length, wordB s.data.toList[n] = false) → Hid (nextR s.data.toList i = (⟨3, 0, str (upL ((s.data.toList.take n).drop i)), i⟩, (n : Int) - i)) := fun h => Lib.hid (HF.out n hin hn HW.out h)
    have NEXT : (h : n < s.data.toList.length) → wordB s.data.toList[n] = true → Hid (∀ k, i ≤ k → k < n + 1 → ∃ h : k < s.data.toList.length, wordB s.data.toList[k] = true) := fun h hw => Lib.hid fun k h1 h2 => by
      by_cases e : k = n
      · subst e; exact ⟨h, hw⟩
      · exact HW.out k h1 (by omega)
    have EX : s.extract i n = str ((s.data.toList.take n).drop i) := by
      apply ByteArray.ext
      apply Array.toList_inj.1
      rw [Lib.extract_data, ← List.drop_take]; rfl
    have HX := Lib.hid EX
    clear EX
    by_cases hlt : n < s.size
    · have hln : n < s.data.toList.length := by rw [← list_len]; exact hlt
      cases h1 : letB s[n]
      · cases h2 : digB s[n]
        · have E := LAST (Or.inr ⟨hln, by show wordB s[n] = false; unfold wordB; rw [h1, h2]; rfl⟩)
          have H1 := Lib.hid h1; have H2 := Lib.hid h2
          clear LAST NEXT h1 h2
          go_wp2_with fail
          refine (rletter s[n] _).mono ?_; rw [H1.out]; rintro e w' ⟨rfl, rfl⟩
          go_wp2_with fail
          refine (rdigit s[n] _).mono ?_; rw [H2.out]; rintro e w' ⟨rfl, rfl⟩
          go_wp2_with fail
          have hsz : (s.extract i n).size ≤ 1000000 := by rw [HX.out, str_size, List.length_drop, List.length_take, ← list_len]; omega
          refine (rupper _ _ hsz).mono ?_; rintro e w1 ⟨rfl, hb1⟩
          have hB := below_of hb1
          obtain ⟨hc, hf⟩ := bcell hb1
          have hz := size_of hb1
          have HY : Hid (str (upL (s.extract i n).data.toList) = str (upL ((s.data.toList.take n).drop i))) := Lib.hid (by rw [HX.out]; rfl)
          generalize str (upL (s.extract i n).data.toList) = Y at *
          clear hsz
          go_wp2
          refine bodyPost_ret (v := .tuple #[.agg #[.int .i64 3, .int .i64 0, .string Y, .int .i64 i], .int .i64 ((n : Int) - i)]) (by simp [results, Tryd.results16, go_sem, hc]) rfl ⟨by rw [E.out, HY.out]; rfl, ?_⟩
          repeat (first | with_reducible exact hB | with_reducible refine Below.setCell ?_ (by first | omega | (simp <;> omega)) _ | with_reducible refine Below.alloc ?_ (by first | omega | (simp <;> omega)) _)
        · have N1 := NEXT hln (by show wordB s[n] = true; unfold wordB; rw [h1, h2]; rfl)
          have H1 := Lib.hid h1; have H2 := Lib.hid h2
          clear LAST NEXT h1 h2
          go_wp2_with fail
          refine (rletter s[n] _).mono ?_; rw [H1.out]; rintro e w' ⟨rfl, rfl⟩
          go_wp2_with fail
          refine (rdigit s[n] _).mono ?_; rw [H2.out]; rintro e w' ⟨rfl, rfl⟩
          go_wp2
          go_round
          case rel => exact ⟨n + 1, by omega, by omega, by go_num, N1⟩
          case measure => simp [intOf]; omega
      · have N1 := NEXT hln (by show wordB s[n] = true; unfold wordB; rw [h1]; rfl)
        have H1 := Lib.hid h1
        clear LAST NEXT h1
        go_wp2_with fail
        refine (rletter s[n] _).mono ?_; rw [H1.out]; rintro e w' ⟨rfl, rfl⟩
        go_wp2
        go_round
        case rel => exact ⟨n + 1, by omega, by omega, by go_num, N1⟩
        case measure => simp [intOf]; omega
    · have E := LAST (Or.inl (by rw [← list_len]; omega))
      clear LAST NEXT
      go_wp2_with fail
      have hsz : (s.extract i n).size ≤ 1000000 := by rw [HX.out, str_size, List.length_drop, List.length_take, ← list_len]; omega
      refine (rupper _ _ hsz).mono ?_; rintro e w1 ⟨rfl, hb1⟩
      have hB := below_of hb1
      obtain ⟨hc, hf⟩ := bcell hb1
      have hz := size_of hb1
      have HY : Hid (str (upL (s.extract i n).data.toList) = str (upL ((s.data.toList.take n).drop i))) := Lib.hid (by rw [HX.out]; rfl)
      generalize str (upL (s.extract i n).data.toList) = Y at *
      clear hsz
      go_wp2
      refine bodyPost_ret (v := .tuple #[.agg #[.int .i64 3, .int .i64 0, .string Y, .int .i64 i], .int .i64 ((n : Int) - i)]) (by simp [results, Tryd.results16, go_sem, hc]) rfl ⟨by rw [E.out, HY.out]; rfl, ?_⟩
      repeat (first | with_reducible exact hB | with_reducible refine Below.setCell ?_ (by first | omega | (simp <;> omega)) _ | with_reducible refine Below.alloc ?_ (by first | omega | (simp <;> omega)) _)
end Go.Proofs.YtlbnlflfoafioaaDoor.LexC
