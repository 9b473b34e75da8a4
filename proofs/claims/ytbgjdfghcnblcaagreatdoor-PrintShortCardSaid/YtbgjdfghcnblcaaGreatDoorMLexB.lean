/-
  Contracts of lex's reference: Upper.
-/
import Derived.Test.YtbgjdfghcnblcaaGreatDoorMLexA
import Derived.Test.YtbgjdfghcnblcaaGreatDoorMNumG
import Derived.Deep.QuietTactic
import Derived.BigQuiet
import Derived.IntWalk
namespace Go.Proofs.YtbgjdfghcnblcaaGreatDoor.LexC
set_option linter.unusedVariables false
open Go.RowKit Go.Proofs.YtbgjdfghcnblcaaGreatDoor.NumC

/-- The cells of a row of bytes that is turned to upper case up to k. -/
def UpTo (wr : World) (g : Nat) (s : ByteArray) (k : Nat) : Prop := ∀ j (hj : j < s.size), wr.cell? ⟨g, j, none⟩ = some (.int .u8 (((if j < k then upC s[j] else s[j]).toNat : Nat) : Int))
def Soft (wr : World) (g n : Nat) : Prop := ∀ j, j < n → wr.frozen? ⟨g, j, none⟩ = false
theorem UpTo.at_ {wr : World} {g : Nat} {s : ByteArray} {k : Nat} (h : UpTo wr g s k) (hk : k < s.size) : wr.cell? ⟨g, k, none⟩ = some (.int .u8 (s[k].toNat : Int)) := by
  have := h k hk; rwa [if_neg (by omega)] at this
theorem UpTo.stay {wr : World} {g : Nat} {s : ByteArray} {k : Nat} (h : UpTo wr g s k) (hk : k < s.size) (hc : upC s[k] = s[k]) : UpTo wr g s (k + 1) := fun j hj => by
  have := h j hj
  by_cases e : j = k
  · subst e; rw [if_pos (by omega), hc]; rwa [if_neg (by omega)] at this
  · by_cases hjk : j < k
    · rw [if_pos (by omega)]; rwa [if_pos hjk] at this
    · rw [if_neg (by omega)]; rwa [if_neg hjk] at this
theorem UpTo.put {wr : World} {g : Nat} {s : ByteArray} {k : Nat} (h : UpTo wr g s k) (hk : k < s.size) : UpTo (wr.setCell ⟨g, k, none⟩ (.int .u8 ((upC s[k]).toNat : Int))) g s (k + 1) := fun j hj => by
  by_cases e : j = k
  · subst e
    rw [if_pos (by omega)]
    exact World.cell?_setCell_same _ _ _ (h.at_ hk)
  · rw [World.cell?_setCell_other _ _ _ _ (fun x => e (by injection x; omega))]
    have := h j hj
    by_cases hjk : j < k
    · rw [if_pos (by omega)]; rwa [if_pos hjk] at this
    · rw [if_neg (by omega)]; rwa [if_neg hjk] at this
theorem Soft.put {wr : World} {g n : Nat} (h : Soft wr g n) (a : Addr) (v : Value) : Soft (wr.setCell a v) g n := fun j hj => by
  rw [World.frozen?_setCell]; exact h j hj
theorem upL_at (s : ByteArray) (j : Nat) (h1 : j < (upL s.data.toList).length) (h2 : j < s.size) : (upL s.data.toList)[j] = upC s[j] := by simp only [upL, List.getElem_map]; rfl
theorem add_off (b j : Nat) : (⟨b, 0, none⟩ : Addr).add j = ⟨b, j, none⟩ := by
  unfold Addr.add
  by_cases h : j = 0
  · subst h; simp
  · simp [h]
end Go.Proofs.YtbgjdfghcnblcaaGreatDoor.LexC

/-
  Contracts of lex's reference: number, text.
-/
namespace Go.Proofs.YtbgjdfghcnblcaaGreatDoor.LexC
set_option linter.unusedVariables false
open Go.RowKit Go.Proofs.YtbgjdfghcnblcaaGreatDoor.NumC

/-- A token as a value. -/
def tokV (t : Tok) : Value := .agg #[.int .i64 t.k, .int .i64 t.n, .string t.s, .int .i64 t.at_]
def zeroT : Tok := ⟨0, 0, nob, 0⟩
theorem tok_eq {t t' : Tok} {m m' : Int} (h : t = t') (h2 : m = m') : Ending.returned (.tuple #[.agg #[.int .i64 t.k, .int .i64 t.n, .string t.s, .int .i64 t.at_], .int .i64 m]) = .returned (.tuple #[tokV t', .int .i64 m']) := by subst h h2; rfl
/-- The number at a place. -/
def numR (l : List UInt8) (i : Nat) : Tok × Int := if numV ((l.drop i).takeWhile digB) < 9223372036854775808 then (⟨1, numV ((l.drop i).takeWhile digB), nob, i⟩, ((l.drop i).takeWhile digB).length) else (zeroT, 0)
theorem run_more {p : UInt8 → Bool} {l : List UInt8} {i m : Nat} (h1 : ∀ k, i ≤ k → k < m → ∃ h : k < l.length, p l[k] = true) (hm : m ≤ l.length) : i ≤ m → ∃ r, (l.drop i).takeWhile p = (l.take m).drop i ++ r := by
  induction hk : m - i generalizing i with
  | zero =>
    intro hi
    have : i = m := by omega
    subst this
    exact ⟨(l.drop i).takeWhile p, by simp⟩
  | succ k ih =>
    intro hi
    obtain ⟨h, hp⟩ := h1 i (Nat.le_refl _) (by omega)
    obtain ⟨r, hr⟩ := ih (i := i + 1) (fun k hk hkn => h1 k (by omega) hkn) (by omega) (by omega)
    have h3 : i < (l.take m).length := by rw [List.length_take]; omega
    exact ⟨r, by rw [drop_cons h, List.takeWhile_cons, hp, if_pos rfl, List.drop_eq_getElem_cons h3, List.getElem_take, hr]; rfl⟩
/-- All bytes from i to n are digits, and come to U. -/
structure Dig (l : List UInt8) (i n : Nat) (U : Nat) : Prop where
  val : numV ((l.take n).drop i) = U
  all : ∀ k, i ≤ k → k < n → ∃ h : k < l.length, digB l[k] = true
theorem Dig.nil (l : List UInt8) (i : Nat) : Dig l i i 0 := ⟨by rw [List.drop_eq_nil_of_le (by rw [List.length_take]; omega)]; rfl, fun k h1 h2 => by omega⟩
theorem Dig.next {l : List UInt8} {i n U : Nat} (h : Dig l i n U) (hi : i ≤ n) (hn : n < l.length) (hd : digB l[n] = true) : Dig l i (n + 1) (U * 10 + (l[n].toNat - 48)) :=
  ⟨by rw [List.take_succ_eq_append_getElem hn, List.drop_append_of_le_length (by rw [List.length_take]; omega), numV_snoc, h.val],
   fun k h1 h2 => by
    by_cases e : k = n
    · subst e; exact ⟨hn, hd⟩
    · exact h.all k h1 (by omega)⟩
theorem Dig.stop {l : List UInt8} {i n U : Nat} (h : Dig l i n U) (hi : i ≤ n) (hn : n ≤ l.length) (h2 : n = l.length ∨ ∃ h : n < l.length, digB l[n] = false) (hU : U < 9223372036854775808) : numR l i = (⟨1, U, nob, i⟩, ((n : Int) - i)) := by
  have e := take_run h.all h2 hi hn
  have e2 := take_len e hi hn
  unfold numR
  rw [e2, e, h.val, if_pos hU]
  congr 1; omega
theorem Dig.over {l : List UInt8} {i n U : Nat} (h : Dig l i n U) (hi : i ≤ n) (hn : n ≤ l.length) (hU : 9223372036854775808 ≤ U) : numR l i = (zeroT, 0) := by
  obtain ⟨r, hr⟩ := run_more h.all hn hi
  have := numV_le ((l.take n).drop i) r
  rw [h.val] at this
  unfold numR
  rw [hr, if_neg (by omega)]
theorem getS (s : ByteArray) (n : Nat) (h : n < s.size) : s.data.toList[n]'(by rw [← list_len]; exact h) = s[n] := rfl

/-- The text at a place. -/
def textR (l : List UInt8) (i : Nat) : Tok × Int := match txtL (l.drop (i + 1)) with
  | some r => (⟨2, 0, str r.1, i⟩, r.2 + 1)
  | none => (zeroT, 0)
/-- What is read from i + 1 to n comes to acc. -/
def Txt (l : List UInt8) (i n : Nat) (acc : List UInt8) : Prop := txtL (l.drop (i + 1)) = (txtL (l.drop n)).map fun r => (acc ++ r.1, (n - (i + 1)) + r.2)
theorem Txt.nil (l : List UInt8) (i : Nat) : Txt l i (i + 1) [] := by
  unfold Txt
  cases txtL (l.drop (i + 1)) <;> simp
theorem Txt.more {l : List UInt8} {i n : Nat} {acc : List UInt8} (h : Txt l i n acc) (hi : i < n) (hn : n < l.length) (hc : l[n] ≠ 34) : Txt l i (n + 1) (acc ++ [l[n]]) := by
  unfold Txt at *
  rw [h, drop_cons hn, txtL_no hc]
  cases txtL (l.drop (n + 1)) with
  | none => rfl
  | some r => simp; omega
theorem Txt.two {l : List UInt8} {i n : Nat} {acc : List UInt8} (h : Txt l i n acc) (hi : i < n) (hn : n + 1 < l.length) (hc : l[n] = 34) (hd : l[n + 1] = 34) : Txt l i (n + 2) (acc ++ [34]) := by
  unfold Txt at *
  rw [h, drop_cons (show n < l.length by omega), drop_cons hn, hc, hd, txtL_two]
  cases txtL (l.drop (n + 2)) with
  | none => rfl
  | some r => simp; omega
theorem Txt.end_ {l : List UInt8} {i n : Nat} {acc : List UInt8} (h : Txt l i n acc) (hi : i < n) (hn : n < l.length) (hc : l[n] = 34) (hd : ∀ h : n + 1 < l.length, l[n + 1] ≠ 34) : textR l i = (⟨2, 0, str acc, i⟩, (n : Int) + 1 - i) := by
  unfold Txt at h
  have e : txtL (l.drop n) = some ([], 1) := by
    rw [drop_cons hn, hc]
    refine txtL_one fun l' e2 => ?_
    by_cases h2 : n + 1 < l.length
    · have := hd h2
      rw [drop_cons h2] at e2
      injection e2 with h3 h4
      exact this h3
    · rw [List.drop_eq_nil_of_le (by omega)] at e2; cases e2
  rw [e] at h
  unfold textR
  rw [h]
  simp; omega
theorem Txt.no {l : List UInt8} {i n : Nat} {acc : List UInt8} (h : Txt l i n acc) (hn : l.length ≤ n) : textR l i = (zeroT, 0) := by
  unfold Txt at h
  rw [List.drop_eq_nil_of_le hn, txtL_nil] at h
  unfold textR
  rw [h]; rfl

end Go.Proofs.YtbgjdfghcnblcaaGreatDoor.LexC

/-
  Contracts of lex's reference: signs, next.
-/
namespace Go.Proofs.YtbgjdfghcnblcaaGreatDoor.LexC
set_option linter.unusedVariables false
open Go.RowKit Go.Proofs.YtbgjdfghcnblcaaGreatDoor.NumC

def signL : List (List UInt8) := [[43], [45], [42], [47], [37], [94], [38], [61], [60], [62], [60, 62], [60, 61], [62, 61], [40], [41], [44], [58]]
def signCells : Array Value := #[.string { data := #[43] }, .string { data := #[45] }, .string { data := #[42] }, .string { data := #[47] }, .string { data := #[37] }, .string { data := #[94] }, .string { data := #[38] }, .string { data := #[61] }, .string { data := #[60] }, .string { data := #[62] }, .string { data := #[60, 62] }, .string { data := #[60, 61] }, .string { data := #[62, 61] }, .string { data := #[40] }, .string { data := #[41] }, .string { data := #[44] }, .string { data := #[58] }]
theorem signs_cell (m : Nat) (h : m < 17) : signCells[m]? = some (.string (str (signL.getD m []))) := by
  have : m = 0 ∨ m = 1 ∨ m = 2 ∨ m = 3 ∨ m = 4 ∨ m = 5 ∨ m = 6 ∨ m = 7 ∨ m = 8 ∨ m = 9 ∨ m = 10 ∨ m = 11 ∨ m = 12 ∨ m = 13 ∨ m = 14 ∨ m = 15 ∨ m = 16 := by omega
  rcases this with rfl | rfl | rfl | rfl | rfl | rfl | rfl | rfl | rfl | rfl | rfl | rfl | rfl | rfl | rfl | rfl | rfl <;> rfl
/-- The place of a sign among all of them. -/
def signI (x : List UInt8) : Nat := signL.findIdx (· == x)
theorem signI_le (x : List UInt8) : signI x ≤ 17 := List.findIdx_le_length
theorem signI_at {x : List UInt8} (h : signI x < 17) : signL.getD (signI x) [] = x := by
  have h2 : signL.findIdx (· == x) < signL.length := h
  have := List.findIdx_getElem (w := h2)
  rw [beq_iff_eq] at this
  unfold signI
  rw [List.getD_eq_getElem?_getD, List.getElem?_eq_getElem h2]; exact this
theorem signI_lt {x : List UInt8} {m : Nat} (h : m < signI x) : signL.getD m [] ≠ x := by
  have h1 := signI_le x
  have h2 : m < signL.length := by show m < 17; omega
  have := List.not_of_lt_findIdx (p := (· == x)) (xs := signL) h
  intro e
  rw [List.getD_eq_getElem?_getD, List.getElem?_eq_getElem h2] at e
  have e2 : signL[m] = x := e
  rw [e2] at this; simp at this
theorem signI_two (c d : UInt8) : (signI [c, d] < 17) ↔ sign2 c d = true := by
  have : signI [c, d] < 17 ↔ [c, d] ∈ signL := by
    show signL.findIdx (· == [c, d]) < signL.length ↔ _
    rw [List.findIdx_lt_length]; simp
  rw [this]
  simp only [signL, sign2, List.mem_cons, List.cons.injEq, List.not_mem_nil, or_false, and_false, and_true, Bool.or_eq_true, Bool.and_eq_true, beq_iff_eq, reduceCtorEq, false_or]
  constructor
  · rintro (⟨h1, h2⟩ | ⟨h1, h2⟩ | ⟨h1, h2⟩)
    · exact Or.inl ⟨h1, Or.inl h2⟩
    · exact Or.inl ⟨h1, Or.inr h2⟩
    · exact Or.inr ⟨h1, h2⟩
  · rintro (⟨h1, h2 | h2⟩ | ⟨h1, h2⟩)
    · exact Or.inl ⟨h1, h2⟩
    · exact Or.inr (Or.inl ⟨h1, h2⟩)
    · exact Or.inr (Or.inr ⟨h1, h2⟩)
theorem signI_one (c : UInt8) : (signI [c] < 17) ↔ sign1 c = true := by
  have : signI [c] < 17 ↔ [c] ∈ signL := by
    show signL.findIdx (· == [c]) < signL.length ↔ _
    rw [List.findIdx_lt_length]; simp
  rw [this]
  simp only [signL, sign1, List.mem_cons, List.cons.injEq, List.not_mem_nil, or_false, and_false, and_true, List.contains_eq_mem, decide_eq_true_iff, false_or, List.nil_eq, List.cons_ne_nil]
/-- The token at a place. -/
def nextR (l : List UInt8) (i : Nat) : Tok × Int := match nextL (l.drop i) with
  | some (k, n, s, m) => (⟨k, n, str s, i⟩, m)
  | none => (zeroT, 0)
theorem next_digit {l : List UInt8} {i : Nat} (h : i < l.length) (hd : digB l[i] = true) : nextR l i = numR l i := by
  unfold nextR numR
  rw [drop_cons h, nextL_cons, tokL, if_pos hd]
  by_cases hv : numV ((l[i] :: l.drop (i + 1)).takeWhile digB) < 9223372036854775808
  · rw [if_pos hv, if_pos hv]; rfl
  · rw [if_neg hv, if_neg hv]
theorem next_letter {l : List UInt8} {i n : Nat} (h : i < l.length) (hd : digB l[i] = false) (hl : letB l[i] = true) (hi : i ≤ n) (hn : n ≤ l.length) (h1 : ∀ k, i ≤ k → k < n → ∃ h : k < l.length, wordB l[k] = true) (h2 : n = l.length ∨ ∃ h : n < l.length, wordB l[n] = false) :
    nextR l i = (⟨3, 0, str (upL ((l.take n).drop i)), i⟩, (n : Int) - i) := by
  have e := take_run h1 h2 hi hn
  rw [drop_cons h] at e
  unfold nextR
  rw [drop_cons h, nextL_cons, tokL, hd, if_neg Bool.false_ne_true, if_pos hl]
  simp only [e]
  rw [List.length_drop, List.length_take]
  congr 1; omega
theorem next_text {l : List UInt8} {i : Nat} (h : i < l.length) (hc : l[i] = 34) : nextR l i = textR l i := by
  unfold nextR textR
  rw [drop_cons h, nextL_cons, tokL, hc, if_neg (by decide), if_neg (by decide), if_pos rfl]
  cases txtL (l.drop (i + 1)) with
  | none => rfl
  | some r => rfl
theorem next_two {l : List UInt8} {i : Nat} (h : i + 1 < l.length) (hd : digB l[i] = false) (hl : letB l[i] = false) (hc : l[i] ≠ 34) (h2 : signI [l[i], l[i + 1]] < 17) : nextR l i = (⟨4, 0, str [l[i], l[i + 1]], i⟩, 2) := by
  unfold nextR
  rw [drop_cons (show i < l.length by omega), drop_cons h, nextL_cons, tokL, hd, hl, if_neg Bool.false_ne_true, if_neg Bool.false_ne_true, if_neg hc, signT]
  rw [if_pos ((signI_two _ _).1 h2)]; rfl
theorem next_one {l : List UInt8} {i : Nat} (h : i < l.length) (hd : digB l[i] = false) (hl : letB l[i] = false) (hc : l[i] ≠ 34) (h2 : ∀ h : i + 1 < l.length, ¬ signI [l[i], l[i + 1]] < 17) (h1 : signI [l[i]] < 17) : nextR l i = (⟨4, 0, str [l[i]], i⟩, 1) := by
  unfold nextR
  by_cases h3 : i + 1 < l.length
  · have := h2 h3
    rw [signI_two] at this
    rw [drop_cons h, drop_cons h3, nextL_cons, tokL, hd, hl, if_neg Bool.false_ne_true, if_neg Bool.false_ne_true, if_neg hc, signT]
    rw [if_neg this, if_pos ((signI_one _).1 h1)]; rfl
  · rw [drop_cons h, List.drop_eq_nil_of_le (show l.length ≤ i + 1 by omega), nextL_cons, tokL, hd, hl, if_neg Bool.false_ne_true, if_neg Bool.false_ne_true, if_neg hc, signT]
    rw [if_pos ((signI_one _).1 h1)]; rfl
theorem next_none {l : List UInt8} {i : Nat} (h : i < l.length) (hd : digB l[i] = false) (hl : letB l[i] = false) (hc : l[i] ≠ 34) (h2 : ∀ h : i + 1 < l.length, ¬ signI [l[i], l[i + 1]] < 17) (h1 : ¬ signI [l[i]] < 17) : nextR l i = (zeroT, 0) := by
  rw [signI_one] at h1
  unfold nextR
  by_cases h3 : i + 1 < l.length
  · have := h2 h3
    rw [signI_two] at this
    rw [drop_cons h, drop_cons h3, nextL_cons, tokL, hd, hl, if_neg Bool.false_ne_true, if_neg Bool.false_ne_true, if_neg hc, signT]
    rw [if_neg this, if_neg h1]
  · rw [drop_cons h, List.drop_eq_nil_of_le (show l.length ≤ i + 1 by omega), nextL_cons, tokL, hd, hl, if_neg Bool.false_ne_true, if_neg Bool.false_ne_true, if_neg hc, signT]
    rw [if_neg h1]

end Go.Proofs.YtbgjdfghcnblcaaGreatDoor.LexC

/-
  Contracts of lex's reference: next.
-/
namespace Go.Proofs.YtbgjdfghcnblcaaGreatDoor.LexC
set_option linter.unusedVariables false
open Go.RowKit Go.Proofs.YtbgjdfghcnblcaaGreatDoor.NumC

theorem two_str (s : ByteArray) (k : Nat) (h : k + 1 < s.size) : s.extract k (k + 2) = str [s[k], s[k + 1]] := by
  apply ByteArray.ext
  apply Array.toList_inj.1
  rw [Lib.extract_data, show k + 2 - k = 2 from by omega, List.drop_eq_getElem_cons (by rw [← list_len]; omega), List.drop_eq_getElem_cons (by rw [← list_len]; exact h)]
  rfl
theorem heap_one (w : World) (o : Obj) : (w.alloc o).heap.size = w.heap.size + 1 := by simp
theorem str_list (l : List UInt8) : (str l).toList = l := by rw [Lib.toList_data]; rfl
/-- A sign. -/
def signS (m : Nat) : ByteArray := str (signL.getD m [])
theorem signS_at {x : List UInt8} (h : signI x < 17) : signS (signI x) = str x := by unfold signS; rw [signI_at h]
theorem sign_yes {s : ByteArray} {i k : Nat} {x : List UInt8} (e : s.extract i k = str x) (h : signI x < 17) : ((signS (signI x)).toList == (s.extract i k).toList) = true := by
  rw [e, signS_at h]; exact beq_self_eq_true _
theorem sign_no {s : ByteArray} {i k m : Nat} {x : List UInt8} (e : s.extract i k = str x) (h : m < signI x) : ((signS m).toList == (s.extract i k).toList) = false := by
  unfold signS; rw [e, str_list, str_list]; exact beq_eq_false_iff_ne.2 (signI_lt h)
theorem signs_there {W wr : World} (h : Below (W.alloc (.cells signCells 9)).heap.size (W.alloc (.cells signCells 9)) wr) {m : Nat} (hm : m < 17) : wr.cell? ⟨W.heap.size, m, none⟩ = some (.string (signS m)) := by
  refine cell_later h ?_
  have := signs_cell m hm
  unfold signS
  rw [World.cell?_alloc_mark]; exact this

end Go.Proofs.YtbgjdfghcnblcaaGreatDoor.LexC
