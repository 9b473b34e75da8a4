/-
  Plain facts on tokens: a quoted text is one; a blank behind changes nothing, blanks ahead the places alone; places rise. No program in it.
-/
import Derived.Test.YtlbnlflfoafioaaDoorLexF
namespace Go.Proofs.YtlbnlflfoafioaaDoor.LexC
set_option linter.unusedVariables false
open Go.Proofs.YtlbnlflfoafioaaDoor.NumC

theorem txt_quoted : ∀ (l : List UInt8), txtL (l.flatMap quC ++ [34]) = some (l, (l.flatMap quC).length + 1)
  | [] => by
    show txtL [34] = _
    exact txtL_one (fun l' e => by cases e)
  | c :: l => by
    have ih := txt_quoted l
    rw [List.flatMap_cons, List.append_assoc]
    by_cases hc : c = 34
    · subst hc
      show txtL (34 :: 34 :: (l.flatMap quC ++ [34])) = _
      rw [txtL_two, ih]
      simp [quC]
    · rw [show quC c = [c] from if_neg hc]
      show txtL (c :: (l.flatMap quC ++ [34])) = _
      rw [txtL_no hc, ih]
      simp
theorem cutF_blank (f : Nat) (l : List UInt8) (i : Nat) (acc : List Tok) : cutF (f + 1) (32 :: l) i acc = cutF f l (i + 1) acc := by rw [cutF, if_pos rfl]
theorem cutF_nil (f i : Nat) (acc : List Tok) : cutF f [] i acc = ⟨acc, 0, 0⟩ := by cases f <;> rfl
theorem cut_quoted {l : List UInt8} (h : l.length ≤ 140) : cutL (quL l) = ⟨[⟨2, 0, str l, 0⟩], 0, 0⟩ := by
  have hq := quB_len l
  have hlen : (quL l).length ≤ 300 := by unfold quL; rw [List.length_append]; simp only [List.length_cons, List.length_nil]; omega
  have hcons : quL l = 34 :: (l.flatMap quC ++ [34]) := rfl
  have hn : nextL (quL l) = some (2, 0, l, (l.flatMap quC).length + 2) := by
    rw [hcons, nextL_cons, tokL, if_neg (by decide), if_neg (by decide), if_pos rfl, txt_quoted]; rfl
  unfold cutL
  rw [if_neg (by omega)]
  have hd : (quL l).drop ((l.flatMap quC).length + 2) = [] := by
    apply List.drop_eq_nil_of_le
    rw [hcons]; simp
  rw [hcons] at hn hd ⊢
  rw [cutF, if_neg (by decide), hn]
  simp only [hd, List.nil_append]
  rw [cutF_nil]; rfl
theorem take_app {p : UInt8 → Bool} {x : UInt8} (h : p x = false) : ∀ (l : List UInt8), (l ++ [x]).takeWhile p = l.takeWhile p
  | [] => by simp [h]
  | c :: l => by
    rw [List.cons_append, List.takeWhile_cons, List.takeWhile_cons, take_app h l]
theorem txt_app : ∀ (l : List UInt8), txtL (l ++ [32]) = txtL l := by
  have key : ∀ (n : Nat) (l : List UInt8), l.length ≤ n → txtL (l ++ [32]) = txtL l := by
    intro n
    induction n with
    | zero =>
      intro l hl
      have : l = [] := List.length_eq_zero_iff.1 (by omega)
      subst this
      show txtL [32] = txtL []
      rw [txtL_no (by decide)]; rfl
    | succ n ih =>
      intro l hl
      cases l with
      | nil => show txtL [32] = txtL []; rw [txtL_no (by decide)]; rfl
      | cons c l =>
        rw [List.cons_append]
        by_cases hc : c = 34
        · subst hc
          by_cases h2 : ∃ l', l = 34 :: l'
          · obtain ⟨l', rfl⟩ := h2
            rw [List.cons_append, txtL_two, txtL_two, ih l' (by simp at hl; omega)]
          · rw [txtL_one (fun l' e => h2 ⟨l', e⟩), txtL_one (fun l' e => ?_)]
            cases l with
            | nil => cases e
            | cons d l => rw [List.cons_append] at e; injection e with e1 e2; exact h2 ⟨l, by rw [e1]⟩
        · rw [txtL_no hc, txtL_no hc, ih l (by simp at hl; omega)]
  exact fun l => key l.length l (Nat.le_refl _)
theorem next_app (c : UInt8) (l : List UInt8) : nextL (c :: l ++ [32]) = nextL (c :: l) := by
  have t1 : (c :: (l ++ [32])).takeWhile digB = (c :: l).takeWhile digB := take_app (p := digB) (by decide) (c :: l)
  have t2 : (c :: (l ++ [32])).takeWhile wordB = (c :: l).takeWhile wordB := take_app (p := wordB) (by decide) (c :: l)
  rw [List.cons_append, nextL_cons, nextL_cons]
  unfold tokL
  rw [t1, t2, txt_app]
  have t3 : signT c (l ++ [32]) = signT c l := by
    cases l with
    | nil =>
      show signT c [32] = signT c []
      have : sign2 c 32 = false := by simp [sign2]
      simp [signT, this]
    | cons d l => rfl
  rw [t3]
def shift (t : Tok) : Tok := ⟨t.k, t.n, t.s, t.at_ + 2⟩
theorem cutF_shift : ∀ (f g : Nat) (l : List UInt8) (i : Nat) (acc : List Tok), l.length + 1 < f → l.length < g → (cutF f (l ++ [32]) (i + 2) (acc.map shift)).toks = (cutF g l i acc).toks.map shift ∧ (cutF f (l ++ [32]) (i + 2) (acc.map shift)).err = (cutF g l i acc).err := by
  intro f
  induction f with
  | zero => intro g l i acc h; omega
  | succ f ih =>
    intro g l i acc hf hg
    cases g with
    | zero => omega
    | succ g =>
      cases l with
      | nil =>
        have e : cutF (f + 1) ([] ++ [32]) (i + 2) (acc.map shift) = ⟨acc.map shift, 0, 0⟩ := by
          show cutF (f + 1) [32] (i + 2) (acc.map shift) = _
          rw [cutF_blank, cutF_nil]
        rw [e, cutF_nil]; exact ⟨rfl, rfl⟩
      | cons c l =>
        simp only [List.length_cons] at hf hg
        rw [List.cons_append, cutF, cutF]
        by_cases hc : c = 32
        · rw [if_pos hc, if_pos hc]; exact ih g l (i + 1) acc (by omega) (by omega)
        · rw [if_neg hc, if_neg hc]
          have hna := next_app c l
          rw [List.cons_append] at hna
          rw [hna]
          cases hn : nextL (c :: l) with
          | none => exact ⟨rfl, rfl⟩
          | some r =>
            obtain ⟨k, n, s, m⟩ := r
            have hm := next_len hn
            simp only
            have e1 : (c :: (l ++ [32])).drop m = (c :: l).drop m ++ [32] := by
              rw [← List.cons_append, List.drop_append_of_le_length hm.2]
            have e2 : acc.map shift ++ [(⟨k, n, str s, ((i + 2 : Nat) : Int)⟩ : Tok)] = (acc ++ [(⟨k, n, str s, (i : Int)⟩ : Tok)]).map shift := by
              rw [List.map_append]; rfl
            rw [e1, e2, show i + 2 + m = (i + m) + 2 from by omega]
            apply ih
            · rw [List.length_drop]; simp only [List.length_cons] at *; omega
            · rw [List.length_drop]; simp only [List.length_cons] at *; omega
theorem cut_shift {l : List UInt8} (h : l.length ≤ 140) : (cutL ([32, 32] ++ l ++ [32])).toks = (cutL l).toks.map shift ∧ (cutL ([32, 32] ++ l ++ [32])).err = (cutL l).err := by
  have e : cutL ([32, 32] ++ l ++ [32]) = cutF (l.length + 2) (l ++ [32]) 2 [] := by
    unfold cutL
    rw [if_neg (by simp; omega)]
    show cutF (([32, 32] ++ l ++ [32]).length + 1) (32 :: 32 :: (l ++ [32])) 0 [] = _
    rw [show ([32, 32] ++ l ++ [32] : List UInt8).length + 1 = (l.length + 2) + 1 + 1 from by simp, cutF_blank, cutF_blank]
  have e2 : cutL l = cutF (l.length + 1) l 0 [] := by unfold cutL; rw [if_neg (by omega)]
  rw [e, e2]
  exact cutF_shift (l.length + 2) (l.length + 1) l 0 [] (by omega) (by omega)
/-- The places rise, and are within. -/
structure Rise (ts : List Tok) (n : Nat) : Prop where
  up : ts.Pairwise fun a b => a.at_ < b.at_
  lo : ∀ t ∈ ts, 0 ≤ t.at_ ∧ t.at_ < n
theorem cutF_rise : ∀ (f : Nat) (l : List UInt8) (i : Nat) (acc : List Tok), Rise acc i → Rise (cutF f l i acc).toks (i + l.length) := by
  intro f
  induction f with
  | zero => intro l i acc h; exact ⟨h.up, fun t ht => by have := h.lo t ht; omega⟩
  | succ f ih =>
    intro l i acc h
    cases l with
    | nil => exact ⟨h.up, fun t ht => by have := h.lo t ht; omega⟩
    | cons c l =>
      rw [cutF]
      by_cases hc : c = 32
      · rw [if_pos hc]
        have := ih l (i + 1) acc ⟨h.up, fun t ht => by have := h.lo t ht; omega⟩
        rwa [show i + (c :: l).length = i + 1 + l.length from by simp; omega]
      · rw [if_neg hc]
        cases hn : nextL (c :: l) with
        | none => exact ⟨List.Pairwise.nil, fun t ht => by cases ht⟩
        | some r =>
          obtain ⟨k, n, s, m⟩ := r
          have hm := next_len hn
          simp only
          have := ih ((c :: l).drop m) (i + m) (acc ++ [⟨k, n, str s, i⟩]) ⟨?_, ?_⟩
          · rw [List.length_drop] at this
            rwa [show i + m + ((c :: l).length - m) = i + (c :: l).length from by omega] at this
          · rw [List.pairwise_append]
            refine ⟨h.up, List.pairwise_singleton _ _, fun a ha b hb => ?_⟩
            have h1 := h.lo a ha
            rw [List.mem_singleton] at hb
            subst hb
            exact h1.2
          · intro t ht
            rcases List.mem_append.1 ht with ht | ht
            · have := h.lo t ht; omega
            · rw [List.mem_singleton] at ht; subst ht; simp only; omega
theorem cut_rise (l : List UInt8) : Rise (cutL l).toks 300 := by
  unfold cutL
  split
  · exact ⟨List.Pairwise.nil, fun t ht => by cases ht⟩
  · have := cutF_rise (l.length + 1) l 0 [] ⟨List.Pairwise.nil, fun t ht => by cases ht⟩
    exact ⟨this.up, fun t ht => by have := this.lo t ht; omega⟩
theorem Rise.step {ts : List Tok} {n : Nat} (h : Rise ts n) {i : Nat} (hi : i + 1 < ts.length) : ts[i].at_ < ts[i + 1].at_ :=
  List.pairwise_iff_getElem.1 h.up i (i + 1) (by omega) hi (by omega)
end Go.Proofs.YtlbnlflfoafioaaDoor.LexC
