/-
  The walks of the statements LexCuts and LexWords: for all arguments they answer true.
-/
import Derived.Test.YtlbnlflfoafioaaDoorLexW
namespace Go.Proofs.YtlbnlflfoafioaaDoor.LexC
set_option linter.unusedVariables false
open Go.RowKit Go.Proofs.YtlbnlflfoafioaaDoor.NumC

theorem cut_toks (l : List UInt8) : (cutL l).toks.length ≤ 300 := by
  have key : ∀ (f : Nat) (l : List UInt8) (i : Nat) (acc : List Tok), (cutF f l i acc).toks.length ≤ acc.length + l.length := by
    intro f
    induction f with
    | zero => intro l i acc; simp [cutF]
    | succ f ih =>
      intro l i acc
      cases l with
      | nil => simp [cutF]
      | cons c l =>
        rw [cutF]
        by_cases hc : c = 32
        · rw [if_pos hc]; have := ih l (i + 1) acc; simp only [List.length_cons]; omega
        · rw [if_neg hc]
          cases hn : nextL (c :: l) with
          | none => simp
          | some r =>
            obtain ⟨k, n, s, m⟩ := r
            have h1 := next_len hn
            simp only
            have := ih ((c :: l).drop m) (i + m) (acc ++ [⟨k, n, str s, i⟩])
            rw [List.length_append, List.length_drop] at this
            simp only [List.length_cons, List.length_nil] at *; omega
  unfold cutL
  split
  · simp
  · have := key (l.length + 1) l 0 []; simp at this; omega

set_option maxRecDepth 100000 in
set_option maxHeartbeats 2000000 in
theorem lexCuts (s : ByteArray) (w : World) (hl : LexLib w) :
    Calls Tryd.prog 3 #[.string s] w fun e w' => e = .returned (.bool true) ∧ Below w.heap.size w w' := by
  by_cases h3 : 3000 < s.size
  · go_enter Tryd.func3, Tryd.ntmps3
    go_wp2_with fail
    refine (wakes _ hl).mono ?_; rintro e w1 ⟨rfl, hb1⟩
    go_wp2
    go_ret
    exact ⟨rfl, hb1⟩
  · have hn := cut_toks s.data.toList
    generalize hR : cutL s.data.toList = R at *
    have HR := Lib.hid hR
    clear hR
    obtain ⟨ts, at_, er⟩ := R
    have e1 : (at_ == at_) = true := by simp
    have e2 : (er == er) = true := by simp
    go_enter Tryd.func3, Tryd.ntmps3
    go_wp2_with fail
    refine (cut s _ (by omega) hl).mono ?_; rw [HR.out]; rintro e w1 ⟨v1, rfl, ho1, hb1⟩
    have T1 := Lib.hid (tokAt_own ho1)
    clear ho1
    go_wp2_with fail
    refine (rcut s _ (by omega)).mono ?_; rw [HR.out]; rintro e w2 ⟨v2, rfl, ho2, hb2⟩
    have T2 := Lib.hid (tokAt_own ho2)
    clear ho2
    have hB := hb1.trans (hb2.mono hb1.size)
    go_wp2_with fail
    refine (keepSame ts v1 v2 _ (by omega) (T1.out.below hb2) T2.out).mono ?_; rintro e w3 ⟨rfl, hb3⟩
    have hB3 := hB.trans (hb3.mono hB.size)
    go_wp2_with fail
    refine (wakes _ (hl.below hB3)).mono ?_; rintro e w4 ⟨rfl, hb4⟩
    go_wp2
    go_ret
    exact ⟨rfl, hB3.trans (hb4.mono hB3.size)⟩

set_option maxRecDepth 100000 in
set_option maxHeartbeats 2000000 in
theorem lexWords (s : ByteArray) (w : World) (hl : LexLib w) :
    Calls Tryd.prog 4 #[.string s] w fun e w' => e = .returned (.bool true) ∧ Below w.heap.size w w' := by
  by_cases h3 : 3000 < s.size
  · go_enter Tryd.func4, Tryd.ntmps4
    go_wp2_with fail
    refine (wakes _ hl).mono ?_; rintro e w1 ⟨rfl, hb1⟩
    go_wp2
    go_ret
    exact ⟨rfl, hb1⟩
  · have hu : (str (upL s.data.toList)).size ≤ 1000000 := by rw [str_size, upL_len, ← list_len]; omega
    have HU : Hid (str (upL (str (upL s.data.toList)).data.toList) = str (upL s.data.toList)) := Lib.hid (by show str (upL (upL s.data.toList)) = _; rw [upL_idem])
    go_enter Tryd.func4, Tryd.ntmps4
    go_wp2_with fail
    refine (upper s _ (by omega)).mono ?_; rintro e w1 ⟨rfl, hb1⟩
    have hB := hb1
    go_wp2_with fail
    refine (rupper s _ (by omega)).mono ?_; rintro e w2 ⟨rfl, hb2⟩
    replace hB := hB.trans (hb2.mono hB.size)
    generalize hY : str (upL s.data.toList) = Y at *
    have HY := Lib.hid hY
    clear hY
    have e1 : (Y.toList == Y.toList) = true := by simp
    go_wp2_with fail
    refine (quote s _ (by omega) (hl.below hB)).mono ?_; rintro e w3 ⟨rfl, hb3⟩
    replace hB := hB.trans (hb3.mono hB.size)
    go_wp2_with fail
    refine (rquote s _ (by omega)).mono ?_; rintro e w' ⟨rfl, rfl⟩
    generalize str (quL s.data.toList) = Z at *
    have e2 : (Z.toList == Z.toList) = true := by simp
    go_wp2_with fail
    refine (upper s _ (by omega)).mono ?_; rw [HY.out]; rintro e w4 ⟨rfl, hb4⟩
    replace hB := hB.trans (hb4.mono hB.size)
    go_wp2_with fail
    refine (upper Y _ hu).mono ?_; rw [HU.out]; rintro e w5 ⟨rfl, hb5⟩
    replace hB := hB.trans (hb5.mono hB.size)
    go_wp2_with fail
    refine (upper s _ (by omega)).mono ?_; rw [HY.out]; rintro e w6 ⟨rfl, hb6⟩
    replace hB := hB.trans (hb6.mono hB.size)
    go_wp2_with fail
    refine (wakes _ (hl.below hB)).mono ?_; rintro e w7 ⟨rfl, hb7⟩
    go_wp2
    go_ret
    exact ⟨rfl, hB.trans (hb7.mono hB.size)⟩
end Go.Proofs.YtlbnlflfoafioaaDoor.LexC
