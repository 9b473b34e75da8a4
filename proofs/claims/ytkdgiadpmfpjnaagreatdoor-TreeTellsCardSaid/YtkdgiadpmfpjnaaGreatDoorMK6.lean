/-
  A function's name, by the reference: plain facts, and contracts of its word, Ops, sign.
-/
import Derived.Test.YtkdgiadpmfpjnaaGreatDoorMZ
namespace Go.Proofs.YtkdgiadpmfpjnaaGreatDoor.TreeC
set_option linter.unusedVariables false
open Go.RowKit Go.Proofs.YtkdgiadpmfpjnaaGreatDoor.NumC Go.Proofs.YtkdgiadpmfpjnaaGreatDoor.LexC

def capB (c : UInt8) : Bool := decide (65 ≤ c.toNat ∧ c.toNat ≤ 90)
def capd (c : UInt8) : Bool := capB c || digB c
/-- A capital letter, and then capital letters and digits. -/
def wordL : List UInt8 → Bool
  | [] => false
  | c :: l => capB c && l.all capd
theorem wordL_cons (c : UInt8) (l : List UInt8) : wordL (c :: l) = (capB c && l.all capd) := rfl
theorem str_dl (l : List UInt8) : (str l).data.toList = l := by simp [str]
theorem up_word (c : UInt8) (h : wordB c = true) : capd (upC c) = true := by
  unfold wordB at h
  unfold capd capB
  by_cases hd : digB c = true
  · have h1 := digB_iff.1 hd
    rw [upC_no (by omega), hd]; simp
  · have hl : letB c = true := by simpa [hd] using h
    have h2 := letB_iff.1 hl
    by_cases h3 : 97 ≤ c.toNat ∧ c.toNat ≤ 122
    · rw [upC_up h3]
      have h4 := sub32 h3.1
      simp only [h4]
      have : decide (65 ≤ c.toNat - 32 ∧ c.toNat - 32 ≤ 90) = true := decide_eq_true (by omega)
      rw [this]; rfl
    · rw [upC_no h3]
      have : decide (65 ≤ c.toNat ∧ c.toNat ≤ 90) = true := decide_eq_true (by omega)
      rw [this]; rfl
theorem up_cap (c : UInt8) (h : letB c = true) : capB (upC c) = true := by
  have h2 := letB_iff.1 h
  unfold capB
  by_cases h3 : 97 ≤ c.toNat ∧ c.toNat ≤ 122
  · rw [upC_up h3, sub32 h3.1]; exact decide_eq_true (by omega)
  · rw [upC_no h3]; exact decide_eq_true (by omega)
theorem all_while {p : UInt8 → Bool} : ∀ l : List UInt8, ∀ c ∈ l.takeWhile p, p c = true := by
  intro l
  induction l with
  | nil => intro c h; simp at h
  | cons d l ih =>
    intro c h
    rw [List.takeWhile_cons] at h
    split at h
    · rename_i hd
      rcases List.mem_cons.1 h with h | h
      · rw [h]; exact hd
      · exact ih c h
    · simp at h
/-- Every name that is cut is one. -/
theorem next_word {l : List UInt8} {n : Int} {s : List UInt8} {m : Nat} (h : nextL l = some (3, n, s, m)) : wordL s = true := by
  cases l with
  | nil => cases h
  | cons c l =>
    rw [nextL_cons] at h
    unfold tokL at h
    by_cases h1 : digB c = true
    · rw [if_pos h1] at h
      split at h
      · injection h with h; injection h with h2 h3; cases h2
      · cases h
    · rw [if_neg h1] at h
      by_cases h2 : letB c = true
      · rw [if_pos h2] at h
        injection h with h; injection h with _ h; injection h with _ h; injection h with h _
        subst h
        have hw : wordB c = true := by unfold wordB; rw [h2]; rfl
        rw [List.takeWhile_cons, if_pos hw]
        unfold upL
        rw [List.map_cons]
        rw [wordL_cons, up_cap c h2, Bool.true_and, List.all_eq_true]
        intro d hd
        obtain ⟨e, he, rfl⟩ := List.mem_map.1 hd
        exact up_word e (all_while l e he)
      · rw [if_neg h2] at h
        by_cases h3 : c = 34
        · rw [if_pos h3] at h
          cases ht : txtL l with
          | none => rw [ht] at h; cases h
          | some r => rw [ht] at h; simp at h
        · rw [if_neg h3] at h
          unfold signT at h
          split at h <;> (repeat (split at h)) <;> simp at h
theorem cut_words : ∀ (f : Nat) (l : List UInt8) (i : Nat) (acc : List Tok), (∀ t ∈ acc, t.k = 3 → wordL t.s.data.toList = true) → ∀ t ∈ (cutF f l i acc).toks, t.k = 3 → wordL t.s.data.toList = true := by
  intro f
  induction f with
  | zero => intro l i acc h; simpa [cutF] using h
  | succ f ih =>
    intro l i acc h
    cases l with
    | nil => simpa [cutF] using h
    | cons c l =>
      rw [cutF]
      by_cases hc : c = 32
      · rw [if_pos hc]; exact ih l (i + 1) acc h
      · rw [if_neg hc]
        cases hn : nextL (c :: l) with
        | none => intro t ht; simp at ht
        | some q =>
          obtain ⟨k, n, s, m⟩ := q
          refine ih _ _ _ fun t ht hk => ?_
          rcases List.mem_append.1 ht with ht | ht
          · exact h t ht hk
          · obtain rfl := List.mem_singleton.1 ht
            simp only at hk
            subst hk
            show wordL (str s).data.toList = true
            rw [str_dl]
            exact next_word hn
theorem take_all {p : UInt8 → Bool} : ∀ l : List UInt8, (∀ c ∈ l, p c = true) → l.takeWhile p = l := by
  intro l
  induction l with
  | nil => intro _; rfl
  | cons c l ih => intro h; rw [List.takeWhile_cons, if_pos (h c (by simp)), ih fun d hd => h d (by simp [hd])]
theorem cap_let {c : UInt8} (h : capB c = true) : letB c = true := by
  unfold capB at h
  exact letB_iff.2 (Or.inr (of_decide_eq_true h))
theorem capd_word {c : UInt8} (h : capd c = true) : wordB c = true ∧ upC c = c := by
  unfold capd at h
  by_cases h1 : capB c = true
  · have h2 := of_decide_eq_true (show decide (65 ≤ c.toNat ∧ c.toNat ≤ 90) = true from h1)
    exact ⟨by unfold wordB; rw [cap_let h1]; rfl, upC_no (by omega)⟩
  · have h3 : digB c = true := by simpa [h1] using h
    have h2 := digB_iff.1 h3
    exact ⟨by unfold wordB; rw [h3]; simp, upC_no (by omega)⟩
/-- A name is cut as one token, that it is. -/
theorem cut_word (l : List UInt8) (h : wordL l = true) (h8 : l.length ≤ 8) : (cutL l).toks = [⟨3, 0, str l, 0⟩] := by
  cases l with
  | nil => cases h
  | cons c l =>
    unfold wordL at h
    rw [Bool.and_eq_true, List.all_eq_true] at h
    obtain ⟨hc, hl⟩ := h
    have hlet := cap_let hc
    have hcd : capd c = true := by unfold capd; rw [hc]; rfl
    have hdig : ¬ digB c = true := fun e => by
      have h1 := digB_iff.1 e
      have h2 := of_decide_eq_true (show decide (65 ≤ c.toNat ∧ c.toNat ≤ 90) = true from hc)
      omega
    have hall : ∀ d ∈ c :: l, capd d = true := fun d hd => by
      rcases List.mem_cons.1 hd with rfl | hd
      · exact hcd
      · exact hl d hd
    have ht : (c :: l).takeWhile wordB = c :: l := take_all _ fun d hd => (capd_word (hall d hd)).1
    have hu : upL (c :: l) = c :: l := by
      unfold upL
      conv => rhs; rw [← List.map_id (c :: l)]
      exact List.map_congr_left fun d hd => (capd_word (hall d hd)).2
    have hn : nextL (c :: l) = some (3, 0, c :: l, (c :: l).length) := by
      rw [nextL_cons]
      unfold tokL
      rw [if_neg hdig, if_pos hlet, ht, hu]
    have h32 : c ≠ 32 := fun e => by
      have h2 := of_decide_eq_true (show decide (65 ≤ c.toNat ∧ c.toNat ≤ 90) = true from hc)
      rw [e] at h2
      exact absurd h2 (by decide)
    unfold cutL
    rw [if_neg (by omega), cutF, if_neg h32, hn]
    simp only [List.drop_length, List.nil_append]
    cases hf : (c :: l).length with
    | zero => simp at hf
    | succ n => simp [cutF]
/-- The two readings of a function's name are one. -/
theorem fn_word (s : ByteArray) : fnB s = (decide (s.size ≤ 8) && wordL s.data.toList) := by
  unfold fnB
  by_cases h8 : s.size ≤ 8
  · rw [decide_eq_true h8, Bool.true_and, Bool.true_and]
    have hl : s.data.toList.length ≤ 8 := by rw [show s.data.toList.length = s.size from Array.length_toList]; exact h8
    cases hw : wordL s.data.toList with
    | true =>
      rw [cut_word _ hw hl]
      simp only [decide_true, Bool.true_and, decide_eq_true_eq]
      exact ByteArray.ext (Array.toList_inj.1 (str_dl _))
    | false =>
      split
      · rename_i t ht
        by_cases hk : t.k = 3
        · have h1 := cut_words (s.data.toList.length + 1) s.data.toList 0 [] (fun t ht => by simp at ht)
          have h2 : (cutL s.data.toList) = cutF (s.data.toList.length + 1) s.data.toList 0 [] := by unfold cutL; rw [if_neg (by omega)]
          rw [← h2, ht] at h1
          have h3 := h1 t (by simp) hk
          have : decide (t.s = s) = false := decide_eq_false (fun e => by rw [e, hw] at h3; cases h3)
          rw [this, Bool.and_false]
        · rw [decide_eq_false hk]; rfl
      · rfl
  · rw [decide_eq_false h8]; rfl
theorem wordL_at {l : List UInt8} (h0 : 0 < l.length) : wordL l = (capB l[0] && l.all capd) := by
  cases l with
  | nil => simp at h0
  | cons c l =>
    rw [wordL_cons]
    show _ = (capB c && (c :: l).all capd)
    rw [List.all_cons]
    cases hc : capB c with
    | false => rfl
    | true => simp [capd, hc]
set_option maxRecDepth 100000 in
set_option maxHeartbeats 1000000 in
theorem rword (s : ByteArray) (w : World) (hs : s.size ≤ 1000000) : Calls Tryz.prog 50 #[.string s] w fun e w' => e = .returned (.bool (decide (s.size ≤ 8) && wordL s.data.toList)) ∧ w = w' := by
  have hsl : s.data.toList.length = s.size := Array.length_toList
  by_cases h0 : s.size < 1
  · have E : Hid ((decide (s.size ≤ 8) && wordL s.data.toList) = false) := Lib.hid (by
      have : s.data.toList = [] := List.length_eq_zero_iff.1 (by omega)
      rw [this]; simp [wordL])
    have d1 : (s.size : Int) < 1 := by omega
    clear hsl h0
    go_enter Tryz.func50, Tryz.ntmps50
    go_wp2
    go_ret
    exact ⟨ret1 E.out.symm, rfl⟩
  · have d1 : ¬ (s.size : Int) < 1 := by omega
    by_cases h8 : 8 < s.size
    · have E : Hid ((decide (s.size ≤ 8) && wordL s.data.toList) = false) := Lib.hid (by rw [decide_eq_false (by omega)]; rfl)
      have d2 : (8 : Int) < (s.size : Int) := by omega
      clear hsl h0 h8
      go_enter Tryz.func50, Tryz.ntmps50
      go_wp2
      go_ret
      exact ⟨ret1 E.out.symm, rfl⟩
    · have d2 : ¬ (8 : Int) < (s.size : Int) := by omega
      have hp : 0 < s.size := by omega
      have hw := wordL_at (l := s.data.toList) (by omega)
      have h00 : s.data.toList[0]'(by omega) = s[0] := rfl
      rw [h00] at hw
      have hle : decide (s.size ≤ 8) = true := decide_eq_true (by omega)
      have HW := Lib.hid hw
      have HLE := Lib.hid hle
      have HSL := Lib.hid hsl
      clear hw hle hsl h0 h8 h00
      by_cases h65 : s[0].toNat < 65
      · have E : Hid ((decide (s.size ≤ 8) && wordL s.data.toList) = false) := Lib.hid (by rw [HW.out, show capB s[0] = false from decide_eq_false (by omega)]; simp)
        have e1 : ((s[0].toNat : Int) < 65) := by omega
        clear h65
        go_enter Tryz.func50, Tryz.ntmps50
        go_wp2
        go_ret
        exact ⟨ret1 E.out.symm, rfl⟩
      · have e1 : ¬ ((s[0].toNat : Int) < 65) := by omega
        by_cases h90 : 90 < s[0].toNat
        · have E : Hid ((decide (s.size ≤ 8) && wordL s.data.toList) = false) := Lib.hid (by rw [HW.out, show capB s[0] = false from decide_eq_false (by omega)]; simp)
          have e2 : ((90 : Int) < (s[0].toNat : Int)) := by omega
          clear h65 h90
          go_enter Tryz.func50, Tryz.ntmps50
          go_wp2
          go_ret
          exact ⟨ret1 E.out.symm, rfl⟩
        · have e2 : ¬ ((90 : Int) < (s[0].toNat : Int)) := by omega
          have HC : Hid (capB s[0] = true) := Lib.hid (decide_eq_true (by omega))
          clear h65 h90
          go_enter Tryz.func50, Tryz.ntmps50
          go_wp2
          go_loop [3] (fun iv => ∃ k : Nat, k ≤ s.size ∧ iv = .int .i64 k ∧ Hid ((s.data.toList.take k).all capd = true)) (fun iv => s.size - (intOf iv).toNat)
          case atStart => exact ⟨0, Nat.zero_le _, rfl, Lib.hid rfl⟩
          case round =>
            obtain ⟨k, hk, rfl, HA⟩ := hrel
            by_cases hlt : k < s.size
            · have d3 : (k : Int) < (s.size : Int) := by omega
              have HT := Lib.hid (take_snoc s k hlt)
              have HM : Hid (capd s[k] = false → (decide (s.size ≤ 8) && wordL s.data.toList) = false) := Lib.hid (fun h => by
                have h2 : s.data.toList.all capd = false := by
                  rw [List.all_eq_false]
                  exact ⟨s[k], by
                    have : s[k] = s.data.toList[k]'(by rw [HSL.out]; exact hlt) := rfl
                    rw [this]; exact List.getElem_mem _, by rw [h]; exact Bool.false_ne_true⟩
                rw [HW.out, h2]; simp)
              have HS : Hid (capd s[k] = true → (s.data.toList.take (k + 1)).all capd = true) := Lib.hid (fun h => by rw [HT.out, List.all_append, HA.out]; simp [h])
              have hb := u8_lt s[k]
              by_cases c1 : 65 ≤ s[k].toNat
              · have t1 : decide ((65 : Int) ≤ (s[k].toNat : Int)) = true := decide_eq_true (by omega)
                by_cases c2 : s[k].toNat ≤ 90
                · have t2 : decide ((s[k].toNat : Int) ≤ 90) = true := decide_eq_true (by omega)
                  have HN := Lib.hid (HS.out (by unfold capd; rw [show capB s[k] = true from decide_eq_true ⟨c1, c2⟩]; rfl))
                  go_wp2
                  go_round
                  case rel => exact ⟨k + 1, by omega, by go_num, HN⟩
                  case measure => simp [intOf]; omega
                · have t2 : decide ((s[k].toNat : Int) ≤ 90) = false := decide_eq_false (by omega)
                  have t3 : decide ((48 : Int) ≤ (s[k].toNat : Int)) = true := decide_eq_true (by omega)
                  have t4 : decide ((s[k].toNat : Int) ≤ 57) = false := decide_eq_false (by omega)
                  have HN := Lib.hid (HM.out (by unfold capd digB; rw [show capB s[k] = false from decide_eq_false (by omega), decide_eq_false (by omega)]; rfl))
                  go_wp2
                  go_ret
                  exact ⟨ret1 HN.out.symm, rfl⟩
              · have t1 : decide ((65 : Int) ≤ (s[k].toNat : Int)) = false := decide_eq_false (by omega)
                by_cases c3 : 48 ≤ s[k].toNat
                · have t3 : decide ((48 : Int) ≤ (s[k].toNat : Int)) = true := decide_eq_true (by omega)
                  by_cases c4 : s[k].toNat ≤ 57
                  · have t4 : decide ((s[k].toNat : Int) ≤ 57) = true := decide_eq_true (by omega)
                    have HN := Lib.hid (HS.out (by unfold capd; rw [show digB s[k] = true from digB_iff.2 ⟨c3, c4⟩]; simp))
                    go_wp2
                    go_round
                    case rel => exact ⟨k + 1, by omega, by go_num, HN⟩
                    case measure => simp [intOf]; omega
                  · have t4 : decide ((s[k].toNat : Int) ≤ 57) = false := decide_eq_false (by omega)
                    have HN := Lib.hid (HM.out (by unfold capd digB; rw [show capB s[k] = false from decide_eq_false (by omega), decide_eq_false (by omega)]; rfl))
                    go_wp2
                    go_ret
                    exact ⟨ret1 HN.out.symm, rfl⟩
                · have t3 : decide ((48 : Int) ≤ (s[k].toNat : Int)) = false := decide_eq_false (by omega)
                  have HN := Lib.hid (HM.out (by unfold capd digB; rw [show capB s[k] = false from decide_eq_false (by omega), decide_eq_false (by omega)]; rfl))
                  go_wp2
                  go_ret
                  exact ⟨ret1 HN.out.symm, rfl⟩
            · have d3 : ¬ (k : Int) < (s.size : Int) := by omega
              have HN : Hid ((decide (s.size ≤ 8) && wordL s.data.toList) = true) := Lib.hid (by
                have h1 := HA.out
                rw [List.take_of_length_le (by rw [HSL.out]; omega)] at h1
                rw [HLE.out, HW.out, HC.out, h1]; rfl)
              go_wp2
              go_ret
              exact ⟨ret1 HN.out.symm, rfl⟩
/-- The thirteen signs. -/
def opsL : List (List UInt8) := [[61], [60, 62], [60], [60, 61], [62], [62, 61], [43], [45], [38], [42], [47], [37], [94]]
theorem ops_any (s : ByteArray) : binB s = opsL.any (fun o => decide (s = str o)) := by
  unfold binB
  simp only [anyOf, opsL, cmpS, sumS, mulS, powS, List.any_cons, List.any_nil]
  simp [Bool.or_assoc]
theorem ops_len : opsL.length = 13 := rfl
theorem ops_cell (i : Nat) (h : i < 13) : (#[.string { data := #[61] }, .string { data := #[60, 62] }, .string { data := #[60] }, .string { data := #[60, 61] }, .string { data := #[62] }, .string { data := #[62, 61] }, .string { data := #[43] }, .string { data := #[45] }, .string { data := #[38] }, .string { data := #[42] }, .string { data := #[47] }, .string { data := #[37] }, .string { data := #[94] }] : Array Value)[i]? = some (.string (str (opsL[i]'h))) := by
  have h13 : i = 0 ∨ i = 1 ∨ i = 2 ∨ i = 3 ∨ i = 4 ∨ i = 5 ∨ i = 6 ∨ i = 7 ∨ i = 8 ∨ i = 9 ∨ i = 10 ∨ i = 11 ∨ i = 12 := by omega
  rcases h13 with rfl | rfl | rfl | rfl | rfl | rfl | rfl | rfl | rfl | rfl | rfl | rfl | rfl <;> rfl
theorem rops (w : World) : Calls Tryz.prog 82 #[] w fun e w' => e = .returned (.slice (some ⟨w.heap.size, 0, none⟩) 13 13) ∧ w' = w.alloc (.cells #[.string { data := #[61] }, .string { data := #[60, 62] }, .string { data := #[60] }, .string { data := #[60, 61] }, .string { data := #[62] }, .string { data := #[62, 61] }, .string { data := #[43] }, .string { data := #[45] }, .string { data := #[38] }, .string { data := #[42] }, .string { data := #[47] }, .string { data := #[37] }, .string { data := #[94] }] 9) := by
  go_enter Tryz.func82, Tryz.ntmps82
  go_wp2
  go_ret
  exact ⟨rfl, rfl⟩
set_option maxRecDepth 100000 in
set_option maxHeartbeats 1000000 in
theorem rsignOp (s : ByteArray) (w : World) : Calls Tryz.prog 49 #[.string s] w fun e w' => e = .returned (.bool (binB s)) ∧ Below w.heap.size w w' := by
  have HO := Lib.hid (ops_any s)
  have hB : Below w.heap.size w (w.alloc (.cells #[.string { data := #[61] }, .string { data := #[60, 62] }, .string { data := #[60] }, .string { data := #[60, 61] }, .string { data := #[62] }, .string { data := #[62, 61] }, .string { data := #[43] }, .string { data := #[45] }, .string { data := #[38] }, .string { data := #[42] }, .string { data := #[47] }, .string { data := #[37] }, .string { data := #[94] }] 9)) := (Below.refl _ _).alloc (Nat.le_refl _) _
  have hc : ∀ i (h : i < 13), (w.alloc (.cells #[.string { data := #[61] }, .string { data := #[60, 62] }, .string { data := #[60] }, .string { data := #[60, 61] }, .string { data := #[62] }, .string { data := #[62, 61] }, .string { data := #[43] }, .string { data := #[45] }, .string { data := #[38] }, .string { data := #[42] }, .string { data := #[47] }, .string { data := #[37] }, .string { data := #[94] }] 9)).cell? ⟨w.heap.size, i, none⟩ = some (.string (str (opsL[i]'h))) := fun i h => by rw [World.cell?_alloc_mark]; exact ops_cell i h
  have HC := Lib.hid hc
  have HBB := Lib.hid hB
  clear hB hc
  go_enter Tryz.func49, Tryz.ntmps49
  go_wp2_with fail
  refine (rops w).mono ?_; rintro e w1 ⟨rfl, rfl⟩
  go_wp2_with fail
  generalize (w.alloc (.cells #[.string { data := #[61] }, .string { data := #[60, 62] }, .string { data := #[60] }, .string { data := #[60, 61] }, .string { data := #[62] }, .string { data := #[62, 61] }, .string { data := #[43] }, .string { data := #[45] }, .string { data := #[38] }, .string { data := #[42] }, .string { data := #[47] }, .string { data := #[37] }, .string { data := #[94] }] 9)) = W1 at *
  go_loop [4] (fun iv => ∃ k : Nat, k ≤ 13 ∧ iv = .int .i64 k ∧ Hid ((opsL.take k).any (fun o => decide (s = str o)) = false)) (fun iv => 13 - (intOf iv).toNat)
  case atStart => exact ⟨0, by omega, rfl, Lib.hid rfl⟩
  case round =>
    obtain ⟨k, hk, rfl, HA⟩ := hrel
    by_cases hlt : k < 13
    · have d3 : (k : Int) < 13 := by omega
      have c1 := HC.out k hlt
      have hT : opsL.take (k + 1) = opsL.take k ++ [opsL[k]'hlt] := by rw [List.take_succ_eq_append_getElem (by rw [ops_len]; exact hlt)]; rfl
      have HT := Lib.hid hT
      have hM : opsL[k]'hlt ∈ opsL := List.getElem_mem _
      have HM := Lib.hid hM
      clear hT hM
      generalize opsL[k]'hlt = o at *
      by_cases hs : s = str o
      · have E : Hid (binB s = true) := Lib.hid (by rw [HO.out, List.any_eq_true]; exact ⟨o, HM.out, decide_eq_true hs⟩)
        have q1 : ((str o).toList == s.toList) = true := by rw [hs]; simp
        have q2 : (str o).toList = s.toList := by rw [hs]
        clear hs
        go_wp2_with fail
        go_ret
        exact ⟨ret1 E.out.symm, HBB.out⟩
      · have HN : Hid ((opsL.take (k + 1)).any (fun o => decide (s = str o)) = false) := Lib.hid (by rw [HT.out, List.any_append, HA.out]; simp [hs])
        have q2 : ¬ (str o).toList = s.toList := fun e => hs (ByteArray.ext (Array.toList_inj.1 (by rw [Lib.toList_data, Lib.toList_data] at e; exact e.symm)))
        have q1 : ((str o).toList == s.toList) = false := beq_eq_false_iff_ne.2 q2
        clear hs
        go_wp2_with fail
        go_round
        case rel => exact ⟨k + 1, by omega, by go_num, HN⟩
        case measure => simp [intOf]; omega
    · have d3 : ¬ (k : Int) < 13 := by omega
      have E : Hid (binB s = false) := Lib.hid (by
        have h1 := HA.out
        rw [List.take_of_length_le (by rw [ops_len]; omega)] at h1
        rw [HO.out, h1])
      go_wp2_with fail
      go_ret
      exact ⟨ret1 E.out.symm, HBB.out⟩
end Go.Proofs.YtkdgiadpmfpjnaaGreatDoor.TreeC
