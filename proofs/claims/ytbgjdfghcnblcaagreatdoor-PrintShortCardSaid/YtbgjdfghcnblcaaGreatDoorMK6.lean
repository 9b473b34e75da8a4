/-
  A function's name, by the reference: plain facts, and contracts of its word, Ops, sign.
-/
import Derived.Test.YtbgjdfghcnblcaaGreatDoorMZ
import Derived.Test.YtbgjdfghcnblcaaGreatDoorMVal
import Derived.Test.YtbgjdfghcnblcaaGreatDoorMK1
namespace Go.Proofs.YtbgjdfghcnblcaaGreatDoor.TreeC
set_option linter.unusedVariables false
open Go.RowKit Go.Proofs.YtbgjdfghcnblcaaGreatDoor.NumC Go.Proofs.YtbgjdfghcnblcaaGreatDoor.LexC

def capB (c : UInt8) : Bool := decide (65 ≤ c.toNat ∧ c.toNat ≤ 90)
def capd (c : UInt8) : Bool := capB c || digB c
/-- A capital letter, and then capital letters and digits. -/
def wordL : List UInt8 → Bool
  | [] => false
  | c :: l => capB c && l.all capd
theorem wordL_cons (c : UInt8) (l : List UInt8) : wordL (c :: l) = (capB c && l.all capd) := rfl
theorem str_dl (l : List UInt8) : (str l).data.toList = l := by simp [str]
theorem up_word (c : UInt8) (h : wordB c = true) : capd (upC c) = true := by
  unfold wordB at h
  unfold capd capB
  by_cases hd : digB c = true
  · have h1 := digB_iff.1 hd
    rw [upC_no (by omega), hd]; simp
  · have hl : letB c = true := by simpa [hd] using h
    have h2 := letB_iff.1 hl
    by_cases h3 : 97 ≤ c.toNat ∧ c.toNat ≤ 122
    · rw [upC_up h3]
      have h4 := sub32 h3.1
      simp only [h4]
      have : decide (65 ≤ c.toNat - 32 ∧ c.toNat - 32 ≤ 90) = true := decide_eq_true (by omega)
      rw [this]; rfl
    · rw [upC_no h3]
      have : decide (65 ≤ c.toNat ∧ c.toNat ≤ 90) = true := decide_eq_true (by omega)
      rw [this]; rfl
theorem up_cap (c : UInt8) (h : letB c = true) : capB (upC c) = true := by
  have h2 := letB_iff.1 h
  unfold capB
  by_cases h3 : 97 ≤ c.toNat ∧ c.toNat ≤ 122
  · rw [upC_up h3, sub32 h3.1]; exact decide_eq_true (by omega)
  · rw [upC_no h3]; exact decide_eq_true (by omega)
theorem all_while {p : UInt8 → Bool} : ∀ l : List UInt8, ∀ c ∈ l.takeWhile p, p c = true := by
  intro l
  induction l with
  | nil => intro c h; simp at h
  | cons d l ih =>
    intro c h
    rw [List.takeWhile_cons] at h
    split at h
    · rename_i hd
      rcases List.mem_cons.1 h with h | h
      · rw [h]; exact hd
      · exact ih c h
    · simp at h
/-- Every name that is cut is one. -/
theorem next_word {l : List UInt8} {n : Int} {s : List UInt8} {m : Nat} (h : nextL l = some (3, n, s, m)) : wordL s = true := by
  cases l with
  | nil => cases h
  | cons c l =>
    rw [nextL_cons] at h
    unfold tokL at h
    by_cases h1 : digB c = true
    · rw [if_pos h1] at h
      split at h
      · injection h with h; injection h with h2 h3; cases h2
      · cases h
    · rw [if_neg h1] at h
      by_cases h2 : letB c = true
      · rw [if_pos h2] at h
        injection h with h; injection h with _ h; injection h with _ h; injection h with h _
        subst h
        have hw : wordB c = true := by unfold wordB; rw [h2]; rfl
        rw [List.takeWhile_cons, if_pos hw]
        unfold upL
        rw [List.map_cons]
        rw [wordL_cons, up_cap c h2, Bool.true_and, List.all_eq_true]
        intro d hd
        obtain ⟨e, he, rfl⟩ := List.mem_map.1 hd
        exact up_word e (all_while l e he)
      · rw [if_neg h2] at h
        by_cases h3 : c = 34
        · rw [if_pos h3] at h
          cases ht : txtL l with
          | none => rw [ht] at h; cases h
          | some r => rw [ht] at h; simp at h
        · rw [if_neg h3] at h
          unfold signT at h
          split at h <;> (repeat (split at h)) <;> simp at h
theorem cut_words : ∀ (f : Nat) (l : List UInt8) (i : Nat) (acc : List Tok), (∀ t ∈ acc, t.k = 3 → wordL t.s.data.toList = true) → ∀ t ∈ (cutF f l i acc).toks, t.k = 3 → wordL t.s.data.toList = true := by
  intro f
  induction f with
  | zero => intro l i acc h; simpa [cutF] using h
  | succ f ih =>
    intro l i acc h
    cases l with
    | nil => simpa [cutF] using h
    | cons c l =>
      rw [cutF]
      by_cases hc : c = 32
      · rw [if_pos hc]; exact ih l (i + 1) acc h
      · rw [if_neg hc]
        cases hn : nextL (c :: l) with
        | none => intro t ht; simp at ht
        | some q =>
          obtain ⟨k, n, s, m⟩ := q
          refine ih _ _ _ fun t ht hk => ?_
          rcases List.mem_append.1 ht with ht | ht
          · exact h t ht hk
          · obtain rfl := List.mem_singleton.1 ht
            simp only at hk
            subst hk
            show wordL (str s).data.toList = true
            rw [str_dl]
            exact next_word hn
theorem take_allK {p : UInt8 → Bool} : ∀ l : List UInt8, (∀ c ∈ l, p c = true) → l.takeWhile p = l := by
  intro l
  induction l with
  | nil => intro _; rfl
  | cons c l ih => intro h; rw [List.takeWhile_cons, if_pos (h c (by simp)), ih fun d hd => h d (by simp [hd])]
theorem cap_let {c : UInt8} (h : capB c = true) : letB c = true := by
  unfold capB at h
  exact letB_iff.2 (Or.inr (of_decide_eq_true h))
theorem capd_word {c : UInt8} (h : capd c = true) : wordB c = true ∧ upC c = c := by
  unfold capd at h
  by_cases h1 : capB c = true
  · have h2 := of_decide_eq_true (show decide (65 ≤ c.toNat ∧ c.toNat ≤ 90) = true from h1)
    exact ⟨by unfold wordB; rw [cap_let h1]; rfl, upC_no (by omega)⟩
  · have h3 : digB c = true := by simpa [h1] using h
    have h2 := digB_iff.1 h3
    exact ⟨by unfold wordB; rw [h3]; simp, upC_no (by omega)⟩
/-- A name is cut as one token, that it is. -/
theorem cut_word (l : List UInt8) (h : wordL l = true) (h8 : l.length ≤ 8) : (cutL l).toks = [⟨3, 0, str l, 0⟩] := by
  cases l with
  | nil => cases h
  | cons c l =>
    unfold wordL at h
    rw [Bool.and_eq_true, List.all_eq_true] at h
    obtain ⟨hc, hl⟩ := h
    have hlet := cap_let hc
    have hcd : capd c = true := by unfold capd; rw [hc]; rfl
    have hdig : ¬ digB c = true := fun e => by
      have h1 := digB_iff.1 e
      have h2 := of_decide_eq_true (show decide (65 ≤ c.toNat ∧ c.toNat ≤ 90) = true from hc)
      omega
    have hall : ∀ d ∈ c :: l, capd d = true := fun d hd => by
      rcases List.mem_cons.1 hd with rfl | hd
      · exact hcd
      · exact hl d hd
    have ht : (c :: l).takeWhile wordB = c :: l := take_allK _ fun d hd => (capd_word (hall d hd)).1
    have hu : upL (c :: l) = c :: l := by
      unfold upL
      conv => rhs; rw [← List.map_id (c :: l)]
      exact List.map_congr_left fun d hd => (capd_word (hall d hd)).2
    have hn : nextL (c :: l) = some (3, 0, c :: l, (c :: l).length) := by
      rw [nextL_cons]
      unfold tokL
      rw [if_neg hdig, if_pos hlet, ht, hu]
    have h32 : c ≠ 32 := fun e => by
      have h2 := of_decide_eq_true (show decide (65 ≤ c.toNat ∧ c.toNat ≤ 90) = true from hc)
      rw [e] at h2
      exact absurd h2 (by decide)
    unfold cutL
    rw [if_neg (by omega), cutF, if_neg h32, hn]
    simp only [List.drop_length, List.nil_append]
    cases hf : (c :: l).length with
    | zero => simp at hf
    | succ n => simp [cutF]
/-- The two readings of a function's name are one. -/
theorem fn_word (s : ByteArray) : fnB s = (decide (s.size ≤ 8) && wordL s.data.toList) := by
  unfold fnB
  by_cases h8 : s.size ≤ 8
  · rw [decide_eq_true h8, Bool.true_and, Bool.true_and]
    have hl : s.data.toList.length ≤ 8 := by rw [show s.data.toList.length = s.size from Array.length_toList]; exact h8
    cases hw : wordL s.data.toList with
    | true =>
      rw [cut_word _ hw hl]
      simp only [decide_true, Bool.true_and, decide_eq_true_eq]
      exact ByteArray.ext (Array.toList_inj.1 (str_dl _))
    | false =>
      split
      · rename_i t ht
        by_cases hk : t.k = 3
        · have h1 := cut_words (s.data.toList.length + 1) s.data.toList 0 [] (fun t ht => by simp at ht)
          have h2 : (cutL s.data.toList) = cutF (s.data.toList.length + 1) s.data.toList 0 [] := by unfold cutL; rw [if_neg (by omega)]
          rw [← h2, ht] at h1
          have h3 := h1 t (by simp) hk
          have : decide (t.s = s) = false := decide_eq_false (fun e => by rw [e, hw] at h3; cases h3)
          rw [this, Bool.and_false]
        · rw [decide_eq_false hk]; rfl
      · rfl
  · rw [decide_eq_false h8]; rfl
theorem wordL_at {l : List UInt8} (h0 : 0 < l.length) : wordL l = (capB l[0] && l.all capd) := by
  cases l with
  | nil => simp at h0
  | cons c l =>
    rw [wordL_cons]
    show _ = (capB c && (c :: l).all capd)
    rw [List.all_cons]
    cases hc : capB c with
    | false => rfl
    | true => simp [capd, hc]
set_option maxRecDepth 100000 in
set_option maxHeartbeats 1000000 in
theorem rword (s : ByteArray) (w : World) (hs : s.size ≤ 1000000) : Calls Tryz.prog 66 #[.string s] w fun e w' => e = .returned (.bool (decide (s.size ≤ 8) && wordL s.data.toList)) ∧ w = w' := by
  have hsl : s.data.toList.length = s.size := Array.length_toList
  by_cases h0 : s.size < 1
  · have E : Hid ((decide (s.size ≤ 8) && wordL s.data.toList) = false) := Lib.hid (by
      have : s.data.toList = [] := List.length_eq_zero_iff.1 (by omega)
      rw [this]; simp [wordL])
    have d1 : (s.size : Int) < 1 := by omega
    clear hsl h0
    go_enter Tryz.func66, Tryz.ntmps66
    go_wp2
    go_ret
    exact ⟨ret1 E.out.symm, rfl⟩
  · have d1 : ¬ (s.size : Int) < 1 := by omega
    by_cases h8 : 8 < s.size
    · have E : Hid ((decide (s.size ≤ 8) && wordL s.data.toList) = false) := Lib.hid (by rw [decide_eq_false (by omega)]; rfl)
      have d2 : (8 : Int) < (s.size : Int) := by omega
      clear hsl h0 h8
      go_enter Tryz.func66, Tryz.ntmps66
      go_wp2
      go_ret
      exact ⟨ret1 E.out.symm, rfl⟩
    · have d2 : ¬ (8 : Int) < (s.size : Int) := by omega
      have hp : 0 < s.size := by omega
      have hw := wordL_at (l := s.data.toList) (by omega)
      have h00 : s.data.toList[0]'(by omega) = s[0] := rfl
      rw [h00] at hw
      have hle : decide (s.size ≤ 8) = true := decide_eq_true (by omega)
      have HW := Lib.hid hw
      have HLE := Lib.hid hle
      have HSL := Lib.hid hsl
      clear hw hle hsl h0 h8 h00
      by_cases h65 : s[0].toNat < 65
      · have E : Hid ((decide (s.size ≤ 8) && wordL s.data.toList) = false) := Lib.hid (by rw [HW.out, show capB s[0] = false from decide_eq_false (by omega)]; simp)
        have e1 : ((s[0].toNat : Int) < 65) := by omega
        clear h65
        go_enter Tryz.func66, Tryz.ntmps66
        go_wp2
        go_ret
        exact ⟨ret1 E.out.symm, rfl⟩
      · have e1 : ¬ ((s[0].toNat : Int) < 65) := by omega
        by_cases h90 : 90 < s[0].toNat
        · have E : Hid ((decide (s.size ≤ 8) && wordL s.data.toList) = false) := Lib.hid (by rw [HW.out, show capB s[0] = false from decide_eq_false (by omega)]; simp)
          have e2 : ((90 : Int) < (s[0].toNat : Int)) := by omega
          clear h65 h90
          go_enter Tryz.func66, Tryz.ntmps66
          go_wp2
          go_ret
          exact ⟨ret1 E.out.symm, rfl⟩
        · have e2 : ¬ ((90 : Int) < (s[0].toNat : Int)) := by omega
          have HC : Hid (capB s[0] = true) := Lib.hid (decide_eq_true (by omega))
          clear h65 h90
          go_enter Tryz.func66, Tryz.ntmps66
          go_wp2
          go_loop [3] (fun iv => ∃ k : Nat, k ≤ s.size ∧ iv = .int .i64 k ∧ Hid ((s.data.toList.take k).all capd = true)) (fun iv => s.size - (intOf iv).toNat)
          case atStart => exact ⟨0, Nat.zero_le _, rfl, Lib.hid rfl⟩
          case round =>
            obtain ⟨k, hk, rfl, HA⟩ := hrel
            by_cases hlt : k < s.size
            · have d3 : (k : Int) < (s.size : Int) := by omega
              have HT := Lib.hid (take_snoc s k hlt)
              have HM : Hid (capd s[k] = false → (decide (s.size ≤ 8) && wordL s.data.toList) = false) := Lib.hid (fun h => by
                have h2 : s.data.toList.all capd = false := by
                  rw [List.all_eq_false]
                  exact ⟨s[k], by
                    have : s[k] = s.data.toList[k]'(by rw [HSL.out]; exact hlt) := rfl
                    rw [this]; exact List.getElem_mem _, by rw [h]; exact Bool.false_ne_true⟩
                rw [HW.out, h2]; simp)
              have HS : Hid (capd s[k] = true → (s.data.toList.take (k + 1)).all capd = true) := Lib.hid (fun h => by rw [HT.out, List.all_append, HA.out]; simp [h])
              have hb := u8_lt s[k]
              by_cases c1 : 65 ≤ s[k].toNat
              · have t1 : decide ((65 : Int) ≤ (s[k].toNat : Int)) = true := decide_eq_true (by omega)
                by_cases c2 : s[k].toNat ≤ 90
                · have t2 : decide ((s[k].toNat : Int) ≤ 90) = true := decide_eq_true (by omega)
                  have HN := Lib.hid (HS.out (by unfold capd; rw [show capB s[k] = true from decide_eq_true ⟨c1, c2⟩]; rfl))
                  go_wp2
                  go_round
                  case rel => exact ⟨k + 1, by omega, by go_num, HN⟩
                  case measure => simp [intOf]; omega
                · have t2 : decide ((s[k].toNat : Int) ≤ 90) = false := decide_eq_false (by omega)
                  have t3 : decide ((48 : Int) ≤ (s[k].toNat : Int)) = true := decide_eq_true (by omega)
                  have t4 : decide ((s[k].toNat : Int) ≤ 57) = false := decide_eq_false (by omega)
                  have HN := Lib.hid (HM.out (by unfold capd digB; rw [show capB s[k] = false from decide_eq_false (by omega), decide_eq_false (by omega)]; rfl))
                  go_wp2
                  go_ret
                  exact ⟨ret1 HN.out.symm, rfl⟩
              · have t1 : decide ((65 : Int) ≤ (s[k].toNat : Int)) = false := decide_eq_false (by omega)
                by_cases c3 : 48 ≤ s[k].toNat
                · have t3 : decide ((48 : Int) ≤ (s[k].toNat : Int)) = true := decide_eq_true (by omega)
                  by_cases c4 : s[k].toNat ≤ 57
                  · have t4 : decide ((s[k].toNat : Int) ≤ 57) = true := decide_eq_true (by omega)
                    have HN := Lib.hid (HS.out (by unfold capd; rw [show digB s[k] = true from digB_iff.2 ⟨c3, c4⟩]; simp))
                    go_wp2
                    go_round
                    case rel => exact ⟨k + 1, by omega, by go_num, HN⟩
                    case measure => simp [intOf]; omega
                  · have t4 : decide ((s[k].toNat : Int) ≤ 57) = false := decide_eq_false (by omega)
                    have HN := Lib.hid (HM.out (by unfold capd digB; rw [show capB s[k] = false from decide_eq_false (by omega), decide_eq_false (by omega)]; rfl))
                    go_wp2
                    go_ret
                    exact ⟨ret1 HN.out.symm, rfl⟩
                · have t3 : decide ((48 : Int) ≤ (s[k].toNat : Int)) = false := decide_eq_false (by omega)
                  have HN := Lib.hid (HM.out (by unfold capd digB; rw [show capB s[k] = false from decide_eq_false (by omega), decide_eq_false (by omega)]; rfl))
                  go_wp2
                  go_ret
                  exact ⟨ret1 HN.out.symm, rfl⟩
            · have d3 : ¬ (k : Int) < (s.size : Int) := by omega
              have HN : Hid ((decide (s.size ≤ 8) && wordL s.data.toList) = true) := Lib.hid (by
                have h1 := HA.out
                rw [List.take_of_length_le (by rw [HSL.out]; omega)] at h1
                rw [HLE.out, HW.out, HC.out, h1]; rfl)
              go_wp2
              go_ret
              exact ⟨ret1 HN.out.symm, rfl⟩
/-- The thirteen signs. -/
def opsL : List (List UInt8) := [[61], [60, 62], [60], [60, 61], [62], [62, 61], [43], [45], [38], [42], [47], [37], [94]]
theorem ops_any (s : ByteArray) : binB s = opsL.any (fun o => decide (s = str o)) := by
  unfold binB
  simp only [anyOf, opsL, cmpS, sumS, mulS, powS, List.any_cons, List.any_nil]
  simp [Bool.or_assoc]
theorem ops_len : opsL.length = 13 := rfl
theorem ops_cell (i : Nat) (h : i < 13) : (#[.string { data := #[61] }, .string { data := #[60, 62] }, .string { data := #[60] }, .string { data := #[60, 61] }, .string { data := #[62] }, .string { data := #[62, 61] }, .string { data := #[43] }, .string { data := #[45] }, .string { data := #[38] }, .string { data := #[42] }, .string { data := #[47] }, .string { data := #[37] }, .string { data := #[94] }] : Array Value)[i]? = some (.string (str (opsL[i]'h))) := by
  have h13 : i = 0 ∨ i = 1 ∨ i = 2 ∨ i = 3 ∨ i = 4 ∨ i = 5 ∨ i = 6 ∨ i = 7 ∨ i = 8 ∨ i = 9 ∨ i = 10 ∨ i = 11 ∨ i = 12 := by omega
  rcases h13 with rfl | rfl | rfl | rfl | rfl | rfl | rfl | rfl | rfl | rfl | rfl | rfl | rfl <;> rfl
theorem rops (w : World) : Calls Tryz.prog 25 #[] w fun e w' => e = .returned (.slice (some ⟨w.heap.size, 0, none⟩) 13 13) ∧ w' = w.alloc (.cells #[.string { data := #[61] }, .string { data := #[60, 62] }, .string { data := #[60] }, .string { data := #[60, 61] }, .string { data := #[62] }, .string { data := #[62, 61] }, .string { data := #[43] }, .string { data := #[45] }, .string { data := #[38] }, .string { data := #[42] }, .string { data := #[47] }, .string { data := #[37] }, .string { data := #[94] }] 9) := by
  go_enter Tryz.func25, Tryz.ntmps25
  go_wp2
  go_ret
  exact ⟨rfl, rfl⟩
set_option maxRecDepth 100000 in
set_option maxHeartbeats 1000000 in
theorem rsignOp (s : ByteArray) (w : World) : Calls Tryz.prog 65 #[.string s] w fun e w' => e = .returned (.bool (binB s)) ∧ Below w.heap.size w w' := by
  have HO := Lib.hid (ops_any s)
  have hB : Below w.heap.size w (w.alloc (.cells #[.string { data := #[61] }, .string { data := #[60, 62] }, .string { data := #[60] }, .string { data := #[60, 61] }, .string { data := #[62] }, .string { data := #[62, 61] }, .string { data := #[43] }, .string { data := #[45] }, .string { data := #[38] }, .string { data := #[42] }, .string { data := #[47] }, .string { data := #[37] }, .string { data := #[94] }] 9)) := (Below.refl _ _).alloc (Nat.le_refl _) _
  have hc : ∀ i (h : i < 13), (w.alloc (.cells #[.string { data := #[61] }, .string { data := #[60, 62] }, .string { data := #[60] }, .string { data := #[60, 61] }, .string { data := #[62] }, .string { data := #[62, 61] }, .string { data := #[43] }, .string { data := #[45] }, .string { data := #[38] }, .string { data := #[42] }, .string { data := #[47] }, .string { data := #[37] }, .string { data := #[94] }] 9)).cell? ⟨w.heap.size, i, none⟩ = some (.string (str (opsL[i]'h))) := fun i h => by rw [World.cell?_alloc_mark]; exact ops_cell i h
  have HC := Lib.hid hc
  have HBB := Lib.hid hB
  clear hB hc
  go_enter Tryz.func65, Tryz.ntmps65
  go_wp2_with fail
  refine (rops w).mono ?_; rintro e w1 ⟨rfl, rfl⟩
  go_wp2_with fail
  generalize (w.alloc (.cells #[.string { data := #[61] }, .string { data := #[60, 62] }, .string { data := #[60] }, .string { data := #[60, 61] }, .string { data := #[62] }, .string { data := #[62, 61] }, .string { data := #[43] }, .string { data := #[45] }, .string { data := #[38] }, .string { data := #[42] }, .string { data := #[47] }, .string { data := #[37] }, .string { data := #[94] }] 9)) = W1 at *
  go_loop [4] (fun iv => ∃ k : Nat, k ≤ 13 ∧ iv = .int .i64 k ∧ Hid ((opsL.take k).any (fun o => decide (s = str o)) = false)) (fun iv => 13 - (intOf iv).toNat)
  case atStart => exact ⟨0, by omega, rfl, Lib.hid rfl⟩
  case round =>
    obtain ⟨k, hk, rfl, HA⟩ := hrel
    by_cases hlt : k < 13
    · have d3 : (k : Int) < 13 := by omega
      have c1 := HC.out k hlt
      have hT : opsL.take (k + 1) = opsL.take k ++ [opsL[k]'hlt] := by rw [List.take_succ_eq_append_getElem (by rw [ops_len]; exact hlt)]; rfl
      have HT := Lib.hid hT
      have hM : opsL[k]'hlt ∈ opsL := List.getElem_mem _
      have HM := Lib.hid hM
      clear hT hM
      generalize opsL[k]'hlt = o at *
      by_cases hs : s = str o
      · have E : Hid (binB s = true) := Lib.hid (by rw [HO.out, List.any_eq_true]; exact ⟨o, HM.out, decide_eq_true hs⟩)
        have q1 : ((str o).toList == s.toList) = true := by rw [hs]; simp
        have q2 : (str o).toList = s.toList := by rw [hs]
        clear hs
        go_wp2_with fail
        go_ret
        exact ⟨ret1 E.out.symm, HBB.out⟩
      · have HN : Hid ((opsL.take (k + 1)).any (fun o => decide (s = str o)) = false) := Lib.hid (by rw [HT.out, List.any_append, HA.out]; simp [hs])
        have q2 : ¬ (str o).toList = s.toList := fun e => hs (ByteArray.ext (Array.toList_inj.1 (by rw [Lib.toList_data, Lib.toList_data] at e; exact e.symm)))
        have q1 : ((str o).toList == s.toList) = false := beq_eq_false_iff_ne.2 q2
        clear hs
        go_wp2_with fail
        go_round
        case rel => exact ⟨k + 1, by omega, by go_num, HN⟩
        case measure => simp [intOf]; omega
    · have d3 : ¬ (k : Int) < 13 := by omega
      have E : Hid (binB s = false) := Lib.hid (by
        have h1 := HA.out
        rw [List.take_of_length_le (by rw [ops_len]; omega)] at h1
        rw [HO.out, h1])
      go_wp2_with fail
      go_ret
      exact ⟨ret1 E.out.symm, HBB.out⟩
end Go.Proofs.YtbgjdfghcnblcaaGreatDoor.TreeC

/-
  Contract of the reference's fine.
-/
namespace Go.Proofs.YtbgjdfghcnblcaaGreatDoor.TreeC
set_option linter.unusedVariables false
open Go.RowKit Go.Proofs.YtbgjdfghcnblcaaGreatDoor.NumC Go.Proofs.YtbgjdfghcnblcaaGreatDoor.LexC

set_option maxRecDepth 100000 in
set_option maxHeartbeats 1000000 in
theorem rfits1 (f : Fld) (A : Option Addr) (m c : Nat) (w : World) (hm : m ≤ 1000000) (ho : f.op.size ≤ 1000000) (hk : f.k = 1) :
    Calls Tryz.prog 42 #[.agg #[.int .i64 f.k, .int .i64 f.vk, .int .i64 f.vn, .string f.vs, .int .i64 f.r1, .int .i64 f.r2, .int .i64 f.r3, .int .i64 f.r4, .string f.op, .slice A m c]] w fun e w' => e = .returned (.bool (fitsB f m)) ∧ Below w.heap.size w w' := by
  have HB1 : Hid (Below w.heap.size w (w.alloc (.cells #[.int .i64 f.k, .int .i64 f.vk, .int .i64 f.vn, .string f.vs, .int .i64 f.r1, .int .i64 f.r2, .int .i64 f.r3, .int .i64 f.r4, .string f.op, .slice A m c] 30))) := Lib.hid ((Below.refl _ _).alloc (Nat.le_refl _) _)
  have L1 : NLoc (w.alloc (.cells #[.int .i64 f.k, .int .i64 f.vk, .int .i64 f.vn, .string f.vs, .int .i64 f.r1, .int .i64 f.r2, .int .i64 f.r3, .int .i64 f.r4, .string f.op, .slice A m c] 30)) w.heap.size f A m c := ⟨heap_alloc_new _ _⟩
  have eV : ∀ W, (binOp .eql 23 (.agg #[.int .i64 f.vk, .int .i64 f.vn, .string f.vs]) (.agg #[.int .i64 0, .int .i64 0, .string { data := #[] }])).run Tryz.prog W = .ok (.bool (noVB f)) W := fun W => ValueC.eqs _ _ _ _ _ _ W
  have eR : ∀ W, (binOp .eql 27 (.agg #[.int .i64 f.r1, .int .i64 f.r2, .int .i64 f.r3, .int .i64 f.r4]) (.agg #[.int .i64 0, .int .i64 0, .int .i64 0, .int .i64 0])).run Tryz.prog W = .ok (.bool (noRB f)) W := fun W => eq_rect _ _ _ _ _ _ _ _ W
  have eO : (f.op.toList == []) = noOB f := rfl
  generalize hD : fitsB f m = D
  have HD := Lib.hid hD.symm
  clear hD
  have HK := Lib.hid hk
  clear hk
  obtain ⟨d0, d1, d2, d3, d4, d5, d6, d7, d8, d9, -⟩ := L1.cells
  have b1 : (f.k == 1) = true := beq_iff_eq.2 HK.out
  have hvn : Hid (f.vn = f.vn) := Lib.hid rfl
  by_cases v2 : f.vk = 2
  · by_cases vn : 0 ≤ f.vn
    · have t2 : (f.vk == 2) = true := beq_iff_eq.2 v2
      have tn : decide (0 ≤ f.vn) = true := decide_eq_true vn
      have HE : Hid (D = (ValueC.goodB ⟨f.vk, f.vn, f.vs⟩ && noRB f && noOB f && decide (m = 0))) := Lib.hid (HD.out.trans (by simp [fitsB, constB, HK.out, v2, vn]))
      clear HD v2 vn
      go_enter Tryz.func42, Tryz.ntmps42
      go_wp2_with fail
      refine (ValueC.rgood_of f.vk f.vn f.vs _).mono ?_; rintro e w2 ⟨rfl, hb2⟩
      have L2 := L1.kept (Kept.of hb2) (Nat.ne_of_lt L1.lt)
      have HB2 := Lib.hid (HB1.out.trans (hb2.mono HB1.out.size))
      clear d0 d1 d2 d3 d4 d5 d6 d7 d8 d9 hb2 L1
      obtain ⟨d0, d1, d2, d3, d4, d5, d6, d7, d8, d9, -⟩ := L2.cells
      by_cases hm0 : m = 0
      · have e0 : ((m : Int) == 0) = true := beq_iff_eq.2 (by omega)
        have hM := Lib.hid hm0
        clear hm0
        cases c0 : ValueC.goodB ⟨f.vk, f.vn, f.vs⟩ <;> cases c1 : noRB f <;> cases c2 : noOB f
        all_goals
          go_wp2_with fail
          go_ret
          exact ⟨by rw [HE.out]; simp [c0, c1, c2, hM.out], HB2.out⟩
      · have e0 : ((m : Int) == 0) = false := beq_eq_false_iff_ne.2 (by omega)
        have hM := Lib.hid hm0
        clear hm0
        cases c0 : ValueC.goodB ⟨f.vk, f.vn, f.vs⟩ <;> cases c1 : noRB f <;> cases c2 : noOB f
        all_goals
          go_wp2_with fail
          go_ret
          exact ⟨by rw [HE.out]; simp [c0, c1, c2, hM.out], HB2.out⟩
    · have t2 : (f.vk == 2) = true := beq_iff_eq.2 v2
      have t3 : (f.vk == 3) = false := beq_eq_false_iff_ne.2 (by omega)
      have t1 : (f.vk == 1) = false := beq_eq_false_iff_ne.2 (by omega)
      have tn : decide (0 ≤ f.vn) = false := decide_eq_false vn
      have HE : Hid (D = false) := Lib.hid (HD.out.trans (by simp [fitsB, constB, HK.out, v2, vn]))
      clear HD v2 vn
      go_enter Tryz.func42, Tryz.ntmps42
      go_wp2_with fail
      go_wp2_with fail
      go_ret
      exact ⟨by rw [HE.out]; rfl, HB1.out⟩
  · by_cases v3 : f.vk = 3
    · have t2 : (f.vk == 2) = false := beq_eq_false_iff_ne.2 (by omega)
      have t3 : (f.vk == 3) = true := beq_iff_eq.2 v3
      have HE : Hid (D = (ValueC.goodB ⟨f.vk, f.vn, f.vs⟩ && noRB f && noOB f && decide (m = 0))) := Lib.hid (HD.out.trans (by simp [fitsB, constB, HK.out, v3]))
      clear HD v2 v3
      go_enter Tryz.func42, Tryz.ntmps42
      go_wp2_with fail
      refine (ValueC.rgood_of f.vk f.vn f.vs _).mono ?_; rintro e w2 ⟨rfl, hb2⟩
      have L2 := L1.kept (Kept.of hb2) (Nat.ne_of_lt L1.lt)
      have HB2 := Lib.hid (HB1.out.trans (hb2.mono HB1.out.size))
      clear d0 d1 d2 d3 d4 d5 d6 d7 d8 d9 hb2 L1
      obtain ⟨d0, d1, d2, d3, d4, d5, d6, d7, d8, d9, -⟩ := L2.cells
      by_cases hm0 : m = 0
      · have e0 : ((m : Int) == 0) = true := beq_iff_eq.2 (by omega)
        have hM := Lib.hid hm0
        clear hm0
        cases c0 : ValueC.goodB ⟨f.vk, f.vn, f.vs⟩ <;> cases c1 : noRB f <;> cases c2 : noOB f
        all_goals
          go_wp2_with fail
          go_ret
          exact ⟨by rw [HE.out]; simp [c0, c1, c2, hM.out], HB2.out⟩
      · have e0 : ((m : Int) == 0) = false := beq_eq_false_iff_ne.2 (by omega)
        have hM := Lib.hid hm0
        clear hm0
        cases c0 : ValueC.goodB ⟨f.vk, f.vn, f.vs⟩ <;> cases c1 : noRB f <;> cases c2 : noOB f
        all_goals
          go_wp2_with fail
          go_ret
          exact ⟨by rw [HE.out]; simp [c0, c1, c2, hM.out], HB2.out⟩
    · by_cases v1 : f.vk = 1
      · have t2 : (f.vk == 2) = false := beq_eq_false_iff_ne.2 (by omega)
        have t3 : (f.vk == 3) = false := beq_eq_false_iff_ne.2 (by omega)
        have t1 : (f.vk == 1) = true := beq_iff_eq.2 v1
        have HE : Hid (D = (ValueC.goodB ⟨f.vk, f.vn, f.vs⟩ && noRB f && noOB f && decide (m = 0))) := Lib.hid (HD.out.trans (by simp [fitsB, constB, HK.out, v1]))
        clear HD v1 v2 v3
        go_enter Tryz.func42, Tryz.ntmps42
        go_wp2_with fail
        refine (ValueC.rgood_of f.vk f.vn f.vs _).mono ?_; rintro e w2 ⟨rfl, hb2⟩
        have L2 := L1.kept (Kept.of hb2) (Nat.ne_of_lt L1.lt)
        have HB2 := Lib.hid (HB1.out.trans (hb2.mono HB1.out.size))
        clear d0 d1 d2 d3 d4 d5 d6 d7 d8 d9 hb2 L1
        obtain ⟨d0, d1, d2, d3, d4, d5, d6, d7, d8, d9, -⟩ := L2.cells
        by_cases hm0 : m = 0
        · have e0 : ((m : Int) == 0) = true := beq_iff_eq.2 (by omega)
          have hM := Lib.hid hm0
          clear hm0
          cases c0 : ValueC.goodB ⟨f.vk, f.vn, f.vs⟩ <;> cases c1 : noRB f <;> cases c2 : noOB f
          all_goals
            go_wp2_with fail
            go_ret
            exact ⟨by rw [HE.out]; simp [c0, c1, c2, hM.out], HB2.out⟩
        · have e0 : ((m : Int) == 0) = false := beq_eq_false_iff_ne.2 (by omega)
          have hM := Lib.hid hm0
          clear hm0
          cases c0 : ValueC.goodB ⟨f.vk, f.vn, f.vs⟩ <;> cases c1 : noRB f <;> cases c2 : noOB f
          all_goals
            go_wp2_with fail
            go_ret
            exact ⟨by rw [HE.out]; simp [c0, c1, c2, hM.out], HB2.out⟩
      · have t2 : (f.vk == 2) = false := beq_eq_false_iff_ne.2 (by omega)
        have t3 : (f.vk == 3) = false := beq_eq_false_iff_ne.2 (by omega)
        have t1 : (f.vk == 1) = false := beq_eq_false_iff_ne.2 (by omega)
        have HE : Hid (D = false) := Lib.hid (HD.out.trans (by simp [fitsB, constB, HK.out, v1, v2, v3]))
        clear HD v1 v2 v3
        go_enter Tryz.func42, Tryz.ntmps42
        go_wp2_with fail
        go_wp2_with fail
        go_ret
        exact ⟨by rw [HE.out]; rfl, HB1.out⟩

set_option maxRecDepth 100000 in
set_option maxHeartbeats 1000000 in
theorem rfits2 (f : Fld) (A : Option Addr) (m c : Nat) (w : World) (hm : m ≤ 1000000) (ho : f.op.size ≤ 1000000) (hk : f.k = 2) :
    Calls Tryz.prog 42 #[.agg #[.int .i64 f.k, .int .i64 f.vk, .int .i64 f.vn, .string f.vs, .int .i64 f.r1, .int .i64 f.r2, .int .i64 f.r3, .int .i64 f.r4, .string f.op, .slice A m c]] w fun e w' => e = .returned (.bool (fitsB f m)) ∧ Below w.heap.size w w' := by
  have HB1 : Hid (Below w.heap.size w (w.alloc (.cells #[.int .i64 f.k, .int .i64 f.vk, .int .i64 f.vn, .string f.vs, .int .i64 f.r1, .int .i64 f.r2, .int .i64 f.r3, .int .i64 f.r4, .string f.op, .slice A m c] 30))) := Lib.hid ((Below.refl _ _).alloc (Nat.le_refl _) _)
  have L1 : NLoc (w.alloc (.cells #[.int .i64 f.k, .int .i64 f.vk, .int .i64 f.vn, .string f.vs, .int .i64 f.r1, .int .i64 f.r2, .int .i64 f.r3, .int .i64 f.r4, .string f.op, .slice A m c] 30)) w.heap.size f A m c := ⟨heap_alloc_new _ _⟩
  have eV : ∀ W, (binOp .eql 23 (.agg #[.int .i64 f.vk, .int .i64 f.vn, .string f.vs]) (.agg #[.int .i64 0, .int .i64 0, .string { data := #[] }])).run Tryz.prog W = .ok (.bool (noVB f)) W := fun W => ValueC.eqs _ _ _ _ _ _ W
  have eR : ∀ W, (binOp .eql 27 (.agg #[.int .i64 f.r1, .int .i64 f.r2, .int .i64 f.r3, .int .i64 f.r4]) (.agg #[.int .i64 0, .int .i64 0, .int .i64 0, .int .i64 0])).run Tryz.prog W = .ok (.bool (noRB f)) W := fun W => eq_rect _ _ _ _ _ _ _ _ W
  have eT : ∀ W, (binOp .eql 25 (.agg #[.int .i64 f.r3, .int .i64 f.r4]) (.agg #[.int .i64 0, .int .i64 0])).run Tryz.prog W = .ok (.bool (noTB f)) W := fun W => eq_addr _ _ _ _ W
  have eO : (f.op.toList == []) = noOB f := rfl
  generalize hD : fitsB f m = D
  have HD := Lib.hid hD.symm
  clear hD
  have HK := Lib.hid hk
  clear hk
  obtain ⟨d0, d1, d2, d3, d4, d5, d6, d7, d8, d9, -⟩ := L1.cells
  have b1 : (f.k == 1) = false := beq_eq_false_iff_ne.2 (by rw [HK.out]; decide)
  have b2 : (f.k == 2) = true := beq_iff_eq.2 HK.out
  have HE : Hid (D = (AddrC.cellB f.r1 f.r2 && noTB f && noVB f && noOB f && decide (m = 0))) := Lib.hid (HD.out.trans (by simp [fitsB, HK.out]))
  clear HD
  cases v0 : noVB f
  · have HC := Lib.hid (And.intro True.intro True.intro)
    go_enter Tryz.func42, Tryz.ntmps42
    go_wp2_with fail
    go_ret
    exact ⟨by rw [HE.out]; simp [v0], HB1.out⟩
  · have HC := Lib.hid (And.intro True.intro True.intro)
    go_enter Tryz.func42, Tryz.ntmps42
    go_wp2_with fail
    refine (AddrC.rgood f.r1 f.r2 _).mono ?_; rintro e w2 ⟨rfl, hb2⟩
    have L2 := L1.kept (Kept.of hb2) (Nat.ne_of_lt L1.lt)
    have HB2 := Lib.hid (HB1.out.trans (hb2.mono HB1.out.size))
    clear d0 d1 d2 d3 d4 d5 d6 d7 d8 d9 hb2 L1
    obtain ⟨d0, d1, d2, d3, d4, d5, d6, d7, d8, d9, -⟩ := L2.cells
    by_cases hm0 : m = 0
    · have e0 : ((m : Int) == 0) = true := beq_iff_eq.2 (by omega)
      have hM := Lib.hid hm0
      clear hm0
      cases c0 : AddrC.cellB f.r1 f.r2 <;> cases c1 : noTB f <;> cases c2 : noOB f
      all_goals
        go_wp2_with fail
        go_ret
        exact ⟨by rw [HE.out]; simp [v0, c0, c1, c2, hM.out], HB2.out⟩
    · have e0 : ((m : Int) == 0) = false := beq_eq_false_iff_ne.2 (by omega)
      have hM := Lib.hid hm0
      clear hm0
      cases c0 : AddrC.cellB f.r1 f.r2 <;> cases c1 : noTB f <;> cases c2 : noOB f
      all_goals
        go_wp2_with fail
        go_ret
        exact ⟨by rw [HE.out]; simp [v0, c0, c1, c2, hM.out], HB2.out⟩

set_option maxRecDepth 100000 in
set_option maxHeartbeats 1000000 in
theorem rfits3 (f : Fld) (A : Option Addr) (m c : Nat) (w : World) (hm : m ≤ 1000000) (ho : f.op.size ≤ 1000000) (hk : f.k = 3) :
    Calls Tryz.prog 42 #[.agg #[.int .i64 f.k, .int .i64 f.vk, .int .i64 f.vn, .string f.vs, .int .i64 f.r1, .int .i64 f.r2, .int .i64 f.r3, .int .i64 f.r4, .string f.op, .slice A m c]] w fun e w' => e = .returned (.bool (fitsB f m)) ∧ Below w.heap.size w w' := by
  have HB1 : Hid (Below w.heap.size w (w.alloc (.cells #[.int .i64 f.k, .int .i64 f.vk, .int .i64 f.vn, .string f.vs, .int .i64 f.r1, .int .i64 f.r2, .int .i64 f.r3, .int .i64 f.r4, .string f.op, .slice A m c] 30))) := Lib.hid ((Below.refl _ _).alloc (Nat.le_refl _) _)
  have L1 : NLoc (w.alloc (.cells #[.int .i64 f.k, .int .i64 f.vk, .int .i64 f.vn, .string f.vs, .int .i64 f.r1, .int .i64 f.r2, .int .i64 f.r3, .int .i64 f.r4, .string f.op, .slice A m c] 30)) w.heap.size f A m c := ⟨heap_alloc_new _ _⟩
  have eV : ∀ W, (binOp .eql 23 (.agg #[.int .i64 f.vk, .int .i64 f.vn, .string f.vs]) (.agg #[.int .i64 0, .int .i64 0, .string { data := #[] }])).run Tryz.prog W = .ok (.bool (noVB f)) W := fun W => ValueC.eqs _ _ _ _ _ _ W
  have eR : ∀ W, (binOp .eql 27 (.agg #[.int .i64 f.r1, .int .i64 f.r2, .int .i64 f.r3, .int .i64 f.r4]) (.agg #[.int .i64 0, .int .i64 0, .int .i64 0, .int .i64 0])).run Tryz.prog W = .ok (.bool (noRB f)) W := fun W => eq_rect _ _ _ _ _ _ _ _ W
  have eO : (f.op.toList == []) = noOB f := rfl
  generalize hD : fitsB f m = D
  have HD := Lib.hid hD.symm
  clear hD
  have HK := Lib.hid hk
  clear hk
  obtain ⟨d0, d1, d2, d3, d4, d5, d6, d7, d8, d9, -⟩ := L1.cells
  have b1 : (f.k == 1) = false := beq_eq_false_iff_ne.2 (by rw [HK.out]; decide)
  have b2 : (f.k == 2) = false := beq_eq_false_iff_ne.2 (by rw [HK.out]; decide)
  have b3 : (f.k == 3) = true := beq_iff_eq.2 HK.out
  have HE : Hid (D = (AddrC.fineB f.r1 f.r2 f.r3 f.r4 && noVB f && noOB f && decide (m = 0))) := Lib.hid (HD.out.trans (by simp [fitsB, HK.out]))
  clear HD
  cases v0 : noVB f
  · have HC := Lib.hid (And.intro True.intro True.intro)
    go_enter Tryz.func42, Tryz.ntmps42
    go_wp2_with fail
    go_ret
    exact ⟨by rw [HE.out]; simp [v0], HB1.out⟩
  · have HC := Lib.hid (And.intro True.intro True.intro)
    go_enter Tryz.func42, Tryz.ntmps42
    go_wp2_with fail
    refine (AddrC.rfine f.r1 f.r2 f.r3 f.r4 _).mono ?_; rintro e w2 ⟨rfl, hb2⟩
    have L2 := L1.kept (Kept.of hb2) (Nat.ne_of_lt L1.lt)
    have HB2 := Lib.hid (HB1.out.trans (hb2.mono HB1.out.size))
    clear d0 d1 d2 d3 d4 d5 d6 d7 d8 d9 hb2 L1
    obtain ⟨d0, d1, d2, d3, d4, d5, d6, d7, d8, d9, -⟩ := L2.cells
    by_cases hm0 : m = 0
    · have e0 : ((m : Int) == 0) = true := beq_iff_eq.2 (by omega)
      have hM := Lib.hid hm0
      clear hm0
      cases c0 : AddrC.fineB f.r1 f.r2 f.r3 f.r4 <;> cases c2 : noOB f
      all_goals
        go_wp2_with fail
        go_ret
        exact ⟨by rw [HE.out]; simp [v0, c0, c2, hM.out], HB2.out⟩
    · have e0 : ((m : Int) == 0) = false := beq_eq_false_iff_ne.2 (by omega)
      have hM := Lib.hid hm0
      clear hm0
      cases c0 : AddrC.fineB f.r1 f.r2 f.r3 f.r4 <;> cases c2 : noOB f
      all_goals
        go_wp2_with fail
        go_ret
        exact ⟨by rw [HE.out]; simp [v0, c0, c2, hM.out], HB2.out⟩

set_option maxRecDepth 100000 in
set_option maxHeartbeats 1000000 in
theorem rfits4 (f : Fld) (A : Option Addr) (m c : Nat) (w : World) (hm : m ≤ 1000000) (ho : f.op.size ≤ 1000000) (hk : f.k = 4) :
    Calls Tryz.prog 42 #[.agg #[.int .i64 f.k, .int .i64 f.vk, .int .i64 f.vn, .string f.vs, .int .i64 f.r1, .int .i64 f.r2, .int .i64 f.r3, .int .i64 f.r4, .string f.op, .slice A m c]] w fun e w' => e = .returned (.bool (fitsB f m)) ∧ Below w.heap.size w w' := by
  have HB1 : Hid (Below w.heap.size w (w.alloc (.cells #[.int .i64 f.k, .int .i64 f.vk, .int .i64 f.vn, .string f.vs, .int .i64 f.r1, .int .i64 f.r2, .int .i64 f.r3, .int .i64 f.r4, .string f.op, .slice A m c] 30))) := Lib.hid ((Below.refl _ _).alloc (Nat.le_refl _) _)
  have L1 : NLoc (w.alloc (.cells #[.int .i64 f.k, .int .i64 f.vk, .int .i64 f.vn, .string f.vs, .int .i64 f.r1, .int .i64 f.r2, .int .i64 f.r3, .int .i64 f.r4, .string f.op, .slice A m c] 30)) w.heap.size f A m c := ⟨heap_alloc_new _ _⟩
  have eV : ∀ W, (binOp .eql 23 (.agg #[.int .i64 f.vk, .int .i64 f.vn, .string f.vs]) (.agg #[.int .i64 0, .int .i64 0, .string { data := #[] }])).run Tryz.prog W = .ok (.bool (noVB f)) W := fun W => ValueC.eqs _ _ _ _ _ _ W
  have eR : ∀ W, (binOp .eql 27 (.agg #[.int .i64 f.r1, .int .i64 f.r2, .int .i64 f.r3, .int .i64 f.r4]) (.agg #[.int .i64 0, .int .i64 0, .int .i64 0, .int .i64 0])).run Tryz.prog W = .ok (.bool (noRB f)) W := fun W => eq_rect _ _ _ _ _ _ _ _ W
  have eO : (f.op.toList == []) = noOB f := rfl
  generalize hD : fitsB f m = D
  have HD := Lib.hid hD.symm
  clear hD
  have HK := Lib.hid hk
  clear hk
  obtain ⟨d0, d1, d2, d3, d4, d5, d6, d7, d8, d9, -⟩ := L1.cells
  have b1 : (f.k == 1) = false := beq_eq_false_iff_ne.2 (by rw [HK.out]; decide)
  have b2 : (f.k == 2) = false := beq_eq_false_iff_ne.2 (by rw [HK.out]; decide)
  have b3 : (f.k == 3) = false := beq_eq_false_iff_ne.2 (by rw [HK.out]; decide)
  have b4 : (f.k == 4) = true := beq_iff_eq.2 HK.out
  have HE : Hid (D = (decide (m = 1) && noVB f && noRB f && noOB f)) := Lib.hid (HD.out.trans (by simp [fitsB, HK.out]))
  clear HD
  cases v1 : noRB f <;> cases v0 : noVB f
  · have HC := Lib.hid (And.intro True.intro True.intro)
    go_enter Tryz.func42, Tryz.ntmps42
    go_wp2_with fail
    go_ret
    exact ⟨by rw [HE.out]; simp [v0, v1], HB1.out⟩
  · have HC := Lib.hid (And.intro True.intro True.intro)
    go_enter Tryz.func42, Tryz.ntmps42
    go_wp2_with fail
    go_ret
    exact ⟨by rw [HE.out]; simp [v0, v1], HB1.out⟩
  · have HC := Lib.hid (And.intro True.intro True.intro)
    go_enter Tryz.func42, Tryz.ntmps42
    go_wp2_with fail
    go_ret
    exact ⟨by rw [HE.out]; simp [v0, v1], HB1.out⟩
  · have HC := Lib.hid (And.intro True.intro True.intro)
    have HK2 := HK
    by_cases hm0 : m = 1
    · have e0 : ((m : Int) == 1) = true := beq_iff_eq.2 (by omega)
      have hM := Lib.hid hm0
      clear hm0
      cases c2 : noOB f
      all_goals
        go_enter Tryz.func42, Tryz.ntmps42
        go_wp2_with fail
        go_ret
        exact ⟨by rw [HE.out]; simp [v0, v1, c2, hM.out], HB1.out⟩
    · have e0 : ((m : Int) == 1) = false := beq_eq_false_iff_ne.2 (by omega)
      have hM := Lib.hid hm0
      clear hm0
      cases c2 : noOB f
      all_goals
        go_enter Tryz.func42, Tryz.ntmps42
        go_wp2_with fail
        go_ret
        exact ⟨by rw [HE.out]; simp [v0, v1, c2, hM.out], HB1.out⟩

set_option maxRecDepth 100000 in
set_option maxHeartbeats 1000000 in
theorem rfits5 (f : Fld) (A : Option Addr) (m c : Nat) (w : World) (hm : m ≤ 1000000) (ho : f.op.size ≤ 1000000) (hk : f.k = 5) :
    Calls Tryz.prog 42 #[.agg #[.int .i64 f.k, .int .i64 f.vk, .int .i64 f.vn, .string f.vs, .int .i64 f.r1, .int .i64 f.r2, .int .i64 f.r3, .int .i64 f.r4, .string f.op, .slice A m c]] w fun e w' => e = .returned (.bool (fitsB f m)) ∧ Below w.heap.size w w' := by
  have HB1 : Hid (Below w.heap.size w (w.alloc (.cells #[.int .i64 f.k, .int .i64 f.vk, .int .i64 f.vn, .string f.vs, .int .i64 f.r1, .int .i64 f.r2, .int .i64 f.r3, .int .i64 f.r4, .string f.op, .slice A m c] 30))) := Lib.hid ((Below.refl _ _).alloc (Nat.le_refl _) _)
  have L1 : NLoc (w.alloc (.cells #[.int .i64 f.k, .int .i64 f.vk, .int .i64 f.vn, .string f.vs, .int .i64 f.r1, .int .i64 f.r2, .int .i64 f.r3, .int .i64 f.r4, .string f.op, .slice A m c] 30)) w.heap.size f A m c := ⟨heap_alloc_new _ _⟩
  have eV : ∀ W, (binOp .eql 23 (.agg #[.int .i64 f.vk, .int .i64 f.vn, .string f.vs]) (.agg #[.int .i64 0, .int .i64 0, .string { data := #[] }])).run Tryz.prog W = .ok (.bool (noVB f)) W := fun W => ValueC.eqs _ _ _ _ _ _ W
  have eR : ∀ W, (binOp .eql 27 (.agg #[.int .i64 f.r1, .int .i64 f.r2, .int .i64 f.r3, .int .i64 f.r4]) (.agg #[.int .i64 0, .int .i64 0, .int .i64 0, .int .i64 0])).run Tryz.prog W = .ok (.bool (noRB f)) W := fun W => eq_rect _ _ _ _ _ _ _ _ W
  have eO : (f.op.toList == []) = noOB f := rfl
  generalize hD : fitsB f m = D
  have HD := Lib.hid hD.symm
  clear hD
  have HK := Lib.hid hk
  clear hk
  obtain ⟨d0, d1, d2, d3, d4, d5, d6, d7, d8, d9, -⟩ := L1.cells
  have b1 : (f.k == 1) = false := beq_eq_false_iff_ne.2 (by rw [HK.out]; decide)
  have b2 : (f.k == 2) = false := beq_eq_false_iff_ne.2 (by rw [HK.out]; decide)
  have b3 : (f.k == 3) = false := beq_eq_false_iff_ne.2 (by rw [HK.out]; decide)
  have b4 : (f.k == 4) = false := beq_eq_false_iff_ne.2 (by rw [HK.out]; decide)
  have b5 : (f.k == 5) = true := beq_iff_eq.2 HK.out
  have HE : Hid (D = (binB f.op && decide (m = 2) && noVB f && noRB f)) := Lib.hid (HD.out.trans (by simp [fitsB, HK.out]))
  clear HD
  cases v1 : noRB f <;> cases v0 : noVB f
  · have HC := Lib.hid (And.intro True.intro True.intro)
    go_enter Tryz.func42, Tryz.ntmps42
    go_wp2_with fail
    go_ret
    exact ⟨by rw [HE.out]; simp [v0, v1], HB1.out⟩
  · have HC := Lib.hid (And.intro True.intro True.intro)
    go_enter Tryz.func42, Tryz.ntmps42
    go_wp2_with fail
    go_ret
    exact ⟨by rw [HE.out]; simp [v0, v1], HB1.out⟩
  · have HC := Lib.hid (And.intro True.intro True.intro)
    go_enter Tryz.func42, Tryz.ntmps42
    go_wp2_with fail
    go_ret
    exact ⟨by rw [HE.out]; simp [v0, v1], HB1.out⟩
  · have HC := Lib.hid (And.intro True.intro True.intro)
    go_enter Tryz.func42, Tryz.ntmps42
    go_wp2_with fail
    refine (rsignOp f.op _).mono ?_; rintro e w2 ⟨rfl, hb2⟩
    have L2 := L1.kept (Kept.of hb2) (Nat.ne_of_lt L1.lt)
    have HB2 := Lib.hid (HB1.out.trans (hb2.mono HB1.out.size))
    clear d0 d1 d2 d3 d4 d5 d6 d7 d8 d9 hb2 L1
    obtain ⟨d0, d1, d2, d3, d4, d5, d6, d7, d8, d9, -⟩ := L2.cells
    by_cases hm0 : m = 2
    · have e0 : ((m : Int) == 2) = true := beq_iff_eq.2 (by omega)
      have hM := Lib.hid hm0
      clear hm0
      cases c0 : binB f.op
      all_goals
        go_wp2_with fail
        go_ret
        exact ⟨by rw [HE.out]; simp [v0, v1, c0, hM.out], HB2.out⟩
    · have e0 : ((m : Int) == 2) = false := beq_eq_false_iff_ne.2 (by omega)
      have hM := Lib.hid hm0
      clear hm0
      cases c0 : binB f.op
      all_goals
        go_wp2_with fail
        go_ret
        exact ⟨by rw [HE.out]; simp [v0, v1, c0, hM.out], HB2.out⟩

theorem rword6 (s : ByteArray) (w : World) (hs : s.size ≤ 1000000) : Calls Tryz.prog 66 #[.string s] w fun e w' => e = .returned (.bool (fnB s)) ∧ Below w.heap.size w w' :=
  (rword s w hs).mono fun e w' ⟨h1, h2⟩ => ⟨by rw [h1, fn_word], by rw [h2]; exact Below.refl _ _⟩
set_option maxRecDepth 100000 in
set_option maxHeartbeats 1000000 in
theorem rfits6 (f : Fld) (A : Option Addr) (m c : Nat) (w : World) (hm : m ≤ 1000000) (ho : f.op.size ≤ 1000000) (hk : f.k = 6) :
    Calls Tryz.prog 42 #[.agg #[.int .i64 f.k, .int .i64 f.vk, .int .i64 f.vn, .string f.vs, .int .i64 f.r1, .int .i64 f.r2, .int .i64 f.r3, .int .i64 f.r4, .string f.op, .slice A m c]] w fun e w' => e = .returned (.bool (fitsB f m)) ∧ Below w.heap.size w w' := by
  have HB1 : Hid (Below w.heap.size w (w.alloc (.cells #[.int .i64 f.k, .int .i64 f.vk, .int .i64 f.vn, .string f.vs, .int .i64 f.r1, .int .i64 f.r2, .int .i64 f.r3, .int .i64 f.r4, .string f.op, .slice A m c] 30))) := Lib.hid ((Below.refl _ _).alloc (Nat.le_refl _) _)
  have L1 : NLoc (w.alloc (.cells #[.int .i64 f.k, .int .i64 f.vk, .int .i64 f.vn, .string f.vs, .int .i64 f.r1, .int .i64 f.r2, .int .i64 f.r3, .int .i64 f.r4, .string f.op, .slice A m c] 30)) w.heap.size f A m c := ⟨heap_alloc_new _ _⟩
  have eV : ∀ W, (binOp .eql 23 (.agg #[.int .i64 f.vk, .int .i64 f.vn, .string f.vs]) (.agg #[.int .i64 0, .int .i64 0, .string { data := #[] }])).run Tryz.prog W = .ok (.bool (noVB f)) W := fun W => ValueC.eqs _ _ _ _ _ _ W
  have eR : ∀ W, (binOp .eql 27 (.agg #[.int .i64 f.r1, .int .i64 f.r2, .int .i64 f.r3, .int .i64 f.r4]) (.agg #[.int .i64 0, .int .i64 0, .int .i64 0, .int .i64 0])).run Tryz.prog W = .ok (.bool (noRB f)) W := fun W => eq_rect _ _ _ _ _ _ _ _ W
  have eO : (f.op.toList == []) = noOB f := rfl
  generalize hD : fitsB f m = D
  have HD := Lib.hid hD.symm
  clear hD
  have HK := Lib.hid hk
  clear hk
  obtain ⟨d0, d1, d2, d3, d4, d5, d6, d7, d8, d9, -⟩ := L1.cells
  have b1 : (f.k == 1) = false := beq_eq_false_iff_ne.2 (by rw [HK.out]; decide)
  have b2 : (f.k == 2) = false := beq_eq_false_iff_ne.2 (by rw [HK.out]; decide)
  have b3 : (f.k == 3) = false := beq_eq_false_iff_ne.2 (by rw [HK.out]; decide)
  have b4 : (f.k == 4) = false := beq_eq_false_iff_ne.2 (by rw [HK.out]; decide)
  have b5 : (f.k == 5) = false := beq_eq_false_iff_ne.2 (by rw [HK.out]; decide)
  have b6 : (f.k == 6) = true := beq_iff_eq.2 HK.out
  have HE : Hid (D = (fnB f.op && decide (m ≤ 10) && noVB f && noRB f)) := Lib.hid (HD.out.trans (by simp [fitsB, HK.out]))
  clear HD
  cases v1 : noRB f <;> cases v0 : noVB f
  · have HC := Lib.hid (And.intro True.intro True.intro)
    go_enter Tryz.func42, Tryz.ntmps42
    go_wp2_with fail
    go_ret
    exact ⟨by rw [HE.out]; simp [v0, v1], HB1.out⟩
  · have HC := Lib.hid (And.intro True.intro True.intro)
    go_enter Tryz.func42, Tryz.ntmps42
    go_wp2_with fail
    go_ret
    exact ⟨by rw [HE.out]; simp [v0, v1], HB1.out⟩
  · have HC := Lib.hid (And.intro True.intro True.intro)
    go_enter Tryz.func42, Tryz.ntmps42
    go_wp2_with fail
    go_ret
    exact ⟨by rw [HE.out]; simp [v0, v1], HB1.out⟩
  · have HC := Lib.hid (And.intro True.intro True.intro)
    go_enter Tryz.func42, Tryz.ntmps42
    go_wp2_with fail
    refine (rword6 f.op _ ho).mono ?_; rintro e w2 ⟨rfl, hb2⟩
    have L2 := L1.kept (Kept.of hb2) (Nat.ne_of_lt L1.lt)
    have HB2 := Lib.hid (HB1.out.trans (hb2.mono HB1.out.size))
    clear d0 d1 d2 d3 d4 d5 d6 d7 d8 d9 hb2 L1
    obtain ⟨d0, d1, d2, d3, d4, d5, d6, d7, d8, d9, -⟩ := L2.cells
    by_cases hm0 : m ≤ 10
    · have e0 : decide ((m : Int) ≤ 10) = true := decide_eq_true (by omega)
      have hM := Lib.hid hm0
      clear hm0
      cases c0 : fnB f.op
      all_goals
        go_wp2_with fail
        go_ret
        exact ⟨by rw [HE.out]; simp [v0, v1, c0, hM.out], HB2.out⟩
    · have e0 : decide ((m : Int) ≤ 10) = false := decide_eq_false (by omega)
      have hM := Lib.hid hm0
      clear hm0
      cases c0 : fnB f.op
      all_goals
        go_wp2_with fail
        go_ret
        exact ⟨by rw [HE.out]; simp [v0, v1, c0, hM.out], HB2.out⟩

set_option maxRecDepth 100000 in
set_option maxHeartbeats 1000000 in
theorem rfits0 (f : Fld) (A : Option Addr) (m c : Nat) (w : World) (hm : m ≤ 1000000) (ho : f.op.size ≤ 1000000) (hk : f.k ≠ 1 ∧ f.k ≠ 2 ∧ f.k ≠ 3 ∧ f.k ≠ 4 ∧ f.k ≠ 5 ∧ f.k ≠ 6) :
    Calls Tryz.prog 42 #[.agg #[.int .i64 f.k, .int .i64 f.vk, .int .i64 f.vn, .string f.vs, .int .i64 f.r1, .int .i64 f.r2, .int .i64 f.r3, .int .i64 f.r4, .string f.op, .slice A m c]] w fun e w' => e = .returned (.bool (fitsB f m)) ∧ Below w.heap.size w w' := by
  have HB1 : Hid (Below w.heap.size w (w.alloc (.cells #[.int .i64 f.k, .int .i64 f.vk, .int .i64 f.vn, .string f.vs, .int .i64 f.r1, .int .i64 f.r2, .int .i64 f.r3, .int .i64 f.r4, .string f.op, .slice A m c] 30))) := Lib.hid ((Below.refl _ _).alloc (Nat.le_refl _) _)
  have L1 : NLoc (w.alloc (.cells #[.int .i64 f.k, .int .i64 f.vk, .int .i64 f.vn, .string f.vs, .int .i64 f.r1, .int .i64 f.r2, .int .i64 f.r3, .int .i64 f.r4, .string f.op, .slice A m c] 30)) w.heap.size f A m c := ⟨heap_alloc_new _ _⟩
  have eV : ∀ W, (binOp .eql 23 (.agg #[.int .i64 f.vk, .int .i64 f.vn, .string f.vs]) (.agg #[.int .i64 0, .int .i64 0, .string { data := #[] }])).run Tryz.prog W = .ok (.bool (noVB f)) W := fun W => ValueC.eqs _ _ _ _ _ _ W
  have eR : ∀ W, (binOp .eql 27 (.agg #[.int .i64 f.r1, .int .i64 f.r2, .int .i64 f.r3, .int .i64 f.r4]) (.agg #[.int .i64 0, .int .i64 0, .int .i64 0, .int .i64 0])).run Tryz.prog W = .ok (.bool (noRB f)) W := fun W => eq_rect _ _ _ _ _ _ _ _ W
  have eO : (f.op.toList == []) = noOB f := rfl
  generalize hD : fitsB f m = D
  have HD := Lib.hid hD.symm
  clear hD
  have HK := Lib.hid hk
  clear hk
  obtain ⟨d0, d1, d2, d3, d4, d5, d6, d7, d8, d9, -⟩ := L1.cells
  have b1 : (f.k == 1) = false := beq_eq_false_iff_ne.2 HK.out.1
  have b2 : (f.k == 2) = false := beq_eq_false_iff_ne.2 HK.out.2.1
  have b3 : (f.k == 3) = false := beq_eq_false_iff_ne.2 HK.out.2.2.1
  have b4 : (f.k == 4) = false := beq_eq_false_iff_ne.2 HK.out.2.2.2.1
  have b5 : (f.k == 5) = false := beq_eq_false_iff_ne.2 HK.out.2.2.2.2.1
  have b6 : (f.k == 6) = false := beq_eq_false_iff_ne.2 HK.out.2.2.2.2.2
  have HE : Hid (D = false) := Lib.hid (HD.out.trans (by simp [fitsB, HK.out.1, HK.out.2.1, HK.out.2.2.1, HK.out.2.2.2.1, HK.out.2.2.2.2.1, HK.out.2.2.2.2.2]))
  clear HD
  go_enter Tryz.func42, Tryz.ntmps42
  go_wp2_with fail
  go_ret
  exact ⟨by rw [HE.out]; rfl, HB1.out⟩

theorem rfits (f : Fld) (A : Option Addr) (m c : Nat) (w : World) (hm : m ≤ 1000000) (ho : f.op.size ≤ 1000000) :
    Calls Tryz.prog 42 #[.agg #[.int .i64 f.k, .int .i64 f.vk, .int .i64 f.vn, .string f.vs, .int .i64 f.r1, .int .i64 f.r2, .int .i64 f.r3, .int .i64 f.r4, .string f.op, .slice A m c]] w fun e w' => e = .returned (.bool (fitsB f m)) ∧ Below w.heap.size w w' := by
  by_cases h1 : f.k = 1
  · exact rfits1 f A m c w hm ho h1
  by_cases h2 : f.k = 2
  · exact rfits2 f A m c w hm ho h2
  by_cases h3 : f.k = 3
  · exact rfits3 f A m c w hm ho h3
  by_cases h4 : f.k = 4
  · exact rfits4 f A m c w hm ho h4
  by_cases h5 : f.k = 5
  · exact rfits5 f A m c w hm ho h5
  by_cases h6 : f.k = 6
  · exact rfits6 f A m c w hm ho h6
  exact rfits0 f A m c w hm ho ⟨h1, h2, h3, h4, h5, h6⟩

end Go.Proofs.YtbgjdfghcnblcaaGreatDoor.TreeC

/-
  Contract of the reference's Good.
-/
namespace Go.Proofs.YtbgjdfghcnblcaaGreatDoor.TreeC
set_option linter.unusedVariables false
open Go.RowKit Go.Proofs.YtbgjdfghcnblcaaGreatDoor.NumC Go.Proofs.YtbgjdfghcnblcaaGreatDoor.LexC

theorem Fo.all_app (p : Fld → Nat → Bool) (x y : Fo) : (x.app y).all p = (x.all p && y.all p) := by
  induction x with
  | nil => simp [Fo.app, Fo.all]
  | cons f k n _ ih => simp only [Fo.app, Fo.all, ih, Bool.and_assoc]
theorem Fo.all_step (p : Fld → Nat → Bool) (q : Fo) (k : Nat) (h : k < q.len) : (q.drop k).all p = (p (q.nth k).f (q.nth k).kids.len && ((q.app (q.nth k).kids).drop (k + 1)).all p) := by
  rw [Fo.queue q k h, Fo.all_app, Fo.all_drop p q k h]
  unfold Nd.all
  cases (q.nth k).kids.all p <;> cases p (q.nth k).f (q.nth k).kids.len <;> cases (q.drop (k + 1)).all p <;> rfl
theorem Fo.short_node (q : Fo) (k : Nat) (h : k < q.len) (hs : (q.drop k).Short) : (q.nth k).f.op.size ≤ 1000000 ∧ ((q.app (q.nth k).kids).drop (k + 1)).Short := by
  rw [Fo.drop_nth q k h] at hs
  refine ⟨Nat.le_trans hs.1.2 (by decide), ?_⟩
  rw [Fo.queue q k h, Fo.short_app]
  exact ⟨hs.2.2, hs.2.1⟩
/-- Where the queue stands. -/
def GdIn (a : Nd) (w wr : World) (k : Nat) (v : Value) : Prop := ∃ q : Fo, k ≤ q.len ∧ QS wr w.heap.size v q ∧ Below w.heap.size w wr ∧ k + (q.drop k).size = a.size ∧ (q.drop k).Short ∧ (q.drop k).all fitsB = a.all fitsB
set_option maxRecDepth 100000 in
set_option maxHeartbeats 2000000 in
theorem rGood (a : Nd) (A : Option Addr) (c : Nat) (w : World) (hs : a.size ≤ 2000) (hsh : a.one.Short) (hK : KidsAt w (fun g => g < w.heap.size) a.kids A) : Calls Tryz.prog 22 #[.agg #[.int .i64 a.f.k, .int .i64 a.f.vk, .int .i64 a.f.vn, .string a.f.vs, .int .i64 a.f.r1, .int .i64 a.f.r2, .int .i64 a.f.r3, .int .i64 a.f.r4, .string a.f.op, .slice A a.kids.len c]] w fun e w' => e = .returned (.bool (goodT fitsB a)) ∧ Below w.heap.size w w' := by
  have b1 : Below w.heap.size w (w.alloc (.cells #[.int .i64 a.f.k, .int .i64 a.f.vk, .int .i64 a.f.vn, .string a.f.vs, .int .i64 a.f.r1, .int .i64 a.f.r2, .int .i64 a.f.r3, .int .i64 a.f.r4, .string a.f.op, .slice A a.kids.len c] 30)) := (Below.refl _ _).alloc (Nat.le_refl _) _
  have L1 : NLoc (w.alloc (.cells #[.int .i64 a.f.k, .int .i64 a.f.vk, .int .i64 a.f.vn, .string a.f.vs, .int .i64 a.f.r1, .int .i64 a.f.r2, .int .i64 a.f.r3, .int .i64 a.f.r4, .string a.f.op, .slice A a.kids.len c] 30)) w.heap.size a.f A a.kids.len c := ⟨heap_alloc_new _ _⟩
  have HK1 := Lib.hid (below_row hK b1)
  have HK := Lib.hid hK
  have HSH := Lib.hid hsh
  have HS := Lib.hid hs
  have hdd : a.deep ≤ a.size := by have := Fo.deep_size a.kids; unfold Nd.deep Nd.size; omega
  have hd1 : 1 ≤ a.deep := by unfold Nd.deep; omega
  generalize hG : goodT fitsB a = G
  have HG : Hid (G = (decide (a.deep ≤ 16) && a.all fitsB)) := Lib.hid (by rw [← hG]; unfold goodT; rw [decide_eq_true hs, Bool.true_and])
  clear hK hsh hG
  obtain ⟨d0, d1, d2, d3, d4, d5, d6, d7, d8, d9, -⟩ := L1.cells
  go_enter Tryz.func22, Tryz.ntmps22
  go_wp2_with fail
  generalize (w.alloc (.cells #[.int .i64 a.f.k, .int .i64 a.f.vk, .int .i64 a.f.vn, .string a.f.vs, .int .i64 a.f.r1, .int .i64 a.f.r2, .int .i64 a.f.r3, .int .i64 a.f.r4, .string a.f.op, .slice A a.kids.len c] 30)) = W1 at *
  refine (rDepth a A c W1 HK1.out).mono ?_; rintro e w2 ⟨rfl, hb2⟩
  rw [if_pos HS.out]
  have B2 : Below w.heap.size w w2 := b1.trans (hb2.mono b1.size)
  have L2 := L1.kept (Kept.of (x := W1.heap.size) hb2) (Nat.ne_of_lt L1.lt)
  clear L1 b1 HK1 d0 d1 d2 d3 d4 d5 d6 d7 d8 d9
  have t0 : ¬ ((a.deep : Int) < 1) := by omega
  obtain ⟨d0, d1, d2, d3, d4, d5, d6, d7, d8, d9, -⟩ := L2.cells
  have HB2 := Lib.hid B2
  by_cases h16 : a.deep ≤ 16
  · have t1 : ¬ (16 : Int) < (a.deep : Int) := by omega
    have HG2 : Hid (G = a.all fitsB) := Lib.hid (by rw [HG.out, decide_eq_true h16, Bool.true_and])
    have b3 : Below w.heap.size w (w2.alloc (.cells #[.int .i64 a.f.k, .int .i64 a.f.vk, .int .i64 a.f.vn, .string a.f.vs, .int .i64 a.f.r1, .int .i64 a.f.r2, .int .i64 a.f.r3, .int .i64 a.f.r4, .string a.f.op, .slice A a.kids.len c] 30)) := B2.alloc B2.size _
    have HQ : Hid (GdIn a w (w2.alloc (.cells #[.int .i64 a.f.k, .int .i64 a.f.vk, .int .i64 a.f.vn, .string a.f.vs, .int .i64 a.f.r1, .int .i64 a.f.r2, .int .i64 a.f.r3, .int .i64 a.f.r4, .string a.f.op, .slice A a.kids.len c] 30)) 0 (.slice (some ⟨w2.heap.size, 0, none⟩) 1 1)) := Lib.hid ⟨a.one, Nat.zero_le _, QS.one (f := a.f) (kd := a.kids) (c := c) (heap_alloc_new _ _) B2.size rfl (kids_below HK.out b3 (Nat.le_refl _)), b3, by rw [Nat.zero_add, Fo.drop_zero, Nd.one_size], by rw [Fo.drop_zero]; exact HSH.out, by rw [Fo.drop_zero]; simp [Nd.one, Fo.all, Nd.all]⟩
    clear hb2 B2 b3 L2 HG hdd hd1 h16
    go_wp2_with fail
    go_loopw [4, 5] (fun v iv wr => ∃ k : Nat, k ≤ 2000 ∧ iv = .int .i64 k ∧ Hid (GdIn a w wr k v)) (fun _ iv _ => 2000 - (intOf iv).toNat)
    case atStart => exact ⟨0, by omega, rfl, HQ⟩
    case round =>
      clear HQ HB2 d0 d1 d2 d3 d4 d5 d6 d7 d8 d9
      obtain ⟨k, hk, rfl, HR⟩ := hrel
      obtain ⟨q, hkq, hQ, hB, hsz, hsr, hal⟩ := HR.out
      clear HR
      have hql : q.len ≤ 2000 := by
        have h1 := Fo.len_size (q.drop k)
        rw [Fo.len_drop] at h1
        omega
      by_cases hlt : k < q.len
      · obtain ⟨g, c9, A2, c2, rfl, hg0, hg1, hkid, f0, f1, f2, f3, f4, f5, f6, f7, f8, f9⟩ := hQ.nth k hlt
        have hd1 : (k : Int) < (q.len : Int) := by omega
        obtain ⟨hop, hsn⟩ := Fo.short_node q k hlt hsr
        have hnl : q.len + (q.nth k).kids.len ≤ 1000000 := by
          have h1 := Fo.size_drop q k hlt
          have h2 := Fo.len_size (q.nth k).kids
          omega
        have HST := Lib.hid (show k + (q.drop k).size = a.size from hsz)
        have HSN := Lib.hid hsn
        have HAL : Hid (a.all fitsB = (fitsB (q.nth k).f (q.nth k).kids.len && ((q.app (q.nth k).kids).drop (k + 1)).all fitsB)) := Lib.hid (by rw [← hal, Fo.all_step fitsB q k hlt])
        have HQ := Lib.hid hQ
        have HB := Lib.hid hB
        clear hsz hsr hal hsn hQ hkid hB
        go_wp2_with fail
        refine (rfits (q.nth k).f A2 (q.nth k).kids.len c2 _ (by omega) hop).mono ?_; rintro e w4 ⟨rfl, hb4⟩
        clear f0 f1 f2 f3 f4 f5 f6 f7 f8 f9
        have hQ4 := HQ.out.below hb4
        have hB4 := HB.out.trans (hb4.mono HB.out.size)
        clear hb4 HQ HB
        obtain ⟨g4, c4, A4, e4, he, hg4, hg5, hkid, f0, f1, f2, f3, f4, f5, f6, f7, f8, f9⟩ := hQ4.nth k hlt
        injection he with he1 he2 he3
        injection he1 with he1
        injection he1 with he1
        subst he1 he3
        clear he2
        have HN := Lib.hid hQ4
        have HKD := Lib.hid hkid
        have hBs := hB4.size
        have HB4 := Lib.hid hB4
        clear hQ4 hkid hB4
        cases hf : fitsB (q.nth k).f (q.nth k).kids.len
        · have HE : Hid (G = false) := Lib.hid (by rw [HG2.out, HAL.out, hf, Bool.false_and])
          go_wp2_with fail
          go_ret
          exact ⟨ret1 HE.out.symm, HB4.out⟩
        · have HA2 : Hid (((q.app (q.nth k).kids).drop (k + 1)).all fitsB = a.all fitsB) := Lib.hid (by rw [HAL.out, hf, Bool.true_and])
          go_wp2_with (at_builtin
                       refine wpList_append_queue _ rfl (.tmp 28) (.tmp 33) rfl (B := w.heap.size) (c := e4) (fo := q) (kd := (q.nth k).kids) (A := A4) rfl rfl HN.out HKD.out hnl hBs ?_
                       intro v9 w9 hq9 hg9 hat9
                       have HD9 : Hid (GdIn a w w9 (k + 1) v9) := Lib.hid ⟨_, by rw [Fo.len_app]; omega, hq9, below_grown HB4.out hBs hg9 (fun k hk => (HN.out.lt k hk).1), Fo.queue_size q k a.size hlt HST.out, HSN.out, HA2.out⟩
                       clear hq9 hg9 hat9)
          go_roundw
          case rel => exact ⟨k + 1, by omega, by go_num, HD9⟩
          case measure => simp [intOf]; omega
      · have hd1 : ¬ (k : Int) < (q.len : Int) := by omega
        obtain ⟨NA, nc, rfl⟩ := hQ.form
        have HB := Lib.hid hB
        have HE : Hid (G = true) := Lib.hid (by rw [HG2.out, ← hal, Fo.drop_len q k (by omega)]; rfl)
        clear hQ hB hsz hsr hal
        go_wp2_with fail
        go_ret
        exact ⟨ret1 HE.out.symm, HB.out⟩
  · have t1 : (16 : Int) < (a.deep : Int) := by omega
    have HE : Hid (G = false) := Lib.hid (by rw [HG.out, decide_eq_false h16, Bool.false_and])
    clear hb2 B2 L2
    go_wp2_with fail
    go_ret
    exact ⟨ret1 HE.out.symm, HB2.out⟩

end Go.Proofs.YtbgjdfghcnblcaaGreatDoor.TreeC
